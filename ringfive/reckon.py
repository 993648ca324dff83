"""Reckoning in the five rings: a number a + b w is the tuple (a, b)."""

# w * w = t * w - c, for each ring r at the place r.
T_OF_RING = (0, 0, 1, 1, 1)
C_OF_RING = (1, 2, 1, 2, 3)


def is_ring(r):
    return 0 <= r < len(T_OF_RING)


def product(r, x, y):
    w_squares = x[1] * y[1]
    a = x[0] * y[0] - C_OF_RING[r] * w_squares
    b = x[0] * y[1] + x[1] * y[0] + T_OF_RING[r] * w_squares
    return (a, b)


def mirror_of(r, x):
    return (x[0] + T_OF_RING[r] * x[1], -x[1])


def norm_of(r, x):
    return x[0] * x[0] + T_OF_RING[r] * x[0] * x[1] + C_OF_RING[r] * x[1] * x[1]
