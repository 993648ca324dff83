"""Reckoning in the five rings: a number a + b w is the tuple (a, b)."""

# w * w = t * w - c, for each ring r at the place r.
T_OF_RING = (0, 0, 1, 1, 1)
C_OF_RING = (1, 2, 1, 2, 3)
# The units are the powers of g; how many there are.
G_OF_RING = ((0, 1), (-1, 0), (0, 1), (-1, 0), (-1, 0))
UNITS_OF_RING = (4, 2, 6, 2, 2)
ZERO = (0, 0)
ONE = (1, 0)


def is_ring(r):
    return 0 <= r < len(T_OF_RING)


def product(r, x, y):
    w_squares = x[1] * y[1]
    a = x[0] * y[0] - C_OF_RING[r] * w_squares
    b = x[0] * y[1] + x[1] * y[0] + T_OF_RING[r] * w_squares
    return (a, b)


def mirror_of(r, x):
    return (x[0] + T_OF_RING[r] * x[1], -x[1])


def norm_of(r, x):
    return x[0] * x[0] + T_OF_RING[r] * x[0] * x[1] + C_OF_RING[r] * x[1] * x[1]


def minus(x, y):
    return (x[0] - y[0], x[1] - y[1])


def turned(r, x):
    # x times g^k stands at the place k.
    turns = [x]
    while len(turns) < UNITS_OF_RING[r]:
        turns.append(product(r, turns[-1], G_OF_RING[r]))
    return turns


def unit_of(r, k):
    return turned(r, ONE)[k % UNITS_OF_RING[r]]


def form_of(r, x):
    # Python compares tuples as the order does: by a, then by b.
    return max(turned(r, x))


def turns_to_form(r, x):
    return turned(r, x).index(form_of(r, x))


def left_over(r, x, q, y):
    return minus(x, product(r, q, y))


def nearest_in_row(r, top, n, b):
    # In the row of b the norm is least at one point, which need not be whole: low_a is its whole part.
    low_a = (2 * top[0] + T_OF_RING[r] * (top[1] - b * n)) // (2 * n)
    return [(low_a, b), (low_a + 1, b)]


def quotient(r, x, y):
    # x / y is top / n. In all five rings the nearest numbers to a point lie in rows less than 1 away
    # from its b, so the two rows around it hold them all.
    top = product(r, x, mirror_of(r, y))
    n = norm_of(r, y)
    low_b = top[1] // n
    near = nearest_in_row(r, top, n, low_b) + nearest_in_row(r, top, n, low_b + 1)
    return min(near, key=lambda q: (norm_of(r, left_over(r, x, q, y)), q))
