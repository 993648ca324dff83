"""The calls: each gives back one list, 0 and what is told with it, or a refusal alone."""

from ringfive.reckon import is_ring, mirror_of, norm_of, product

NO_SENSE = -1


def times(r, x_a, x_b, y_a, y_b):
    if not is_ring(r):
        return [NO_SENSE]
    return [0] + list(product(r, (x_a, x_b), (y_a, y_b)))


def mirror(r, x_a, x_b):
    if not is_ring(r):
        return [NO_SENSE]
    return [0] + list(mirror_of(r, (x_a, x_b)))


def norm(r, x_a, x_b):
    if not is_ring(r):
        return [NO_SENSE]
    return [0, norm_of(r, (x_a, x_b))]
