"""The calls: each gives back one list, the answer and what is told with it, or a refusal alone."""

from ringfive.reckon import (
    ZERO, form_of, is_ring, left_over, mirror_of, norm_of, product, quotient, turns_to_form, unit_of,
)

NO_SENSE = -1


def told(answer, numbers):
    parts = [answer]
    for x in numbers:
        parts.extend(x)
    return parts


def times(r, x_a, x_b, y_a, y_b):
    if not is_ring(r):
        return [NO_SENSE]
    return told(0, [product(r, (x_a, x_b), (y_a, y_b))])


def mirror(r, x_a, x_b):
    if not is_ring(r):
        return [NO_SENSE]
    return told(0, [mirror_of(r, (x_a, x_b))])


def norm(r, x_a, x_b):
    if not is_ring(r):
        return [NO_SENSE]
    return [0, norm_of(r, (x_a, x_b))]


def unit(r, k):
    if not is_ring(r):
        return [NO_SENSE]
    return told(0, [unit_of(r, k)])


def form(r, x_a, x_b):
    if not is_ring(r):
        return [NO_SENSE]
    x = (x_a, x_b)
    return told(0, [form_of(r, x)]) + [turns_to_form(r, x)]


def by(r, x_a, x_b, y_a, y_b):
    x = (x_a, x_b)
    y = (y_a, y_b)
    if not is_ring(r) or y == ZERO:
        return [NO_SENSE]
    q = quotient(r, x, y)
    return told(0, [q, left_over(r, x, q, y)])
