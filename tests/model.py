"""A second way to reckon, from what w is: (p + q s) / 2 with s the root of -D.

It shares no formula with the program: sums and products are those of p, q and D.
"""

ROOT_OF_MINUS = (1, 2, 3, 7, 11)
HALVED = (False, False, True, True, True)
RINGS = (0, 1, 2, 3, 4)
NO_RINGS = (-1, 5, -2, 6, -5, 100, -(2 ** 32), 2 ** 32, -(10 ** 18), 10 ** 18)
END = 10 ** 18
# Of each ring all units, told one by one.
UNITS = (
    ((1, 0), (0, 1), (-1, 0), (0, -1)),
    ((1, 0), (-1, 0)),
    ((1, 0), (0, 1), (-1, 1), (-1, 0), (0, -1), (1, -1)),
    ((1, 0), (-1, 0)),
    ((1, 0), (-1, 0)),
)


def halves(r, x):
    if HALVED[r]:
        return 2 * x[0] + x[1], x[1]
    return 2 * x[0], 2 * x[1]


def exactly(number, divisor):
    quotient, rest = divmod(number, divisor)
    if rest:
        raise ValueError(f"{divisor} does not divide {number}")
    return quotient


def parts(r, p, q):
    if HALVED[r]:
        return exactly(p - q, 2), q
    return exactly(p, 2), exactly(q, 2)


def times(r, x, y):
    p, q = halves(r, x)
    e, f = halves(r, y)
    return parts(r, exactly(p * e - ROOT_OF_MINUS[r] * q * f, 2), exactly(p * f + q * e, 2))


def mirror(r, x):
    p, q = halves(r, x)
    return parts(r, p, -q)


def norm(r, x):
    p, q = halves(r, x)
    return exactly(p * p + ROOT_OF_MINUS[r] * q * q, 4)


def pairs(values):
    return [(a, b) for a in values for b in values]


SMALL = pairs(range(-4, 5))
ORDINARY = [(12, 5), (-12, 5), (7, -31), (-8, -9), (0, 17), (-23, 0), (123456789, -987654321), (-40, 1)]
EDGES = pairs((-END, -END + 1, -1, 0, 1, END - 1, END))
ALL = SMALL + ORDINARY + EDGES
