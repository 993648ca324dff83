"""A second way to reckon, from what w is: (p + q s) / 2 with s the root of -D.

It shares no formula with the program: sums and products are those of p, q and D.
"""

ROOT_OF_MINUS = (1, 2, 3, 7, 11)
HALVED = (False, False, True, True, True)
RINGS = (0, 1, 2, 3, 4)
NO_RINGS = (-1, 5, -2, 6, -5, 100, -(2 ** 32), 2 ** 32, -(10 ** 18), 10 ** 18)
END = 10 ** 18
# Of each ring all units, told one by one.
UNITS = (
    ((1, 0), (0, 1), (-1, 0), (0, -1)),
    ((1, 0), (-1, 0)),
    ((1, 0), (0, 1), (-1, 1), (-1, 0), (0, -1), (1, -1)),
    ((1, 0), (-1, 0)),
    ((1, 0), (-1, 0)),
)


def halves(r, x):
    if HALVED[r]:
        return 2 * x[0] + x[1], x[1]
    return 2 * x[0], 2 * x[1]


def exactly(number, divisor):
    quotient, rest = divmod(number, divisor)
    if rest:
        raise ValueError(f"{divisor} does not divide {number}")
    return quotient


def parts(r, p, q):
    if HALVED[r]:
        return exactly(p - q, 2), q
    return exactly(p, 2), exactly(q, 2)


def times(r, x, y):
    p, q = halves(r, x)
    e, f = halves(r, y)
    return parts(r, exactly(p * e - ROOT_OF_MINUS[r] * q * f, 2), exactly(p * f + q * e, 2))


def mirror(r, x):
    p, q = halves(r, x)
    return parts(r, p, -q)


def norm(r, x):
    p, q = halves(r, x)
    return exactly(p * p + ROOT_OF_MINUS[r] * q * q, 4)


def pairs(values):
    return [(a, b) for a in values for b in values]


SMALL = pairs(range(-4, 5))
ORDINARY = [(12, 5), (-12, 5), (7, -31), (-8, -9), (0, 17), (-23, 0), (123456789, -987654321), (-40, 1)]
EDGES = pairs((-END, -END + 1, -1, 0, 1, END - 1, END))
ALL = SMALL + ORDINARY + EDGES


def minus(x, y):
    return x[0] - y[0], x[1] - y[1]


def all_turns(r, x):
    return [times(r, x, unit) for unit in UNITS[r]]


def form(r, x):
    last = x
    for other in all_turns(r, x):
        if other[0] > last[0] or (other[0] == last[0] and other[1] > last[1]):
            last = other
    return last


def over(r, x, y):
    """x / y as two whole numbers over one: the parts of x times y's mirror, over N(y)."""
    return times(r, x, mirror(r, y)), norm(r, y)


def divides(r, y, x):
    if y == (0, 0):
        return x == (0, 0)
    top, below = over(r, x, y)
    return top[0] % below == 0 and top[1] % below == 0


def best_of(r, x, y, numbers):
    """Of the numbers q all that have the least N(x - q y), in the order, and that norm."""
    least, best = None, []
    for q in sorted(numbers):
        size = norm(r, minus(x, times(r, q, y)))
        if least is None or size < least:
            least, best = size, [q]
        elif size == least:
            best.append(q)
    return best, least


def around(r, x, y, far=2):
    top, below = over(r, x, y)
    a, b = top[0] // below, top[1] // below
    return [(a + i, b + j) for i in range(-far, far + 2) for j in range(-far, far + 2)]


def quotient(r, x, y):
    return best_of(r, x, y, around(r, x, y))[0][0]


def rest(r, x, y):
    return minus(x, times(r, quotient(r, x, y), y))
