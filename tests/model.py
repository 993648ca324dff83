"""A second way to reckon, from what w is: (p + q s) / 2 with s the root of -D.

It shares no formula with the program: sums and products are those of p, q and D.
"""

from math import isqrt

ROOT_OF_MINUS = (1, 2, 3, 7, 11)
HALVED = (False, False, True, True, True)
RINGS = (0, 1, 2, 3, 4)
NO_RINGS = (-1, 5, -2, 6, -5, 100, -(2 ** 32), 2 ** 32, -(10 ** 18), 10 ** 18)
END = 10 ** 18
# Of each ring all units, told one by one.
UNITS = (
    ((1, 0), (0, 1), (-1, 0), (0, -1)),
    ((1, 0), (-1, 0)),
    ((1, 0), (0, 1), (-1, 1), (-1, 0), (0, -1), (1, -1)),
    ((1, 0), (-1, 0)),
    ((1, 0), (-1, 0)),
)


def halves(r, x):
    if HALVED[r]:
        return 2 * x[0] + x[1], x[1]
    return 2 * x[0], 2 * x[1]


def exactly(number, divisor):
    quotient, rest = divmod(number, divisor)
    if rest:
        raise ValueError(f"{divisor} does not divide {number}")
    return quotient


def parts(r, p, q):
    if HALVED[r]:
        return exactly(p - q, 2), q
    return exactly(p, 2), exactly(q, 2)


def times(r, x, y):
    p, q = halves(r, x)
    e, f = halves(r, y)
    return parts(r, exactly(p * e - ROOT_OF_MINUS[r] * q * f, 2), exactly(p * f + q * e, 2))


def mirror(r, x):
    p, q = halves(r, x)
    return parts(r, p, -q)


def norm(r, x):
    p, q = halves(r, x)
    return exactly(p * p + ROOT_OF_MINUS[r] * q * q, 4)


def pairs(values):
    return [(a, b) for a in values for b in values]


SMALL = pairs(range(-4, 5))
ORDINARY = [(12, 5), (-12, 5), (7, -31), (-8, -9), (0, 17), (-23, 0), (123456789, -987654321), (-40, 1)]
EDGES = pairs((-END, -END + 1, -1, 0, 1, END - 1, END))
ALL = SMALL + ORDINARY + EDGES


def minus(x, y):
    return x[0] - y[0], x[1] - y[1]


def all_turns(r, x):
    return [times(r, x, unit) for unit in UNITS[r]]


def form(r, x):
    last = x
    for other in all_turns(r, x):
        if other[0] > last[0] or (other[0] == last[0] and other[1] > last[1]):
            last = other
    return last


def over(r, x, y):
    """x / y as two whole numbers over one: the parts of x times y's mirror, over N(y)."""
    return times(r, x, mirror(r, y)), norm(r, y)


def divides(r, y, x):
    if y == (0, 0):
        return x == (0, 0)
    top, below = over(r, x, y)
    return top[0] % below == 0 and top[1] % below == 0


def best_of(r, x, y, numbers):
    """Of the numbers q all that have the least N(x - q y), in the order, and that norm."""
    least, best = None, []
    for q in sorted(numbers):
        size = norm(r, minus(x, times(r, q, y)))
        if least is None or size < least:
            least, best = size, [q]
        elif size == least:
            best.append(q)
    return best, least


def around(r, x, y, far=2):
    top, below = over(r, x, y)
    a, b = top[0] // below, top[1] // below
    return [(a + i, b + j) for i in range(-far, far + 2) for j in range(-far, far + 2)]


def quotient(r, x, y):
    return best_of(r, x, y, around(r, x, y))[0][0]


def rest(r, x, y):
    return minus(x, times(r, quotient(r, x, y), y))


def plus(x, y):
    return x[0] + y[0], x[1] + y[1]


def up_to_norm(r, limit):
    """All numbers whose norm is at most the limit, with their norms."""
    d = ROOT_OF_MINUS[r] if HALVED[r] else 4 * ROOT_OF_MINUS[r]
    far_b = isqrt(4 * limit // d) + 1
    # The norm is at least d a a / (d + 1) where w is halved, and a a where it is not.
    far_a = isqrt(limit * (d + 1) // d) + 1
    found = []
    for a in range(-far_a, far_a + 1):
        for b in range(-far_b, far_b + 1):
            if norm(r, (a, b)) <= limit:
                found.append(((a, b), norm(r, (a, b))))
    return found


def gcd(r, x, y):
    """d, u, v by the chain of rests, as the document tells it; both 0 is not asked here."""
    chain = [(x, (1, 0), (0, 0)), (y, (0, 0), (1, 0))]
    while (0, 0) not in [number for number, u, v in chain]:
        q = quotient(r, chain[-2][0], chain[-1][0])
        chain.append(tuple(minus(old, times(r, q, new)) for old, new in zip(chain[-2], chain[-1])))
    last = [row for row in chain if row[0] != (0, 0)][-1]
    for unit in UNITS[r]:
        if times(r, last[0], unit) == form(r, last[0]):
            return [times(r, number, unit) for number in last]


def own_rests(r, m):
    """All numbers that are their own rests by m: N(m) of them, none of a larger norm than m."""
    steps = [(q, times(r, q, m)) for q in pairs(range(-2, 3)) if q != (0, 0)]
    found = []
    for z, size in up_to_norm(r, norm(r, m)):
        others = [(norm(r, minus(z, multiple)), q) for q, multiple in steps]
        if min(others) > (size, (0, 0)):
            found.append(z)
    return found


def has_common_divisor(r, x, y, numbers):
    """Whether one of the numbers, given with their norms, divides both and is no unit."""
    return any(divides(r, d, x) and divides(r, d, y) for d, size in numbers if size > 1)
