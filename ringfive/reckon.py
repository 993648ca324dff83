"""Reckoning in the five rings: a number a + b w is the tuple (a, b)."""

# w * w = t * w - c, for each ring r at the place r.
T_OF_RING = (0, 0, 1, 1, 1)
C_OF_RING = (1, 2, 1, 2, 3)
# 4 N = s * s + d * b * b with s = 2 * a + t * b, so d = 4 * c - t * t.
D_OF_RING = (4, 8, 3, 7, 11)
# The units are the powers of g; how many there are.
G_OF_RING = ((0, 1), (-1, 0), (0, 1), (-1, 0), (-1, 0))
UNITS_OF_RING = (4, 2, 6, 2, 2)
ZERO = (0, 0)
ONE = (1, 0)


def is_ring(r):
    return 0 <= r < len(T_OF_RING)


def product(r, x, y):
    w_squares = x[1] * y[1]
    a = x[0] * y[0] - C_OF_RING[r] * w_squares
    b = x[0] * y[1] + x[1] * y[0] + T_OF_RING[r] * w_squares
    return (a, b)


def mirror_of(r, x):
    return (x[0] + T_OF_RING[r] * x[1], -x[1])


def norm_of(r, x):
    return x[0] * x[0] + T_OF_RING[r] * x[0] * x[1] + C_OF_RING[r] * x[1] * x[1]


def plus(x, y):
    return (x[0] + y[0], x[1] + y[1])


def minus(x, y):
    return (x[0] - y[0], x[1] - y[1])


def turned(r, x):
    # x times g^k stands at the place k.
    turns = [x]
    while len(turns) < UNITS_OF_RING[r]:
        turns.append(product(r, turns[-1], G_OF_RING[r]))
    return turns


def unit_of(r, k):
    return turned(r, ONE)[k % UNITS_OF_RING[r]]


def form_of(r, x):
    # Python compares tuples as the order does: by a, then by b.
    return max(turned(r, x))


def turns_to_form(r, x):
    return turned(r, x).index(form_of(r, x))


def left_over(r, x, q, y):
    return minus(x, product(r, q, y))


def nearest_in_row(r, top, n, b):
    # In the row of b the norm is least at one point, which need not be whole: low_a is its whole part.
    low_a = (2 * top[0] + T_OF_RING[r] * (top[1] - b * n)) // (2 * n)
    return [(low_a, b), (low_a + 1, b)]


def quotient(r, x, y):
    # x / y is top / n. In all five rings the nearest numbers to a point lie in rows less than 1 away
    # from its b, so the two rows around it hold them all.
    top = product(r, x, mirror_of(r, y))
    n = norm_of(r, y)
    low_b = top[1] // n
    near = nearest_in_row(r, top, n, low_b) + nearest_in_row(r, top, n, low_b + 1)
    return min(near, key=lambda q: (norm_of(r, left_over(r, x, q, y)), q))


def rest_of(r, x, y):
    return left_over(r, x, quotient(r, x, y), y)


def common_divisor(r, x, y):
    # Each of the chain goes with the two numbers that make it of x and y.
    before = (x, ONE, ZERO)
    last = (y, ZERO, ONE)
    while last[0] != ZERO:
        q = quotient(r, before[0], last[0])
        following = tuple([left_over(r, before[place], q, last[place]) for place in range(3)])
        before = last
        last = following
    g_power = unit_of(r, turns_to_form(r, before[0]))
    return [product(r, number, g_power) for number in before]


def whole_root(n):
    # The largest whole number whose square isn't above n: the guesses fall till they reach it.
    guess = n
    better = (n + 1) // 2
    while better < guess:
        guess = better
        better = (guess + n // guess) // 2
    return guess


def forms_of_norm(r, n):
    # While b rises, s falls: each goes one way alone.
    t = T_OF_RING[r]
    d = D_OF_RING[r]
    found = {}
    s = whole_root(4 * n)
    b = 0
    while d * b * b <= 4 * n:
        while s * s + d * b * b > 4 * n:
            s = s - 1
        if s * s + d * b * b == 4 * n:
            found[form_of(r, ((s - t * b) // 2, b))] = True
            found[form_of(r, ((s + t * b) // 2, -b))] = True
        b = b + 1
    return sorted(found)


def whole_primes_of(n):
    found = []
    left = n
    p = 2
    while p * p <= left:
        if left % p == 0:
            found.append(p)
        while left % p == 0:
            left = left // p
        p = 3 if p == 2 else p + 2
    if left > 1:
        found.append(left)
    return found


def primes_over(r, p):
    # A whole prime that is no number's norm is a prime of the ring.
    forms = forms_of_norm(r, p)
    return forms if forms else [(p, 0)]


def primes_of_both(r, x, p):
    # p divides N(x). If p doesn't divide x, just one prime of norm p does, and a search for
    # it among all numbers of the norm p, which may be large, is spared.
    shared = common_divisor(r, x, (p, 0))[0]
    return [shared] if norm_of(r, shared) == p else primes_over(r, p)


def take_out(r, x, prime):
    # x divided by the prime as often as that goes, and how often.
    left = x
    often = 0
    while rest_of(r, left, prime) == ZERO:
        left = quotient(r, left, prime)
        often = often + 1
    return (left, often)


def factors_of(r, x):
    # The unit, and of each prime its norm, the prime, how often it divides x.
    found = []
    left = x
    for p in whole_primes_of(norm_of(r, x)):
        for prime in primes_of_both(r, x, p):
            taken = take_out(r, left, prime)
            left = taken[0]
            found.append((norm_of(r, prime), prime, taken[1]))
    return (left, sorted(found))


def is_prime(r, x):
    found = factors_of(r, x)[1]
    return len(found) == 1 and found[0][2] == 1


def roots_of(r, x):
    # The norm n of a root is the root of N(x), and as its square is x, of its s and b are
    # s * s = double + 2 * n and d * b * b = 2 * n - double. Whether it is a root is tried.
    t = T_OF_RING[r]
    double = 2 * x[0] + t * x[1]
    n = whole_root(norm_of(r, x))
    if n * n != norm_of(r, x):
        return []
    s = whole_root(double + 2 * n)
    b = whole_root((2 * n - double) // D_OF_RING[r])
    near = [((s - t * b) // 2, b), ((s + t * b) // 2, -b)]
    both = near + [minus(ZERO, z) for z in near]
    return [z for z in both if product(r, z, z) == x]


def power_of(r, x, n):
    result = ONE
    for step in range(n):
        result = product(r, result, x)
    return result


def rest_of_power(r, x, n, m):
    # n may be large: its halvings are gone through, with x squared at each.
    result = rest_of(r, ONE, m)
    square = rest_of(r, x, m)
    left = n
    while left > 0:
        if left % 2 == 1:
            result = rest_of(r, product(r, result, square), m)
        square = rest_of(r, product(r, square, square), m)
        left = left // 2
    return result


def classes_of(r, m):
    # Of N(m) rests each prime of m leaves all but one in N(prime).
    result = norm_of(r, m)
    for factor in factors_of(r, m)[1]:
        result = result // factor[0] * (factor[0] - 1)
    return result


def has_symbols(r, p):
    return is_prime(r, p) and (norm_of(r, p) - 1) % UNITS_OF_RING[r] == 0


def symbol_of(r, x, p):
    if rest_of(r, x, p) == ZERO:
        return ZERO
    reached = rest_of_power(r, x, (norm_of(r, p) - 1) // UNITS_OF_RING[r], p)
    fitting = [unit for unit in turned(r, ONE) if rest_of(r, minus(reached, unit), p) == ZERO]
    return fitting[0]


def meeting(r, x, m, y, n):
    # With d = u m + v n, x + u m (y - x) / d is x by m, and by n it's y. None: an empty list.
    made = common_divisor(r, m, n)
    apart = minus(y, x)
    if rest_of(r, apart, made[0]) != ZERO:
        return []
    steps = product(r, made[1], quotient(r, apart, made[0]))
    multiple = form_of(r, quotient(r, product(r, m, n), made[0]))
    return [rest_of(r, plus(x, product(r, m, steps)), multiple), multiple]
