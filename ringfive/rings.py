"""The calls: each gives back one list, the answer and what is told with it, or a refusal alone."""

from ringfive.reckon import (
    ONE, ZERO, classes_of, common_divisor, factors_of, form_of, forms_of_norm, has_symbols, is_prime, is_ring,
    left_over, meeting, mirror_of, norm_of, power_of, primes_over, product, quotient, rest_of, rest_of_power, roots_of,
    symbol_of, turns_to_form, unit_of, whole_primes_of,
)

NO_SENSE = -1
TOO_LARGE = -2
NONE_THERE = -3
LARGEST_SMALL_PART = 100000
LARGEST_NORM = 1000000000
LARGEST_WHOLE_PRIME = 1000000
LARGEST_POWER = 64


def is_small(x):
    return abs(x[0]) <= LARGEST_SMALL_PART and abs(x[1]) <= LARGEST_SMALL_PART


def told(answer, numbers):
    parts = [answer]
    for x in numbers:
        parts.extend(x)
    return parts


def times(r, x_a, x_b, y_a, y_b):
    if not is_ring(r):
        return [NO_SENSE]
    return told(0, [product(r, (x_a, x_b), (y_a, y_b))])


def mirror(r, x_a, x_b):
    if not is_ring(r):
        return [NO_SENSE]
    return told(0, [mirror_of(r, (x_a, x_b))])


def norm(r, x_a, x_b):
    if not is_ring(r):
        return [NO_SENSE]
    return [0, norm_of(r, (x_a, x_b))]


def unit(r, k):
    if not is_ring(r):
        return [NO_SENSE]
    return told(0, [unit_of(r, k)])


def form(r, x_a, x_b):
    if not is_ring(r):
        return [NO_SENSE]
    x = (x_a, x_b)
    return told(0, [form_of(r, x)]) + [turns_to_form(r, x)]


def by(r, x_a, x_b, y_a, y_b):
    x = (x_a, x_b)
    y = (y_a, y_b)
    if not is_ring(r) or y == ZERO:
        return [NO_SENSE]
    q = quotient(r, x, y)
    return told(0, [q, left_over(r, x, q, y)])


def gcd(r, x_a, x_b, y_a, y_b):
    if not is_ring(r):
        return [NO_SENSE]
    return told(0, common_divisor(r, (x_a, x_b), (y_a, y_b)))


def kind(r, x_a, x_b):
    x = (x_a, x_b)
    if not is_ring(r):
        return [NO_SENSE]
    if not is_small(x):
        return [TOO_LARGE]
    if x == ZERO:
        return [0]
    if norm_of(r, x) == 1:
        return [1]
    return [2] if is_prime(r, x) else [3]


def factors(r, x_a, x_b):
    x = (x_a, x_b)
    if not is_ring(r) or x == ZERO:
        return [NO_SENSE]
    if not is_small(x):
        return [TOO_LARGE]
    found = factors_of(r, x)
    rows = [factor[1] + (factor[2],) for factor in found[1]]
    return told(len(rows), [found[0]] + rows)


def norms(r, n):
    if not is_ring(r) or n < 1:
        return [NO_SENSE]
    if n > LARGEST_NORM:
        return [TOO_LARGE]
    forms = forms_of_norm(r, n)
    return told(len(forms), forms)


def whole(r, p):
    if not is_ring(r):
        return [NO_SENSE]
    if p > LARGEST_WHOLE_PRIME:
        return [TOO_LARGE]
    if whole_primes_of(p) != [p]:
        return [NO_SENSE]
    primes = primes_over(r, p)
    if len(primes) == 2:
        return told(1, primes)
    return told(2 if norm_of(r, primes[0]) == p else 0, primes)


def root(r, x_a, x_b):
    if not is_ring(r):
        return [NO_SENSE]
    roots = roots_of(r, (x_a, x_b))
    if len(roots) == 0:
        return [NONE_THERE]
    return told(0, [max(roots)])


def power(r, x_a, x_b, n):
    if not is_ring(r) or n < 0:
        return [NO_SENSE]
    if n > LARGEST_POWER:
        return [TOO_LARGE]
    return told(0, [power_of(r, (x_a, x_b), n)])


def powrest(r, x_a, x_b, n, m_a, m_b):
    m = (m_a, m_b)
    if not is_ring(r) or n < 0 or m == ZERO:
        return [NO_SENSE]
    return told(0, [rest_of_power(r, (x_a, x_b), n, m)])


def inverse(r, x_a, x_b, m_a, m_b):
    m = (m_a, m_b)
    if not is_ring(r) or m == ZERO:
        return [NO_SENSE]
    made = common_divisor(r, (x_a, x_b), m)
    # The form of every unit is 1, and where d is 1, u x - 1 is a multiple of m.
    if made[0] != ONE:
        return [NONE_THERE]
    return told(0, [rest_of(r, made[1], m)])


def count(r, m_a, m_b):
    m = (m_a, m_b)
    if not is_ring(r) or m == ZERO:
        return [NO_SENSE]
    if not is_small(m):
        return [TOO_LARGE]
    return [0, classes_of(r, m)]


def symbol(r, x_a, x_b, p_a, p_b):
    p = (p_a, p_b)
    if not is_ring(r):
        return [NO_SENSE]
    if not is_small(p):
        return [TOO_LARGE]
    if not has_symbols(r, p):
        return [NO_SENSE]
    return told(0, [symbol_of(r, (x_a, x_b), p)])


def meet(r, x_a, x_b, m_a, m_b, y_a, y_b, n_a, n_b):
    m = (m_a, m_b)
    n = (n_a, n_b)
    if not is_ring(r) or m == ZERO or n == ZERO:
        return [NO_SENSE]
    met = meeting(r, (x_a, x_b), m, (y_a, y_b), n)
    if len(met) == 0:
        return [NONE_THERE]
    return told(0, met)
