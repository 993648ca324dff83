"""What is known of whole primes in the five rings, by ways that the program does not go."""

from tests.model import END, RINGS, form, norm

# w w - t w + c is 0; t t - 4 c says whether it has a root by p.
T = (0, 0, 1, 1, 1)
C = (1, 2, 1, 2, 3)
BASES = (2, 3, 5, 7, 11, 13, 17, 19, 23, 29, 31, 37)
INERT, SPLIT, SQUARE = 0, 1, 2


def passes(n, base, odd, halvings):
    power = pow(base, odd, n)
    for step in range(halvings):
        if power == n - 1 or (step == 0 and power == 1):
            return True
        power = power * power % n
    return False


def is_whole_prime(n):
    """Sure for every n below 3 * 10^24."""
    if n < 2:
        return False
    if n in BASES:
        return True
    odd, halvings = n - 1, 0
    while odd % 2 == 0:
        odd, halvings = odd // 2, halvings + 1
    return all(n % base and passes(n, base, odd, halvings) for base in BASES)


def primes_to(limit):
    sieve = [False, False] + [True] * (limit - 1)
    for p in range(2, limit + 1):
        if sieve[p]:
            for multiple in range(p * p, limit + 1, p):
                sieve[multiple] = False
    return [p for p in range(limit + 1) if sieve[p]]


def way_of(r, p):
    """In which way the whole prime p lies in the ring, by the roots of w w - t w + c."""
    if p < 50:
        roots = len([w for w in range(p) if (w * w - T[r] * w + C[r]) % p == 0])
        return (INERT, SQUARE, SPLIT)[roots]
    return SPLIT if pow(T[r] * T[r] - 4 * C[r], (p - 1) // 2, p) == 1 else INERT


def character(r, p):
    return {INERT: -1, SPLIT: 1, SQUARE: 0}[way_of(r, p)]


def whole_factors(n):
    found, p = {}, 2
    while p * p <= n:
        while n % p == 0:
            found[p] = found.get(p, 0) + 1
            n //= p
        p += 1
    if n > 1:
        found[n] = found.get(n, 0) + 1
    return found


def how_many_of_norm(r, n):
    """How many forms have the norm n: for each p^k the sum of the character's powers from 0 to k."""
    result = 1
    for p, k in whole_factors(n).items():
        result *= sum(character(r, p) ** j for j in range(k + 1))
    return result


def kind(r, x):
    """A prime is of a norm that is a whole prime, or a whole prime that stays one, times a unit."""
    if norm(r, x) < 2:
        return norm(r, x)
    a, b = form(r, x)
    stays = b == 0 and is_whole_prime(a) and way_of(r, a) == INERT
    return 2 if stays or is_whole_prime(norm(r, x)) else 3


# The largest part of a small number, and numbers that aren't small, with their large part first.
LARGEST = 100000
NOT_SMALL = [
    (part, other) for part in (LARGEST + 1, -LARGEST - 1, END, -END) for other in (0, 1, -7, LARGEST, -LARGEST, END)
]
# Of each ring a number whose norm is a whole prime, with a part that is the largest.
PRIME_NORM = ((100000, 99981), (-99999, -100000), (100000, 99989), (-99993, -100000), (100000, 99997))
# Of each ring a prime that stays one, near 100,000.
NEAR_THE_END = tuple(
    [p for p in range(100000, 99000, -1) if is_whole_prime(p) and way_of(r, p) == INERT][0] for r in RINGS
)
