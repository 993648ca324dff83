import unittest

from ringfive.rings import count
from tests import model, theory
from tests.model import END, NO_RINGS, RINGS, UNITS
from tests.theory import LARGEST, NOT_SMALL


def by_whole_primes(r, m):
    """The product of N^(k - 1) (N - 1) over the primes of m, found through the whole primes of N(m)."""
    result = 1
    inner = m
    for p, often in theory.whole_factors(model.norm(r, m)).items():
        way = theory.way_of(r, p)
        twice = 0
        while inner[0] % p == 0 and inner[1] % p == 0:
            inner, twice = (inner[0] // p, inner[1] // p), twice + 1
        if way == theory.INERT:
            sizes = [(p * p, twice)]
        elif way == theory.SQUARE:
            sizes = [(p, often)]
        else:
            # p^twice takes both primes equally often, and what is left holds one of them alone.
            sizes = [(p, twice), (p, often - twice)]
        for size, k in sizes:
            if k > 0:
                result *= size ** (k - 1) * (size - 1)
    return result


class Count(unittest.TestCase):
    def test_told_counts(self):
        told = {
            (0, 1, 1): 1, (0, 2, 0): 2, (0, 3, 0): 8, (0, 5, 0): 16, (1, 0, 1): 1, (1, 3, 0): 4, (2, 2, 0): 3,
            (2, 3, 0): 6, (3, 2, 0): 1, (3, 7, 0): 42, (4, 2, 0): 3, (4, 11, 0): 110,
        }
        for arguments, answer in told.items():
            self.assertEqual(count(*arguments), [0, answer], arguments)

    def test_small_numbers_by_search(self):
        for r in RINGS:
            for m in [m for m in model.SMALL if m != (0, 0)]:
                divisors = [row for row in model.up_to_norm(r, model.norm(r, m)) if model.divides(r, row[0], m)]
                rests = model.own_rests(r, m)
                self.assertEqual(len(rests), model.norm(r, m))
                alone = [z for z in rests if not model.has_common_divisor(r, z, m, divisors)]
                self.assertEqual(count(r, *m), [0, len(alone)], (r, m))

    def test_by_whole_primes(self):
        for r in RINGS:
            for m in [m for m in model.pairs(range(-20, 21, 3)) + model.ORDINARY[:6] if m != (0, 0)]:
                self.assertEqual(count(r, *m), [0, by_whole_primes(r, m)], (r, m))

    def test_units(self):
        for r in RINGS:
            for unit in UNITS[r]:
                self.assertEqual(count(r, *unit), [0, 1])

    def test_largest_parts(self):
        for r in RINGS:
            for a in (LARGEST, -LARGEST):
                for b in (LARGEST, -LARGEST, LARGEST - 1, 0, 1, -1, 60):
                    self.assertEqual(count(r, a, b), [0, by_whole_primes(r, (a, b))], (r, a, b))
                    self.assertEqual(count(r, b, a), [0, by_whole_primes(r, (b, a))], (r, b, a))
            x = theory.PRIME_NORM[r]
            self.assertEqual(count(r, *x), [0, model.norm(r, x) - 1])

    def test_m_0(self):
        for r in RINGS:
            self.assertEqual(count(r, 0, 0), [-1])

    def test_not_small(self):
        for r in RINGS:
            for a, b in NOT_SMALL:
                self.assertEqual(count(r, a, b), [-2], (r, a, b))
                self.assertEqual(count(r, b, a), [-2], (r, b, a))

    def test_no_ring(self):
        for r in NO_RINGS:
            for m in ((0, 0), (1, 0), (3, -4), (END, -END), (-LARGEST - 1, 0)):
                self.assertEqual(count(r, *m), [-1])
