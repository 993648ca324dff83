import unittest

from ringfive.rings import kind
from tests import model, theory
from tests.model import END, NO_RINGS, RINGS, UNITS
from tests.theory import INERT, LARGEST, NOT_SMALL, SPLIT, SQUARE

SMALL = model.pairs(range(-6, 7))


class Kind(unittest.TestCase):
    def test_told_kinds(self):
        # 2, 3, 5, 7, 11 in each ring.
        told = ((3, 2, 3, 2, 2), (3, 3, 2, 2, 3), (2, 3, 2, 3, 2), (3, 2, 2, 3, 3), (2, 3, 3, 2, 3))
        for r in RINGS:
            self.assertEqual(tuple(kind(r, p, 0)[0] for p in (2, 3, 5, 7, 11)), told[r])
        self.assertEqual(kind(0, 1, 1), [2])
        self.assertEqual(kind(0, 0, 3), [2])
        self.assertEqual(kind(0, 3, 1), [3])
        self.assertEqual(kind(2, -2, 2), [2])

    def test_0_and_units(self):
        for r in RINGS:
            self.assertEqual(kind(r, 0, 0), [0])
            for unit in UNITS[r]:
                self.assertEqual(kind(r, *unit), [1])

    def test_small_numbers_by_search_for_divisors(self):
        for r in RINGS:
            numbers = model.up_to_norm(r, max(model.norm(r, x) for x in SMALL))
            for x in [x for x in SMALL if model.norm(r, x) > 1]:
                size = model.norm(r, x)
                proper = any(model.divides(r, d, x) for d, norm in numbers if 1 < norm < size)
                self.assertEqual(kind(r, *x), [3 if proper else 2], (r, x))

    def test_whole_primes_of_each_way(self):
        for r in RINGS:
            ways = {INERT: 2, SPLIT: 3, SQUARE: 3}
            for p in theory.primes_to(300) + [99961, 99971, 99989, 99991]:
                for unit in UNITS[r]:
                    x = model.times(r, (p, 0), unit)
                    self.assertEqual(kind(r, *x), [ways[theory.way_of(r, p)]], (r, p))

    def test_primes_of_prime_norm_their_products_and_squares(self):
        for r in RINGS:
            primes = [x for x, norm in model.up_to_norm(r, 60) if theory.is_whole_prime(norm)]
            for x in primes:
                self.assertEqual(kind(r, *x), [2], (r, x))
                self.assertEqual(kind(r, *model.times(r, x, x)), [3], (r, x))
                for y in primes[::5]:
                    self.assertEqual(kind(r, *model.times(r, x, y)), [3], (r, x, y))

    def test_largest_parts(self):
        for r in RINGS:
            for a in (LARGEST, -LARGEST):
                for b in (*range(-LARGEST, -LARGEST + 8), *range(-4, 5), *range(LARGEST - 20, LARGEST + 1)):
                    self.assertEqual(kind(r, a, b), [theory.kind(r, (a, b))], (r, a, b))
                    self.assertEqual(kind(r, b, a), [theory.kind(r, (b, a))], (r, b, a))

    def test_primes_at_the_largest_parts(self):
        for r in RINGS:
            self.assertEqual(kind(r, *theory.PRIME_NORM[r]), [2])
            self.assertEqual(kind(r, theory.NEAR_THE_END[r], 0), [2])

    def test_not_small(self):
        for r in RINGS:
            for a, b in NOT_SMALL:
                self.assertEqual(kind(r, a, b), [-2], (r, a, b))
                self.assertEqual(kind(r, b, a), [-2], (r, b, a))

    def test_no_ring(self):
        for r in NO_RINGS:
            for x in ((0, 0), (1, 0), (3, -4), (END, -END), (-LARGEST - 1, 0)):
                self.assertEqual(kind(r, *x), [-1])
