import unittest

from ringfive.rings import kind, whole
from tests import model, theory
from tests.model import END, NO_RINGS, RINGS, UNITS
from tests.theory import INERT, SPLIT, SQUARE

LARGEST = 10 ** 6


class Whole(unittest.TestCase):
    def check(self, r, p):
        told = whole(r, p)
        way = theory.way_of(r, p)
        self.assertEqual(told[0], way, (r, p))
        primes = [tuple(told[k:k + 2]) for k in range(1, len(told), 2)]
        self.assertEqual([model.form(r, x) for x in primes], primes, (r, p))
        if way == INERT:
            self.assertEqual(told, [0, p, 0], (r, p))
        if way == SPLIT:
            self.assertEqual(len(told), 5, (r, p))
            self.assertLess(primes[0], primes[1], (r, p))
            self.assertEqual([model.norm(r, x) for x in primes], [p, p], (r, p))
            self.assertEqual(model.form(r, model.mirror(r, primes[0])), primes[1], (r, p))
        if way == SQUARE:
            self.assertEqual(len(told), 3, (r, p))
            square = model.times(r, primes[0], primes[0])
            self.assertIn((p, 0), [model.times(r, square, unit) for unit in UNITS[r]], (r, p))
        for x in primes:
            if p < 100000:
                self.assertEqual(kind(r, *x), [2], (r, p))

    def test_told_primes(self):
        told = (
            {2: [2, 1, 1], 3: [0, 3, 0], 5: [1, 2, -1, 2, 1], 7: [0, 7, 0], 11: [0, 11, 0], 13: [1, 3, -2, 3, 2]},
            {2: [2, 0, 1], 3: [1, 1, -1, 1, 1], 5: [0, 5, 0], 7: [0, 7, 0], 11: [1, 3, -1, 3, 1], 13: [0, 13, 0]},
            {2: [0, 2, 0], 3: [2, 2, -1], 5: [0, 5, 0], 7: [1, 3, -2, 3, -1], 11: [0, 11, 0], 13: [1, 4, -3, 4, -1]},
            {2: [1, 0, 1, 1, -1], 3: [0, 3, 0], 5: [0, 5, 0], 7: [2, 1, -2], 11: [1, 1, 2, 3, -2], 13: [0, 13, 0]},
            {2: [0, 2, 0], 3: [1, 0, 1, 1, -1], 5: [1, 1, 1, 2, -1], 7: [0, 7, 0], 11: [2, 1, -2], 13: [0, 13, 0]},
        )
        for r in RINGS:
            for p, answer in told[r].items():
                self.assertEqual(whole(r, p), answer, (r, p))

    def test_every_whole_number(self):
        primes = theory.primes_to(4000)
        for r in RINGS:
            for p in range(-50, 4001):
                if p in primes:
                    self.check(r, p)
                else:
                    self.assertEqual(whole(r, p), [-1], (r, p))

    def test_each_way_is_met(self):
        for r in RINGS:
            self.assertEqual({whole(r, p)[0] for p in theory.primes_to(100)}, {0, 1, 2})

    def test_largest(self):
        for r in RINGS:
            for p in range(LARGEST - 200, LARGEST + 1):
                if theory.is_whole_prime(p):
                    self.check(r, p)
                else:
                    self.assertEqual(whole(r, p), [-1], (r, p))

    def test_no_whole_prime(self):
        for r in RINGS:
            for p in (1, 0, -1, -2, -7, -END, 4, 9, 49, 121, 997 * 997, 991 * 997, LARGEST):
                self.assertEqual(whole(r, p), [-1], (r, p))

    def test_too_large(self):
        # 1,000,003 is a whole prime, 1,000,001 is none.
        for r in RINGS:
            for p in (LARGEST + 1, LARGEST + 2, LARGEST + 3, END - 1, END):
                self.assertEqual(whole(r, p), [-2], (r, p))

    def test_no_ring(self):
        for r in NO_RINGS:
            for p in (-END, -7, 0, 1, 2, 7, 9, LARGEST, LARGEST + 1, END):
                self.assertEqual(whole(r, p), [-1])
