import unittest

from ringfive.rings import by, powrest, times
from tests import model, theory
from tests.model import END, NO_RINGS, RINGS, UNITS

SMALL = model.pairs(range(-2, 3))
ENDS = [(END, END), (-END, END), (END, -END + 1), (-END, 0), (0, END), (END - 1, 1 - END), (7, -END)]


class Powrest(unittest.TestCase):
    def test_told_rests(self):
        # 2^4 = 16 = 1 + 3 * 5, w^2 is -1 in the ring 0, and 2^n by 3 is 1 or -1.
        self.assertEqual(powrest(0, 2, 0, 4, 5, 0), [0, 1, 0])
        self.assertEqual(powrest(0, 0, 1, 10 ** 18 - 1, 5, 0), [0, 0, -1])
        for r in RINGS:
            self.assertEqual(powrest(r, 2, 0, 10 ** 18, 3, 0), [0, 1, 0])
            self.assertEqual(powrest(r, 2, 0, 10 ** 18 - 1, 3, 0), [0, -1, 0])
        # A rest midway, where the first quotient in the order is taken.
        self.assertEqual(powrest(0, 3, 0, 1, 2, 0), [0, 1, 0])
        self.assertEqual(powrest(0, 3, 0, 1, -2, 0), [0, -1, 0])

    def test_small_numbers(self):
        for r in RINGS:
            for m in [m for m in SMALL + [(3, 1), (-3, 3), (4, 0), (0, -5)] if m != (0, 0)]:
                for x in SMALL:
                    product = (1, 0)
                    for n in range(9):
                        self.assertEqual(powrest(r, *x, n, *m), [0, *model.rest(r, product, m)], (r, x, n, m))
                        product = model.times(r, product, x)

    def test_power_whole_and_its_rest(self):
        for r in RINGS:
            for x in ((7, -31), (-12, 5), (3, 3)):
                for m in ((12, 5), (-8, -9), (0, 17), (-23, 0), (100, 1)):
                    product = (1, 0)
                    for n in range(40):
                        self.assertEqual(powrest(r, *x, n, *m), [0, *model.rest(r, product, m)], (r, x, n, m))
                        product = model.times(r, product, x)

    def test_n_0(self):
        for r in RINGS:
            for m in model.SMALL + ENDS:
                if m != (0, 0):
                    one = model.rest(r, (1, 0), m)
                    for x in ((0, 0), (1, 0), (5, -3), m, (END, END)):
                        self.assertEqual(powrest(r, *x, 0, *m), [0, *one], (r, x, m))

    def test_m_a_unit(self):
        for r in RINGS:
            for unit in UNITS[r]:
                for x in ((0, 0), (1, 0), (5, -3), (END, -END)):
                    for n in (0, 1, 2, 10 ** 18):
                        self.assertEqual(powrest(r, *x, n, *unit), [0, 0, 0])

    def test_exponents_add(self):
        for r in RINGS:
            for m in ENDS:
                for x in ENDS[::-1]:
                    first = powrest(r, *x, END - 12345, *m)[1:]
                    second = powrest(r, *x, 12345, *m)[1:]
                    product = times(r, *first, *second)[1:]
                    told = powrest(r, *x, END, *m)[1:]
                    self.assertEqual(told, list(model.rest(r, product, m)), (r, x, m))
                    self.assertEqual(tuple(told), model.rest(r, told, m), (r, x, m))

    def test_power_of_a_primes_norm(self):
        # x to the power of N(p) has the rest of x by the prime p.
        for r in RINGS:
            for p in (theory.PRIME_NORM[r], (theory.NEAR_THE_END[r], 0), (-theory.NEAR_THE_END[r], 0)):
                for x in ENDS + model.ORDINARY:
                    self.assertEqual(powrest(r, *x, model.norm(r, p), *p)[1:], by(r, *x, *p)[3:], (r, x, p))

    def test_hangs_on_the_class_alone(self):
        for r in RINGS:
            for m in ((5, 2), (-4, 4), (0, 6)):
                for q in ((1, 0), (-3, 7), (10 ** 9, -5)):
                    x = (2, -3)
                    other = model.plus(x, model.times(r, q, m))
                    for n in (1, 2, 7, 10 ** 18):
                        self.assertEqual(powrest(r, *x, n, *m), powrest(r, *other, n, *m))

    def test_n_below_0(self):
        for r in RINGS:
            for x in ((0, 0), (1, 0), (3, -4)):
                for n in (-1, -2, -END):
                    self.assertEqual(powrest(r, *x, n, 5, 1), [-1])
                    self.assertEqual(powrest(r, *x, n, 0, 0), [-1])

    def test_m_0(self):
        for r in RINGS:
            for x in ((0, 0), (1, 0), (3, -4), (END, END)):
                for n in (0, 1, 2, END):
                    self.assertEqual(powrest(r, *x, n, 0, 0), [-1])

    def test_no_ring(self):
        for r in NO_RINGS:
            for n in (-1, 0, 1, END):
                for m in ((0, 0), (1, 0), (5, 2), (-END, END)):
                    self.assertEqual(powrest(r, 3, -4, n, *m), [-1])
