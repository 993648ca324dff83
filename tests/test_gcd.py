import unittest

from ringfive.rings import gcd
from tests import model
from tests.model import END, NO_RINGS, RINGS, UNITS

SMALL = model.pairs(range(-3, 4))
ENDS = model.pairs((-END, -1, 0, 1, END)) + [(END - 1, END), (-END, END - 1), (10 ** 9 + 7, -(10 ** 9) - 9)]


class Gcd(unittest.TestCase):
    def check(self, r, x, y):
        told = gcd(r, *x, *y)
        d, u, v = model.gcd(r, x, y)
        self.assertEqual(told, [0, *d, *u, *v], (r, x, y))
        made = model.plus(model.times(r, u, x), model.times(r, v, y))
        self.assertEqual(tuple(told[1:3]), made, (r, x, y))
        self.assertEqual(tuple(told[1:3]), model.form(r, made), (r, x, y))
        self.assertTrue(model.divides(r, d, x) and model.divides(r, d, y), (r, x, y))

    def test_told_divisors(self):
        told = {
            (0, 5, 0, 2, 1): [0, 2, 1, 0, 0, 1, 0],
            (0, 11, 3, 1, 8): [0, 2, 1, 1, 2, -3, 0],
            (1, 6, 0, 0, 3): [0, 0, 3, 0, 0, 1, 0],
            (2, 7, 0, 2, 1): [0, 3, -2, 0, 0, 1, -1],
            (3, 8, 0, 3, 1): [0, 1, -1, 1, -1, -1, 2],
        }
        for arguments, answer in told.items():
            self.assertEqual(gcd(*arguments), answer, arguments)

    def test_both_0(self):
        for r in RINGS:
            self.assertEqual(gcd(r, 0, 0, 0, 0), [0, 0, 0, 1, 0, 0, 0])

    def test_x_or_y_0(self):
        for r in RINGS:
            for x in [x for x in SMALL + ENDS + model.ORDINARY if x != (0, 0)]:
                last = model.form(r, x)
                unit = [u for u in UNITS[r] if model.times(r, x, u) == last][0]
                self.assertEqual(gcd(r, *x, 0, 0), [0, *last, *unit, 0, 0])
                self.assertEqual(gcd(r, 0, 0, *x), [0, *last, 0, 0, *unit])

    def test_small_numbers(self):
        for r in RINGS:
            for x in SMALL:
                for y in SMALL:
                    if x != (0, 0) or y != (0, 0):
                        self.check(r, x, y)

    def test_one_divides_the_other(self):
        for r in RINGS:
            for x in ((3, -2), (-5, 1), (0, 4), (-7, 0), (12, 31), *UNITS[r]):
                for q in SMALL:
                    y = model.times(r, x, q)
                    self.check(r, x, y)
                    self.check(r, y, x)
                    self.assertEqual(gcd(r, *x, *y)[1:3], list(model.form(r, x)))
                    self.assertEqual(gcd(r, *y, *x)[1:3], list(model.form(r, x)))

    def test_common_divisors_divide_it(self):
        for r in RINGS:
            for d in ((2, 1), (-3, 2), (0, 5), (4, -4)):
                for x, y in (((7, 3), (2, 9)), ((-12, 5), (31, 1)), ((6, -6), (4, 10)), ((1, 1), (-8, 3))):
                    told = gcd(r, *model.times(r, d, x), *model.times(r, d, y))
                    self.assertTrue(model.divides(r, d, told[1:3]))

    def test_ordinary_numbers(self):
        for r in RINGS:
            for x in model.ORDINARY:
                for y in model.ORDINARY:
                    self.check(r, x, y)

    def test_ends_of_the_range(self):
        for r in RINGS:
            for x in ENDS:
                for y in ENDS:
                    if x != (0, 0) or y != (0, 0):
                        self.check(r, x, y)

    def test_no_ring(self):
        for r in NO_RINGS:
            for x in ((0, 0), (1, 0), (3, -4), (END, -END)):
                self.assertEqual(gcd(r, *x, 0, 0), [-1])
                self.assertEqual(gcd(r, *x, 2, 5), [-1])
                self.assertEqual(gcd(r, *x, -END, END), [-1])
