import unittest

from ringfive.rings import times
from tests import model
from tests.model import END, NO_RINGS, RINGS, UNITS


class Times(unittest.TestCase):
    def check(self, r, x, y):
        self.assertEqual(times(r, *x, *y), [0, *model.times(r, x, y)], (r, x, y))

    def test_told_products(self):
        # (2 + 3 w)(5 + 7 w) = 10 + 29 w + 21 w w, and w w = t w - c.
        told = ((-11, 29), (-32, 29), (-11, 50), (-32, 50), (-53, 50))
        for r in RINGS:
            self.assertEqual(times(r, 2, 3, 5, 7), [0, *told[r]])

    def test_told_products_with_parts_below_0(self):
        # (-2 + 3 w)(5 - 7 w) = -10 + 29 w - 21 w w.
        told = ((11, 29), (32, 29), (11, 8), (32, 8), (53, 8))
        for r in RINGS:
            self.assertEqual(times(r, -2, 3, 5, -7), [0, *told[r]])

    def test_square_of_w(self):
        told = ((-1, 0), (-2, 0), (-1, 1), (-2, 1), (-3, 1))
        for r in RINGS:
            self.assertEqual(times(r, 0, 1, 0, 1), [0, *told[r]])

    def test_small_numbers(self):
        for r in RINGS:
            for x in model.SMALL:
                for y in model.SMALL:
                    self.check(r, x, y)

    def test_ordinary_numbers(self):
        for r in RINGS:
            for x in model.ORDINARY:
                for y in model.ORDINARY + model.SMALL:
                    self.check(r, x, y)
                    self.check(r, y, x)

    def test_by_0_and_by_1(self):
        for r in RINGS:
            for x in model.ALL:
                self.assertEqual(times(r, *x, 0, 0), [0, 0, 0])
                self.assertEqual(times(r, 0, 0, *x), [0, 0, 0])
                self.assertEqual(times(r, *x, 1, 0), [0, *x])
                self.assertEqual(times(r, 1, 0, *x), [0, *x])

    def test_units_are_powers_of_g(self):
        for r in RINGS:
            g = UNITS[r][1]
            for k, unit in enumerate(UNITS[r]):
                after = UNITS[r][(k + 1) % len(UNITS[r])]
                self.assertEqual(times(r, *unit, *g), [0, *after])

    def test_numbers_by_units(self):
        for r in RINGS:
            for unit in UNITS[r]:
                for x in model.ALL:
                    self.check(r, unit, x)
                    self.check(r, x, unit)

    def test_told_products_at_the_ends(self):
        square = 10 ** 36
        above = ((0, 2), (-1, 2), (0, 3), (-1, 3), (-2, 3))
        for r in RINGS:
            told = [0, above[r][0] * square, above[r][1] * square]
            self.assertEqual(times(r, END, END, END, END), told)
            self.assertEqual(times(r, -END, -END, -END, -END), told)
            self.assertEqual(times(r, -END, -END, END, END), [0, -told[1], -told[2]])

    def test_edges(self):
        for r in RINGS:
            for x in model.EDGES:
                for y in model.EDGES:
                    self.check(r, x, y)

    def test_no_ring(self):
        for r in NO_RINGS:
            for x in ((0, 0), (1, 0), (3, -4), (END, -END)):
                self.assertEqual(times(r, *x, 2, 5), [-1])
                self.assertEqual(times(r, *x, 0, 0), [-1])
                self.assertEqual(times(r, *x, -END, END), [-1])
