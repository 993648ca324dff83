import unittest

from ringfive.rings import power
from tests import model
from tests.model import END, NO_RINGS, RINGS, UNITS


class Power(unittest.TestCase):
    def test_told_powers(self):
        # (1 + w)^n for n from 0 to 4.
        told = (
            [(1, 0), (1, 1), (0, 2), (-2, 2), (-4, 0)],
            [(1, 0), (1, 1), (-1, 2), (-5, 1), (-7, -4)],
            [(1, 0), (1, 1), (0, 3), (-3, 6), (-9, 9)],
            [(1, 0), (1, 1), (-1, 3), (-7, 5), (-17, 3)],
            [(1, 0), (1, 1), (-2, 3), (-11, 4), (-23, -3)],
        )
        for r in RINGS:
            self.assertEqual([power(r, 1, 1, n) for n in range(5)], [[0, *x] for x in told[r]])
        self.assertEqual(power(0, 1, 1, 64), [0, 2 ** 32, 0])
        self.assertEqual(power(1, 0, 1, 64), [0, 2 ** 32, 0])

    def test_product_n_times(self):
        for r in RINGS:
            for x in model.SMALL + model.ORDINARY + model.EDGES:
                product = (1, 0)
                for n in range(65):
                    self.assertEqual(power(r, *x, n), [0, *product], (r, x, n))
                    product = model.times(r, product, x)

    def test_of_0(self):
        for r in RINGS:
            self.assertEqual(power(r, 0, 0, 0), [0, 1, 0])
            for n in (1, 2, 63, 64):
                self.assertEqual(power(r, 0, 0, n), [0, 0, 0])

    def test_of_units(self):
        for r in RINGS:
            for k, unit in enumerate(UNITS[r]):
                for n in range(65):
                    self.assertEqual(power(r, *unit, n), [0, *UNITS[r][k * n % len(UNITS[r])]])

    def test_n_below_0(self):
        for r in RINGS:
            for x in ((0, 0), (1, 0), (3, -4), (END, -END)):
                for n in (-1, -2, -64, -65, -END):
                    self.assertEqual(power(r, *x, n), [-1])

    def test_n_too_large(self):
        for r in RINGS:
            for x in ((0, 0), (1, 0), (3, -4), (END, -END)):
                for n in (65, 66, 128, END):
                    self.assertEqual(power(r, *x, n), [-2])

    def test_no_ring(self):
        for r in NO_RINGS:
            for x in ((0, 0), (1, 0), (3, -4), (END, -END)):
                for n in (-END, -1, 0, 1, 64, 65, END):
                    self.assertEqual(power(r, *x, n), [-1])
