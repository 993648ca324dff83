import unittest

from ringfive.rings import inverse
from tests import model
from tests.model import END, NO_RINGS, RINGS, UNITS

SMALL = model.pairs(range(-3, 4))
ENDS = [(END, END), (-END, END), (END, -END + 1), (-END, 0), (0, END), (END - 1, 1 - END), (7, -END), (-3, 2)]


class Inverse(unittest.TestCase):
    def check_met(self, r, x, m, told):
        y = tuple(told[1:])
        self.assertEqual(told[0], 0, (r, x, m))
        self.assertEqual(len(y), 2, (r, x, m))
        self.assertTrue(model.divides(r, m, model.minus(model.times(r, x, y), (1, 0))), (r, x, m))
        self.assertEqual(model.rest(r, y, m), y, (r, x, m))

    def test_told_inverses(self):
        told = {
            (0, 2, 0, 5, 0): [0, -2, 0], (0, 2, 0, 3, 0): [0, -1, 0], (0, 0, 1, 7, 0): [0, 0, -1],
            (0, 1, 1, 3, 0): [0, -1, 1],
            (1, 0, 1, 3, 0): [0, 0, 1], (1, 0, 1, 4, 0): [-3], (2, 2, 0, 7, 0): [0, -3, 0], (2, 2, -1, 3, 0): [-3],
            (3, 0, 1, 3, 0): [0, -1, 1], (4, 0, 1, 2, 0): [0, 1, -1],
        }
        for arguments, answer in told.items():
            self.assertEqual(inverse(*arguments), answer, arguments)

    def test_small_numbers_by_search(self):
        for r in RINGS:
            for m in [m for m in SMALL if m != (0, 0)]:
                rests = model.own_rests(r, m)
                self.assertEqual(len(rests), model.norm(r, m), (r, m))
                for x in SMALL:
                    met = [y for y in rests if model.divides(r, m, model.minus(model.times(r, x, y), (1, 0)))]
                    self.assertLessEqual(len(met), 1)
                    self.assertEqual(inverse(r, *x, *m), [0, *met[0]] if met else [-3], (r, x, m))

    def test_m_a_unit(self):
        for r in RINGS:
            for unit in UNITS[r]:
                for x in ((0, 0), (1, 0), (5, -3), (END, -END)):
                    self.assertEqual(inverse(r, *x, *unit), [0, 0, 0])

    def test_x_0(self):
        for r in RINGS:
            for m in [m for m in model.SMALL + ENDS if model.norm(r, m) > 1]:
                self.assertEqual(inverse(r, 0, 0, *m), [-3])

    def test_common_divisor(self):
        for r in RINGS:
            for d in ((2, 0), (1, -2), (3, 1), (0, 3)):
                for x, m in (((1, 0), (1, 0)), ((7, 3), (2, 9)), ((-12, 5), (31, 1)), ((10 ** 9, 1), (-5, 10 ** 8))):
                    self.assertEqual(inverse(r, *model.times(r, d, x), *model.times(r, d, m)), [-3])

    def test_ends_of_the_range(self):
        for r in RINGS:
            found = 0
            for x in ENDS:
                for m in ENDS:
                    told = inverse(r, *x, *m)
                    alone = model.gcd(r, x, m)[0] == (1, 0)
                    self.assertEqual(told == [-3], not alone, (r, x, m))
                    if alone:
                        found += 1
                        self.check_met(r, x, m, told)
            self.assertGreater(found, 10)

    def test_ordinary_numbers(self):
        for r in RINGS:
            for x in model.ORDINARY:
                for m in model.ORDINARY:
                    told = inverse(r, *x, *m)
                    if told != [-3]:
                        self.check_met(r, x, m, told)

    def test_m_0(self):
        for r in RINGS:
            for x in ((0, 0), (1, 0), (3, -4), (END, END)):
                self.assertEqual(inverse(r, *x, 0, 0), [-1])

    def test_no_ring(self):
        for r in NO_RINGS:
            for x in ((0, 0), (1, 0), (3, -4), (END, END)):
                for m in ((0, 0), (1, 0), (5, 2), (-END, END)):
                    self.assertEqual(inverse(r, *x, *m), [-1])
