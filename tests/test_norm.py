import unittest

from ringfive.rings import mirror, norm, times
from tests import model
from tests.model import END, NO_RINGS, RINGS, UNITS


class Norm(unittest.TestCase):
    def test_told_norms(self):
        told = (13, 22, 19, 28, 37)
        for r in RINGS:
            self.assertEqual(norm(r, 2, 3), [0, told[r]])
            self.assertEqual(norm(r, -2, -3), [0, told[r]])

    def test_told_norms_with_one_part_below_0(self):
        told = (13, 22, 7, 16, 25)
        for r in RINGS:
            self.assertEqual(norm(r, -2, 3), [0, told[r]])
            self.assertEqual(norm(r, 2, -3), [0, told[r]])

    def test_all_numbers(self):
        for r in RINGS:
            for x in model.ALL:
                self.assertEqual(norm(r, *x), [0, model.norm(r, x)], (r, x))

    def test_0_is_of_0_alone(self):
        for r in RINGS:
            self.assertEqual(norm(r, 0, 0), [0, 0])
            for x in model.ALL:
                self.assertEqual(norm(r, *x)[1] > 0, x != (0, 0))

    def test_1_is_of_units_alone(self):
        for r in RINGS:
            of_norm_1 = [x for x in model.ALL if norm(r, *x) == [0, 1]]
            self.assertEqual(sorted(set(of_norm_1)), sorted(UNITS[r]))

    def test_number_times_its_mirror(self):
        for r in RINGS:
            for x in model.ALL:
                other = mirror(r, *x)[1:]
                self.assertEqual(times(r, *x, *other), [0, norm(r, *x)[1], 0])

    def test_told_norms_at_the_ends(self):
        square = 10 ** 36
        alike = (2, 3, 3, 4, 5)
        unlike = (2, 3, 1, 2, 3)
        for r in RINGS:
            self.assertEqual(norm(r, END, END), [0, alike[r] * square])
            self.assertEqual(norm(r, -END, -END), [0, alike[r] * square])
            self.assertEqual(norm(r, -END, END), [0, unlike[r] * square])
            self.assertEqual(norm(r, END, -END), [0, unlike[r] * square])

    def test_no_ring(self):
        for r in NO_RINGS:
            for x in ((0, 0), (1, 0), (3, -4), (END, -END), (-END, END)):
                self.assertEqual(norm(r, *x), [-1])
