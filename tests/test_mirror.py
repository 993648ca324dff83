import unittest

from ringfive.rings import mirror
from tests import model
from tests.model import END, NO_RINGS, RINGS, UNITS


class Mirror(unittest.TestCase):
    def test_told_mirrors(self):
        for r in (0, 1):
            self.assertEqual(mirror(r, 2, 3), [0, 2, -3])
            self.assertEqual(mirror(r, -2, -3), [0, -2, 3])
            self.assertEqual(mirror(r, 0, 1), [0, 0, -1])
        for r in (2, 3, 4):
            self.assertEqual(mirror(r, 2, 3), [0, 5, -3])
            self.assertEqual(mirror(r, -2, -3), [0, -5, 3])
            self.assertEqual(mirror(r, 0, 1), [0, 1, -1])

    def test_all_numbers(self):
        for r in RINGS:
            for x in model.ALL:
                self.assertEqual(mirror(r, *x), [0, *model.mirror(r, x)], (r, x))

    def test_whole_numbers_are_their_own(self):
        for r in RINGS:
            for a in (-END, -7, -1, 0, 1, 7, END):
                self.assertEqual(mirror(r, a, 0), [0, a, 0])

    def test_units(self):
        for r in RINGS:
            for k, unit in enumerate(UNITS[r]):
                self.assertEqual(mirror(r, *unit), [0, *UNITS[r][-k]])

    def test_told_mirrors_at_the_ends(self):
        for r in (0, 1):
            self.assertEqual(mirror(r, END, END), [0, END, -END])
            self.assertEqual(mirror(r, -END, END), [0, -END, -END])
        for r in (2, 3, 4):
            self.assertEqual(mirror(r, END, END), [0, 2 * END, -END])
            self.assertEqual(mirror(r, -END, -END), [0, -2 * END, END])
            self.assertEqual(mirror(r, -END, END), [0, 0, -END])

    def test_no_ring(self):
        for r in NO_RINGS:
            for x in ((0, 0), (1, 0), (3, -4), (END, -END), (-END, END)):
                self.assertEqual(mirror(r, *x), [-1])
