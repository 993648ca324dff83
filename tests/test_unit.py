import unittest

from ringfive.rings import unit
from tests import model
from tests.model import END, NO_RINGS, RINGS, UNITS

G = ((0, 1), (-1, 0), (0, 1), (-1, 0), (-1, 0))


def multiplied_out(r, k):
    """g^k step by step; below 0 with what g times is 1."""
    back = [u for u in UNITS[r] if model.times(r, u, G[r]) == (1, 0)]
    result = (1, 0)
    for step in range(abs(k)):
        result = model.times(r, result, G[r] if k > 0 else back[0])
    return result


class Unit(unittest.TestCase):
    def test_told_units(self):
        self.assertEqual([unit(0, k) for k in range(4)], [[0, 1, 0], [0, 0, 1], [0, -1, 0], [0, 0, -1]])
        self.assertEqual(
            [unit(2, k) for k in range(6)],
            [[0, 1, 0], [0, 0, 1], [0, -1, 1], [0, -1, 0], [0, 0, -1], [0, 1, -1]],
        )
        for r in (1, 3, 4):
            self.assertEqual([unit(r, k) for k in range(-2, 3)], [[0, 1, 0], [0, -1, 0]] * 2 + [[0, 1, 0]])
        self.assertEqual(unit(0, -1), [0, 0, -1])
        self.assertEqual(unit(2, -1), [0, 1, -1])

    def test_powers_multiplied_out(self):
        for r in RINGS:
            for k in range(-20, 21):
                self.assertEqual(unit(r, k), [0, *multiplied_out(r, k)], (r, k))

    def test_every_unit_is_told(self):
        for r in RINGS:
            told = [tuple(unit(r, k)[1:]) for k in range(len(UNITS[r]))]
            self.assertEqual(sorted(told), sorted(UNITS[r]))

    def test_ends_of_the_range(self):
        # 10^18 is 0 by 4 and by 2, and 4 by 6.
        for r in (0, 1, 3, 4):
            self.assertEqual(unit(r, END), [0, 1, 0])
            self.assertEqual(unit(r, -END), [0, 1, 0])
        self.assertEqual(unit(2, END), [0, 0, -1])
        self.assertEqual(unit(2, -END), [0, -1, 1])
        for r in RINGS:
            for k in (END, END - 1, -END, 1 - END):
                self.assertEqual(unit(r, k), [0, *multiplied_out(r, k % len(UNITS[r]))], (r, k))

    def test_no_ring(self):
        for r in NO_RINGS:
            for k in (0, 1, -1, END, -END):
                self.assertEqual(unit(r, k), [-1])
