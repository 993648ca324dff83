import unittest

from ringfive.rings import root
from tests import model
from tests.model import END, NO_RINGS, RINGS

SMALL = model.pairs(range(-15, 16))
LARGE = [
    (a + i, b + j) for a in (10 ** 9, -(10 ** 9), 7 * 10 ** 8, 3 * 10 ** 8, 0, 5) for i in (-1, 0, 1)
    for b in (10 ** 9, -(10 ** 9), 5 * 10 ** 8, -(4 * 10 ** 8), 0, -3) for j in (-1, 0, 1)
]


def square(r, x):
    return model.times(r, x, x)


def in_range(x):
    return max(abs(x[0]), abs(x[1])) <= END


class Root(unittest.TestCase):
    def check_square(self, r, z):
        # A square has just two roots, which differ in their signs.
        last = max(z, (-z[0], -z[1]))
        self.assertEqual(root(r, *square(r, z)), [0, *last], (r, z))

    def test_told_roots(self):
        told = {
            (0, 0, 2): [0, 1, 1], (0, -1, 0): [0, 0, 1], (0, -9, 0): [0, 0, 3], (0, 3, 4): [0, 2, 1], (0, 2, 0): [-3],
            (1, -2, 0): [0, 0, 1], (1, -1, 0): [-3], (1, -1, 2): [0, 1, 1], (1, -1, -2): [0, 1, -1], (1, 0, 1): [-3],
            (2, -1, 1): [0, 0, 1], (2, 0, -1): [0, 1, -1], (2, -3, 0): [0, 1, -2], (2, -1, 0): [-3],
            (3, -7, 0): [0, 1, -2], (3, -28, 0): [0, 2, -4], (3, -2, 1): [0, 0, 1], (3, -1, 0): [-3],
            (4, -11, 0): [0, 1, -2], (4, -3, 1): [0, 0, 1], (4, -2, -1): [0, 1, -1], (4, -3, 0): [-3],
        }
        for arguments, answer in told.items():
            self.assertEqual(root(*arguments), answer, arguments)

    def test_squares_of_small_numbers(self):
        for r in RINGS:
            for z in SMALL:
                self.check_square(r, z)

    def test_every_small_number_by_search(self):
        # A root of a number of this size has a norm of at most 30 and lies within SMALL.
        for r in RINGS:
            roots = {}
            for z in SMALL:
                roots.setdefault(square(r, z), []).append(z)
            for x in model.pairs(range(-13, 14)):
                told = [0, *max(roots[x])] if x in roots else [-3]
                self.assertEqual(root(r, *x), told, (r, x))

    def test_near_squares(self):
        for r in RINGS:
            squares = {square(r, z): max(z, (-z[0], -z[1])) for z in model.pairs(range(-40, 41))}
            for z in SMALL:
                a, b = square(r, z)
                for near in ((a + 1, b), (a - 1, b), (a, b + 1), (a, b - 1), (-a, b), (a, -b), (b, a)):
                    told = [0, *squares[near]] if near in squares else [-3]
                    self.assertEqual(root(r, *near), told, (r, z, near))

    def test_0(self):
        for r in RINGS:
            self.assertEqual(root(r, 0, 0), [0, 0, 0])

    def test_units(self):
        for r in RINGS:
            self.assertEqual(root(r, 1, 0), [0, 1, 0])
        told = {(1, 0): (1, 0), (-1, 1): (0, 1), (-1, 0): None, (0, -1): (1, -1), (1, -1): None, (0, 1): None}
        for unit, answer in told.items():
            self.assertEqual(root(2, *unit), [0, *answer] if answer else [-3], unit)
        self.assertEqual(root(0, 0, 1), [-3])
        self.assertEqual(root(0, 0, -1), [-3])

    def test_whole_numbers_below_0(self):
        told = {0: (1, (0, 1)), 1: (2, (0, 1)), 2: (3, (1, -2)), 3: (7, (1, -2)), 4: (11, (1, -2))}
        for r in RINGS:
            below, one = told[r]
            for n in range(1, 200):
                self.assertEqual(root(r, -below * n * n, 0), [0, n * one[0], n * one[1]], (r, n))
                self.assertEqual(root(r, -below * n * n - 1, 0), [-3], (r, n))

    def test_squares_of_large_numbers(self):
        for r in RINGS:
            met = 0
            for z in [z for z in LARGE if in_range(square(r, z))]:
                met += 1
                self.check_square(r, z)
                a, b = square(r, z)
                if max(abs(z[0]), abs(z[1])) > 100:
                    for near in ((a + 1, b), (a - 1, b), (a, b + 1), (a, b - 1)):
                        self.assertEqual(root(r, *near), [-3], (r, z))
            self.assertGreater(met, 50)

    def test_ends_of_the_range(self):
        # The squares of small numbers times 10^18: w^2 and (1 - w)^2, and whole numbers.
        squares = {
            (2, -END, END): (0, 10 ** 9), (2, 0, -END): (10 ** 9, -(10 ** 9)), (3, -END, -END): (10 ** 9, -(10 ** 9)),
            (0, -END, 0): (0, 10 ** 9),
        }
        for r in RINGS:
            self.assertEqual(root(r, END, 0), [0, 10 ** 9, 0])
            for x in model.EDGES:
                if max(abs(x[0]), abs(x[1])) > 1 and x != (END, 0):
                    told = [0, *squares[r, *x]] if (r, *x) in squares else [-3]
                    self.assertEqual(root(r, *x), told, (r, x))

    def test_no_ring(self):
        for r in NO_RINGS:
            for x in ((0, 0), (1, 0), (3, -4), (2, 0), (END, -END), (END, 0)):
                self.assertEqual(root(r, *x), [-1])
