import unittest

from ringfive.rings import by, norm, times
from tests import model
from tests.model import END, NO_RINGS, RINGS, UNITS

NOT_0 = [y for y in model.SMALL if y != (0, 0)]
# Of each ring points that lie equally far from three numbers or four: parts, over one whole number.
MIDWAY = (
    [((1, 1), 2)],
    [((1, 1), 2)],
    [((1, 1), 3), ((2, 2), 3)],
    [((2, 3), 7), ((5, 4), 7)],
    [((3, 5), 11), ((8, 6), 11)],
)
ENDS = model.EDGES + [(END, 7), (-END, 3), (123456789, -END), (10 ** 9, 10 ** 9 + 1)]


class By(unittest.TestCase):
    def check(self, r, x, y):
        q = model.quotient(r, x, y)
        left = model.minus(x, model.times(r, q, y))
        self.assertEqual(by(r, *x, *y), [0, *q, *left], (r, x, y))

    def test_told_quotients(self):
        told = {
            (0, 7, 5, 3, 1): [0, 3, 1, -1, -1], (0, 7, 0, 2, 0): [0, 3, 0, 1, 0], (0, -7, 0, 2, 0): [0, -4, 0, 1, 0],
            (1, 7, 0, 0, 2): [0, 0, -2, -1, 0], (1, 0, 5, 2, 0): [0, 0, 2, 0, 1], (1, 3, 3, 3, 0): [0, 1, 1, 0, 0],
            (2, 7, 5, 3, 1): [0, 2, 1, 2, -1], (3, 2, 3, 7, 0): [0, 0, 0, 2, 3], (4, 3, 5, 11, 0): [0, 0, 0, 3, 5],
        }
        for arguments, answer in told.items():
            self.assertEqual(by(*arguments), answer, arguments)

    def test_told_ties(self):
        # Four numbers are equally near in the ring 0: the first in the order is taken.
        self.assertEqual(by(0, 1, 1, 2, 0), [0, 0, 0, 1, 1])
        self.assertEqual(by(0, 1, 1, -2, 0), [0, -1, -1, -1, -1])
        self.assertEqual(by(0, 1, 1, 0, 2), [0, 0, -1, -1, 1])
        self.assertEqual(by(0, 1, -1, 2, 0), [0, 0, -1, 1, 1])
        self.assertEqual(by(2, 2, 2, 3, 0), [0, 0, 1, 2, -1])
        self.assertEqual(by(1, 1, 1, 2, 0), [0, 0, 0, 1, 1])

    def test_small_numbers(self):
        for r in RINGS:
            for x in model.SMALL:
                for y in NOT_0:
                    self.check(r, x, y)

    def test_search_over_all_numbers_that_may_be(self):
        # N(q) can't be above 4 N(x) / N(y): a q further away leaves more than q = 0 does.
        box = model.pairs(range(-14, 15))
        for r in RINGS:
            for x in [(0, 0), (2, 2), (-2, 2), (-3, -2), (3, 1), (0, -3), (3, 3)]:
                for y in model.pairs(range(-1, 2)) + [(2, 0), (0, -2), (-2, 1), (2, 2)]:
                    if y != (0, 0):
                        best, least = model.best_of(r, x, y, box)
                        self.assertEqual(by(r, *x, *y)[1:3], list(best[0]), (r, x, y))

    def test_ties(self):
        for r in RINGS:
            for point, below in MIDWAY[r]:
                for y in [y for y in model.pairs(range(-3, 4)) if y != (0, 0)]:
                    for moved in model.pairs((-2, 0, 1)):
                        whole = (point[0] + below * moved[0], point[1] + below * moved[1])
                        x, divisor = model.times(r, whole, y), (below * y[0], below * y[1])
                        best, least = model.best_of(r, x, divisor, model.around(r, x, divisor))
                        self.assertGreaterEqual(len(best), 3)
                        self.assertEqual(by(r, *x, *divisor)[1:3], list(best[0]), (r, x, divisor))

    def test_ties_of_two(self):
        for r in RINGS:
            for y in NOT_0:
                for odd in model.pairs((-3, -1, 0, 1, 2)):
                    self.check(r, model.times(r, odd, y), (2 * y[0], 2 * y[1]))

    def test_ends_of_the_range(self):
        for r in RINGS:
            for x in ENDS:
                for y in [y for y in ENDS if y != (0, 0)]:
                    self.check(r, x, y)

    def test_ties_at_the_ends_of_the_range(self):
        for r in RINGS:
            for x in model.pairs((-END // 2, 0, END // 2)):
                for y in ((END, 0), (-END, 0), (0, END), (0, -END), (END, -END), (-END, -END)):
                    self.check(r, x, y)

    def test_x_is_quotient_times_y_and_rest(self):
        for r in RINGS:
            for x in model.ORDINARY + ENDS:
                for y in [y for y in model.ORDINARY + ENDS if y != (0, 0)]:
                    answer, q_a, q_b, rest_a, rest_b = by(r, *x, *y)
                    multiple = times(r, q_a, q_b, *y)
                    self.assertEqual((multiple[1] + rest_a, multiple[2] + rest_b), x)
                    self.assertLess(norm(r, rest_a, rest_b)[1], norm(r, *y)[1])

    def test_multiples_leave_0(self):
        for r in RINGS:
            for q in model.SMALL:
                for y in [(3, -7), (-12, 5), (END, 1), *UNITS[r]]:
                    x = model.times(r, q, y)
                    self.assertEqual(by(r, *x, *y), [0, *q, 0, 0])

    def test_rests_are_the_same_just_in_one_class(self):
        for r in RINGS:
            for y in [(2, 0), (0, -2), (1, 2), (-3, 1), (3, 3), (-1, -3)]:
                rests = {x: by(r, *x, *y)[3:] for x in model.SMALL}
                for x in model.SMALL:
                    for other in model.SMALL:
                        same = model.divides(r, y, model.minus(x, other))
                        self.assertEqual(rests[x] == rests[other], same, (r, x, other, y))

    def test_y_is_0(self):
        for r in RINGS:
            for x in [(0, 0), (1, 0), (5, -3), (END, -END)]:
                self.assertEqual(by(r, *x, 0, 0), [-1])

    def test_no_ring(self):
        for r in NO_RINGS:
            for x in ((0, 0), (1, 0), (3, -4), (END, -END)):
                self.assertEqual(by(r, *x, 0, 0), [-1])
                self.assertEqual(by(r, *x, 2, 5), [-1])
                self.assertEqual(by(r, *x, -END, END), [-1])
