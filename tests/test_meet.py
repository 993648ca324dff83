import unittest

from ringfive.rings import meet
from tests import model
from tests.model import END, NO_RINGS, RINGS, UNITS

MODULI = [m for m in model.pairs(range(-2, 3)) if m != (0, 0)]
ENDS = [(END, END), (-END, END), (END, -END + 1), (-END, 0), (0, END), (END - 1, 1 - END), (7, -END), (-3, 2)]


def class_of(r, z, m):
    """The same for two numbers just if m divides their difference."""
    top, below = model.over(r, z, m)
    return top[0] % below, top[1] % below


class Meet(unittest.TestCase):
    def check_met(self, r, x, m, y, n, told):
        self.assertEqual((len(told), told[0]), (5, 0), (r, x, m, y, n))
        z, multiple = tuple(told[1:3]), tuple(told[3:])
        self.assertTrue(model.divides(r, m, model.minus(z, x)), (r, x, m, y, n))
        self.assertTrue(model.divides(r, n, model.minus(z, y)), (r, x, m, y, n))
        self.assertEqual(model.form(r, multiple), multiple, (r, x, m, y, n))
        self.assertEqual(model.rest(r, z, multiple), z, (r, x, m, y, n))
        divisor = model.gcd(r, m, n)[0]
        product = model.form(r, model.times(r, m, n))
        self.assertEqual(model.form(r, model.times(r, multiple, divisor)), product, (r, x, m, y, n))

    def test_told_meetings(self):
        told = {
            (0, 1, 0, 2, 0, 2, 0, 3, 0): [0, -1, 0, 6, 0],
            (0, 1, 0, 2, 0, 0, 0, 4, 0): [-3],
            (0, 1, 0, 1, 1, 0, 1, 2, 0): [0, 0, 1, 2, 0],
            (1, 0, 0, 0, 1, 1, 0, 3, 0): [0, -2, 0, 0, 3],
            (2, 2, 0, 3, 0, 3, 0, 5, 0): [0, -7, 0, 15, 0],
            (3, 0, 0, 0, 1, 1, 0, 1, -1): [0, 0, 1, 2, 0],
            (4, 5, 0, 1, 0, 7, 0, -1, 0): [0, 0, 0, 1, 0],
        }
        for arguments, answer in told.items():
            self.assertEqual(meet(*arguments), answer, arguments)

    def check_all(self, r, m, n, numbers, rests):
        pairs = {}
        for z in rests:
            pairs[class_of(r, z, m), class_of(r, z, n)] = z
        self.assertEqual(len(pairs), len(rests))
        for x in numbers:
            for y in numbers:
                z = pairs.get((class_of(r, x, m), class_of(r, y, n)))
                told = meet(r, *x, *m, *y, *n)
                self.assertEqual(told[:3], [0, *z] if z else [-3], (r, x, m, y, n))

    def test_small_numbers_by_search(self):
        numbers = [(0, 0), (1, 0), (0, 1), (-1, 2), (2, 2), (-2, -1)]
        for r in RINGS:
            rests = {}
            for m in MODULI:
                for n in MODULI:
                    multiple = tuple(meet(r, 0, 0, *m, 0, 0, *n)[3:])
                    self.check_met(r, (0, 0), m, (0, 0), n, [0, 0, 0, *multiple])
                    if multiple not in rests:
                        rests[multiple] = model.own_rests(r, multiple)
                    self.check_all(r, m, n, numbers, rests[multiple])

    def test_every_pair_of_small_classes(self):
        numbers = model.pairs(range(-2, 3))
        for r in RINGS:
            for m, n in (((2, 0), (3, 0)), ((-2, 2), (0, 4)), ((1, 2), (-3, 1)), ((2, 1), (2, 1)), ((3, -3), (-2, 0))):
                multiple = tuple(meet(r, 0, 0, *m, 0, 0, *n)[3:])
                self.check_met(r, (0, 0), m, (0, 0), n, [0, 0, 0, *multiple])
                self.check_all(r, m, n, numbers, model.own_rests(r, multiple))

    def test_divisor_does_not_divide_the_difference(self):
        for r in RINGS:
            for d in ((2, 0), (1, -2), (3, 1), (0, 3)):
                m, n = model.times(r, d, (7, 3)), model.times(r, d, (2, 9))
                for x in ((0, 0), (5, -3), (10 ** 9, 10 ** 9)):
                    apart = model.plus(x, model.times(r, d, (4, -7)))
                    self.check_met(r, x, m, apart, n, meet(r, *x, *m, *apart, *n))
                    self.assertEqual(meet(r, *x, *m, *model.plus(apart, (1, 0)), *n), [-3])

    def test_units(self):
        for r in RINGS:
            for unit in UNITS[r]:
                for other in UNITS[r]:
                    self.assertEqual(meet(r, 5, -3, *unit, END, END, *other), [0, 0, 0, 1, 0])
                told = meet(r, 5, -3, *unit, 2, 9, -4, 1)
                last = model.form(r, (-4, 1))
                self.assertEqual(told, [0, *model.rest(r, (2, 9), last), *last])

    def test_m_and_n_alike(self):
        for r in RINGS:
            for m in ((5, -3), (-4, 0), (0, 7)):
                last = model.form(r, m)
                self.assertEqual(meet(r, 20, 9, *m, 20, 9, *m), [0, *model.rest(r, (20, 9), last), *last])
                self.assertEqual(meet(r, 20, 9, *m, 21, 9, *m), [-3])

    def test_ends_of_the_range(self):
        for r in RINGS:
            found = 0
            for k, m in enumerate(ENDS):
                for n in ENDS:
                    x, y = ENDS[k - 1], ENDS[k - 3]
                    told = meet(r, *x, *m, *y, *n)
                    met = model.divides(r, model.gcd(r, m, n)[0], model.minus(x, y))
                    self.assertEqual(told == [-3], not met, (r, x, m, y, n))
                    if met:
                        found += 1
                        self.check_met(r, x, m, y, n, told)
            self.assertGreater(found, 10)

    def test_m_or_n_0(self):
        for r in RINGS:
            for x in ((0, 0), (3, -4), (END, END)):
                self.assertEqual(meet(r, *x, 0, 0, 1, 2, 3, 4), [-1])
                self.assertEqual(meet(r, *x, 3, 4, 1, 2, 0, 0), [-1])
                self.assertEqual(meet(r, *x, 0, 0, *x, 0, 0), [-1])
                self.assertEqual(meet(r, *x, 2, 0, 0, 0, 0, 0), [-1])

    def test_no_ring(self):
        for r in NO_RINGS:
            for m in ((0, 0), (1, 0), (5, 2), (-END, END)):
                self.assertEqual(meet(r, 3, -4, *m, 1, 1, 2, 2), [-1])
                self.assertEqual(meet(r, 3, -4, 2, 2, 1, 1, *m), [-1])
