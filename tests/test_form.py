import unittest

from ringfive.rings import form, unit
from tests import model
from tests.model import END, NO_RINGS, RINGS, UNITS

WITH_A_PART_0 = [(0, 5), (0, -5), (5, 0), (-5, 0), (0, END), (0, -END), (END, 0), (-END, 0)]
EVERY_SIGN = [(a, b) for a in (-9, -4, 4, 9) for b in (-9, -4, 4, 9)]


class Form(unittest.TestCase):
    def check(self, r, x):
        told = form(r, *x)
        last = model.form(r, x)
        self.assertEqual(told[:3], [0, *last], (r, x))
        steps = [k for k in range(len(UNITS[r])) if model.times(r, x, UNITS[r][k]) == last]
        self.assertEqual(told[3:], [steps[0]], (r, x))

    def test_told_forms(self):
        told = {
            (0, 2, 3): [0, 3, -2, 3], (0, 3, 2): [0, 3, 2, 0], (0, 3, -3): [0, 3, 3, 1], (0, -3, 2): [0, 3, -2, 2],
            (1, 0, -3): [0, 0, 3, 1], (1, -2, 3): [0, 2, -3, 1], (1, 2, -3): [0, 2, -3, 0], (1, 0, 3): [0, 0, 3, 0],
            (2, 2, 3): [0, 5, -2, 5], (2, 3, -3): [0, 3, 0, 1], (2, 0, 3): [0, 3, 0, 5], (2, -1, -1): [0, 2, -1, 2],
            (3, -1, 7): [0, 1, -7, 1], (3, 0, 7): [0, 0, 7, 0], (4, 0, -1): [0, 0, 1, 1], (4, 5, -8): [0, 5, -8, 0],
        }
        for arguments, answer in told.items():
            self.assertEqual(form(*arguments), answer, arguments)

    def test_of_0(self):
        for r in RINGS:
            self.assertEqual(form(r, 0, 0), [0, 0, 0, 0])

    def test_of_units(self):
        for r in RINGS:
            for k, u in enumerate(UNITS[r]):
                self.assertEqual(form(r, *u), [0, 1, 0, -k % len(UNITS[r])])

    def test_against_all_products_with_units(self):
        for r in RINGS:
            for x in model.ALL + WITH_A_PART_0 + EVERY_SIGN + model.pairs(range(-9, 10)):
                self.check(r, x)

    def test_k_is_the_least(self):
        for r in RINGS:
            for x in model.ALL + EVERY_SIGN:
                answer, a, b, k = form(r, *x)
                reached = [j for j in range(k + 1) if model.times(r, x, unit(r, j)[1:]) == (a, b)]
                self.assertEqual(reached, [k], (r, x))

    def test_alike_for_all_that_differ_by_a_unit(self):
        for r in RINGS:
            for x in model.ORDINARY + model.SMALL:
                forms = [form(r, *other)[1:3] for other in model.all_turns(r, x)]
                self.assertEqual(forms, [forms[0]] * len(forms))

    def test_form_is_its_own(self):
        for r in RINGS:
            for x in model.ORDINARY + model.SMALL:
                own = form(r, *x)[1:3]
                self.assertEqual(form(r, *own), [0, *own, 0])

    def test_no_ring(self):
        for r in NO_RINGS:
            for x in ((0, 0), (1, 0), (3, -4), (END, -END), (-END, END)):
                self.assertEqual(form(r, *x), [-1])
