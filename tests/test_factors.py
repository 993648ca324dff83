import unittest

from ringfive.rings import factors, form, kind, norm
from tests import model, theory
from tests.model import END, NO_RINGS, RINGS, UNITS
from tests.theory import LARGEST, NOT_SMALL, PRIME_NORM

SQUARE_OF_A_PRIME = ((99999, -31360), (99967, 78366), (99997, -25032), (-99991, 41664), (-99986, -78645))
TWO_LARGE = (
    ((100000, 99979), [25453, 785597]),
    ((-99843, -100000), [21851, 1371499]),
    ((100000, 99981), [43753, 685537]),
    ((-99983, -100000), [18593, 2151073]),
    ((100000, 99973), [20287, 2463701]),
)


class Factors(unittest.TestCase):
    def check(self, r, x):
        told = factors(r, *x)
        rows = [tuple(told[k:k + 3]) for k in range(3, len(told), 3)]
        self.assertEqual(len(told), 3 + 3 * told[0], (r, x))
        self.assertIn(tuple(told[1:3]), UNITS[r], (r, x))
        made = tuple(told[1:3])
        for a, b, often in rows:
            # The form of a small number need not be small.
            self.assertEqual(theory.kind(r, (a, b)), 2, (r, x))
            small = max(abs(a), abs(b)) <= LARGEST
            self.assertEqual(kind(r, a, b), [2 if small else -2], (r, x))
            self.assertEqual(form(r, a, b), [0, a, b, 0], (r, x))
            self.assertGreater(often, 0)
            for step in range(often):
                made = model.times(r, made, (a, b))
        self.assertEqual(made, x, (r, x))
        places = [(norm(r, a, b)[1], a, b) for a, b, often in rows]
        self.assertEqual(places, sorted(set(places)), (r, x))
        return rows

    def test_told_factors(self):
        told = {
            (0, 2, 0): [1, 0, -1, 1, 1, 2],
            (0, 60, 0): [4, -1, 0, 1, 1, 4, 2, -1, 1, 2, 1, 1, 3, 0, 1],
            (1, 6, 0): [3, -1, 0, 0, 1, 2, 1, -1, 1, 1, 1, 1],
            (2, 3, 0): [1, 0, 1, 2, -1, 2],
            (2, 8, 0): [1, 1, 0, 2, 0, 3],
            (3, 2, 0): [2, 1, 0, 0, 1, 1, 1, -1, 1],
            (4, 3, 0): [2, 1, 0, 0, 1, 1, 1, -1, 1],
            (4, -11, 0): [1, 1, 0, 1, -2, 2],
        }
        for arguments, answer in told.items():
            self.assertEqual(factors(*arguments), answer, arguments)

    def test_units_have_none(self):
        for r in RINGS:
            for unit in UNITS[r]:
                self.assertEqual(factors(r, *unit), [0, *unit])

    def test_small_numbers(self):
        for r in RINGS:
            for x in [x for x in model.pairs(range(-12, 13)) if x != (0, 0)]:
                self.check(r, x)

    def test_each_prime_is_told_as_often_as_it_divides(self):
        for r in RINGS:
            primes = [x for x, size in model.up_to_norm(r, 30) if theory.kind(r, x) == 2 and form(r, *x)[3] == 0]
            for x in [x for x in model.pairs(range(-5, 6)) if x != (0, 0)]:
                told = {row[:2]: row[2] for row in self.check(r, x)}
                for prime in primes:
                    often, power = 0, prime
                    while model.divides(r, power, x):
                        often, power = often + 1, model.times(r, power, prime)
                    self.assertEqual(told.get(prime, 0), often, (r, x, prime))

    def test_primes_are_their_own_factors(self):
        for r in RINGS:
            for x in [x for x, size in model.up_to_norm(r, 60) if kind(r, *x) == [2]]:
                self.assertEqual([row[:2] for row in self.check(r, x)], [model.form(r, x)])

    def test_largest_parts(self):
        for r in RINGS:
            for a in (LARGEST, -LARGEST):
                for b in (*range(-LARGEST, -LARGEST + 5), 0, 1, -1, 60, LARGEST - 1, LARGEST):
                    self.check(r, (a, b))
                    self.check(r, (b, a))

    def test_norm_is_a_prime(self):
        for r in RINGS:
            self.assertTrue(theory.is_whole_prime(model.norm(r, PRIME_NORM[r])))
            rows = self.check(r, PRIME_NORM[r])
            self.assertEqual(rows, [(*model.form(r, PRIME_NORM[r]), 1)])

    def test_norm_is_the_square_of_a_prime(self):
        for r in RINGS:
            rows = self.check(r, SQUARE_OF_A_PRIME[r])
            self.assertEqual([row[2] for row in rows], [2])
            self.assertTrue(theory.is_whole_prime(norm(r, *rows[0][:2])[1]))
            inert = theory.NEAR_THE_END[r]
            self.assertEqual(factors(r, -inert, 0)[3:], [inert, 0, 1])
            self.check(r, (-inert, 0))
            split = [p for p in theory.primes_to(5000) if theory.way_of(r, p) == theory.SPLIT][-1]
            rows = self.check(r, (split, 0))
            self.assertEqual([(norm(r, *row[:2])[1], row[2]) for row in rows], [(split, 1), (split, 1)])

    def test_norm_is_a_product_of_two_large_primes(self):
        for r in RINGS:
            x, norms = TWO_LARGE[r]
            rows = self.check(r, x)
            self.assertEqual([norm(r, *row[:2])[1] for row in rows], norms)
            self.assertEqual([row[2] for row in rows], [1, 1])

    def test_many_powers(self):
        for r in RINGS:
            for x in ((65536, 0), (0, -65536), (59049, 0), (-16807, 0), (14641, 0), (78125, 0), (75600, 0)):
                self.check(r, x)

    def test_x_is_0(self):
        for r in RINGS:
            self.assertEqual(factors(r, 0, 0), [-1])

    def test_not_small(self):
        for r in RINGS:
            for a, b in NOT_SMALL:
                self.assertEqual(factors(r, a, b), [-2], (r, a, b))
                self.assertEqual(factors(r, b, a), [-2], (r, b, a))

    def test_no_ring(self):
        for r in NO_RINGS:
            for x in ((0, 0), (1, 0), (3, -4), (END, -END), (-LARGEST - 1, 0)):
                self.assertEqual(factors(r, *x), [-1])
