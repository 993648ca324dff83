"""P1 to P6, told by the program's calls together, at ordinary numbers and at the edges."""

import unittest

from ringfive import rings
from tests import model, theory
from tests.model import END, RINGS, UNITS

NUMBERS = model.ORDINARY + [
    (1, 0), (0, 1), (-1, 1), (2, 2), (0, -6), (END, END), (-END, END - 1), (END, 0), (0, -END), (-END, -1), (7, END),
]
MANY_SMALL = [(12, 5), (-30, 45), (0, 17), (-23, 0), (60, -60), (1, 0), (0, -1), (100, 99), (-7, -64), (100, 0), (9, 9)]


def times(r, x, y):
    return tuple(rings.times(r, *x, *y)[1:])


def norm(r, x):
    return rings.norm(r, *x)[1]


def rest(r, x, y):
    return tuple(rings.by(r, *x, *y)[3:])


def plus(x, y):
    return x[0] + y[0], x[1] + y[1]


def minus(x, y):
    return x[0] - y[0], x[1] - y[1]


def rows_of(told):
    return [(tuple(told[k:k + 2]), told[k + 2]) for k in range(3, len(told), 3)]


class Promises(unittest.TestCase):
    def test_p1_quotient_and_least_rest(self):
        for r in RINGS:
            for x in NUMBERS + [(0, 0)]:
                for y in NUMBERS:
                    told = rings.by(r, *x, *y)
                    q, left = tuple(told[1:3]), tuple(told[3:])
                    self.assertEqual(plus(times(r, q, y), left), x)
                    self.assertLess(norm(r, left), norm(r, y))
                    for step in model.pairs((-1, 0, 1)):
                        self.assertGreaterEqual(norm(r, minus(left, times(r, step, y))), norm(r, left), (r, x, y))

    def test_p2_divisor_is_made_of_both(self):
        for r in RINGS:
            for x in NUMBERS + [(0, 0)]:
                for y in NUMBERS:
                    told = rings.gcd(r, *x, *y)
                    d, u, v = tuple(told[1:3]), tuple(told[3:5]), tuple(told[5:])
                    self.assertEqual(plus(times(r, u, x), times(r, v, y)), d)
                    self.assertEqual(rest(r, x, d), (0, 0))
                    self.assertEqual(rest(r, y, d), (0, 0))
                    self.assertEqual(rings.form(r, *d), [0, *d, 0])

    def test_p3_factors_make_the_number(self):
        for r in RINGS:
            for x in MANY_SMALL:
                told = rings.factors(r, *x)
                made = tuple(told[1:3])
                for prime, often in rows_of(told):
                    made = times(r, made, tuple(rings.power(r, *prime, often)[1:]))
                    self.assertEqual(rings.kind(r, *prime), [2])
                self.assertEqual(made, x, (r, x))

    def test_p3_no_other_way(self):
        # The factors of a product are those of both, and the unit is the product of the units.
        for r in RINGS:
            for x in MANY_SMALL:
                for y in MANY_SMALL:
                    first, second = rings.factors(r, *x), rings.factors(r, *y)
                    together = dict(rows_of(first))
                    for prime, often in rows_of(second):
                        together[prime] = together.get(prime, 0) + often
                    told = rings.factors(r, *times(r, x, y))
                    self.assertEqual(dict(rows_of(told)), together, (r, x, y))
                    self.assertEqual(tuple(told[1:3]), times(r, tuple(first[1:3]), tuple(second[1:3])), (r, x, y))

    def test_p4_all_numbers_of_a_norm(self):
        for r in RINGS:
            by_norm = {}
            for x, size in model.up_to_norm(r, 400):
                by_norm.setdefault(size, []).append(x)
            for n in range(1, 401):
                told = rings.norms(r, n)
                forms = [tuple(told[k:k + 2]) for k in range(1, len(told), 2)]
                turned = [times(r, x, tuple(rings.unit(r, k)[1:])) for x in forms for k in range(len(UNITS[r]))]
                self.assertEqual(sorted(turned), sorted(by_norm.get(n, [])), (r, n))

    def test_p4_products_of_norms(self):
        # Two norms without a common divisor: each pair of numbers makes one.
        for r in RINGS:
            for n, other in ((1, 77), (25, 9), (49, 121), (64, 81), (9973, 99991), (2 ** 15, 3 ** 9)):
                both = rings.norms(r, n * other)[0]
                self.assertEqual(both, rings.norms(r, n)[0] * rings.norms(r, other)[0])

    def test_p4_whole_primes(self):
        for r in RINGS:
            for p in theory.primes_to(500):
                told = rings.whole(r, p)
                sizes = {0: [0], 1: [2], 2: [1]}[told[0]]
                self.assertEqual(rings.norms(r, p)[:1], sizes, (r, p))
                self.assertEqual([prime for prime, often in rows_of(rings.factors(r, p, 0))],
                                 [tuple(told[k:k + 2]) for k in range(1, len(told), 2)], (r, p))

    def test_p5_rests_hang_on_the_class_alone(self):
        for r in RINGS:
            for m in NUMBERS:
                for x in ((3, -4), (0, 0), (1, 1)):
                    other = plus(x, times(r, m, (-5, 12)))
                    self.assertEqual(rest(r, x, m), rest(r, other, m))
                    self.assertEqual(rings.inverse(r, *x, *m), rings.inverse(r, *other, *m))
                    for n in (0, 1, 5, END):
                        self.assertEqual(rings.powrest(r, *x, n, *m), rings.powrest(r, *other, n, *m))

    def test_p5_rests_differ_between_classes(self):
        for r in RINGS:
            for m in ((3, 1), (-4, 0), (0, 3), (2, -5)):
                seen = {}
                for x in model.pairs(range(-9, 10)):
                    seen.setdefault(rest(r, x, m), x)
                self.assertEqual(len(seen), norm(r, m), (r, m))

    def test_p5_an_inverse_is_one(self):
        for r in RINGS:
            for x in NUMBERS:
                for m in NUMBERS:
                    told = rings.inverse(r, *x, *m)
                    alone = rings.gcd(r, *x, *m)[1:3] == [1, 0]
                    self.assertEqual(len(told) == 3, alone, (r, x, m))
                    if alone:
                        y = tuple(told[1:])
                        self.assertEqual(rest(r, minus(times(r, x, y), (1, 0)), m), (0, 0))
                        self.assertEqual(rest(r, y, m), y)

    def test_p5_count_is_of_those_with_an_inverse(self):
        for r in RINGS:
            for m in ((3, 1), (-4, 0), (0, 3), (2, -5), (1, 0), (0, 6)):
                seen = {rest(r, x, m): True for x in model.pairs(range(-12, 13))}
                self.assertEqual(len(seen), norm(r, m))
                inverses = [x for x in seen if rings.inverse(r, *x, *m)[0] == 0]
                self.assertEqual(rings.count(r, *m), [0, len(inverses)], (r, m))
                for x in inverses:
                    power = rings.powrest(r, *x, len(inverses), *m)
                    self.assertEqual(tuple(power[1:]), rest(r, (1, 0), m))

    def test_p5_symbols_multiply(self):
        for r in RINGS:
            primes = [p for p in model.pairs(range(-4, 5)) if rings.symbol(r, 1, 0, *p)[0] == 0]
            self.assertGreater(len(primes), 10)
            for p in primes:
                symbols = {x: tuple(rings.symbol(r, *x, *p)[1:]) for x in MANY_SMALL}
                for x in MANY_SMALL:
                    for y in MANY_SMALL[::4]:
                        told = tuple(rings.symbol(r, *times(r, x, y), *p)[1:])
                        self.assertEqual(told, times(r, symbols[x], symbols[y]), (r, x, y, p))

    def test_p6_what_is_told_to_meet_meets_both(self):
        for r in RINGS:
            for m in NUMBERS:
                for n in NUMBERS[::2]:
                    x, y = (5, -END), (END, 12)
                    told = rings.meet(r, *x, *m, *y, *n)
                    divisor = rings.gcd(r, *m, *n)[1:3]
                    self.assertEqual(told == [-3], rest(r, minus(x, y), divisor) != (0, 0), (r, m, n))
                    if told != [-3]:
                        z, multiple = tuple(told[1:3]), tuple(told[3:])
                        self.assertEqual(rest(r, minus(z, x), m), (0, 0))
                        self.assertEqual(rest(r, minus(z, y), n), (0, 0))
                        self.assertEqual(rest(r, z, multiple), z)
                        self.assertEqual(rings.form(r, *multiple), [0, *multiple, 0])

    def test_root_of_power(self):
        for r in RINGS:
            for x in MANY_SMALL:
                square = rings.power(r, *x, 2)[1:]
                self.assertEqual(rings.root(r, *square), [0, *max(x, minus((0, 0), x))])
