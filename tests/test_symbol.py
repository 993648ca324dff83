import unittest

from ringfive.rings import symbol
from tests import model, theory
from tests.model import END, NO_RINGS, RINGS, UNITS
from tests.theory import LARGEST, NOT_SMALL

SMALL = model.pairs(range(-4, 5))
ENDS = [(END, END), (-END, END), (END, -END + 1), (-END, 0), (0, END), (7, -END)]


def primes_with_symbols(r, limit):
    return [
        p for p, size in model.up_to_norm(r, limit)
        if theory.kind(r, p) == 2 and (size - 1) % len(UNITS[r]) == 0
    ]


def by_the_words(r, x, p):
    """x multiplied out, with no rest taken but part by part by N(p), which p divides."""
    if model.divides(r, p, x):
        return (0, 0)
    size = model.norm(r, p)
    result = (1, 0)
    for step in range((size - 1) // len(UNITS[r])):
        a, b = model.times(r, result, x)
        result = (a % size, b % size)
    fitting = [u for u in UNITS[r] if model.divides(r, p, model.minus(result, u))]
    if len(fitting) != 1:
        raise ValueError((r, x, p, fitting))
    return fitting[0]


class Symbol(unittest.TestCase):
    def test_told_symbols(self):
        # By 5's prime 2 + w in the ring 0: x^1, and w is -2, so 2 is -w. By 3: x^2, and 2 w is -w.
        told = {
            (0, 2, 0, 2, 1): [0, 0, -1], (0, 1, 0, 2, 1): [0, 1, 0], (0, 1, 1, 3, 0): [0, 0, -1],
            (0, 2, 0, 3, 0): [0, 1, 0],
            (1, 2, 0, 5, 0): [0, 1, 0], (1, 0, 1, 5, 0): [0, -1, 0], (2, 0, 1, 3, -1): [0, 0, 1],
            (2, 3, 0, 3, -1): [0, 0, 1], (3, 2, 0, 3, 0): [0, 1, 0], (4, -1, 0, 0, 1): [0, -1, 0],
        }
        for arguments, answer in told.items():
            r, x, p = arguments[0], arguments[1:3], arguments[3:]
            self.assertEqual(symbol(*arguments), answer, arguments)
            self.assertEqual(answer[1:], list(by_the_words(r, x, p)), arguments)

    def test_small_numbers(self):
        for r in RINGS:
            for p in primes_with_symbols(r, 50):
                for x in SMALL:
                    self.assertEqual(symbol(r, *x, *p), [0, *by_the_words(r, x, p)], (r, x, p))

    def test_p_divides_x(self):
        for r in RINGS:
            for p in primes_with_symbols(r, 40) + [(theory.NEAR_THE_END[r], 0)]:
                for q in ((0, 0), (1, 0), (-2, 3), (10 ** 9, -5)):
                    self.assertEqual(symbol(r, *model.times(r, p, q), *p), [0, 0, 0])

    def test_symbols_multiply(self):
        numbers = [x for x in model.ORDINARY if max(abs(x[0]), abs(x[1])) < 1000] + SMALL[::7]
        for r in RINGS:
            for p in primes_with_symbols(r, 60)[::3] + [(theory.NEAR_THE_END[r], 0)]:
                symbols = {x: symbol(r, *x, *p)[1:] for x in numbers + [p]}
                for x in numbers[::2] + [p]:
                    for y in numbers[::3]:
                        product = model.times(r, symbols[x], symbols[y])
                        self.assertEqual(symbol(r, *model.times(r, x, y), *p), [0, *product], (r, x, y, p))

    def test_hangs_on_the_class_alone(self):
        for r in RINGS:
            for p in primes_with_symbols(r, 60):
                for x in ((2, -3), (1, 1), (-1, 0)):
                    other = model.plus(x, model.times(r, p, (10 ** 9, -77)))
                    self.assertEqual(symbol(r, *x, *p), symbol(r, *other, *p))

    def test_squares_in_rings_with_two_units(self):
        for r in (1, 3, 4):
            for p in primes_with_symbols(r, 30):
                numbers = model.pairs(range(-5, 6))
                squares = [model.times(r, z, z) for z in numbers]
                for x in model.pairs(range(-2, 3)):
                    if not model.divides(r, p, x):
                        met = any(model.divides(r, p, model.minus(x, square)) for square in squares)
                        self.assertEqual(symbol(r, *x, *p), [0, 1 if met else -1, 0], (r, x, p))

    def test_ends_of_the_range(self):
        for r in RINGS:
            for p in primes_with_symbols(r, 30) + [(theory.NEAR_THE_END[r], 0)]:
                for x in ENDS:
                    told = symbol(r, *x, *p)
                    # Multiplied out of x's parts by N(p), which leave the same rest.
                    size = model.norm(r, p)
                    near = (x[0] % size, x[1] % size)
                    self.assertEqual(told, symbol(r, *near, *p))
                    if size < 100:
                        self.assertEqual(told, [0, *by_the_words(r, x, p)], (r, x, p))

    def test_largest_primes(self):
        for r in RINGS:
            p = theory.PRIME_NORM[r]
            size = model.norm(r, p)
            if (size - 1) % len(UNITS[r]) == 0:
                # In a field of size whole numbers w is the root that p gives: p_a + p_b w is 0.
                w = -p[0] * pow(p[1], -1, size) % size
                for x in ENDS + model.ORDINARY:
                    unit = symbol(r, *x, *p)[1:]
                    reached = pow(x[0] + x[1] * w, (size - 1) // len(UNITS[r]), size)
                    self.assertEqual((unit[0] + unit[1] * w - reached) % size, 0, (r, x))
                    self.assertIn(tuple(unit), UNITS[r])

    def test_e_does_not_divide(self):
        primes = (
            ((1, 1), (-1, 1)), ((0, 1), (0, -1)), ((2, -1), (1, 1), (2, 0), (0, 2)), ((0, 1), (1, -1)),
            ((2, 0), (-2, 0)),
        )
        for r in RINGS:
            for p in primes[r]:
                self.assertEqual(theory.kind(r, p), 2)
                for x in ((0, 0), (1, 0), (5, -3), (END, -END)):
                    self.assertEqual(symbol(r, *x, *p), [-1], (r, x, p))

    def test_no_prime(self):
        for r in RINGS:
            for p in [p for p in model.pairs(range(-6, 7)) if theory.kind(r, p) != 2]:
                self.assertEqual(symbol(r, 3, 1, *p), [-1], (r, p))
            for p in ((LARGEST, LARGEST), (-LARGEST, 0), (9, 0), (0, 15)):
                self.assertEqual(symbol(r, END, -END, *p), [-1], (r, p))

    def test_not_small(self):
        for r in RINGS:
            for a, b in NOT_SMALL + [(100003, 0), (100004, 0)]:
                self.assertEqual(symbol(r, 3, 1, a, b), [-2], (r, a, b))
                self.assertEqual(symbol(r, 0, 0, b, a), [-2], (r, b, a))

    def test_no_ring(self):
        for r in NO_RINGS:
            for p in ((0, 0), (1, 0), (3, 0), (3, -4), (END, -END), (-LARGEST - 1, 0)):
                self.assertEqual(symbol(r, 2, 1, *p), [-1])
