import unittest

from ringfive.rings import form, norm, norms
from tests import model, theory
from tests.model import END, NO_RINGS, RINGS

LARGEST = 10 ** 9
SEARCHED = 3000
# Of each ring a norm below 10^9 with many numbers: squares, cubes and products of small primes that split.
MANY = (5 ** 3 * 13 * 13 * 17 * 29 * 37, 3 ** 4 * 11 ** 2 * 17 * 19 * 41, 7 ** 2 * 13 * 19 * 31 * 37 * 43,
        2 ** 6 * 11 ** 2 * 23 * 29 * 37, 3 ** 5 * 5 ** 3 * 23 * 31 * 37)


def forms_by_search(r):
    found = {n: [] for n in range(1, SEARCHED + 1)}
    for x, size in model.up_to_norm(r, SEARCHED):
        if size > 0 and model.form(r, x) == x:
            found[size].append(x)
    return found


class Norms(unittest.TestCase):
    def check(self, r, n):
        told = norms(r, n)
        numbers = [tuple(told[k:k + 2]) for k in range(1, len(told), 2)]
        self.assertEqual(len(told), 1 + 2 * told[0], (r, n))
        self.assertEqual(told[0], theory.how_many_of_norm(r, n), (r, n))
        self.assertEqual(numbers, sorted(set(numbers)), (r, n))
        for x in numbers:
            self.assertEqual(norm(r, *x), [0, n], (r, n))
            self.assertEqual(form(r, *x), [0, *x, 0], (r, n))
        return told[0]

    def test_told_numbers(self):
        told = {
            (0, 1): [1, 1, 0], (0, 2): [1, 1, 1], (0, 3): [0], (0, 25): [3, 4, -3, 4, 3, 5, 0],
            (1, 2): [1, 0, 1], (1, 9): [3, 1, -2, 1, 2, 3, 0], (1, 5): [0], (2, 7): [2, 3, -2, 3, -1],
            (2, 2): [0], (3, 2): [2, 0, 1, 1, -1], (3, 7): [1, 1, -2], (4, 9): [3, 2, 1, 3, -1, 3, 0],
        }
        for arguments, answer in told.items():
            self.assertEqual(norms(*arguments), answer, arguments)

    def test_search_over_all_numbers(self):
        for r in RINGS:
            for n, numbers in forms_by_search(r).items():
                flat = [part for x in sorted(numbers) for part in x]
                self.assertEqual(norms(r, n), [len(numbers), *flat], (r, n))

    def test_no_number_has_it(self):
        for r, n in ((0, 3), (0, 999999999), (1, 5), (1, LARGEST), (2, 2), (2, LARGEST), (3, 3), (3, LARGEST), (4, 2)):
            self.assertEqual(norms(r, n), [0], (r, n))

    def test_many_numbers_have_it(self):
        for r in RINGS:
            self.assertLess(MANY[r], LARGEST)
            self.assertGreater(self.check(r, MANY[r]), 40)

    def test_largest(self):
        for r in RINGS:
            for n in range(LARGEST - 12, LARGEST + 1):
                self.check(r, n)

    def test_large_primes_and_squares(self):
        for r in RINGS:
            primes = [p for p in range(LARGEST - 500, LARGEST) if theory.is_whole_prime(p)]
            self.assertEqual({norms(r, p)[0] for p in primes}, {0, 2})
            for n in [*primes, 31622 ** 2, 31607 ** 2, 2 ** 29, 3 ** 18, 7 ** 10, 11 ** 8]:
                self.check(r, n)

    def test_below_1(self):
        for r in RINGS:
            for n in (0, -1, -2, -LARGEST, -END):
                self.assertEqual(norms(r, n), [-1])

    def test_too_large(self):
        for r in RINGS:
            for n in (LARGEST + 1, LARGEST + 2, END - 1, END):
                self.assertEqual(norms(r, n), [-2])

    def test_no_ring(self):
        for r in NO_RINGS:
            for n in (-END, 0, 1, 5, LARGEST, LARGEST + 1, END):
                self.assertEqual(norms(r, n), [-1])
