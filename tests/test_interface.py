import contextlib
import inspect
import io
import unittest

from ringfive import rings
from tests.model import END, NO_RINGS

# Of each call its parameters, and calls of it with how many numbers they give back.
CALLS = {
    "times": (
        ["r", "x_a", "x_b", "y_a", "y_b"],
        {(0, 1, 2, 3, 4): 3, (2, -5, 7, 0, 1): 3, (4, END, -END, -END, END): 3, (1, 0, 0, 0, 0): 3},
    ),
    "mirror": (["r", "x_a", "x_b"], {(0, 1, 2): 3, (2, -5, 7): 3, (4, END, -END): 3, (1, 0, 0): 3}),
    "norm": (["r", "x_a", "x_b"], {(0, 1, 2): 2, (2, -5, 7): 2, (4, END, -END): 2, (1, 0, 0): 2}),
    "unit": (["r", "k"], {(0, 1): 3, (2, -7): 3, (4, END): 3, (1, -END): 3, (3, 0): 3}),
    "form": (["r", "x_a", "x_b"], {(0, 1, 2): 4, (2, -5, 7): 4, (4, -END, -END): 4, (1, 0, 0): 4}),
    "by": (
        ["r", "x_a", "x_b", "y_a", "y_b"],
        {(0, 1, 2, 3, 4): 5, (2, -5, 7, 0, 1): 5, (4, END, -END, -END, 1): 5, (1, 0, 0, 1, 0): 5, (1, 2, 3, 0, 0): 1},
    ),
    "gcd": (
        ["r", "x_a", "x_b", "y_a", "y_b"],
        {(0, 1, 2, 3, 4): 7, (2, -5, 7, 0, 1): 7, (4, END, -END, -END, 1): 7, (1, 0, 0, 0, 0): 7, (3, 2, 3, 0, 0): 7},
    ),
    "kind": (["r", "x_a", "x_b"], {(0, 0, 0): 1, (2, 1, 0): 1, (4, 1, 1): 1, (1, 10, 5): 1, (3, END, 0): 1}),
    "factors": (
        ["r", "x_a", "x_b"],
        {(0, 60, 0): 15, (2, 1, 0): 3, (4, 1, 1): 6, (1, 6, 0): 12, (3, END, 0): 1, (2, 0, 0): 1, (0, 100000, 99979): 9},
    ),
    "norms": (["r", "n"], {(0, 25): 7, (2, 2): 1, (4, 10 ** 9): 1, (1, 9): 7, (3, 0): 1, (3, END): 1, (2, 1): 3}),
    "whole": (["r", "p"], {(0, 5): 5, (2, 2): 3, (4, 11): 3, (1, 9): 1, (3, -END): 1, (3, END): 1}),
    "root": (["r", "x_a", "x_b"], {(0, 0, 2): 3, (2, 0, 0): 3, (4, -3, 0): 1, (1, -2, 0): 3, (3, END, 0): 3}),
    "power": (
        ["r", "x_a", "x_b", "n"],
        {(0, 1, 2, 3): 3, (2, -5, 7, 0): 3, (4, END, -END, 64): 3, (1, 0, 0, 0): 3, (3, 1, 1, 65): 1, (3, 1, 1, -1): 1},
    ),
    "powrest": (
        ["r", "x_a", "x_b", "n", "m_a", "m_b"],
        {(0, 1, 2, 3, 4, 5): 3, (2, -5, 7, END, 3, 1): 3, (4, END, -END, 64, -END, 1): 3, (1, 2, 3, 4, 0, 0): 1,
         (3, 1, 1, -1, 2, 0): 1, (3, 0, 0, 0, 1, 0): 3},
    ),
    "inverse": (
        ["r", "x_a", "x_b", "m_a", "m_b"],
        {(0, 1, 2, 3, 4): 3, (2, -5, 7, 0, 5): 3, (4, 2, 0, 4, 0): 1, (1, 2, 3, 0, 0): 1, (3, 0, 0, -1, 0): 3},
    ),
    "count": (["r", "m_a", "m_b"], {(0, 1, 2): 2, (2, 100000, 7): 2, (4, -END, 0): 1, (1, 0, 0): 1, (3, -1, 0): 2}),
    "symbol": (
        ["r", "x_a", "x_b", "p_a", "p_b"],
        {(0, 2, 0, 2, 1): 3, (2, 0, 0, 5, 0): 3, (4, END, -END, 7, 0): 3, (1, 2, 3, 0, 0): 1, (3, 1, 1, END, 0): 1},
    ),
    "meet": (
        ["r", "x_a", "x_b", "m_a", "m_b", "y_a", "y_b", "n_a", "n_b"],
        {(0, 1, 2, 3, 4, 5, 6, 7, 8): 5, (2, 1, 0, 2, 0, 0, 0, 4, 0): 1, (4, END, 1, -END, 1, 3, END, 1, END): 5,
         (1, 2, 3, 0, 0, 1, 1, 1, 1): 1, (3, 2, 3, 1, 1, 1, 1, 0, 0): 1},
    ),
}
NAMES = """times mirror norm unit form by gcd kind factors norms whole root power powrest inverse count symbol
meet""".split()


def every_call():
    return [(getattr(rings, name), arguments) for name in CALLS for arguments in CALLS[name][1]]


class Interface(unittest.TestCase):
    def test_every_call_is_there(self):
        self.assertEqual(list(CALLS), NAMES)
        for name in NAMES:
            self.assertTrue(inspect.isfunction(getattr(rings, name)), name)
            self.assertEqual(getattr(rings, name).__module__, "ringfive.rings")

    def test_parameters(self):
        for name, (parameters, calls) in CALLS.items():
            signature = inspect.signature(getattr(rings, name))
            self.assertEqual(list(signature.parameters), parameters)
            for parameter in signature.parameters.values():
                self.assertIs(parameter.default, inspect.Parameter.empty)
                self.assertEqual(parameter.kind, inspect.Parameter.POSITIONAL_OR_KEYWORD)

    def test_answer_is_a_list_of_whole_numbers(self):
        for name, (parameters, calls) in CALLS.items():
            for arguments, length in calls.items():
                self.check_list(getattr(rings, name)(*arguments), length)
                self.check_list(getattr(rings, name)(5, *arguments[1:]), 1)

    def test_no_ring(self):
        for call, arguments in every_call():
            for r in NO_RINGS:
                self.assertEqual(call(r, *arguments[1:]), [-1], (call, r, arguments))

    def test_arguments_by_name(self):
        for name, (parameters, calls) in CALLS.items():
            for arguments in calls:
                call = getattr(rings, name)
                self.assertEqual(call(**dict(zip(parameters, arguments))), call(*arguments), (name, arguments))

    def check_list(self, answer, length):
        self.assertIs(type(answer), list)
        self.assertEqual([type(number) for number in answer], [int] * length)

    def test_nothing_is_kept(self):
        first = [call(*arguments) for call, arguments in every_call()]
        copies = [list(answer) for answer in first]
        for answer in first:
            answer[0] = 99
            answer.append(99)
        self.assertEqual([call(*arguments) for call, arguments in every_call()], copies)
        self.assertEqual([call(*arguments) for call, arguments in every_call()[::-1]], copies[::-1])

    def test_a_changed_refusal_is_not_kept(self):
        for call, arguments in every_call():
            refused = (-1, *arguments[1:])
            call(*refused).append(99)
            self.assertEqual(call(*refused), [-1])

    def test_what_is_handed_in_stays(self):
        for call, arguments in every_call():
            numbers = list(arguments)
            call(*numbers)
            self.assertEqual(numbers, list(arguments))

    def test_nothing_is_printed(self):
        printed = io.StringIO()
        with contextlib.redirect_stdout(printed), contextlib.redirect_stderr(printed):
            for call, arguments in every_call():
                call(*arguments)
                call(-1, *arguments[1:])
        self.assertEqual(printed.getvalue(), "")
