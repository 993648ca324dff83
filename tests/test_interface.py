import contextlib
import inspect
import io
import unittest

from ringfive import rings
from tests.model import END

# Of each call: its parameters, how many numbers it gives back, and calls of it.
CALLS = {
    "times": (
        ["r", "x_a", "x_b", "y_a", "y_b"],
        3,
        [(0, 1, 2, 3, 4), (2, -5, 7, 0, 1), (4, END, -END, -END, END), (1, 0, 0, 0, 0)],
    ),
    "mirror": (["r", "x_a", "x_b"], 3, [(0, 1, 2), (2, -5, 7), (4, END, -END), (1, 0, 0)]),
    "norm": (["r", "x_a", "x_b"], 2, [(0, 1, 2), (2, -5, 7), (4, END, -END), (1, 0, 0)]),
}


class Interface(unittest.TestCase):
    def test_parameters(self):
        for name, (parameters, length, calls) in CALLS.items():
            signature = inspect.signature(getattr(rings, name))
            self.assertEqual(list(signature.parameters), parameters)
            for parameter in signature.parameters.values():
                self.assertIs(parameter.default, inspect.Parameter.empty)
                self.assertEqual(parameter.kind, inspect.Parameter.POSITIONAL_OR_KEYWORD)

    def test_answer_is_a_list_of_whole_numbers(self):
        for name, (parameters, length, calls) in CALLS.items():
            for arguments in calls:
                self.check_list(getattr(rings, name)(*arguments), length)
                self.check_list(getattr(rings, name)(5, *arguments[1:]), 1)

    def check_list(self, answer, length):
        self.assertIs(type(answer), list)
        self.assertEqual([type(number) for number in answer], [int] * length)

    def test_nothing_is_kept(self):
        def all_answers():
            return [getattr(rings, name)(*arguments) for name in CALLS for arguments in CALLS[name][2]]

        first = all_answers()
        copies = [list(answer) for answer in first]
        for answer in first:
            answer[0] = 99
            answer.append(99)
        self.assertEqual(all_answers(), copies)
        self.assertEqual(all_answers(), copies)

    def test_a_changed_refusal_is_not_kept(self):
        for name, (parameters, length, calls) in CALLS.items():
            refused = (-1, *calls[0][1:])
            getattr(rings, name)(*refused).append(99)
            self.assertEqual(getattr(rings, name)(*refused), [-1])

    def test_nothing_is_printed(self):
        printed = io.StringIO()
        with contextlib.redirect_stdout(printed), contextlib.redirect_stderr(printed):
            for name, (parameters, length, calls) in CALLS.items():
                for arguments in calls:
                    getattr(rings, name)(*arguments)
                    getattr(rings, name)(-1, *arguments[1:])
        self.assertEqual(printed.getvalue(), "")
