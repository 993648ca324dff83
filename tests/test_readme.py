"""The examples of README.md answer as they say."""

import ast
import pathlib
import re
import unittest

from ringfive import rings

README = pathlib.Path(__file__).resolve().parent.parent / "README.md"
EXAMPLE = re.compile(r"^(\w+)(\(.*?\)) +# (\[.*?\])", re.MULTILINE)


class Readme(unittest.TestCase):
    def test_examples(self):
        examples = EXAMPLE.findall(README.read_text(encoding="utf-8"))
        self.assertEqual(len({name for name, arguments, answer in examples}), 18)
        for name, arguments, answer in examples:
            numbers = ast.literal_eval(arguments.replace("10 ** 18", str(10 ** 18)))
            self.assertEqual(getattr(rings, name)(*numbers), ast.literal_eval(answer), (name, arguments))
