"""Promise 1: if64 and if32, and what the document says of them."""

import ast
import contextlib
import inspect
import io
import os
import unittest

import changedif
from changedif import word
from changedif.word import if32, if64

PACKAGE = os.path.dirname(os.path.abspath(changedif.__file__))


def told_with_sign(number, width):
    bits = number & ((1 << width) - 1)
    return bits - (1 << width) if bits >> (width - 1) else bits


def asked_by_the_document(was, cmp, how, width):
    """What how asks, from the five flags of the section "Words", each reckoned in its own way here."""
    mask = (1 << width) - 1
    difference = (was - cmp) & mask
    over = not -(1 << (width - 1)) <= was - cmp < (1 << (width - 1))
    less = (was & mask) < (cmp & mask)
    same = was == cmp
    below = format(difference, "b").zfill(width)[0] == "1"
    even = format(difference & 255, "b").count("1") in (0, 2, 4, 6, 8)
    rows = (over, less, same, less or same, below, even, below != over, below != over or same)
    return rows[how >> 1] != bool(how & 1)


class Both:
    """The tests that hold for each width; the classes below name the call and its width."""

    def setUp(self):
        self.least = -(1 << (self.width - 1))
        self.greatest = (1 << (self.width - 1)) - 1

    def pairs(self):
        """For each even how: pairs of was and cmp that are as it asks, and pairs that aren't."""
        least, greatest = self.least, self.greatest
        return {
            0: (
                [(least, 1), (greatest, -1), (0, least), (greatest, least), (least, greatest)],
                [(5, 3), (3, 5), (7, 7), (-1, least), (least, least), (least, 0), (greatest, 0), (least, -1)],
            ),
            2: (
                [(1, 2), (0, -1), (5, -1), (-2, -1), (greatest, least), (0, least)],
                [(2, 1), (-1, 5), (7, 7), (least, greatest), (least, least), (-1, least), (least, 0)],
            ),
            4: (
                [(7, 7), (0, 0), (-1, -1), (least, least), (greatest, greatest)],
                [(7, 8), (8, 7), (least, greatest), (0, least), (1, -1), (256, 0), (0, 1 << (self.width - 2))],
            ),
            6: (
                [(1, 2), (7, 7), (5, -1), (least, least), (greatest, least), (-1, -1)],
                [(2, 1), (-1, 5), (least, greatest), (-1, least), (8, 7)],
            ),
            8: (
                [(1, 2), (-1, 0), (least, 0), (0, least), (greatest, -1), (-5, 3)],
                [(2, 1), (7, 7), (5, -1), (least, 1), (least, greatest), (-1, least), (least, least)],
            ),
            10: (
                [(7, 7), (3, 0), (255, 0), (256, 0), (-1, 0), (0, 1), (2, 3), (least, 0), (0, least), (129, 0)],
                [(1, 0), (257, 0), (128, 0), (127, 0), (384, 0), (-2, 0), (3, 2), (greatest, -2), (least, greatest)],
            ),
            12: (
                [(-1, 5), (1, 2), (least, greatest), (least, 1), (least, 0), (-2, -1)],
                [(5, -1), (2, 1), (7, 7), (greatest, least), (greatest, -1), (0, least), (least, least)],
            ),
            14: (
                [(-1, 5), (1, 2), (7, 7), (least, greatest), (least, least), (greatest, greatest)],
                [(5, -1), (2, 1), (greatest, least), (0, least), (8, 7)],
            ),
        }

    def edges(self):
        least, greatest = self.least, self.greatest
        near = [-300, -257, -256, -129, -128, -3, -2, -1, 0, 1, 2, 3, 127, 128, 129, 255, 256, 257, 511]
        half = 1 << (self.width - 2)
        return near + [least, least + 1, least + 255, -half, half, half + 1, greatest - 256, greatest - 1, greatest]

    def check_changed(self, was, cmp, how):
        for add in (1, -3, 10):
            with self.subTest(was=was, cmp=cmp, add=add, how=how):
                self.assertEqual(self.call(was, cmp, add, how), [was, told_with_sign(was + add, self.width)])

    def check_left(self, was, cmp, how):
        for add in (1, -3, 10, self.least, self.greatest):
            with self.subTest(was=was, cmp=cmp, add=add, how=how):
                self.assertEqual(self.call(was, cmp, add, how), [was, was])

    def test_even_how_as_it_asks(self):
        for how, (fit, unfit) in self.pairs().items():
            for was, cmp in fit:
                self.check_changed(was, cmp, how)

    def test_even_how_not_as_it_asks(self):
        for how, (fit, unfit) in self.pairs().items():
            for was, cmp in unfit:
                self.check_left(was, cmp, how)

    def test_odd_how_as_it_asks(self):
        for how, (fit, unfit) in self.pairs().items():
            for was, cmp in unfit:
                self.check_changed(was, cmp, how + 1)

    def test_odd_how_not_as_it_asks(self):
        for how, (fit, unfit) in self.pairs().items():
            for was, cmp in fit:
                self.check_left(was, cmp, how + 1)

    def test_the_pairs_speak_of_each_how(self):
        self.assertEqual(sorted(self.pairs()), [0, 2, 4, 6, 8, 10, 12, 14])

    def test_how_above_15_changes_nothing(self):
        hows = [16, 17, 18, 20, 31, 32, 100, 255, 256, 65536, 2147483647, 2147483648, 4294967294, 4294967295]
        for how in hows:
            for was, cmp in ((7, 7), (1, 2), (2, 1), (-1, 5), (5, -1), (self.least, 1), (self.greatest, -1)):
                self.check_left(was, cmp, how)

    def test_how_above_15_is_not_taken_by_its_low_bits(self):
        for low, (fit, unfit) in self.pairs().items():
            for high in (16, 32, 64, 128, 256, 65536, 2147483648, 4294967280):
                self.check_left(fit[0][0], fit[0][1], high + low)
                self.check_left(unfit[0][0], unfit[0][1], high + low + 1)

    def test_how_15_is_the_last_that_asks(self):
        self.assertEqual(self.call(9, 7, 1, 15), [9, 10])
        self.assertEqual(self.call(9, 7, 1, 16), [9, 9])

    def test_corner_how_0(self):
        self.assertEqual(self.call(self.least, 1, 4, 0), [self.least, self.least + 4])
        self.assertEqual(self.call(self.least, 0, 4, 0), [self.least, self.least])
        self.assertEqual(self.call(self.greatest, -1, -4, 0), [self.greatest, self.greatest - 4])
        self.assertEqual(self.call(self.greatest, 1, -4, 0), [self.greatest, self.greatest])

    def test_corner_how_10(self):
        self.assertEqual(self.call(10, 10, 1, 10), [10, 11])
        self.assertEqual(self.call(10, 9, 1, 10), [10, 10])
        self.assertEqual(self.call(10, 7, 1, 10), [10, 11])
        self.assertEqual(self.call(257, 0, 1, 10), [257, 257])
        self.assertEqual(self.call(256, 0, 1, 10), [256, 257])
        self.assertEqual(self.call(0, 1, 1, 10), [0, 1])

    def test_corner_least_as_was(self):
        least = self.least
        self.assertEqual(self.call(least, 0, 1, 12), [least, least + 1])
        self.assertEqual(self.call(least, 0, 1, 2), [least, least])
        self.assertEqual(self.call(least, 0, -1, 8), [least, self.greatest])

    def test_corner_least_as_cmp(self):
        self.assertEqual(self.call(0, self.least, 1, 12), [0, 0])
        self.assertEqual(self.call(0, self.least, 1, 2), [0, 1])
        self.assertEqual(self.call(0, self.least, 1, 0), [0, 1])
        self.assertEqual(self.call(-1, self.least, 1, 0), [-1, -1])
        self.assertEqual(self.call(-1, self.least, 1, 13), [-1, 0])

    def test_corner_least_as_add(self):
        least = self.least
        self.assertEqual(self.call(0, 0, least, 4), [0, least])
        self.assertEqual(self.call(least, least, least, 4), [least, 0])
        self.assertEqual(self.call(-1, -1, least, 4), [-1, self.greatest])
        self.assertEqual(self.call(1, 0, least, 4), [1, 1])

    def test_corner_add_0(self):
        for how in range(17):
            for was in (self.least, -1, 0, 1, self.greatest):
                for cmp in (self.least, -1, 0, 1, self.greatest):
                    self.assertEqual(self.call(was, cmp, 0, how), [was, was])

    def test_corner_alike(self):
        for was in (self.least, -1, 0, 1, 77, self.greatest - 1):
            for how in (1, 3, 4, 6, 9, 10, 13, 14):
                self.assertEqual(self.call(was, was, 1, how), [was, was + 1])
            for how in (0, 2, 5, 7, 8, 11, 12, 15):
                self.assertEqual(self.call(was, was, 1, how), [was, was])

    def test_greatest(self):
        greatest = self.greatest
        self.assertEqual(self.call(greatest, greatest, -1, 4), [greatest, greatest - 1])
        self.assertEqual(self.call(0, greatest, 1, 12), [0, 1])
        self.assertEqual(self.call(0, 0, greatest, 4), [0, greatest])
        self.assertEqual(self.call(-1, greatest, 1, 2), [-1, -1])
        self.assertEqual(self.call(-1, greatest, 1, 3), [-1, 0])

    def test_sum_goes_round(self):
        least, greatest = self.least, self.greatest
        self.assertEqual(self.call(greatest, 0, 1, 5), [greatest, least])
        self.assertEqual(self.call(greatest, 0, greatest, 5), [greatest, -2])
        self.assertEqual(self.call(least, 0, -1, 5), [least, greatest])
        self.assertEqual(self.call(least, 0, least, 5), [least, 0])
        self.assertEqual(self.call(least, 0, greatest, 5), [least, -1])
        self.assertEqual(self.call(-1, 0, 1, 5), [-1, 0])

    def test_edges_against_the_document(self):
        for was in self.edges():
            for cmp in self.edges():
                for how in range(16):
                    for add in (1, self.least):
                        then = told_with_sign(was + add, self.width)
                        if not asked_by_the_document(was, cmp, how, self.width):
                            then = was
                        self.assertEqual(self.call(was, cmp, add, how), [was, then], (was, cmp, add, how))

    def test_sums_of_edges(self):
        for was in self.edges():
            for add in self.edges():
                then = told_with_sign(was + add, self.width)
                self.assertEqual(self.call(was, was, add, 4), [was, then], (was, add))

    def is_changed(self, was, cmp, how):
        return self.call(was, cmp, 1, how)[1] != was

    def test_what_holds_a(self):
        whole = 1 << self.width
        for was in self.edges():
            for cmp in self.edges():
                plain, other = was % whole, cmp % whole
                told = {2: plain < other, 4: was == cmp, 6: plain <= other, 12: was < cmp, 14: was <= cmp}
                for how, answer in told.items():
                    self.assertEqual(self.is_changed(was, cmp, how), answer, (was, cmp, how))
                    self.assertEqual(self.is_changed(was, cmp, how + 1), not answer, (was, cmp, how + 1))

    def test_what_holds_a_each_odd_one_the_contrary(self):
        for was in self.edges():
            for cmp in self.edges():
                for how in range(0, 16, 2):
                    even = self.is_changed(was, cmp, how)
                    self.assertEqual(self.is_changed(was, cmp, how + 1), not even, (was, cmp, how))

    def test_what_holds_d(self):
        for was in self.edges():
            for cmp in self.edges():
                for how in range(16):
                    if not asked_by_the_document(was, cmp, how, self.width):
                        self.assertEqual(self.call(was, cmp, 5, how), [was, was], (was, cmp, how))

    def test_a_list_of_two_whole_numbers(self):
        for how in list(range(18)) + [4294967295]:
            for was in (self.least, -1, 0, 1, self.greatest):
                for cmp in (self.least, 0, 1, self.greatest):
                    for add in (0, 1, -1, self.least):
                        answer = self.call(was, cmp, add, how)
                        self.assertIs(type(answer), list)
                        self.assertEqual([type(number) for number in answer], [int, int])

    def test_the_answer_is_in_range(self):
        for was in self.edges():
            for add in self.edges():
                for how in (4, 5, 16):
                    for number in self.call(was, 0, add, how):
                        self.assertLessEqual(self.least, number)
                        self.assertLessEqual(number, self.greatest)

    def test_nothing_is_kept(self):
        first = self.call(1, 2, 10, 12)
        first.append(99)
        first[0] = 98
        self.call(self.greatest, 2, 10, 5)
        self.call(3, 3, 3, 4294967295)
        self.assertEqual(self.call(1, 2, 10, 12), [1, 11])
        left = self.call(1, 2, 10, 16)
        left.append(99)
        self.assertEqual(self.call(1, 2, 10, 16), [1, 1])

    def test_nothing_is_printed(self):
        out, err = io.StringIO(), io.StringIO()
        with contextlib.redirect_stdout(out), contextlib.redirect_stderr(err):
            for how in range(18):
                self.call(1, 2, 3, how)
        self.assertEqual((out.getvalue(), err.getvalue()), ("", ""))

    def test_the_names_of_the_arguments(self):
        self.assertEqual(list(inspect.signature(self.function).parameters), ["was", "cmp", "add", "how"])
        self.assertEqual(self.function(how=12, add=10, cmp=2, was=1), [1, 11])

    def call(self, was, cmp, add, how):
        return self.function(was, cmp, add, how)


class If64(Both, unittest.TestCase):
    width = 64
    function = staticmethod(if64)

    def test_its_width(self):
        self.assertEqual(if64(2147483647, 0, 1, 5), [2147483647, 2147483648])
        self.assertEqual(if64(-2147483648, 1, 1, 0), [-2147483648, -2147483648])
        self.assertEqual(if64(4294967296, 0, 1, 4), [4294967296, 4294967296])
        self.assertEqual(if64(2147483648, 0, 1, 8), [2147483648, 2147483648])
        self.assertEqual(if64(-1, 4294967296, 1, 3), [-1, 0])

    def test_its_ends(self):
        least, greatest = -9223372036854775808, 9223372036854775807
        self.assertEqual(if64(greatest, 0, 1, 5), [greatest, least])
        self.assertEqual(if64(least, 1, -1, 0), [least, greatest])


class If32(Both, unittest.TestCase):
    width = 32
    function = staticmethod(if32)

    def test_its_ends(self):
        least, greatest = -2147483648, 2147483647
        self.assertEqual(if32(greatest, 0, 1, 5), [greatest, least])
        self.assertEqual(if32(least, 1, -1, 0), [least, greatest])


class Package(unittest.TestCase):
    def test_the_functions_stand_where_the_interface_says(self):
        self.assertIs(word.if64, if64)
        self.assertIs(word.if32, if32)

    def test_nothing_is_imported_or_read(self):
        for name in ("__init__.py", "word.py"):
            with open(os.path.join(PACKAGE, name), encoding="ascii") as file:
                tree = ast.parse(file.read())
            for node in ast.walk(tree):
                self.assertNotIsInstance(node, (ast.Import, ast.ImportFrom), name)
                if isinstance(node, ast.Name):
                    self.assertNotIn(node.id, ("open", "input", "print", "eval", "exec"), name)


if __name__ == "__main__":
    unittest.main()
