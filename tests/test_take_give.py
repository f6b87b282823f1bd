"""Promises 2 and 3: take and give, and what the document says of them."""

import contextlib
import inspect
import io
import unittest

from changedif import word
from changedif.word import give, take

LEAST = -9223372036854775808
GREATEST = 9223372036854775807

EDGES = [
    LEAST, LEAST + 1, LEAST + 2, -4294967296, -2147483649, -2147483648, -28, -22, -2, -1, 0, 1, 2, 3, 7, 8,
    2147483647, 2147483648, 4294967295, 4294967296, GREATEST // 2, GREATEST // 2 + 1,
    GREATEST - 2, GREATEST - 1, GREATEST,
]


class Calls(unittest.TestCase):
    """What the tests of both calls use."""

    def check(self, function, rows):
        for handed, answer in rows:
            with self.subTest(function=function.__name__, handed=handed):
                self.assertEqual(function(*handed), answer)

    def check_kinds(self, answer):
        self.assertIs(type(answer), list)
        self.assertEqual([type(number) for number in answer], [int, int])

    def check_printed_nothing(self, function, rows):
        out, err = io.StringIO(), io.StringIO()
        with contextlib.redirect_stdout(out), contextlib.redirect_stderr(err):
            for handed in rows:
                function(*handed)
        self.assertEqual((out.getvalue(), err.getvalue()), ("", ""))


class Take(Calls):
    def test_ordinary(self):
        self.check(take, [
            ((10, 3), [0, 7]),
            ((10, 1), [0, 9]),
            ((1000000, 999), [0, 999001]),
            ((5000000000, 4294967296), [0, 705032704]),
        ])

    def test_n_below_1(self):
        for n in (0, -1, -2, -100, -2147483648, -4294967296, LEAST + 1, LEAST):
            for was in EDGES:
                self.assertEqual(take(was, n), [-22, was], (was, n))

    def test_n_below_1_goes_ahead_of_fewer_there(self):
        self.check(take, [
            ((-1, 0), [-22, -1]),
            ((LEAST, 0), [-22, LEAST]),
            ((-5, -4), [-22, -5]),
            ((LEAST, -1), [-22, LEAST]),
            ((LEAST, LEAST + 1), [-22, LEAST]),
        ])

    def test_n_below_1_where_enough_are_there(self):
        self.check(take, [
            ((0, 0), [-22, 0]),
            ((10, 0), [-22, 10]),
            ((10, -1), [-22, 10]),
            ((GREATEST, LEAST), [-22, GREATEST]),
            ((LEAST, LEAST), [-22, LEAST]),
        ])

    def test_n_1_is_the_first_that_takes(self):
        self.check(take, [((1, 0), [-22, 1]), ((1, 1), [0, 0]), ((2, 1), [0, 1])])

    def test_fewer_there(self):
        self.check(take, [
            ((0, 1), [-28, 0]),
            ((2, 3), [-28, 2]),
            ((3, 100), [-28, 3]),
            ((0, GREATEST), [-28, 0]),
            ((1, GREATEST), [-28, 1]),
            ((4294967295, 4294967296), [-28, 4294967295]),
        ])

    def test_the_word_below_0(self):
        for was in (-1, -2, -3, -100, -2147483648, -4294967296, LEAST + 1, LEAST):
            for n in (1, 2, 100, 2147483648, GREATEST - 1, GREATEST):
                self.assertEqual(take(was, n), [-28, was], (was, n))

    def test_just_the_word_one_more_and_one_less(self):
        for was in (2, 3, 7, 100, 2147483648, 4294967296, GREATEST - 1):
            self.assertEqual(take(was, was), [0, 0])
            self.assertEqual(take(was, was + 1), [-28, was])
            self.assertEqual(take(was, was - 1), [0, 1])

    def test_just_the_word_at_the_ends(self):
        self.check(take, [
            ((0, 1), [-28, 0]),
            ((1, 1), [0, 0]),
            ((1, 2), [-28, 1]),
            ((GREATEST, GREATEST), [0, 0]),
            ((GREATEST, GREATEST - 1), [0, 1]),
            ((GREATEST - 1, GREATEST), [-28, GREATEST - 1]),
            ((GREATEST, 1), [0, GREATEST - 1]),
        ])

    def test_edges(self):
        for was in EDGES:
            for n in EDGES:
                told = [-22, was] if n <= 0 else [0, was - n] if was - n >= 0 else [-28, was]
                self.assertEqual(take(was, n), told, (was, n))

    def test_small_numbers(self):
        for was in range(-6, 20):
            for n in range(-6, 25):
                told = [-22, was] if n <= 0 else [0, was - n] if was - n >= 0 else [-28, was]
                self.assertEqual(take(was, n), told, (was, n))

    def test_a_refused_call_tells_the_word_as_it_was(self):
        for was in EDGES:
            for n in EDGES:
                answer, then = take(was, n)
                self.assertIn(answer, (0, -22, -28))
                if answer != 0:
                    self.assertEqual(then, was, (was, n))
                else:
                    self.assertEqual(then, was - n, (was, n))

    def test_a_list_of_two_whole_numbers(self):
        for was in EDGES:
            for n in EDGES:
                self.check_kinds(take(was, n))

    def test_nothing_is_kept(self):
        for handed, answer in (((10, 3), [0, 7]), ((1, 3), [-28, 1]), ((1, 0), [-22, 1])):
            first = take(*handed)
            first[0] = 98
            first.append(99)
            take(50, 20)
            take(2, 20)
            self.assertEqual(take(*handed), answer)

    def test_nothing_is_printed(self):
        self.check_printed_nothing(take, [(10, 3), (1, 3), (1, 0), (LEAST, LEAST)])

    def test_its_name_and_the_names_of_its_arguments(self):
        self.assertIs(word.take, take)
        self.assertEqual(list(inspect.signature(take).parameters), ["was", "n"])
        self.assertEqual(take(n=3, was=10), [0, 7])


def told_of_give(was, n, most):
    """Point 3, reckoned by what there would be in the place of what is there."""
    if n <= 0 or n > most:
        return [-22, was]
    return [0, was + n] if was + n <= most else [-28, was]


class Give(Calls):
    def test_ordinary(self):
        self.check(give, [
            ((7, 3, 100), [0, 10]),
            ((0, 1, 1), [0, 1]),
            ((0, 5, 9), [0, 5]),
            ((705032704, 4294967296, 6000000000), [0, 5000000000]),
        ])

    def test_n_below_1(self):
        for n in (0, -1, -2, -100, -2147483648, -4294967296, LEAST + 1, LEAST):
            for was in EDGES:
                for most in EDGES:
                    self.assertEqual(give(was, n, most), [-22, was], (was, n, most))

    def test_n_1_is_the_first_that_gives(self):
        self.check(give, [((3, 0, 9), [-22, 3]), ((3, 1, 9), [0, 4])])

    def test_n_below_1_goes_ahead_of_no_room(self):
        self.check(give, [((10, 0, 5), [-22, 10]), ((10, -1, 5), [-22, 10]), ((GREATEST, LEAST, 0), [-22, GREATEST])])

    def test_most_below_n(self):
        for n in (1, 2, 7, 100, 4294967296, GREATEST - 1, GREATEST):
            for most in (n - 1, n // 2, 0, -1, -2147483648, LEAST + 1, LEAST):
                for was in EDGES:
                    self.assertEqual(give(was, n, most), [-22, was], (was, n, most))

    def test_most_below_n_goes_ahead_of_no_room(self):
        self.check(give, [
            ((10, 6, 5), [-22, 10]),
            ((GREATEST, GREATEST, GREATEST - 1), [-22, GREATEST]),
            ((0, 1, 0), [-22, 0]),
            ((5, 1, LEAST), [-22, 5]),
        ])

    def test_most_below_n_where_the_sum_is_not_above_most(self):
        self.check(give, [
            ((-1, 6, 5), [-22, -1]),
            ((-10, 1, -5), [-22, -10]),
            ((LEAST, 1, -1), [-22, LEAST]),
            ((LEAST, GREATEST, 0), [-22, LEAST]),
        ])

    def test_most_just_n(self):
        self.check(give, [
            ((0, 6, 6), [0, 6]),
            ((1, 6, 6), [-28, 1]),
            ((-1, 6, 6), [0, 5]),
            ((0, 6, 5), [-22, 0]),
            ((0, 1, 1), [0, 1]),
            ((0, GREATEST, GREATEST), [0, GREATEST]),
            ((1, GREATEST, GREATEST), [-28, 1]),
        ])

    def test_no_room(self):
        self.check(give, [
            ((98, 3, 100), [-28, 98]),
            ((100, 1, 100), [-28, 100]),
            ((101, 1, 100), [-28, 101]),
            ((GREATEST, 1, 100), [-28, GREATEST]),
            ((GREATEST, 1, GREATEST), [-28, GREATEST]),
            ((GREATEST, 100, 100), [-28, GREATEST]),
        ])

    def test_all_the_greatest(self):
        self.assertEqual(give(GREATEST, GREATEST, GREATEST), [-28, GREATEST])

    def test_just_most_less_n_one_more_and_one_less(self):
        for n, most in ((1, 1), (1, 2), (3, 100), (100, 100), (4294967296, 6000000000),
                        (1, GREATEST), (2, GREATEST), (GREATEST - 1, GREATEST), (GREATEST, GREATEST)):
            room = most - n
            with self.subTest(n=n, most=most):
                self.assertEqual(give(room, n, most), [0, most])
                self.assertEqual(give(room + 1, n, most), [-28, room + 1])
                self.assertEqual(give(room - 1, n, most), [0, most - 1])

    def test_corner_most_the_greatest_and_the_word_below_0(self):
        for was in (-1, -2, -100, -2147483648, -4294967296, LEAST + 1, LEAST):
            for n in (1, 2, 100, 2147483648, GREATEST - 1, GREATEST):
                self.assertEqual(give(was, n, GREATEST), [0, was + n], (was, n))

    def test_corner_written_out(self):
        self.check(give, [
            ((LEAST, 1, GREATEST), [0, -9223372036854775807]),
            ((LEAST, GREATEST, GREATEST), [0, -1]),
            ((-1, 1, GREATEST), [0, 0]),
            ((-1, GREATEST, GREATEST), [0, 9223372036854775806]),
            ((0, GREATEST, GREATEST), [0, GREATEST]),
        ])

    def test_the_word_below_0_with_a_small_most(self):
        self.check(give, [
            ((-5, 3, 3), [0, -2]),
            ((-1, 1, 1), [0, 0]),
            ((LEAST, 5, 7), [0, -9223372036854775803]),
        ])

    def test_edges(self):
        for was in EDGES:
            for n in EDGES:
                for most in EDGES:
                    self.assertEqual(give(was, n, most), told_of_give(was, n, most), (was, n, most))

    def test_small_numbers(self):
        for was in range(-5, 15):
            for n in range(-3, 12):
                for most in range(-5, 15):
                    self.assertEqual(give(was, n, most), told_of_give(was, n, most), (was, n, most))

    def test_a_refused_call_tells_the_word_as_it_was(self):
        for was in EDGES:
            for n in EDGES:
                for most in EDGES:
                    answer, then = give(was, n, most)
                    self.assertIn(answer, (0, -22, -28))
                    if answer != 0:
                        self.assertEqual(then, was, (was, n, most))
                    else:
                        self.assertEqual(then, was + n, (was, n, most))

    def test_the_word_is_in_range(self):
        for was in EDGES:
            for n in EDGES:
                for most in EDGES:
                    then = give(was, n, most)[1]
                    self.assertLessEqual(LEAST, then)
                    self.assertLessEqual(then, GREATEST)

    def test_a_list_of_two_whole_numbers(self):
        for was in EDGES:
            for n in EDGES:
                for most in (LEAST, 0, 1, 100, GREATEST):
                    self.check_kinds(give(was, n, most))

    def test_nothing_is_kept(self):
        for handed, answer in (((7, 3, 100), [0, 10]), ((98, 3, 100), [-28, 98]), ((7, 0, 100), [-22, 7])):
            first = give(*handed)
            first[0] = 98
            first.append(99)
            give(50, 20, 1000)
            give(2, 20, 10)
            self.assertEqual(give(*handed), answer)

    def test_nothing_is_printed(self):
        self.check_printed_nothing(give, [(7, 3, 100), (98, 3, 100), (7, 0, 100), (LEAST, GREATEST, GREATEST)])

    def test_its_name_and_the_names_of_its_arguments(self):
        self.assertIs(word.give, give)
        self.assertEqual(list(inspect.signature(give).parameters), ["was", "n", "most"])
        self.assertEqual(give(most=100, n=3, was=7), [0, 10])


class WhatHoldsB(unittest.TestCase):
    """Never below nothing, never above what may be."""

    def run_of(self, start, most, steps):
        there = start
        done = {"take": 0, "give": 0}
        refused = {"take": 0, "give": 0}
        for name, n in steps:
            answer, then = take(there, n) if name == "take" else give(there, n, most)
            self.assertLessEqual(0, then, (there, name, n, most))
            self.assertLessEqual(then, most, (there, name, n, most))
            if answer == 0:
                done[name] += 1
            else:
                refused[name] += 1
                self.assertEqual(then, there, (there, name, n, most))
            there = then
        return done, refused

    def steps(self, most, seed, length):
        """A long row of takes and gives, the same each time: n from below 1 to above most."""
        rows = []
        for k in range(length):
            seed = (seed * 6364136223846793005 + 1442695040888963407) % 18446744073709551616
            name = ("take", "give")[seed >> 63]
            wide = (most // 3 + 1, most + 1, 3)[k % 3]
            n = min((seed >> 8) % (wide + 2) - 1, GREATEST)
            rows.append((name, n))
        return rows

    def test_every_step_from_every_word_of_a_small_most(self):
        for most in range(0, 9):
            for start in range(0, most + 1):
                for n in range(-2, most + 3):
                    for then in (take(start, n)[1], give(start, n, most)[1]):
                        self.assertTrue(0 <= then <= most, (start, n, most, then))

    def test_long_runs(self):
        for most in (1, 2, 10, 1000, 2147483648, GREATEST - 1, GREATEST):
            for start in (0, most // 2, most):
                done, refused = self.run_of(start, most, self.steps(most, start + most, 3000))
                # A run in which nothing happens would hold whatever take and give did.
                for count in list(done.values()) + list(refused.values()):
                    self.assertGreater(count, 50, (start, most, done, refused))

    def test_takes_alone_end_at_nothing(self):
        there, done = 10, 0
        for k in range(20):
            answer, there = take(there, 1)
            done += answer == 0
        self.assertEqual((there, done), (0, 10))

    def test_gives_alone_end_at_most(self):
        there, done = 0, 0
        for k in range(20):
            answer, there = give(there, 3, 10)
            done += answer == 0
        self.assertEqual((there, done), (9, 3))
        self.assertEqual(give(there, 1, 10), [0, 10])
        self.assertEqual(give(10, 1, 10), [-28, 10])

    def test_what_is_given_can_be_taken_back(self):
        for was in (0, 1, 5, GREATEST - 9):
            for n in (1, 2, 9):
                self.assertEqual(give(was, n, GREATEST), [0, was + n])
                self.assertEqual(take(was + n, n), [0, was])


if __name__ == "__main__":
    unittest.main()
