"""Promise 4 and the first half of promise 5: below and hold, and what the document says of them."""

import contextlib
import inspect
import io
import unittest

from changedif import word
from changedif.word import below, hold

GREATEST64 = 18446744073709551615
HALF64 = 9223372036854775808
GREATEST32 = 4294967295
HALF32 = 2147483648

EDGES64 = [
    0, 1, 2, 3, 7, 8, 16, 22, 28, HALF32 - 1, HALF32, GREATEST32, GREATEST32 + 1, HALF64 // 2,
    HALF64 - 2, HALF64 - 1, HALF64, HALF64 + 1, GREATEST64 - 28, GREATEST64 - 2, GREATEST64 - 1, GREATEST64,
]

EDGES32 = [
    0, 1, 2, 3, 7, 8, 16, 22, 255, 256, 65535, 65536, HALF32 - 2, HALF32 - 1, HALF32, HALF32 + 1,
    GREATEST32 - 22, GREATEST32 - 16, GREATEST32 - 2, GREATEST32 - 1, GREATEST32,
]


class Calls(unittest.TestCase):
    """What the tests of both calls use."""

    def check(self, function, rows):
        for handed, answer in rows:
            with self.subTest(function=function.__name__, handed=handed):
                self.assertEqual(function(*handed), answer)

    def check_kinds(self, answer):
        self.assertIs(type(answer), list)
        self.assertEqual([type(number) for number in answer], [int, int])

    def check_printed_nothing(self, function, rows):
        out, err = io.StringIO(), io.StringIO()
        with contextlib.redirect_stdout(out), contextlib.redirect_stderr(err):
            for handed in rows:
                function(*handed)
        self.assertEqual((out.getvalue(), err.getvalue()), ("", ""))


def told_of_below(was, n, end):
    """Point 4, reckoned by what there would be in the place of what is there."""
    if n < 1 or n > end:
        return [-22, was]
    return [0, was + n] if was + n <= end else [-28, was]


class Below(Calls):
    def test_ordinary(self):
        self.check(below, [
            ((7, 3, 100), [0, 10]),
            ((0, 1, 1), [0, 1]),
            ((0, 5, 9), [0, 5]),
            ((705032704, 4294967296, 6000000000), [0, 5000000000]),
        ])

    def test_n_0(self):
        for was in EDGES64:
            for end in EDGES64:
                self.assertEqual(below(was, 0, end), [-22, was], (was, end))

    def test_n_0_written_out(self):
        self.check(below, [
            ((0, 0, 0), [-22, 0]),
            ((3, 0, 9), [-22, 3]),
            ((9, 0, 9), [-22, 9]),
            ((0, 0, GREATEST64), [-22, 0]),
        ])

    def test_n_0_where_more_than_end_are_there(self):
        self.check(below, [
            ((10, 0, 5), [-22, 10]),
            ((1, 0, 0), [-22, 1]),
            ((GREATEST64, 0, 0), [-22, GREATEST64]),
            ((GREATEST64, 0, GREATEST64 - 1), [-22, GREATEST64]),
        ])

    def test_n_1_is_the_first_that_adds(self):
        self.check(below, [((3, 0, 9), [-22, 3]), ((3, 1, 9), [0, 4])])

    def test_end_below_n(self):
        for n in (1, 2, 7, 100, 4294967296, HALF64 - 1, HALF64, HALF64 + 1, GREATEST64 - 1, GREATEST64):
            for end in (n - 1, n // 2, 0):
                for was in EDGES64:
                    self.assertEqual(below(was, n, end), [-22, was], (was, n, end))

    def test_end_one_less_than_n(self):
        self.check(below, [
            ((0, 6, 5), [-22, 0]),
            ((0, HALF64, HALF64 - 1), [-22, 0]),
            ((0, GREATEST64, GREATEST64 - 1), [-22, 0]),
        ])

    def test_end_0(self):
        self.check(below, [
            ((0, 0, 0), [-22, 0]),
            ((0, 1, 0), [-22, 0]),
            ((5, 1, 0), [-22, 5]),
            ((0, GREATEST64, 0), [-22, 0]),
            ((GREATEST64, GREATEST64, 0), [-22, GREATEST64]),
        ])

    def test_end_below_n_goes_ahead_of_no_room(self):
        self.check(below, [
            ((10, 6, 5), [-22, 10]),
            ((5, 6, 5), [-22, 5]),
            ((GREATEST64, GREATEST64, GREATEST64 - 1), [-22, GREATEST64]),
            ((GREATEST64, 1, 0), [-22, GREATEST64]),
        ])

    def test_no_room(self):
        self.check(below, [
            ((98, 3, 100), [-28, 98]),
            ((100, 1, 100), [-28, 100]),
            ((100, 100, 100), [-28, 100]),
        ])

    def test_no_room_where_the_word_is_above_end(self):
        self.check(below, [
            ((101, 1, 100), [-28, 101]),
            ((5000, 100, 100), [-28, 5000]),
            ((HALF64, 1, HALF64 - 1), [-28, HALF64]),
            ((GREATEST64 - 1, 1, 100), [-28, GREATEST64 - 1]),
        ])

    def test_no_room_where_the_word_is_the_greatest(self):
        for end in EDGES64[1:]:
            for n in (1, end // 2 + 1, end):
                self.assertEqual(below(GREATEST64, n, end), [-28, GREATEST64], (n, end))

    def test_a_sum_that_would_go_round_has_no_room(self):
        self.check(below, [
            ((GREATEST64, 1, 100), [-28, GREATEST64]),
            ((GREATEST64, 2, GREATEST64), [-28, GREATEST64]),
            ((GREATEST64 - 1, 2, GREATEST64), [-28, GREATEST64 - 1]),
            ((HALF64, HALF64, GREATEST64), [-28, HALF64]),
            ((HALF64, HALF64, HALF64), [-28, HALF64]),
        ])

    def test_just_end_less_n_one_more_and_one_less(self):
        for n, end in ((1, 2), (3, 100), (99, 100), (4294967296, 6000000000), (1, HALF64), (HALF64, HALF64 + 1),
                       (1, GREATEST64), (2, GREATEST64), (HALF64, GREATEST64), (GREATEST64 - 1, GREATEST64)):
            room = end - n
            with self.subTest(n=n, end=end):
                self.assertEqual(below(room, n, end), [0, end])
                self.assertEqual(below(room + 1, n, end), [-28, room + 1])
                self.assertEqual(below(room - 1, n, end), [0, end - 1])

    def test_n_just_end_with_the_word_0_and_1(self):
        for end in (1, 2, 6, 100, 4294967296, HALF64 - 1, HALF64, GREATEST64 - 1, GREATEST64):
            with self.subTest(end=end):
                self.assertEqual(below(0, end, end), [0, end])
                self.assertEqual(below(1, end, end), [-28, 1])

    def test_corner_end_the_greatest(self):
        self.check(below, [
            ((0, 1, GREATEST64), [0, 1]),
            ((0, GREATEST64 - 1, GREATEST64), [0, GREATEST64 - 1]),
            ((0, GREATEST64, GREATEST64), [0, GREATEST64]),
            ((1, GREATEST64, GREATEST64), [-28, 1]),
            ((GREATEST64 - 1, 1, GREATEST64), [0, GREATEST64]),
            ((GREATEST64, 1, GREATEST64), [-28, GREATEST64]),
            ((GREATEST64 - 100, 100, GREATEST64), [0, GREATEST64]),
            ((GREATEST64 - 99, 100, GREATEST64), [-28, GREATEST64 - 99]),
            ((GREATEST64, 0, GREATEST64), [-22, GREATEST64]),
        ])

    def test_corner_all_the_greatest(self):
        self.assertEqual(
            below(18446744073709551615, 18446744073709551615, 18446744073709551615), [-28, 18446744073709551615]
        )

    def test_each_is_a_number_without_sign(self):
        self.check(below, [
            ((HALF64, 1, HALF64 + 1), [0, HALF64 + 1]),
            ((HALF64 - 1, 1, HALF64), [0, HALF64]),
            ((HALF64 - 1, HALF64, GREATEST64), [0, GREATEST64]),
            ((0, HALF64, HALF64), [0, HALF64]),
            ((0, HALF64, GREATEST64), [0, HALF64]),
            ((5, 1, HALF64), [0, 6]),
            ((5, 1, GREATEST64), [0, 6]),
            ((HALF64, 1, 5), [-28, HALF64]),
            ((HALF64, 1, HALF64 - 1), [-28, HALF64]),
            ((0, HALF64, 5), [-22, 0]),
            ((0, GREATEST64, HALF64), [-22, 0]),
            ((HALF64 + 5, HALF64 - 6, GREATEST64), [0, GREATEST64]),
        ])

    def test_edges(self):
        for was in EDGES64:
            for n in EDGES64:
                for end in EDGES64:
                    self.assertEqual(below(was, n, end), told_of_below(was, n, end), (was, n, end))

    def test_small_numbers(self):
        for was in range(20):
            for n in range(20):
                for end in range(20):
                    self.assertEqual(below(was, n, end), told_of_below(was, n, end), (was, n, end))

    def test_a_refused_call_tells_the_word_as_it_was(self):
        for was in EDGES64:
            for n in EDGES64:
                for end in EDGES64:
                    answer, then = below(was, n, end)
                    self.assertIn(answer, (0, -22, -28))
                    self.assertEqual(then, was if answer != 0 else was + n, (was, n, end))

    def test_the_word_is_in_range(self):
        for was in EDGES64:
            for n in EDGES64:
                for end in EDGES64:
                    answer, then = below(was, n, end)
                    self.assertTrue(0 <= then <= GREATEST64, (was, n, end))
                    if answer == 0:
                        self.assertLessEqual(then, end, (was, n, end))

    def test_runs_stay_at_or_below_end(self):
        for n, end in ((1, 10), (3, 10), (10, 10), (HALF64, GREATEST64), (GREATEST64 // 7, GREATEST64)):
            there, done = 0, 0
            for step in range(30):
                answer, there = below(there, n, end)
                done += answer == 0
                self.assertLessEqual(there, end)
            self.assertEqual((done, there), (end // n, end // n * n), (n, end))

    def test_a_list_of_two_whole_numbers(self):
        for was in EDGES64:
            for n in EDGES64:
                for end in EDGES64:
                    self.check_kinds(below(was, n, end))

    def test_nothing_is_kept(self):
        for handed, answer in (((7, 3, 100), [0, 10]), ((98, 3, 100), [-28, 98]), ((7, 0, 100), [-22, 7])):
            first = below(*handed)
            first[0] = 98
            first.append(99)
            below(50, 20, 1000)
            below(2, 20, 10)
            self.assertEqual(below(*handed), answer)

    def test_nothing_is_printed(self):
        self.check_printed_nothing(below, [(7, 3, 100), (98, 3, 100), (7, 0, 100), (7, 3, 2), (0, 1, GREATEST64)])

    def test_its_name_and_the_names_of_its_arguments(self):
        self.assertIs(word.below, below)
        self.assertEqual(list(inspect.signature(below).parameters), ["was", "n", "end"])
        self.assertEqual(below(end=100, n=3, was=7), [0, 10])


class Hold(Calls):
    def test_ordinary(self):
        self.check(hold, [
            ((0, 5), [0, 5]),
            ((0, 1000000), [0, 1000000]),
            ((7, 5), [-16, 7]),
            ((5, 7), [-16, 5]),
        ])

    def test_me_0(self):
        self.assertEqual(hold(0, 0), [-22, 0])
        for was in EDGES32:
            self.assertEqual(hold(was, 0), [-22, was])

    def test_me_0_goes_ahead_of_a_word_that_is_not_0(self):
        self.check(hold, [((1, 0), [-22, 1]), ((7, 0), [-22, 7]), ((GREATEST32, 0), [-22, GREATEST32])])

    def test_me_1_is_the_first_that_holds(self):
        self.check(hold, [((0, 0), [-22, 0]), ((0, 1), [0, 1]), ((0, 2), [0, 2])])

    def test_the_word_is_not_0(self):
        for was in EDGES32[1:]:
            for me in EDGES32[1:]:
                self.assertEqual(hold(was, me), [-16, was], (was, me))

    def test_the_word_just_me(self):
        for me in EDGES32[1:]:
            self.assertEqual(hold(me, me), [-16, me])

    def test_the_word_the_greatest(self):
        for me in (1, 2, HALF32 - 1, HALF32, GREATEST32 - 1, GREATEST32):
            self.assertEqual(hold(4294967295, me), [-16, 4294967295], me)

    def test_the_word_1_is_held(self):
        self.check(hold, [((1, 1), [-16, 1]), ((1, 2), [-16, 1]), ((1, GREATEST32), [-16, 1])])

    def test_the_word_0(self):
        for me in EDGES32[1:]:
            self.assertEqual(hold(0, me), [0, me])

    def test_me_1_and_the_corner_me_the_greatest(self):
        self.check(hold, [((0, 1), [0, 1]), ((0, 4294967295), [0, 4294967295])])

    def test_above_2147483647_me_and_the_word_are_numbers_without_sign(self):
        self.check(hold, [
            ((0, HALF32), [0, HALF32]),
            ((0, HALF32 + 1), [0, HALF32 + 1]),
            ((HALF32, 1), [-16, HALF32]),
            ((HALF32, 0), [-22, HALF32]),
        ])

    def test_small_numbers(self):
        for was in range(30):
            for me in range(30):
                told = [0, me] if me and not was else [-16, was] if me else [-22, was]
                self.assertEqual(hold(was, me), told, (was, me))

    def test_a_refused_call_tells_the_word_as_it_was(self):
        for was in EDGES32:
            for me in EDGES32:
                answer, then = hold(was, me)
                self.assertIn(answer, (0, -22, -16))
                self.assertEqual(then, was if answer != 0 else me, (was, me))

    def test_a_list_of_two_whole_numbers(self):
        for was in EDGES32:
            for me in EDGES32:
                self.check_kinds(hold(was, me))

    def test_nothing_is_kept(self):
        for handed, answer in (((0, 5), [0, 5]), ((7, 5), [-16, 7]), ((7, 0), [-22, 7])):
            first = hold(*handed)
            first[0] = 98
            first.append(99)
            hold(0, 9)
            hold(9, 5)
            self.assertEqual(hold(*handed), answer)

    def test_nothing_is_printed(self):
        self.check_printed_nothing(hold, [(0, 5), (7, 5), (7, 0), (0, GREATEST32)])

    def test_its_name_and_the_names_of_its_arguments(self):
        self.assertIs(word.hold, hold)
        self.assertEqual(list(inspect.signature(hold).parameters), ["was", "me"])
        self.assertEqual(hold(me=5, was=0), [0, 5])


class OneHoldsIt(unittest.TestCase):
    """What holds, c, as far as hold goes."""

    def test_once_a_hold_is_answered_0_no_hold_is(self):
        for first in EDGES32[1:]:
            answer, there = hold(0, first)
            self.assertEqual((answer, there), (0, first))
            for turn in range(2):
                for me in EDGES32:
                    answer, then = hold(there, me)
                    self.assertNotEqual(answer, 0, (first, me))
                    self.assertEqual(then, first, (first, me))
                    there = then

    def test_refused_holds_leave_it_to_be_held(self):
        there = 0
        for step in range(3):
            answer, there = hold(there, 0)
            self.assertEqual((answer, there), (-22, 0))
        self.assertEqual(hold(there, 8), [0, 8])

    def test_of_several_that_ask_only_the_first_holds_it(self):
        for asking in ((3, 1, 2), (1, 2, 3), (GREATEST32, 1, GREATEST32), (0, 4, 4), (0, 0, 6, 5)):
            there, held_by = 0, []
            for me in asking:
                answer, there = hold(there, me)
                if answer == 0:
                    held_by.append(me)
            self.assertEqual(held_by, [me for me in asking if me != 0][:1])
            self.assertEqual(there, held_by[0])


if __name__ == "__main__":
    unittest.main()
