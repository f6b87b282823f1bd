"""The second half of promise 5: free, and what the document says of it."""

import contextlib
import inspect
import io
import unittest

from changedif import word
from changedif.word import free, hold

GREATEST = 4294967295
HALF = 2147483648

EDGES = [
    0, 1, 2, 3, 7, 8, 16, 22, 255, 256, 65535, 65536, HALF - 2, HALF - 1, HALF, HALF + 1,
    GREATEST - 22, GREATEST - 16, GREATEST - 2, GREATEST - 1, GREATEST,
]


class Free(unittest.TestCase):
    def check(self, rows):
        for handed, answer in rows:
            with self.subTest(handed=handed):
                self.assertEqual(free(*handed), answer)

    def test_ordinary(self):
        self.check([
            ((5, 5), [0, 0]),
            ((1000000, 1000000), [0, 0]),
            ((7, 5), [-1, 7]),
            ((5, 7), [-1, 5]),
        ])

    def test_me_0(self):
        for was in EDGES:
            self.assertEqual(free(was, 0), [-22, was])

    def test_me_0_where_the_word_is_0(self):
        self.assertEqual(free(0, 0), [-22, 0])

    def test_me_0_goes_ahead_of_a_word_that_is_not_me(self):
        self.check([((1, 0), [-22, 1]), ((7, 0), [-22, 7]), ((GREATEST, 0), [-22, GREATEST])])

    def test_me_1_is_the_first_that_frees(self):
        self.check([((0, 0), [-22, 0]), ((1, 1), [0, 0]), ((2, 2), [0, 0])])

    def test_the_word_is_not_me(self):
        for was in EDGES:
            for me in EDGES[1:]:
                if was != me:
                    self.assertEqual(free(was, me), [-1, was], (was, me))

    def test_the_word_0_is_not_me(self):
        for me in EDGES[1:]:
            self.assertEqual(free(0, me), [-1, 0], me)

    def test_the_word_one_beside_me(self):
        for me in EDGES[1:]:
            self.assertEqual(free(me - 1, me), [-1, me - 1], me)
        for me in EDGES[1:-1]:
            self.assertEqual(free(me + 1, me), [-1, me + 1], me)

    def test_one_beside_me_written_out(self):
        self.check([
            ((1, 2), [-1, 1]),
            ((3, 2), [-1, 3]),
            ((0, 1), [-1, 0]),
            ((2, 1), [-1, 2]),
            ((4294967294, 4294967295), [-1, 4294967294]),
            ((4294967295, 4294967294), [-1, 4294967295]),
        ])

    def test_the_word_is_not_me_where_they_differ_in_one_bit(self):
        for place in range(32):
            for me in (5, HALF + 5, GREATEST):
                was = me ^ (1 << place)
                self.assertEqual(free(was, me), [-1, was], (was, me))

    def test_the_word_is_me(self):
        for me in EDGES[1:]:
            self.assertEqual(free(me, me), [0, 0], me)

    def test_me_1_and_the_corner_me_the_greatest(self):
        self.check([((1, 1), [0, 0]), ((4294967295, 4294967295), [0, 0])])

    def test_above_2147483647_me_and_the_word_are_numbers_without_sign(self):
        self.check([
            ((HALF, HALF), [0, 0]),
            ((HALF, HALF - 1), [-1, HALF]),
            ((HALF + 1, 1), [-1, HALF + 1]),
            ((GREATEST, 1), [-1, GREATEST]),
            ((1, GREATEST), [-1, 1]),
            ((HALF, 0), [-22, HALF]),
        ])

    def test_small_numbers(self):
        for was in range(30):
            for me in range(30):
                told = [-22, was] if not me else [0, 0] if was == me else [-1, was]
                self.assertEqual(free(was, me), told, (was, me))

    def test_a_refused_call_tells_the_word_as_it_was(self):
        for was in EDGES:
            for me in EDGES:
                answer, then = free(was, me)
                self.assertIn(answer, (0, -22, -1))
                self.assertEqual(then, was if answer != 0 else 0, (was, me))

    def test_a_list_of_two_whole_numbers(self):
        for was in EDGES:
            for me in EDGES:
                answer = free(was, me)
                self.assertIs(type(answer), list)
                self.assertEqual([type(number) for number in answer], [int, int])

    def test_nothing_is_kept(self):
        for handed, answer in (((5, 5), [0, 0]), ((7, 5), [-1, 7]), ((7, 0), [-22, 7]), ((0, 5), [-1, 0])):
            first = free(*handed)
            first[0] = 98
            first.append(99)
            hold(0, 5)
            free(9, 9)
            free(9, 5)
            self.assertEqual(free(*handed), answer)

    def test_nothing_is_printed(self):
        out, err = io.StringIO(), io.StringIO()
        with contextlib.redirect_stdout(out), contextlib.redirect_stderr(err):
            for handed in ((5, 5), (7, 5), (7, 0), (GREATEST, GREATEST)):
                free(*handed)
        self.assertEqual((out.getvalue(), err.getvalue()), ("", ""))

    def test_its_name_and_the_names_of_its_arguments(self):
        self.assertIs(word.free, free)
        self.assertEqual(list(inspect.signature(free).parameters), ["was", "me"])
        self.assertEqual(free(me=7, was=5), [-1, 5])

    def test_what_is_held_can_be_freed_and_held_again(self):
        for me in EDGES[1:]:
            for other in EDGES[1:]:
                self.assertEqual(hold(0, me), [0, me])
                self.assertEqual(free(me, me), [0, 0])
                self.assertEqual(hold(0, other), [0, other])

    def test_freed_once_it_is_not_freed_again(self):
        for me in EDGES[1:]:
            there = free(me, me)[1]
            self.assertEqual(free(there, me), [-1, 0])


if __name__ == "__main__":
    unittest.main()
