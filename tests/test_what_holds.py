"""What holds over the whole program: a, b, c and d, the row of corners, and the interface of all seven."""

import ast
import contextlib
import inspect
import io
import itertools
import os
import unittest

import changedif
from changedif import word
from changedif.word import below, free, give, hold, if32, if64, take

PACKAGE = os.path.dirname(os.path.abspath(changedif.__file__))

LEAST64 = -9223372036854775808
GREATEST64 = 9223372036854775807
END64 = 18446744073709551615
LEAST32 = -2147483648
GREATEST32 = 2147483647
END32 = 4294967295

ARGUMENTS = {
    "if64": ["was", "cmp", "add", "how"],
    "if32": ["was", "cmp", "add", "how"],
    "take": ["was", "n"],
    "give": ["was", "n", "most"],
    "below": ["was", "n", "end"],
    "hold": ["was", "me"],
    "free": ["was", "me"],
}

SIGNED64 = [
    LEAST64, LEAST64 + 1, -4294967296, LEAST32 - 1, LEAST32, -256, -129, -2, -1, 0, 1, 2, 3, 127, 128, 255, 256,
    GREATEST32, GREATEST32 + 1, END32, END32 + 1, GREATEST64 - 1, GREATEST64,
]
SIGNED32 = [
    LEAST32, LEAST32 + 1, -65536, -256, -129, -2, -1, 0, 1, 2, 3, 127, 128, 255, 256, 65535, 65536,
    GREATEST32 - 1, GREATEST32,
]
UNSIGNED64 = [0, 1, 2, 3, END32, END32 + 1, GREATEST64, GREATEST64 + 1, END64 - 1, END64]
UNSIGNED32 = [0, 1, 2, 3, 65536, GREATEST32, GREATEST32 + 1, END32 - 1, END32]
HOWS = list(range(16)) + [16, 17, 20, 28, 31, 256, 260, GREATEST32, GREATEST32 + 1, END32 - 1, END32]

WIDTHS = ((if64, 64, SIGNED64), (if32, 32, SIGNED32))


def row_of_numbers(seed, length):
    """Numbers of 64 bits that look mixed, and are the same each time."""
    numbers = []
    for step in range(length):
        seed = (seed * 6364136223846793005 + 1442695040888963407) % (END64 + 1)
        # The low bits of seed come round soon; the high ones are laid over them.
        numbers.append(seed ^ seed >> 32)
    return numbers


def plain_comparison(was, cmp, how, width):
    """What 2, 4, 6, 12 and 14 ask, and each odd one beside them, by comparing the numbers alone."""
    was_without = was if was >= 0 else was + (1 << width)
    cmp_without = cmp if cmp >= 0 else cmp + (1 << width)
    return {
        2: was_without < cmp_without, 3: was_without >= cmp_without,
        4: was == cmp, 5: was != cmp,
        6: was_without <= cmp_without, 7: was_without > cmp_without,
        12: was < cmp, 13: was >= cmp,
        14: was <= cmp, 15: was > cmp,
    }[how]


def asked(was, cmp, how, width):
    """Whether the word is as how asks, for every how."""
    if how > 15:
        return False
    if how not in (0, 1, 8, 9, 10, 11):
        return plain_comparison(was, cmp, how, width)
    bits = format((was - cmp) % (1 << width), "b").zfill(width)
    flag = {
        0: was - cmp < -(1 << (width - 1)) or was - cmp >= 1 << (width - 1),
        8: bits[0] == "1",
        10: bits[-8:].count("1") % 2 == 0,
    }[how - how % 2]
    return flag != (how % 2 == 1)


class A(unittest.TestCase):
    """2 asks whether it's less as unsigned numbers, 12 as signed ones, 4 whether it's the same .."""

    HOWS = (2, 3, 4, 5, 6, 7, 12, 13, 14, 15)

    def pairs(self, width, edges):
        yield from itertools.product(edges, edges)
        mixed = [number % (1 << width) - (1 << (width - 1)) for number in row_of_numbers(width, 400)]
        yield from zip(mixed, mixed[1:])

    def test_against_plain_comparisons(self):
        for function, width, edges in WIDTHS:
            seen = {(how, is_so): 0 for how in self.HOWS for is_so in (True, False)}
            for was, cmp in self.pairs(width, edges):
                for how in self.HOWS:
                    is_so = plain_comparison(was, cmp, how, width)
                    # 1 is added to tell by the word whether it was as how asks.
                    changed = function(was, cmp, 1, how)[1] != was
                    self.assertEqual(changed, is_so, (function.__name__, was, cmp, how))
                    seen[how, is_so] += 1
            self.assertTrue(all(count > 0 for count in seen.values()), seen)

    def test_each_odd_one_asks_the_contrary(self):
        for function, width, edges in WIDTHS:
            for was, cmp in self.pairs(width, edges):
                for how in range(0, 16, 2):
                    one = function(was, cmp, 1, how)[1] != was
                    contrary = function(was, cmp, 1, how + 1)[1] != was
                    self.assertNotEqual(one, contrary, (function.__name__, was, cmp, how))

    def test_6_and_14_are_that_or_the_same(self):
        for function, width, edges in WIDTHS:
            for was, cmp in self.pairs(width, edges):
                so = {how: function(was, cmp, 1, how)[1] != was for how in (2, 4, 6, 12, 14)}
                self.assertEqual(so[6], so[2] or so[4], (function.__name__, was, cmp))
                self.assertEqual(so[14], so[12] or so[4], (function.__name__, was, cmp))

    def test_small_numbers(self):
        for function, width, edges in WIDTHS:
            for was in range(-6, 7):
                for cmp in range(-6, 7):
                    for how in self.HOWS:
                        told = was + 9 if plain_comparison(was, cmp, how, width) else was
                        self.assertEqual(function(was, cmp, 9, how), [was, told], (was, cmp, how))


class B(unittest.TestCase):
    """Never below nothing, never above what may be."""

    def test_runs_stay_from_0_to_most(self):
        for most in (1, 2, 7, 1000, END32, GREATEST64 - 1, GREATEST64):
            for start in (0, 1, most // 2, most - 1, most):
                there, done, refused = start, 0, 0
                for step, number in enumerate(row_of_numbers(most + start, 1000)):
                    wide = (3, most // 3 + 1, most + 1)[step % 3]
                    n = min(number % (wide + 2) - 1, GREATEST64)
                    was = there
                    answer, there = take(was, n) if number >> 63 else give(was, n, most)
                    self.assertTrue(0 <= there <= most, (was, n, most, there))
                    done, refused = done + (answer == 0), refused + (answer != 0)
                # A run in which nothing happens would hold whatever take and give did.
                self.assertGreater(min(done, refused), 50, (most, start))

    def test_every_word_that_can_come_of_a_small_most(self):
        for most in range(0, 8):
            seen, new = {0}, [0]
            while new:
                there = new.pop()
                for n in range(-2, most + 3):
                    for then in (take(there, n)[1], give(there, n, most)[1]):
                        if then not in seen:
                            seen.add(then)
                            new.append(then)
            self.assertEqual(seen, set(range(most + 1)))

    def test_edges(self):
        for most in [number for number in SIGNED64 if number >= 0]:
            for start in [number for number in SIGNED64 if 0 <= number <= most]:
                for n in SIGNED64:
                    self.assertTrue(0 <= take(start, n)[1] <= most, (start, n, most))
                    self.assertTrue(0 <= give(start, n, most)[1] <= most, (start, n, most))


class C(unittest.TestCase):
    """One holds it."""

    def run_of(self, steps):
        """Goes through holds and frees, and says how many of each were answered 0 and refused."""
        there, holder = 0, None
        counts = {"hold": [0, 0], "free": [0, 0]}
        for name, me in steps:
            answer, then = hold(there, me) if name == "hold" else free(there, me)
            counts[name][answer != 0] += 1
            if answer != 0:
                self.assertEqual(then, there, (there, name, me))
            elif name == "hold":
                self.assertIsNone(holder, (there, name, me, steps))
                holder = me
            else:
                self.assertEqual(holder, me, (there, name, me, steps))
                holder = None
            there = then
            self.assertEqual(there, 0 if holder is None else holder)
        return counts

    def test_every_short_run_of_three_and_of_me_0(self):
        steps = list(itertools.product(("hold", "free"), (0, 1, 2, END32)))
        for run in itertools.product(steps, repeat=4):
            self.run_of(run)

    def test_long_runs_by_several(self):
        for several in ((1, 2), (1, 2, 3), (0, 1, 2, 3), (GREATEST32, GREATEST32 + 1, END32 - 1, END32, 1),
                        (5, 5 + 256, 5 + 65536, 5 + GREATEST32 + 1)):
            steps = [
                (("hold", "free")[number >> 20 & 1], several[(number >> 24) % len(several)])
                for number in row_of_numbers(several[-1], 3000)
            ]
            for done, refused in self.run_of(steps).values():
                # A run in which nothing happens would hold whatever hold and free did.
                self.assertGreater(min(done, refused), 50, several)

    def test_whoever_else_asks_is_refused_until_it_is_freed(self):
        for me in UNSIGNED32[1:]:
            answer, there = hold(0, me)
            self.assertEqual((answer, there), (0, me))
            for other in UNSIGNED32:
                self.assertNotEqual(hold(there, other)[0], 0, (me, other))
                self.assertEqual(hold(there, other)[1], there, (me, other))
                if other != me:
                    self.assertNotEqual(free(there, other)[0], 0, (me, other))
                    self.assertEqual(free(there, other)[1], there, (me, other))
            answer, there = free(there, me)
            self.assertEqual((answer, there), (0, 0))
            for other in UNSIGNED32[1:]:
                self.assertEqual(hold(there, other), [0, other])

    def test_each_is_answered_0_where_it_may_be(self):
        there = 0
        for me in UNSIGNED32[1:] * 3:
            answer, there = hold(there, me)
            self.assertEqual((answer, there), (0, me))
            answer, there = free(there, me)
            self.assertEqual((answer, there), (0, 0))


class D(unittest.TestCase):
    """What's not asked for leaves the word as it is."""

    def check(self, function, rows):
        """Of each row: what is handed in, whether it's asked for, and what the word is if so."""
        asked_for, not_asked_for = 0, 0
        for handed, is_asked, word_if_so in rows:
            then = function(*handed)[1]
            if is_asked:
                asked_for += 1
                self.assertEqual(then, word_if_so, (function.__name__, handed))
            else:
                not_asked_for += 1
                self.assertEqual(then, handed[0], (function.__name__, handed))
        self.assertGreater(min(asked_for, not_asked_for), 0)

    def test_if64_and_if32(self):
        for function, width, edges in WIDTHS:
            half = 1 << (width - 1)
            adds = (-half, -1, 0, 1, half - 1)
            self.check(function, [
                ((was, cmp, add, how), asked(was, cmp, how, width), (was + add + half) % (2 * half) - half)
                for was in edges for cmp in edges for add in adds for how in HOWS
            ])

    def test_how_above_15(self):
        for function, width, edges in WIDTHS:
            for was in edges:
                for cmp in (was, edges[0], 0, edges[-1]):
                    for how in HOWS[16:]:
                        self.assertEqual(function(was, cmp, 1, how), [was, was], (function.__name__, was, cmp, how))

    def test_take(self):
        self.check(take, [
            ((was, n), 1 <= n <= was, was - n)
            for was in SIGNED64 for n in SIGNED64
        ])

    def test_give(self):
        self.check(give, [
            ((was, n, most), 1 <= n <= most and was + n <= most, was + n)
            for was in SIGNED64 for n in SIGNED64 for most in SIGNED64
        ])

    def test_below(self):
        self.check(below, [
            ((was, n, end), 1 <= n <= end and was + n <= end, was + n)
            for was in UNSIGNED64 for n in UNSIGNED64 for end in UNSIGNED64
        ])

    def test_hold(self):
        self.check(hold, [((was, me), was == 0 and me != 0, me) for was in UNSIGNED32 for me in UNSIGNED32])

    def test_free(self):
        self.check(free, [((was, me), was == me and me != 0, 0) for was in UNSIGNED32 for me in UNSIGNED32])


class Corners(unittest.TestCase):
    """The row of corners, each written out."""

    def check(self, function, rows):
        for handed, answer in rows:
            with self.subTest(function=function.__name__, handed=handed):
                self.assertEqual(function(*handed), answer)

    def test_how_0(self):
        for function, least, greatest in ((if64, LEAST64, GREATEST64), (if32, LEAST32, GREATEST32)):
            self.check(function, [
                ((least, 1, 5, 0), [least, least + 5]),
                ((greatest, -1, -5, 0), [greatest, greatest - 5]),
                ((0, least, 5, 0), [0, 5]),
                ((-1, least, 5, 0), [-1, -1]),
                ((7, 3, 5, 0), [7, 7]),
                ((least, least, 5, 0), [least, least]),
            ])

    def test_how_10(self):
        for function, least in ((if64, LEAST64), (if32, LEAST32)):
            self.check(function, [
                ((3, 0, 5, 10), [3, 8]),
                ((1, 0, 5, 10), [1, 1]),
                ((256, 0, 5, 10), [256, 261]),
                ((257, 0, 5, 10), [257, 257]),
                ((0, 1, 5, 10), [0, 5]),
                ((7, 7, 5, 10), [7, 12]),
                ((128, 0, 5, 10), [128, 128]),
                ((least, 0, 5, 10), [least, least + 5]),
            ])

    def test_the_least_signed_number(self):
        for function, least, greatest in ((if64, LEAST64, GREATEST64), (if32, LEAST32, GREATEST32)):
            self.check(function, [
                ((least, least, least, 4), [least, 0]),
                ((0, 0, least, 4), [0, least]),
                ((-1, 0, least, 12), [-1, greatest]),
                ((least, 0, -1, 12), [least, greatest]),
                ((0, least, 1, 2), [0, 1]),
                ((0, least, 1, 12), [0, 0]),
                ((least, greatest, 1, 2), [least, least]),
            ])
        self.check(take, [
            ((LEAST64, 1), [-28, LEAST64]),
            ((LEAST64, LEAST64), [-22, LEAST64]),
            ((5, LEAST64), [-22, 5]),
        ])
        self.check(give, [
            ((LEAST64, 1, 1), [0, LEAST64 + 1]),
            ((LEAST64, LEAST64, LEAST64), [-22, LEAST64]),
            ((5, LEAST64, 9), [-22, 5]),
            ((5, 1, LEAST64), [-22, 5]),
        ])

    def test_add_0(self):
        for function, width, edges in WIDTHS:
            for was in edges:
                for cmp in edges:
                    for how in HOWS:
                        self.assertEqual(function(was, cmp, 0, how), [was, was], (function.__name__, was, cmp, how))

    def test_cmp_and_the_word_alike(self):
        for function, width, edges in WIDTHS:
            for was in edges[:-1]:
                changed = [how for how in HOWS if function(was, was, 1, how) == [was, was + 1]]
                self.assertEqual(changed, [1, 3, 4, 6, 9, 10, 13, 14], (function.__name__, was))

    def test_most_the_greatest_signed_number_and_the_word_below_0(self):
        self.check(give, [
            ((-1, 1, 9223372036854775807), [0, 0]),
            ((-1, 9223372036854775807, 9223372036854775807), [0, 9223372036854775806]),
            ((-9223372036854775808, 1, 9223372036854775807), [0, -9223372036854775807]),
            ((-9223372036854775808, 9223372036854775807, 9223372036854775807), [0, -1]),
        ])

    def test_end_the_greatest(self):
        self.check(below, [
            ((0, 1, 18446744073709551615), [0, 1]),
            ((0, 18446744073709551615, 18446744073709551615), [0, 18446744073709551615]),
            ((18446744073709551614, 1, 18446744073709551615), [0, 18446744073709551615]),
            ((18446744073709551615, 1, 18446744073709551615), [-28, 18446744073709551615]),
            ((1, 18446744073709551615, 18446744073709551615), [-28, 1]),
            ((18446744073709551615, 18446744073709551615, 18446744073709551615), [-28, 18446744073709551615]),
            ((18446744073709551615, 0, 18446744073709551615), [-22, 18446744073709551615]),
        ])

    def test_me_the_greatest(self):
        self.check(hold, [
            ((0, 4294967295), [0, 4294967295]),
            ((1, 4294967295), [-16, 1]),
            ((4294967295, 4294967295), [-16, 4294967295]),
        ])
        self.check(free, [
            ((4294967295, 4294967295), [0, 0]),
            ((0, 4294967295), [-1, 0]),
            ((4294967294, 4294967295), [-1, 4294967294]),
        ])


class Interface(unittest.TestCase):
    """What the interface says of all seven."""

    def calls(self):
        """Calls of every function, changed and refused in every way, with what is given back."""
        return [
            (if64, (5, 7, 10, 12), [5, 15]), (if64, (9, 7, 10, 12), [9, 9]), (if64, (5, 7, 10, 16), [5, 5]),
            (if64, (GREATEST64, 0, 1, 5), [GREATEST64, LEAST64]),
            (if32, (5, 7, 10, 12), [5, 15]), (if32, (9, 7, 10, 12), [9, 9]), (if32, (5, 7, 10, 16), [5, 5]),
            (if32, (GREATEST32, 0, 1, 5), [GREATEST32, LEAST32]),
            (take, (10, 3), [0, 7]), (take, (2, 3), [-28, 2]), (take, (2, 0), [-22, 2]),
            (give, (7, 3, 10), [0, 10]), (give, (8, 3, 10), [-28, 8]), (give, (8, 11, 10), [-22, 8]),
            (give, (8, 0, 10), [-22, 8]),
            (below, (7, 3, 10), [0, 10]), (below, (8, 3, 10), [-28, 8]), (below, (8, 11, 10), [-22, 8]),
            (below, (8, 0, 10), [-22, 8]),
            (hold, (0, 5), [0, 5]), (hold, (7, 5), [-16, 7]), (hold, (5, 5), [-16, 5]), (hold, (0, 0), [-22, 0]),
            (free, (5, 5), [0, 0]), (free, (7, 5), [-1, 7]), (free, (0, 5), [-1, 0]), (free, (0, 0), [-22, 0]),
        ]

    def grids(self):
        """Each function with rows of what may be handed in, the ends of its ranges among them."""
        return [
            (if64, (SIGNED64, SIGNED64, (LEAST64, 0, 1, GREATEST64), HOWS)),
            (if32, (SIGNED32, SIGNED32, (LEAST32, 0, 1, GREATEST32), HOWS)),
            (take, (SIGNED64, SIGNED64)),
            (give, (SIGNED64, SIGNED64, SIGNED64)),
            (below, (UNSIGNED64, UNSIGNED64, UNSIGNED64)),
            (hold, (UNSIGNED32, UNSIGNED32)),
            (free, (UNSIGNED32, UNSIGNED32)),
        ]

    def test_the_names_and_the_arguments(self):
        for name, arguments in ARGUMENTS.items():
            parameters = inspect.signature(getattr(word, name)).parameters.values()
            self.assertEqual([parameter.name for parameter in parameters], arguments, name)
            for parameter in parameters:
                self.assertIs(parameter.default, inspect.Parameter.empty, name)

    def test_each_gives_back_a_list_of_two_whole_numbers(self):
        for function, rows in self.grids():
            for handed in itertools.product(*rows):
                back = function(*handed)
                if type(back) is not list or [type(number) for number in back] != [int, int]:
                    self.fail((function.__name__, handed, back))

    def test_the_word_stays_within_its_width(self):
        ends = {
            "if64": (LEAST64, GREATEST64), "if32": (LEAST32, GREATEST32), "take": (LEAST64, GREATEST64),
            "give": (LEAST64, GREATEST64), "below": (0, END64), "hold": (0, END32), "free": (0, END32),
        }
        for function, rows in self.grids():
            least, greatest = ends[function.__name__]
            for handed in itertools.product(*rows):
                if not least <= function(*handed)[1] <= greatest:
                    self.fail((function.__name__, handed))

    def test_if64_and_if32_answer_what_the_word_was(self):
        for function, rows in self.grids()[:2]:
            for handed in itertools.product(*rows):
                if function(*handed)[0] != handed[0]:
                    self.fail((function.__name__, handed))

    def test_the_same_numbers_give_the_same_whatever_was_called_between(self):
        calls = self.calls()
        self.assertEqual({function.__name__ for function, handed, told in calls}, set(ARGUMENTS))
        for function, handed, told in calls:
            for between, handed_between, told_between in calls:
                first = function(*handed)
                self.assertEqual(first, told, (function.__name__, handed))
                # What is given back is the caller's own: changing it changes no later answer.
                first.reverse()
                first.append(99)
                self.assertEqual(between(*handed_between), told_between, (between.__name__, handed_between))
                self.assertEqual(function(*handed), told, (function.__name__, handed))

    def test_each_call_gives_back_a_list_of_its_own(self):
        for function, handed, told in self.calls():
            self.assertIsNot(function(*handed), function(*handed))

    def test_nothing_is_printed(self):
        out, err = io.StringIO(), io.StringIO()
        with contextlib.redirect_stdout(out), contextlib.redirect_stderr(err):
            for function, handed, told in self.calls():
                function(*handed)
        self.assertEqual((out.getvalue(), err.getvalue()), ("", ""))

    def test_nothing_is_imported(self):
        for folder, folders, files in os.walk(PACKAGE):
            for name in [name for name in files if name.endswith(".py")]:
                with open(os.path.join(folder, name), encoding="ascii") as file:
                    tree = ast.parse(file.read())
                for node in ast.walk(tree):
                    self.assertNotIsInstance(node, (ast.Import, ast.ImportFrom), name)


if __name__ == "__main__":
    unittest.main()
