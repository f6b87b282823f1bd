"""Each call by itself: what it answers, and what the word is then."""

# 2 to the power of the width, written out: what a word of that width goes round at.
SIZE64 = 18446744073709551616
SIZE32 = 4294967296

GREATEST_HOW = 15

# What is answered beside the word: 0 where the call did what it's for, else why it's refused.
DONE = 0
NOT_VALID = -22
NOT_ENOUGH = -28
HELD = -16
NOT_THE_HOLDER = -1


def with_sign(number, size):
    rest = number % size
    if rest >= size // 2:
        return rest - size
    return rest


def is_over(word, number, size):
    # Both are numbers with sign already, so their plain difference is the true one.
    return with_sign(word - number, size) != word - number


def is_less(word, number, size):
    return word % size < number % size


def is_same(word, number, size):
    return (word - number) % size == 0


def is_high(word, number, size):
    return (word - number) % size >= size // 2


def is_even(word, number, size):
    difference = (word - number) % size
    ones = 0
    # The ones above the lowest eight bits don't count, whatever the width.
    for place in range(8):
        ones = ones + (difference >> place) % 2
    return ones % 2 == 0


def is_less_with_sign(word, number, size):
    # Where the difference went over, its highest bit tells the contrary of what's true.
    return is_high(word, number, size) != is_over(word, number, size)


def is_as_even_how_asks(word, number, how, size):
    if how == 0:
        return is_over(word, number, size)
    if how == 2:
        return is_less(word, number, size)
    if how == 4:
        return is_same(word, number, size)
    if how == 6:
        return is_less(word, number, size) or is_same(word, number, size)
    if how == 8:
        return is_high(word, number, size)
    if how == 10:
        return is_even(word, number, size)
    if how == 12:
        return is_less_with_sign(word, number, size)
    return is_less_with_sign(word, number, size) or is_same(word, number, size)


def is_as_how_asks(word, number, how, size):
    if how % 2 == 1:
        return not is_as_even_how_asks(word, number, how - 1, size)
    return is_as_even_how_asks(word, number, how, size)


def add_if(was, cmp, add, how, size):
    if how > GREATEST_HOW:
        return [was, was]
    if is_as_how_asks(was, cmp, how, size):
        return [was, with_sign(was + add, size)]
    return [was, was]


def if64(was, cmp, add, how):
    return add_if(was, cmp, add, how, SIZE64)


def if32(was, cmp, add, how):
    return add_if(was, cmp, add, how, SIZE32)


def take(was, n):
    if n < 1:
        return [NOT_VALID, was]
    if was < n:
        return [NOT_ENOUGH, was]
    return [DONE, was - n]


def give(was, n, most):
    if n < 1 or most < n:
        return [NOT_VALID, was]
    # most - n is never below 0 here, so a word below 0 always has room, and no sum goes round.
    if was > most - n:
        return [NOT_ENOUGH, was]
    return [DONE, was + n]


def below(was, n, end):
    if n == 0 or end < n:
        return [NOT_VALID, was]
    # end - n is never below 0 here, and what is at most end never goes round.
    if was > end - n:
        return [NOT_ENOUGH, was]
    return [DONE, was + n]


def hold(was, me):
    # The word 0 says that nobody holds it, so no one can hold it by that number.
    if me == 0:
        return [NOT_VALID, was]
    # The one that holds it is refused like any other, so that each hold has a free of its own.
    if was != 0:
        return [HELD, was]
    return [DONE, me]


def free(was, me):
    # Else a word that nobody holds could be freed, by the number 0.
    if me == 0:
        return [NOT_VALID, was]
    if was != me:
        return [NOT_THE_HOLDER, was]
    return [DONE, 0]
