"""Points 11.1 to 11.4: words of lines."""

import itertools
import random
import unittest

from majordomo.errors import BadWord, CommandError
from majordomo.words import split_words, write_word

CHARACTERS = [chr(code) for code in range(32, 127) if chr(code) != "%"]


def column_of(line):
    """The column of the error of a line, or 0 if it has none."""
    try:
        split_words(line)
    except BadWord as error:
        assert isinstance(error, CommandError)
        return error.column
    return 0


def split_again(line):
    """A second writing of point 11.3, character by character: the words, or the column of the error."""
    words = []
    state = "begin"
    for at, character in enumerate(line):
        if state == "escape":
            if character not in '"\\':
                return at
            words[-1][0] += character
            state = "quoted"
        elif character not in CHARACTERS:
            return at + 1
        elif state == "quoted":
            if character == '"':
                state = "closed"
            elif character == "\\":
                state = "escape"
            else:
                words[-1][0] += character
        elif character == " ":
            if state == "begin":
                return at + 1
            state = "begin"
        elif state == "begin" and character != "\\":
            words.append(["" if character == '"' else character, at + 1])
            state = "quoted" if character == '"' else "plain"
        elif state == "plain" and character not in '"\\':
            words[-1][0] += character
        else:
            return at + 1
    if state == "quoted":
        return words[-1][1]
    if state == "escape" or state == "begin" and line:
        return len(line)
    return [tuple(word) for word in words]


class TestSplit(unittest.TestCase):
    def check(self, line, *words):
        found = split_words(line)
        self.assertEqual(found, list(words))
        self.assertTrue(all(type(pair) is tuple for pair in found))
        found.append(("other", 1))
        self.assertEqual(split_words(line), list(words))

    def test_plain_words(self):
        self.check("a", ("a", 1))
        self.check("declare web count 3", ("declare", 1), ("web", 9), ("count", 13), ("3", 19))
        self.check("!~ #$&'()*+,-./:;<=>?@[]^_`{|}", ("!~", 1), ("#$&'()*+,-./:;<=>?@[]^_`{|}", 4))

    def test_quoted_words(self):
        self.check('"a"', ("a", 1))
        self.check('"run it" "" b', ("run it", 1), ("", 10), ("b", 13))
        self.check('""', ("", 1))
        self.check('" "', (" ", 1))
        self.check('a "  b  " ""', ("a", 1), ("  b  ", 3), ("", 11))

    def test_escapes(self):
        self.check('"\\""', ('"', 1))
        self.check('"\\\\"', ("\\", 1))
        self.check('"a\\"b\\\\c" d', ('a"b\\c', 1), ("d", 11))
        self.check('"\\\\\\"" "\\\\"', ('\\"', 1), ("\\", 8))

    def test_the_empty_line(self):
        self.check("")


class TestErrors(unittest.TestCase):
    def check(self, column, line):
        self.assertEqual(column_of(line), column, line)

    def test_characters_that_may_not_stand_in_a_line(self):
        for character in ("%", "\n", "\t", "\r", "\x00", "\x1f", "\x7f", "\x80", "\u00e4", "\u2028"):
            self.check(1, character)
            self.check(3, "ab" + character)
            self.check(3, "a " + character + " b")
            self.check(3, '"a' + character + 'b"')
            self.check(4, '"a"' + character)

    def test_spaces(self):
        for line in (" ", "  ", " a", " a b", ' "a"', " %"):
            self.check(1, line)
        self.check(2, "a ")
        self.check(3, "a  ")
        self.check(3, "a  b")
        self.check(4, '"a" ')
        self.check(5, '"a"  b')
        self.check(4, "a b ")

    def test_quotation_marks_and_backslashes_in_plain_words(self):
        self.check(2, 'a"')
        self.check(2, 'a"b"')
        self.check(1, "\\")
        self.check(1, '\\"a"')
        self.check(2, "a\\")
        self.check(5, "a b \\c")
        self.check(6, 'a b c"')

    def test_backslashes_in_quoted_words(self):
        for line in ('"\\', '"\\a"', '"\\ "', '"\\%"', '"\\n'):
            self.check(2, line)
        self.check(3, '"a\\')
        self.check(4, '"\\\\\\a"')
        self.check(5, 'a "b\\')

    def test_characters_after_the_closing_quotation_mark(self):
        for line in ('""a', '"""', '""\\', '""%', '"""a"'):
            self.check(3, line)
        self.check(4, '"a"b c')
        self.check(10, 'ab "c" ""x')

    def test_lines_that_end_within_a_quoted_word(self):
        self.check(1, '"')
        self.check(1, '"abc d')
        self.check(3, 'a "')
        self.check(4, '"" "')
        self.check(1, '"\\"')
        self.check(3, 'a "b\\\\')

    def test_the_first_one_from_the_left_decides(self):
        self.check(4, '"ab%')
        self.check(3, '"a\\')
        self.check(2, 'a" %')
        self.check(3, "a  %")
        self.check(3, 'a % "')
        self.check(3, '"a\\b%')
        self.check(4, 'a "%\\x')
        self.check(5, '"a" %"')


class TestAgainstASecondWriting(unittest.TestCase):
    def test_all_short_lines(self):
        for size in range(7):
            for characters in itertools.product('a "\\%', repeat=size):
                line = "".join(characters)
                self.assertEqual(column_of(line) or split_words(line), split_again(line), repr(line))


class TestWrite(unittest.TestCase):
    def test_plain_words(self):
        for word in ("a", "web/0", "-", "0,1", "a'b", "!", "~"):
            self.assertEqual(write_word(word), word)

    def test_quoted_words(self):
        self.assertEqual(write_word(""), '""')
        self.assertEqual(write_word(" "), '" "')
        self.assertEqual(write_word("run it"), '"run it"')
        self.assertEqual(write_word('"'), '"\\""')
        self.assertEqual(write_word("\\"), '"\\\\"')
        self.assertEqual(write_word('a"b\\c'), '"a\\"b\\\\c"')
        self.assertEqual(write_word('\\"'), '"\\\\\\""')

    def test_each_word_is_the_same_when_it_is_split_again(self):
        for size in range(5):
            for characters in itertools.product('a "\\', repeat=size):
                word = "".join(characters)
                written = write_word(word)
                self.assertEqual(split_words(written), [(word, 1)])
                self.assertEqual(written[0] == '"', word == "" or any(character in ' "\\' for character in word))

    def test_several_words_in_a_line(self):
        chance = random.Random(1)
        for _ in range(300):
            words = ["".join(chance.choice(CHARACTERS) for _ in range(chance.randrange(6))) for _ in range(4)]
            line = " ".join(write_word(word) for word in words)
            self.assertEqual([word for word, _ in split_words(line)], words)


if __name__ == "__main__":
    unittest.main()
