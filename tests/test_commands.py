"""Points 11.5 to 11.8: commands."""

import itertools
import random
import unittest

from majordomo.commands import format_command, parse_command
from majordomo.errors import BadArgument, BadWord, CommandError, ExtraArgument, MissingArgument, UnknownCommand
from majordomo.objects import KINDS

LONG = "x" * 41


def error_of(line):
    """The class and the column of the error of a line, or None."""
    try:
        parse_command(line)
    except CommandError as error:
        return type(error), error.column
    return None


class TestParse(unittest.TestCase):
    def check(self, line, *command):
        self.assertEqual(parse_command(line), command)
        self.assertIs(type(parse_command(line)), tuple)

    def test_each_command_alone(self):
        self.check("declare web", "declare", "web", ())
        self.check("scale web 3", "scale", "web", 3)
        self.check("remove web", "remove", "web")
        self.check("drain n1", "drain", "n1", "")
        self.check('drain n1 because "a new disk"', "drain", "n1", "a new disk")
        self.check("undrain n1", "undrain", "n1")
        self.check("note a", "note", "a", ())
        self.check("forget a", "forget", "a")

    def test_each_option_alone(self):
        self.check("declare web count 3", "declare", "web", (("count", 3),))
        self.check("declare web size 30", "declare", "web", (("size", 30),))
        self.check("declare web gone 2", "declare", "web", (("gone", 2),))
        self.check("declare web zone z", "declare", "web", (("zone", "z"),))
        self.check("declare web text run", "declare", "web", (("text", "run"),))
        self.check("note a owner service web", "note", "a", (("owner", ("service", "web")),))
        self.check('note a text "why not"', "note", "a", (("text", "why not"),))

    def test_the_examples_of_the_document(self):
        command = ("declare", "web", (("count", 3), ("text", "run it")))
        self.check('declare web text "run it" count 3', *command)
        self.assertEqual(format_command(command), 'declare web count 3 text "run it"')
        self.assertEqual(error_of("scale web"), (MissingArgument, 10))

    def test_options_in_any_order(self):
        several = {"count 3": ("count", 3), "size 4": ("size", 4), "gone 5": ("gone", 5), 'zone ""': ("zone", ""),
                   "text count": ("text", "count")}
        for count in range(6):
            for words in itertools.permutations(several, count):
                options = tuple(sorted(several[word] for word in words))
                self.check(" ".join(("declare", "a") + words), "declare", "a", options)
        self.check("note a owner note a text owner", "note", "a", (("owner", ("note", "a")), ("text", "owner")))
        self.check("note a text owner owner note a", "note", "a", (("owner", ("note", "a")), ("text", "owner")))

    def test_words_may_be_quoted(self):
        self.check('"scale" "web" "3"', "scale", "web", 3)
        self.check('declare "web" "zone" "z"', "declare", "web", (("zone", "z"),))
        self.check('drain n1 "because" ""', "drain", "n1", "")

    def test_names(self):
        for name in ("a", "0", "9z", "abcdefghijkl", "declare", "because"):
            self.check("remove " + name, "remove", name)
            self.check("declare " + name, "declare", name, ())
        for name in ("A", "a-", "web/0", "abcdefghijklm", '""', "a_b", '"a b"'):
            for word in ("declare", "scale", "remove", "drain", "undrain", "note", "forget"):
                self.assertEqual(error_of(word + " " + name), (BadArgument, len(word) + 2))

    def check_numbers(self, line, good, bad):
        column = line.index("N") + 1
        for word in good:
            found = parse_command(line.replace("N", word))[2]
            number = found[0][1] if isinstance(found, tuple) else found
            self.assertEqual((number, type(number)), (int(word), int))
        for word in bad + ("", "-1", "+1", "00", "01", "1_0", " 1", "1 ", "a", "1.0", "0x1", "1" * 14, "9" * 5000):
            written = '"' + word + '"'
            self.assertEqual(error_of(line.replace("N", written)), (BadArgument, column), word)

    def test_numbers(self):
        self.check_numbers("scale web N", ("0", "1", "9"), ("10", "11", "09"))
        self.check_numbers("declare web count N", ("0", "1", "9"), ("10", "99"))
        self.check_numbers("declare web gone N", ("1", "2", "9"), ("0", "10"))
        self.check_numbers("declare web size N", ("0", "1", "10", "999999999999", "1000000000000"),
                           ("1000000000001", "9999999999999", "0123"))

    def test_zones_and_texts(self):
        for zone in ("z", "abcdefghijkl", "0"):
            self.check("declare web zone " + zone, "declare", "web", (("zone", zone),))
        for zone in ("Z", "abcdefghijklm", "a/0", '" "'):
            self.assertEqual(error_of("declare web zone " + zone), (BadArgument, 18))
        for text in ("", "x" * 40, "~!", "a/b"):
            written = text or '""'
            self.check("declare web text " + written, "declare", "web", (("text", text),))
            self.check("note web text " + written, "note", "web", (("text", text),))
            self.check("drain web because " + written, "drain", "web", text)
        self.check('note a text "' + ' ' * 40 + '"', "note", "a", (("text", " " * 40),))
        for line in ("declare web text ", "note web text ", "drain web because "):
            self.assertEqual(error_of(line + LONG), (BadArgument, len(line) + 1))

    def test_owners(self):
        for kind in KINDS:
            name = "web/0" if kind == "task" else "web"
            other = "web" if kind == "task" else "web/0"
            self.check("note a owner " + kind + " " + name, "note", "a", (("owner", (kind, name)),))
            self.assertEqual(error_of("note a owner " + kind + " " + other), (BadArgument, 15 + len(kind)))
            self.assertEqual(error_of("note a owner " + kind), (MissingArgument, 14 + len(kind)))
        for kind in ("tasks", "Task", '""', "web"):
            self.assertEqual(error_of("note a owner " + kind + " web"), (BadArgument, 14))


class TestErrors(unittest.TestCase):
    def check(self, line, kind, column):
        self.assertEqual(error_of(line), (kind, column), line)

    def test_unknown_commands(self):
        self.check("", UnknownCommand, 1)
        for word in ("declares", "Declare", "declar", '""', "3", "count", '"declare web"'):
            self.check(word, UnknownCommand, 1)
            self.check(word + " web 3", UnknownCommand, 1)

    def test_bad_words_come_first(self):
        for line, column in (("nothing  here", 9), ("scale WEB  3", 11), (" ", 1), ("scale ", 6), ('scale "web', 7),
                             ("remove a b%", 11)):
            self.check(line, BadWord, column)

    def test_unknown_options(self):
        self.check("declare web counts 3", BadArgument, 13)
        self.check("declare web owner service web", BadArgument, 13)
        self.check("declare web count 3 because", BadArgument, 21)
        self.check("note a zone z", BadArgument, 8)
        self.check("note a count 1", BadArgument, 8)
        self.check('note a ""', BadArgument, 8)

    def test_options_that_stood_before(self):
        for first, again in (("count 1", "count 1"), ("size 1", "size 2"), ("gone 1", "gone 1"), ("zone a", "zone b"),
                             ("text a", "text a")):
            self.check("declare web " + first + " " + again, BadArgument, 14 + len(first))
            self.check("declare web " + first + " " + again.split()[0], BadArgument, 14 + len(first))
        self.check("note a text b text c", BadArgument, 15)
        self.check("note a owner note a text b owner note a", BadArgument, 28)
        everything = "declare web count 1 size 1 gone 1 zone a text b"
        self.check(everything + " count 2", BadArgument, len(everything) + 2)
        self.check(everything + " more", BadArgument, len(everything) + 2)

    def test_other_words_than_because(self):
        for word in ("text", "Because", "n2", '""'):
            self.check("drain n1 " + word, BadArgument, 10)
            self.check("drain n1 " + word + " a", BadArgument, 10)

    def test_missing_arguments(self):
        for word in ("declare", "scale", "remove", "drain", "undrain", "note", "forget"):
            self.check(word, MissingArgument, len(word) + 1)
            self.check('"' + word + '"', MissingArgument, len(word) + 3)
        for line in ("scale web", "drain n1 because", "declare web count", "declare web size 1 text", "declare web zone",
                     "declare web gone", "declare web size", "note a text", "note a owner", "note a owner task",
                     "note a text b owner note"):
            self.check(line, MissingArgument, len(line) + 1)

    def test_extra_arguments(self):
        for line in ("scale web 3", "remove web", "undrain n1", "forget a", "drain n1 because b"):
            self.check(line + " more", ExtraArgument, len(line) + 2)
            self.check(line + ' "" more', ExtraArgument, len(line) + 2)


# Commands as lists of words, each with one that may not stand at its place.
SAMPLES = (
    [("declare", "declar"), ("web", "Web")],
    [("declare", "declar"), ("web", "Web"), ("count", "counts"), ("3", "10")],
    [("declare", "declar"), ("web", "Web"), ("zone", "zones"), ('""', "Z"), ("text", "zone"), ("b", LONG),
     ("gone", "text"), ("1", "0"), ("size", "?"), ("7", "07")],
    [("scale", "scales"), ("web", "web/0"), ("3", "03")],
    [("remove", "Remove"), ("web", '""')],
    [("drain", "drains"), ("n1", "n-1"), ("because", "text"), ("b", LONG)],
    [("undrain", "un"), ("n1", "N1")],
    [("note", "notes"), ("a", "a.b"), ("owner", "count"), ("task", "tasks"), ("web/0", "web"), ("text", "owner"), ("b", LONG)],
    [("forget", "x"), ("a", "abcdefghijklm")],
)


class TestTheFirstErrorCounts(unittest.TestCase):
    def column(self, words, at):
        return len(" ".join(words[:at])) + 2 if at else 1

    def test_bad_words_in_each_place_and_in_several(self):
        for sample in SAMPLES:
            good = [word for word, _ in sample]
            self.assertIsNone(error_of(" ".join(good)))
            for chosen in itertools.product((False, True), repeat=len(sample)):
                if True in chosen:
                    words = [bad if is_bad else word for (word, bad), is_bad in zip(sample, chosen)]
                    first = chosen.index(True)
                    kind = BadArgument if first else UnknownCommand
                    # A word more or less behind it does not matter.
                    for end in (len(words), first + 1):
                        self.assertEqual(error_of(" ".join(words[:end])), (kind, self.column(words, first)), words)
                    self.assertEqual(error_of(" ".join(words + ["x"])), (kind, self.column(words, first)), words)

    def test_each_beginning_of_a_command(self):
        for sample in SAMPLES:
            words = [word for word, _ in sample]
            for end in range(1, len(words)):
                line = " ".join(words[:end])
                error = error_of(line)
                if error is not None:
                    self.assertEqual(error, (MissingArgument, len(line) + 1))


class TestFormat(unittest.TestCase):
    def check(self, line, *command):
        self.assertEqual(format_command(command), line)
        self.assertEqual(parse_command(line), command)

    def test_each_command(self):
        self.check("declare web", "declare", "web", ())
        self.check('declare web count 0 gone 9 size 1000000000000 text "" zone ""', "declare", "web",
                   (("count", 0), ("gone", 9), ("size", 10 ** 12), ("text", ""), ("zone", "")))
        self.check('declare web text "a \\"b\\" \\\\" zone z', "declare", "web", (("text", 'a "b" \\'), ("zone", "z")))
        self.check("scale web 0", "scale", "web", 0)
        self.check("remove web", "remove", "web")
        self.check("drain n1", "drain", "n1", "")
        self.check("drain n1 because repair", "drain", "n1", "repair")
        self.check('drain n1 because " "', "drain", "n1", " ")
        self.check("undrain n1", "undrain", "n1")
        self.check("note a", "note", "a", ())
        self.check('note a owner task web/0 text "b c"', "note", "a", (("owner", ("task", "web/0")), ("text", "b c")))
        self.check("forget a", "forget", "a")

    def test_random_commands(self):
        chance = random.Random(1)
        for _ in range(500):
            command = random_command(chance)
            self.assertEqual(parse_command(format_command(command)), command)


def random_command(chance):
    """The parsed form of some command."""
    name = "".join(chance.choice("abz09") for _ in range(chance.randrange(1, 13)))
    text = "".join(chance.choice('ab "\\/~') for _ in range(chance.randrange(9)))
    word = chance.choice(("declare", "declare", "scale", "remove", "drain", "undrain", "note", "note", "forget"))
    if word == "scale":
        return (word, name, chance.randrange(10))
    if word == "drain":
        return (word, name, text)
    if word in ("remove", "undrain", "forget"):
        return (word, name)
    kind = chance.choice(KINDS)
    values = {"owner": (kind, name + "/7" if kind == "task" else name), "text": text}
    if word == "declare":
        values = {"count": chance.randrange(10), "gone": chance.randrange(1, 10), "size": chance.randrange(10 ** 12 + 1),
                  "text": text, "zone": chance.choice(("", name))}
    options = [option for option in sorted(values) if chance.random() < 0.6]
    return (word, name, tuple((option, values[option]) for option in options))


if __name__ == "__main__":
    unittest.main()
