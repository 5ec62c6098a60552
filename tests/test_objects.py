"""Points 5.1 to 5.3: kinds, values and transactions."""

import unittest

from majordomo.errors import BadTransaction
from majordomo.objects import (KINDS, check_transaction, is_count, is_key, is_object, is_plain_name, is_slot_name,
                               is_text, is_zone, slot_name, split_slot)

MOST = 10 ** 12
CHARACTERS = "".join(chr(code) for code in range(32, 127) if code != 37)
NAMES = ("a", "z", "0", "9", "web", "w1", "0a", "abcdefghijkl", "mnopqrstuvwx", "yz0123456789", "123456789012")
NO_NAMES = ("", "abcdefghijklm", "A", "Web", "a b", " a", "a ", "a/0", "web/", "/", "a_b", "a-b", "a.b", "`", "{", ":",
            "@", "[", "\u00e4", "\u0661", "\u00b2", "a\n", "a\x00", "~", "/0")
SLOTS = ("a/0", "web/0", "web/9", "0/5", "abcdefghijkl/3")
NO_SLOTS = ("", "web", "web/", "/0", "web/10", "web/a", "web//0", "web/0/1", "Web/0", "abcdefghijklm/0", "web-0", "a0",
            "0", "/", "web /0", "web/ ", "web/\u0661", "web/\u00b2", "web/:", "web0", "we/b", "a b/0", "web/0 ", " web/0")
TEXTS = ("", "x", "x" * 40, CHARACTERS[:40], CHARACTERS[40:80], CHARACTERS[80:], "run it", " ")
NO_TEXTS = ("x" * 41, "%", "a%", "\n", "a\tb", "\x1f", "\x7f", "\u00e4")
COUNTS = (0, 1, 9, MOST - 1, MOST)
NO_COUNTS = (-1, -MOST, MOST + 1, 2 ** 100)
OTHERS = (None, False, True, (), (1,), ("a",), (("a",),))
ODD = OTHERS + (1.0, b"a", [], ["a"], {})


class TestForms(unittest.TestCase):
    def check(self, form, good, bad):
        for value in good:
            with self.subTest(value):
                self.assertIs(form(value), True)
        for value in bad:
            with self.subTest(value):
                self.assertIs(form(value), False)

    def test_kinds(self):
        self.assertEqual(KINDS, ("beat", "drain", "node", "note", "rollout", "service", "task"))

    def test_plain_names(self):
        self.check(is_plain_name, NAMES, NO_NAMES + SLOTS + ODD + COUNTS)
        for code in range(128):
            good = 97 <= code <= 122 or 48 <= code <= 57
            self.assertIs(is_plain_name(chr(code)), good)
            self.assertIs(is_plain_name("ab" + chr(code) + "c"), good)

    def test_slot_names(self):
        self.check(is_slot_name, SLOTS, NO_SLOTS + ODD + COUNTS)
        for code in range(128):
            self.assertIs(is_slot_name("web/" + chr(code)), 48 <= code <= 57)
            self.assertIs(is_slot_name("web" + chr(code) + "0"), code == 47)
            self.assertIs(is_slot_name(chr(code) + "/0"), 97 <= code <= 122 or 48 <= code <= 57)

    def test_texts(self):
        self.check(is_text, TEXTS, NO_TEXTS + ODD + COUNTS)
        for code in range(256):
            self.assertIs(is_text("a" + chr(code)), 32 <= code <= 126 and code != 37)

    def test_counts(self):
        self.check(is_count, COUNTS, NO_COUNTS + ODD + ("1", "", "a"))

    def test_zones(self):
        self.check(is_zone, NAMES + ("",), NO_NAMES[1:] + SLOTS + ODD + COUNTS)

    def test_slot_names_are_made_and_split(self):
        for name in NAMES:
            for number in range(10):
                self.assertEqual(slot_name(name, number), name + "/" + "0123456789"[number])
                self.assertEqual(split_slot(slot_name(name, number)), (name, number))
        self.assertIsInstance(split_slot("web/3"), tuple)
        for slot in NO_SLOTS:
            self.assertIsNone(split_slot(slot))


class TestKeys(unittest.TestCase):
    def test_keys(self):
        for kind in KINDS:
            good, bad = (SLOTS, NO_SLOTS) if kind == "task" else (NAMES, NO_NAMES)
            for name in good:
                self.assertIs(is_key(kind, name), True)
            for name in bad + ODD + COUNTS:
                self.assertIs(is_key(kind, name), False)

    def test_other_kinds(self):
        for kind in ("", "tasks", "Task", "TASK", "tas", "nod", "beat ", "web", "front") + ODD + COUNTS:
            for name in ("web", "web/0"):
                self.assertIs(is_key(kind, name), False)
                self.assertIs(is_object(kind, name, ("a",)), False)


# For each kind: a good value, and for each place the members that are good there and those that are not.
NUMBERS = (COUNTS, NO_COUNTS + ODD + ("1", ""))
BITS = ((0, 1), (-1, 2) + NO_COUNTS + ODD + ("1", ""))
WORDS = (TEXTS, NO_TEXTS + ODD + COUNTS)
ZONES = (NAMES + ("",), NO_NAMES[1:] + ODD + COUNTS)
OPEN = (
    ((), (0,), (9,), (0, 1), (3, 7, 9), tuple(range(10))),
    ((-1,), (10,), (0, 0), (1, 0), (0, 2, 1), (3, 3), (0, 1, 2, 2), tuple(range(11)), (True,), (False,), (0, True), (None,),
     ("0",), ((0,),), ((),), 0, 5, "", "0", None, False, True, [], [0], MOST, 1.0, b"", (0, "1"), (1, None)),
)
FORMS = {
    "beat": ((3, 4), (NUMBERS, NUMBERS)),
    "drain": (("why",), (WORDS,)),
    "node": ((9, 2, 1, 0, "east"), (NUMBERS, NUMBERS, NUMBERS, BITS, ZONES)),
    "note": (("t", "service", "web", 5), (
        WORDS,
        (("beat", "drain", "node", "note", "rollout", "service"), ("", "task", "other", "Service") + ODD + COUNTS),
        (NAMES, NO_NAMES + SLOTS + ODD + COUNTS),
        NUMBERS)),
    "rollout": ((7, (0, 3)), (NUMBERS, OPEN)),
    "service": ((2, "run", 1, 1, ""), (
        (tuple(range(10)), (-1, 10, MOST) + ODD + ("1", "")),
        WORDS,
        NUMBERS,
        (tuple(range(1, 10)), (0, -1, 10, MOST) + ODD + ("1", "")),
        ZONES)),
    "task": ((7, "run", 1, "bound", 0, "w1", 3, "east"), (
        NUMBERS, WORDS, NUMBERS,
        (("new", "bound", "running", "ended"), ("", "New", "bound ", "stopped", "n", "runnin") + ODD + COUNTS),
        BITS, ZONES, NUMBERS, ZONES)),
}


def name_of(kind):
    return "web/0" if kind == "task" else "web"


class TestObjects(unittest.TestCase):
    def test_every_member(self):
        for kind, (value, places) in FORMS.items():
            self.assertEqual(len(value), len(places))
            for at, (good, bad) in enumerate(places):
                for member in good:
                    with self.subTest((kind, at, member)):
                        self.assertIs(is_object(kind, name_of(kind), value[:at] + (member,) + value[at + 1:]), True)
                for member in bad:
                    with self.subTest((kind, at, member)):
                        self.assertIs(is_object(kind, name_of(kind), value[:at] + (member,) + value[at + 1:]), False)

    def test_lengths(self):
        for kind, (value, _) in FORMS.items():
            for length in range(len(value)):
                self.assertIs(is_object(kind, name_of(kind), value[:length]), False)
            for more in (0, "", (), value[-1]):
                self.assertIs(is_object(kind, name_of(kind), value + (more,)), False)

    def test_things_that_are_no_tuples(self):
        for kind, (value, _) in FORMS.items():
            for other in (None, False, True, 0, 5, "", "text", list(value), {}, len(value), "x" * len(value)):
                self.assertIs(is_object(kind, name_of(kind), other), False)

    def test_names(self):
        for kind, (value, _) in FORMS.items():
            good, bad = (SLOTS, NO_SLOTS) if kind == "task" else (NAMES, NO_NAMES)
            for name in good:
                self.assertIs(is_object(kind, name, value), True)
            for name in bad + ODD:
                self.assertIs(is_object(kind, name, value), False)

    def test_values_of_other_kinds(self):
        for kind in FORMS:
            for other, (value, _) in FORMS.items():
                if other != kind:
                    self.assertIs(is_object(kind, name_of(kind), value), False)

    def test_owners(self):
        good = (("", ""), ("task", "web/0"), ("note", "a"), ("node", "w1"))
        bad = (("", "a"), ("note", ""), ("task", "web"), ("task", ""), ("", "web/0"), ("node", "web/0"), ("other", "a"),
               ("", None), (None, ""), (None, None), ((), ()), (0, 0), (False, False))
        for owner in good:
            for born in COUNTS:
                self.assertIs(is_object("note", "a", ("",) + owner + (born,)), True)
            for born in NUMBERS[1]:
                self.assertIs(is_object("note", "a", ("",) + owner + (born,)), False)
        for owner in bad:
            self.assertIs(is_object("note", "a", ("",) + owner + (0,)), False)

    def test_a_task_without_a_node(self):
        self.assertIs(is_object("task", "web/0", (7, "run", 1, "new", 0, "", 0, "")), True)


def put(name, kind="drain"):
    return (kind, name, FORMS[kind][0])


class TestTransactions(unittest.TestCase):
    def good(self, transaction):
        self.assertIsNone(check_transaction(transaction))

    def bad(self, transaction):
        with self.subTest(transaction), self.assertRaises(BadTransaction):
            check_transaction(transaction)

    def test_good_ones(self):
        self.good(((), (), ()))
        self.good(((("drain", "a", 0),), (put("a"),), (("drain", "b"),)))
        self.good(((("task", "web/0", MOST),), (), (("task", "web/0"),)))
        for kind, (value, _) in FORMS.items():
            self.good((((kind, name_of(kind), 3),), ((kind, name_of(kind), value),), ()))
            self.good(((), (), ((kind, name_of(kind)),)))

    def test_things_of_other_forms(self):
        for other in OTHERS + (0, 5, "", "abc", [], [(), (), ()], ((),), ((), ()), ((), (), (), ()), {}):
            self.bad(other)

    def test_parts_of_other_kinds(self):
        for other in (None, False, True, 0, 7, "", "abc", [], {}, [("drain", "a")]):
            self.bad((other, (), ()))
            self.bad(((), other, ()))
            self.bad(((), (), other))

    def test_members_of_other_kinds(self):
        for other in OTHERS + (0, "", "abc", "ab", (1, 2), (1, 2, 3), ("drain",), ("drain", "a", 1, 1), [], ["drain", "a"],
                               ["drain", "a", 0]):
            self.bad(((other,), (), ()))
            self.bad(((), (other,), ()))
            self.bad(((), (), (other,)))
            self.bad(((("drain", "a", 0), other), (), ()))
            self.bad(((), (put("a"), other), ()))
            self.bad(((), (), (("drain", "a"), other)))

    def test_conditions(self):
        for revision in COUNTS:
            self.good(((("node", "a", revision),), (), ()))
        for revision in NUMBERS[1]:
            self.bad(((("node", "a", revision),), (), ()))
        for kind, name in (("node", "web/0"), ("task", "web"), ("other", "a"), ("node", ""), ("", ""), (None, "a"), ("node", None)):
            self.bad((((kind, name, 0),), (), ()))
            self.bad(((), (), ((kind, name),)))
            self.bad(((), ((kind, name, ("a",)),), ()))
        self.bad(((("node", "a"),), (), ()))
        self.bad(((("node", "a", 0, 0),), (), ()))

    def test_puts(self):
        for kind, (value, places) in FORMS.items():
            for at, (_, wrong) in enumerate(places):
                for member in wrong:
                    self.bad(((), ((kind, name_of(kind), value[:at] + (member,) + value[at + 1:]),), ()))
        self.bad(((), (("drain", "a"),), ()))
        self.bad(((), (("drain", "a", ("x",), 0),), ()))
        self.bad(((), (("drain", "a", "x"),), ()))

    def test_deletes(self):
        self.good(((), (), (("drain", "a"), ("node", "a"))))
        self.bad(((), (), (("drain", "a", 0),)))
        self.bad(((), (), (("drain",),)))

    def test_12_and_13_members(self):
        conditions = tuple(("drain", "a", number) for number in range(13))
        puts = tuple(put("a" + str(number)) for number in range(13))
        deletes = tuple(("drain", "b" + str(number)) for number in range(13))
        self.good((conditions[:12], puts[:12], deletes[:12]))
        self.bad((conditions, (), ()))
        self.bad(((), puts, ()))
        self.bad(((), (), deletes))

    def test_a_key_twice(self):
        self.bad(((), (put("a"), put("a")), ()))
        self.bad(((), (put("a"), put("b"), ("drain", "a", ("other",))), ()))
        self.bad(((), (), (("drain", "a"), ("drain", "a"))))
        self.bad(((), (), (("drain", "a"), ("drain", "b"), ("drain", "a"))))
        self.bad(((), (put("a"),), (("drain", "a"),)))
        self.bad(((), (put("b"), put("a")), (("drain", "c"), ("drain", "a"))))
        self.good(((), (put("a"), put("a", "node")), (("beat", "a"),)))

    def test_a_key_in_several_conditions(self):
        self.good(((("drain", "a", 0), ("drain", "a", 0), ("drain", "a", 4)), (put("a"),), ()))


if __name__ == "__main__":
    unittest.main()
