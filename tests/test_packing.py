"""Points 1.7 to 1.10: values and their packed forms."""

import random
import unittest

from majordomo.errors import Malformed, NotAValue, Truncated
from majordomo.packing import is_value, pack, unpack
from tests.test_varint import GREATEST

CHARACTERS = "".join(chr(code) for code in range(32, 127) if code != 37)


def number_form(number):
    row = []
    while number > 127:
        row.append(128 + number % 128)
        number //= 128
    return row + [number]


def nested(depth):
    value = ()
    for _ in range(depth - 1):
        value = (value,)
    return value


FORMS = (
    (None, [0]),
    (False, [1]),
    (True, [2]),
    (0, [3, 0]),
    (1, [3, 1]),
    (127, [3, 127]),
    (128, [3, 128, 1]),
    (300, [3, 172, 2]),
    (-1, [4, 0]),
    (-2, [4, 1]),
    (-128, [4, 127]),
    (-129, [4, 128, 1]),
    (2 ** 3000 - 1, [3] + [255] * 428 + [15]),
    (1 - 2 ** 3000, [4, 254] + [255] * 427 + [15]),
    ("", [5, 0]),
    (" ", [5, 1, 0]),
    ("~", [5, 1, 94]),
    ("$&", [5, 2, 4, 6]),
    ("web/0", [5, 5, 87, 69, 66, 15, 16]),
    (CHARACTERS, [5, 94, 0, 1, 2, 3, 4] + list(range(6, 95))),
    ("a" * 128, [5, 128, 1] + [65] * 128),
    ((), [6, 0]),
    ((None,), [6, 1, 0]),
    ((True, 1, "1", ()), [6, 4, 2, 3, 1, 5, 1, 17, 6, 0]),
    (((), (0, (-1,)), "b"), [6, 3, 6, 0, 6, 2, 3, 0, 6, 1, 4, 0, 5, 1, 66]),
    ((False,) * 128, [6, 128, 1] + [1] * 128),
    (nested(20), [6, 1] * 19 + [6, 0]),
)

LONG_FORMS = (
    ("x" * 60000, [5] + number_form(60000) + [88] * 60000),
    ((None,) * 60000, [6] + number_form(60000) + [0] * 60000),
)


class Other:
    pass


NO_VALUES = (
    2 ** 3000, -2 ** 3000, 2 ** 3000 + 1, 2 ** 4000, -2 ** 4000,
    "%", "a%b", "a\n", "\t", "\x1f", "\x7f", "\x80", "\u00e4", "\u0661", "\U0001f600", CHARACTERS + "%", "x" * 60001,
    (None,) * 60001, nested(21), nested(22), (nested(20),), (1, nested(20)),
    1.0, 0.5, float("inf"), 1j, b"", b"a", bytearray(), [], [1], {}, {1: 2}, set(), frozenset(), range(3), len, int,
    Other(), Other, NotImplemented, ...,
)


class TestIsValue(unittest.TestCase):
    def test_values(self):
        for value, _ in FORMS + LONG_FORMS:
            self.assertIs(is_value(value), True)
            if value != nested(20):
                self.assertIs(is_value((1, value)), True)

    def test_no_values(self):
        for value in NO_VALUES:
            with self.subTest(repr(value)[:40] if not isinstance(value, int) else "an integer"):
                self.assertIs(is_value(value), False)
                self.assertIs(is_value((value,)), False)
                self.assertIs(is_value(("a", (value, 1))), False)

    def test_depth(self):
        for depth in range(1, 21):
            self.assertTrue(is_value(nested(depth)))
        self.assertTrue(is_value((nested(19), 1, nested(19))))
        self.assertFalse(is_value((1, nested(19), nested(20))))
        deep = 5
        for _ in range(20):
            deep = (deep,)
        self.assertTrue(is_value(deep))
        self.assertFalse(is_value((deep,)))
        self.assertFalse(is_value(nested(5000)))


class TestPack(unittest.TestCase):
    def test_forms(self):
        for value, row in FORMS + LONG_FORMS:
            self.assertEqual(pack(value), row)
            self.assertIsInstance(pack(value), list)
            self.assertTrue(all(type(byte) is int for byte in pack(value)))

    def test_as_members(self):
        for value, row in FORMS + LONG_FORMS:
            if value != nested(20):
                self.assertEqual(pack((0, value, 0)), [6, 3, 3, 0] + row + [3, 0])

    def test_no_values(self):
        for value in NO_VALUES:
            for wrong in (value, (value,), (1, ("a", value))):
                with self.assertRaises(NotAValue):
                    pack(wrong)

    def test_result_is_a_new_list(self):
        pack(None).append(3)
        pack(()).append(3)
        self.assertEqual((pack(None), pack(())), ([0], [6, 0]))


class TestUnpack(unittest.TestCase):
    def same(self, left, right):
        """Equality that tells booleans from integers."""
        self.assertEqual(repr(left) if not isinstance(left, int) else (type(left), left),
                         repr(right) if not isinstance(right, int) else (type(right), right))

    def test_forms(self):
        for value, row in FORMS + LONG_FORMS:
            self.same(unpack(row), value)
            self.same(unpack(tuple(row)), value)

    def test_as_members(self):
        for value, row in FORMS + LONG_FORMS:
            if value != nested(20):
                found = unpack([6, 2] + row + [2])
                self.assertEqual(found, (value, True))

    def test_the_row_stays_as_it_was(self):
        row = [6, 2, 5, 1, 65, 3, 9]
        unpack(row)
        self.assertEqual(row, [6, 2, 5, 1, 65, 3, 9])

    def test_truncated_at_each_place(self):
        for value, row in FORMS:
            for length in range(len(row)):
                with self.assertRaises(Truncated):
                    unpack(row[:length])
                if value != nested(20):
                    with self.assertRaises(Truncated):
                        unpack([6, 2, 1] + row[:length])
        for value, row in LONG_FORMS:
            for length in (0, 1, 2, 3, 4, 30000, len(row) - 1):
                with self.assertRaises(Truncated):
                    unpack(row[:length])

    def test_more_bytes(self):
        for value, row in FORMS + LONG_FORMS:
            for more in ([0], [255], [7], row):
                with self.assertRaises(Malformed):
                    unpack(row + more)

    def test_malformed(self):
        rows = (
            [7], [8], [128], [255], [6, 1, 7], [6, 2, 0, 7],
            [3, 128, 0], [4, 255, 0], [5, 129, 0], [6, 128, 0], [6, 1, 3, 128, 0],
            [3] + [255] * 500, [4] + [128] * 500, [5] + [255] * 500, [6] + [128] * 501,
            [3] + number_form(2 ** 3000), [3] + number_form(GREATEST), [3] + [255] * 499 + [127],
            [4] + number_form(2 ** 3000 - 1), [4] + number_form(2 ** 3000), [4] + number_form(GREATEST),
            [5] + number_form(60001), [6] + number_form(60001), [5] + number_form(GREATEST), [6] + number_form(GREATEST),
            [5, 1, 5], [5, 1, 95], [5, 1, 96], [5, 1, 128], [5, 1, 255], [5, 3, 1, 2, 5], [6, 1, 5, 1, 5],
            [6, 1] * 20 + [6], [6, 1] * 20 + [6, 0], [6, 1] * 19 + [6, 2, 0, 6, 0],
        )
        for row in rows:
            with self.subTest(row[:8]), self.assertRaises(Malformed):
                unpack(row)
            with self.subTest(row[:8]), self.assertRaises(Malformed):
                unpack(tuple(row))

    def test_bounds_that_hold(self):
        self.assertEqual(unpack([3] + number_form(2 ** 3000 - 1)), 2 ** 3000 - 1)
        self.assertEqual(unpack([4] + number_form(2 ** 3000 - 2)), 1 - 2 ** 3000)
        self.assertEqual(unpack([5, 2, 4, 6]), "$&")
        self.assertEqual(unpack([5, 1, 94]), "~")
        deep = unpack([6, 1] * 20 + [0])
        for _ in range(20):
            (deep,) = deep
        self.assertIsNone(deep)
        for row in ([1], [2], [3, 5], [4, 5], [5, 0], [5, 1, 7]):
            deep = unpack([6, 1] * 20 + row)
            for _ in range(20):
                (deep,) = deep
            self.same(deep, unpack(row))

    def test_malformed_before_the_end(self):
        # Each row also ends too early; what is met first from the left decides.
        rows = (
            [6, 2, 7], [6, 9, 0, 9],
            [5, 10, 5], [5, 10, 0, 0, 95], [5] + number_form(60000) + [200],
            [5] + number_form(60001), [6] + number_form(60001), [6, 3] + [3] + number_form(2 ** 3000),
            [6, 5, 4] + number_form(2 ** 3000 - 1), [6, 5, 5, 128, 0], [6, 2] * 20 + [6],
        )
        for row in rows:
            with self.subTest(row[:8]), self.assertRaises(Malformed):
                unpack(row)

    def test_truncated_before_what_is_malformed(self):
        for row in ([5, 10, 4], [5, 128], [6, 130], [3] + [128] * 499, [6, 1] * 19 + [6, 2, 0], [6, 3, 5, 2, 1]):
            with self.subTest(row[:8]), self.assertRaises(Truncated):
                unpack(row)

    def test_a_tuple_beside_deep_ones(self):
        value = (nested(19), 1, nested(19), ("a",))
        self.assertEqual(unpack(pack(value)), value)


class TestBothWays(unittest.TestCase):
    def random_value(self, chance, depth):
        kind = chance.randrange(7 if depth < 6 else 5)
        if kind == 0:
            return chance.choice((None, False, True))
        if kind in (1, 2):
            return chance.getrandbits(chance.randint(1, 3000)) * chance.choice((1, -1))
        if kind in (3, 4):
            return "".join(chance.choice(CHARACTERS) for _ in range(chance.randint(0, 200)))
        return tuple(self.random_value(chance, depth + 1) for _ in range(chance.randint(0, 5)))

    def test_values(self):
        chance = random.Random(1)
        for _ in range(400):
            value = self.random_value(chance, 0)
            row = pack(value)
            self.assertEqual(unpack(row), value)
            self.assertEqual(pack(unpack(row)), row)

    def test_what_unpacks_has_this_packed_form(self):
        chance = random.Random(2)
        good = 0
        for _ in range(40000):
            row = [chance.choice((0, 1, 2, 3, 4, 5, 6, 6, 1, 2, 128, 200)) for _ in range(chance.randint(0, 7))]
            try:
                value = unpack(row)
            except (Truncated, Malformed):
                continue
            good += 1
            self.assertTrue(is_value(value))
            self.assertEqual(pack(value), row)
        self.assertGreater(good, 300)

    def test_different_values_have_different_forms(self):
        values = [value for value, _ in FORMS]
        forms = {tuple(pack(value)) for value in values}
        self.assertEqual(len(forms), len(values))


if __name__ == "__main__":
    unittest.main()
