"""Points 1.2 and 1.3: numbers."""

import random
import unittest

from majordomo.errors import Malformed, Truncated
from majordomo.varint import put_number, take_number

GREATEST = 2 ** 3500 - 1

FORMS = (
    (0, [0]),
    (1, [1]),
    (127, [127]),
    (128, [128, 1]),
    (129, [129, 1]),
    (255, [255, 1]),
    (256, [128, 2]),
    (300, [172, 2]),
    (16383, [255, 127]),
    (16384, [128, 128, 1]),
    (2 ** 21 - 1, [255, 255, 127]),
    (2 ** 21, [128, 128, 128, 1]),
    (GREATEST, [255] * 499 + [127]),
    (2 ** 3493, [128] * 499 + [1]),
    (2 ** 3493 - 1, [255] * 498 + [127]),
)


class TestPut(unittest.TestCase):
    def test_forms(self):
        for number, row in FORMS:
            with self.subTest(len(row)):
                self.assertEqual(put_number(number), row)

    def test_result_is_a_new_list(self):
        row = put_number(5)
        row.append(9)
        self.assertEqual(put_number(5), [5])

    def test_the_form_sums_up_to_the_number(self):
        chance = random.Random(12)
        for _ in range(300):
            number = chance.getrandbits(chance.randint(1, 3500))
            row = put_number(number)
            self.assertEqual(sum((byte & 127) * 128 ** at for at, byte in enumerate(row)), number)
            self.assertTrue(all(byte >= 128 for byte in row[:-1]))
            self.assertTrue(row[-1] < 128 and (row[-1] > 0 or len(row) == 1))


class TestTake(unittest.TestCase):
    def test_forms(self):
        for number, row in FORMS:
            with self.subTest(len(row)):
                self.assertEqual(take_number(row, 0), (number, len(row)))
                self.assertEqual(take_number(tuple(row), 0), (number, len(row)))
                self.assertIsInstance(take_number(row, 0), tuple)

    def test_between_other_bytes(self):
        for number, row in FORMS:
            for before in ([], [0], [128, 255], [7] * 600):
                for after in ([], [0], [255], [5, 128]):
                    around = before + row + after
                    self.assertEqual(take_number(around, len(before)), (number, len(before) + len(row)))

    def test_the_row_stays_as_it_was(self):
        row = [9, 172, 2, 9]
        take_number(row, 1)
        self.assertEqual(row, [9, 172, 2, 9])

    def test_truncated(self):
        for row, index in (([], 0), ([5], 1), ([128], 0), ([255, 255], 0), ([255, 255], 1), ([255, 255], 2),
                           ([128] * 499, 0), ([255] * 499, 0), ((255,) * 600, 101), ([0] * 600, 600)):
            with self.subTest((len(row), index)), self.assertRaises(Truncated):
                take_number(row, index)

    def test_500_bytes_without_a_last_one(self):
        for row, index in (([128] * 500, 0), ([255] * 500, 0), ([255] * 501, 0), ((255,) * 600, 100),
                           ([255] * 500 + [1], 0), ([255] * 500 + [0], 0), ([1] + [255] * 500 + [1], 1)):
            with self.subTest((len(row), index)), self.assertRaises(Malformed):
                take_number(row, index)

    def test_500_bytes_with_a_last_one(self):
        self.assertEqual(take_number([255] * 499 + [1], 0)[1], 500)
        self.assertEqual(take_number([255] * 500 + [1], 1)[1], 501)

    def test_a_last_byte_0_that_is_not_the_only_one(self):
        for row, index in (([128, 0], 0), ([255, 0], 0), ([172, 130, 0], 0), ([1, 128, 0, 4], 1), ([255] * 499 + [0], 0)):
            with self.subTest((len(row), index)), self.assertRaises(Malformed):
                take_number(row, index)

    def test_0_alone_behind_another_number(self):
        self.assertEqual(take_number([128, 1, 0], 2), (0, 3))
        self.assertEqual(take_number([129, 0], 1), (0, 2))


if __name__ == "__main__":
    unittest.main()
