"""Points 1.4 to 1.6: the checksum."""

import random
import unittest

from majordomo.checksum import check_bytes, checksum


def summed(row):
    """The checksum by its closed form."""
    length = len(row)
    first = 1 + sum(row) + length
    second = 1 + length + sum((length - at) * (byte + 1) for at, byte in enumerate(row))
    return (first % 65521, second % 65521)


class TestChecksum(unittest.TestCase):
    def test_short_rows(self):
        for row, pair in (([], (1, 1)), ([0], (2, 3)), ([0, 0], (3, 6)), ([255], (257, 258)), ([1, 2], (6, 10)),
                          ([2, 1], (6, 11)), ((3, 4, 5), (16, 32))):
            with self.subTest(row):
                self.assertEqual(checksum(row), pair)
                self.assertIsInstance(checksum(row), tuple)

    def test_sums_around_the_modulus(self):
        # 255 bytes of 255 give 65281; the bytes that follow bring the first sum to 65520, 0 and 1.
        row = [255] * 255
        self.assertEqual(checksum(row)[0], 65281)
        self.assertEqual(checksum(row + [238])[0], 65520)
        self.assertEqual(checksum(row + [239])[0], 0)
        self.assertEqual(checksum(row + [240])[0], 1)

    def test_long_rows(self):
        chance = random.Random(5)
        for length in (1, 60, 256, 1000, 65000):
            for row in ([0] * length, [255] * length, [chance.randrange(256) for _ in range(length)]):
                self.assertEqual(checksum(row), summed(row))

    def test_every_second_sum_occurs_below_the_modulus(self):
        pair = (1, 1)
        seen = set()
        for _ in range(131042):
            pair = checksum([0], pair)
            seen.add(pair[1])
            self.assertTrue(0 <= pair[0] <= 65520 and 0 <= pair[1] <= 65520)
        self.assertIn(0, seen)

    def test_in_two_parts(self):
        chance = random.Random(6)
        row = [chance.randrange(256) for _ in range(700)]
        for at in (0, 1, 350, 699, 700):
            self.assertEqual(checksum(row[at:], checksum(row[:at])), summed(row))
            self.assertEqual(checksum(tuple(row[at:]), start=checksum(row[:at])), summed(row))

    def test_start(self):
        self.assertEqual(checksum([], (7, 9)), (7, 9))
        self.assertEqual(checksum([1], (65519, 65520)), (0, 65520))
        self.assertEqual(checksum([1], start=(1, 1)), checksum([1]))

    def test_the_row_stays_as_it_was(self):
        row = [1, 2, 3]
        checksum(row)
        self.assertEqual(row, [1, 2, 3])


class TestCheckBytes(unittest.TestCase):
    def test_bytes(self):
        for pair, row in (((1, 1), [1, 0, 1, 0]), ((0, 255), [0, 0, 255, 0]), ((256, 257), [0, 1, 1, 1]),
                          ((65520, 4660), [240, 255, 52, 18])):
            with self.subTest(pair):
                self.assertEqual(check_bytes(pair), row)
                self.assertIsInstance(check_bytes(pair), list)


class TestDifferences(unittest.TestCase):
    def check_differ(self, row, changes):
        other = list(row)
        for at, byte in changes:
            other[at] = byte
        if other != list(row):
            self.assertNotEqual(checksum(row), checksum(other), changes)

    def test_one_place(self):
        chance = random.Random(7)
        for length in (1, 2, 60, 300):
            row = [chance.randrange(256) for _ in range(length)]
            for at in range(length):
                for byte in (0, 1, 127, 255, (row[at] + 1) % 256):
                    self.check_differ(row, [(at, byte)])

    def test_two_places(self):
        chance = random.Random(8)
        for _ in range(3000):
            length = chance.randint(2, 80)
            row = [chance.randrange(256) for _ in range(length)]
            left, right = chance.sample(range(length), 2)
            self.check_differ(row, [(left, chance.randrange(256)), (right, chance.randrange(256))])

    def test_two_places_with_the_same_sum(self):
        chance = random.Random(9)
        for _ in range(3000):
            length = chance.randint(2, 80)
            row = [chance.randrange(1, 255) for _ in range(length)]
            left, right = chance.sample(range(length), 2)
            self.check_differ(row, [(left, row[left] + 1), (right, row[right] - 1)])

    def test_two_places_far_from_each_other(self):
        for distance in (255, 256, 257, 32768, 64999):
            row = [0] * 65000
            row[0] = 255
            self.check_differ(row, [(0, 0), (distance, 255)])
            self.check_differ(row, [(0, 254), (distance, 1)])


if __name__ == "__main__":
    unittest.main()
