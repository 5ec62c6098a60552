"""Points 1.1, 1.11 and 1.12: sectors."""

import random
import unittest

from majordomo.errors import Damaged
from majordomo.sectors import BLANK, PAYLOAD, SECTOR, make_sector, read_sector
from tests.test_checksum import summed


def sealed(body):
    """A sector with the 60 bytes of the body behind check bytes that are right."""
    first, second = summed(body)
    return (first % 256, first // 256, second % 256, second // 256) + tuple(body)


class TestMake(unittest.TestCase):
    def test_constants(self):
        self.assertEqual((SECTOR, PAYLOAD), (64, 58))
        self.assertEqual(BLANK, (0,) * 64)
        self.assertIsInstance(BLANK, tuple)

    def test_byte_by_byte(self):
        for kind in (1, 2, 9):
            for payload in ([], [0], [255], [1, 2, 3], [0, 7, 0], list(range(57)), list(range(58)), [255] * 58):
                with self.subTest((kind, len(payload))):
                    sector = make_sector(kind, payload)
                    body = [kind, len(payload)] + payload + [0] * (58 - len(payload))
                    self.assertEqual(sector, sealed(body))
                    self.assertIsInstance(sector, tuple)
                    self.assertEqual(len(sector), 64)

    def test_one_written_out(self):
        # Sums of the 60 bytes 1, 2, 7, 8 and zeros: 1 + 60 + 18, and 1 + 60 * 61 / 2 + 60 + 60 + 2 * 59 + 7 * 58 + 8 * 57.
        self.assertEqual(make_sector(1, [7, 8])[:9], (79, 0, 2931 % 256, 2931 // 256, 1, 2, 7, 8, 0))

    def test_the_payload_stays_as_it_was(self):
        payload = [1, 2]
        make_sector(1, payload)
        self.assertEqual(payload, [1, 2])


class TestRead(unittest.TestCase):
    def test_blank(self):
        self.assertIsNone(read_sector(BLANK))
        self.assertIsNone(read_sector(tuple([0] * 64)))

    def test_written(self):
        for kind in range(1, 10):
            for payload in ([], [0], [9], [0, 0, 0], list(range(100, 157)), [255] * 58, [0] * 58):
                with self.subTest((kind, len(payload))):
                    found = read_sector(make_sector(kind, payload))
                    self.assertEqual(found, (kind, payload))
                    self.assertIsInstance(found, tuple)
                    self.assertIsInstance(found[1], list)

    def test_the_payload_is_a_new_list(self):
        sector = make_sector(3, [4, 5])
        read_sector(sector)[1].append(6)
        self.assertEqual(read_sector(sector), (3, [4, 5]))

    def test_wrong_check_bytes(self):
        sector = make_sector(2, [1, 2, 3])
        for at in range(4):
            with self.subTest(at), self.assertRaises(Damaged):
                read_sector(sector[:at] + ((sector[at] + 1) % 256,) + sector[at + 1:])
        with self.assertRaises(Damaged):
            read_sector((0, 0, 0, 0) + sector[4:])
        with self.assertRaises(Damaged):
            read_sector(sector[:4] + (0,) * 60)

    def test_check_bytes_beyond_the_modulus(self):
        # A second sum below 15 has a twin, greater by 65521, that fits into two bytes but is no sum.
        chance = random.Random(4)
        body = [1, 58] + [0] * 58
        while summed(body)[1] >= 15:
            body = [1, 58] + [chance.randrange(256) for _ in range(58)]
        sector = sealed(body)
        self.assertEqual(read_sector(sector), (1, body[2:]))
        twin = sector[2] + 65521
        with self.assertRaises(Damaged):
            read_sector(sector[:2] + (twin % 256, twin // 256) + sector[4:])

    def test_wrong_kind(self):
        for kind in (0, 10, 11, 128, 255):
            for rest in ([0], [1, 5], [58] + [1] * 58):
                with self.subTest((kind, rest[0])), self.assertRaises(Damaged):
                    read_sector(sealed([kind] + rest + [0] * (59 - len(rest))))

    def test_sealed_sectors_of_good_kinds_are_read(self):
        self.assertEqual(read_sector(sealed([1, 0] + [0] * 58)), (1, []))
        self.assertEqual(read_sector(sealed([9, 58] + [3] * 58)), (9, [3] * 58))

    def test_wrong_length(self):
        for length in (59, 60, 64, 255):
            for fill in (0, 1):
                with self.subTest((length, fill)), self.assertRaises(Damaged):
                    read_sector(sealed([1, length] + [fill] * 58))

    def test_wrong_filling(self):
        for length in (0, 1, 30, 57):
            for at in (length, 57):
                payload = [7] * length + [0] * (58 - length)
                payload[at] = 1
                with self.subTest((length, at)), self.assertRaises(Damaged):
                    read_sector(sealed([1, length] + payload))

    def test_a_body_of_zeros_with_its_check_bytes(self):
        with self.assertRaises(Damaged):
            read_sector(sealed([0] * 60))


class TestChanges(unittest.TestCase):
    def check_damaged(self, sector, changes):
        changed = list(sector)
        for at, byte in changes:
            changed[at] = byte
        if tuple(changed) != sector:
            with self.assertRaises(Damaged, msg=changes):
                read_sector(tuple(changed))

    def test_each_change_of_one_byte(self):
        for sector in (make_sector(1, []), make_sector(2, [1, 2, 3]), make_sector(9, [255] * 58)):
            for at in range(64):
                for byte in range(256):
                    self.check_damaged(sector, [(at, byte)])

    def test_changes_of_two_bytes(self):
        chance = random.Random(3)
        for _ in range(6000):
            payload = [chance.randrange(256) for _ in range(chance.randint(0, 58))]
            sector = make_sector(chance.randint(1, 9), payload)
            left, right = chance.sample(range(64), 2)
            self.check_damaged(sector, [(left, chance.randrange(256)), (right, chance.randrange(256))])

    def test_changes_of_two_bytes_with_the_same_sum(self):
        sector = make_sector(2, [10, 20, 30, 40])
        for left in range(4, 64):
            for right in range(4, 64):
                if left != right and sector[right] > 0:
                    self.check_damaged(sector, [(left, sector[left] + 1), (right, sector[right] - 1)])

    def test_changes_of_a_byte_and_a_check_byte(self):
        sector = make_sector(2, [10, 20, 30, 40])
        for at in range(4, 64):
            for check in range(4):
                for byte in range(256):
                    self.check_damaged(sector, [(at, sector[at] ^ 1), (check, byte)])


if __name__ == "__main__":
    unittest.main()
