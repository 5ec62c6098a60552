"""Points 2.1 to 2.11: what a journal reads, and the steps that it returns."""

import random
import unittest

from majordomo.errors import Damaged, NotAValue
from majordomo.journal import Journal, parts_needed
from majordomo.packing import pack
from majordomo.sectors import BLANK, make_sector
from tests.disks import Disk
from tests.test_packing import NO_VALUES, number_form
from tests.test_sectors import sealed

SYNC = ("sync",)


def sector(kind, payload):
    return sealed([kind, len(payload)] + payload + [0] * (58 - len(payload)))


def head(generation, start, boot):
    numbers = [[3] + number_form(number) for number in (generation, start, boot)]
    return sector(1, [6, 3] + numbers[0] + numbers[1] + numbers[2])


def part(generation, boot, record, index, count, piece):
    payload = []
    for number in (generation, boot, record, index, count):
        payload += number_form(number)
    return sector(2, payload + list(piece))


def parts(generation, boot, record, value):
    row = pack(value)
    pieces = [row[at:at + 40] for at in range(0, len(row), 40)]
    return [part(generation, boot, record, index, len(pieces), piece) for index, piece in enumerate(pieces)]


def writes(at, sectors):
    return [("write", at + count, one) for count, one in enumerate(sectors)]


def text(count, letter="x"):
    """A record that needs so many sectors, filled to the last byte."""
    length = 40 * count - (2 if count < 4 else 3)
    return letter * length


class TestPartsNeeded(unittest.TestCase):
    def test_counts(self):
        for record, count in ((None, 1), (0, 1), ((), 1), ("x" * 38, 1), ("x" * 39, 2), ("x" * 78, 2), ("x" * 79, 3),
                              (("x" * 36,), 1), (("x" * 37,), 2), ("x" * 19996, 500), ("x" * 19997, 501),
                              (text(1), 1), (text(3), 3), (text(4), 4), (text(7), 7)):
            with self.subTest(count):
                self.assertEqual(parts_needed(record), count)
                self.assertEqual(parts_needed(record), len(parts(0, 1, 0, record)))


class TestAppend(unittest.TestCase):
    def test_a_new_journal(self):
        journal = Journal([], 1)
        self.assertEqual((journal.records(), journal.sectors_used()), ([], 0))

    def test_one_sector_written_out(self):
        steps = Journal([], 7).append([None])
        # The body is 2, 6 and the numbers 0, 7, 0, 0, 1 with the byte 0; its sums are 77 and 1 + 60 + 1830 + the rest.
        second = 1 + 60 + 1830 + 60 * 2 + 59 * 6 + 57 * 7 + 54 * 1
        body = (2, 6, 0, 7, 0, 0, 1, 0) + (0,) * 52
        self.assertEqual(steps, [("write", 2, (77, 0, second % 256, second // 256) + body), SYNC])

    def test_a_record_of_several_parts(self):
        record = "".join("abcdefghij"[at % 10] for at in range(100))
        row = pack(record)
        self.assertEqual(len(row), 102)
        steps = Journal([], 300).append([record])
        self.assertEqual(steps, [
            ("write", 2, sector(2, [0, 172, 2, 0, 0, 3] + row[:40])),
            ("write", 3, sector(2, [0, 172, 2, 0, 1, 3] + row[40:80])),
            ("write", 4, sector(2, [0, 172, 2, 0, 2, 3] + row[80:])),
            SYNC])

    def test_several_records(self):
        journal = Journal([], 5)
        records = [text(2, "a"), 1, text(3, "b"), ("c",)]
        expected = []
        for index, record in enumerate(records):
            expected += parts(0, 5, index, record)
        self.assertEqual(journal.append(records), writes(2, expected) + [SYNC])
        self.assertEqual(journal.records(), records)
        self.assertEqual(journal.sectors_used(), 7)

    def test_one_after_the_other(self):
        journal = Journal([], 5)
        self.assertEqual(journal.append([text(2)]), writes(2, parts(0, 5, 0, text(2))) + [SYNC])
        self.assertEqual(journal.append([True, "b"]),
                         writes(4, parts(0, 5, 1, True) + parts(0, 5, 2, "b")) + [SYNC])
        self.assertEqual(journal.append([()]), writes(6, parts(0, 5, 3, ())) + [SYNC])
        self.assertEqual(journal.records(), [text(2), True, "b", ()])
        self.assertEqual(journal.sectors_used(), 5)

    def test_the_empty_list(self):
        journal = Journal([], 1)
        self.assertEqual(journal.append([]), [])
        journal.append([1])
        self.assertEqual(journal.append([]), [])
        self.assertEqual((journal.records(), journal.sectors_used()), ([1], 1))

    def test_a_greater_boot_goes_on(self):
        first = Journal([], 1)
        disk = Disk().do(first.append([text(2), 7]))
        second = Journal(disk.sectors(), 9)
        self.assertEqual(second.records(), [text(2), 7])
        self.assertEqual(second.sectors_used(), 3)
        self.assertEqual(second.append(["z"]), writes(5, parts(0, 9, 2, "z")) + [SYNC])
        self.assertEqual(second.records(), [text(2), 7, "z"])

    def test_a_long_record(self):
        record = "".join(chr(48 + at % 70) for at in range(19996))
        journal = Journal([], 2 ** 28 - 1)
        self.assertEqual(len(pack(record)), 20000)
        steps = journal.append([1, record])
        self.assertEqual(steps, writes(2, parts(0, 2 ** 28 - 1, 0, 1) + parts(0, 2 ** 28 - 1, 1, record)) + [SYNC])
        self.assertEqual(len(steps), 502)
        self.assertEqual(Journal(Disk().do(steps).sectors(), 2 ** 28).records(), [1, record])

    def test_many_records(self):
        records = [(number, "x" * (number % 60)) for number in range(5000)]
        journal = Journal([], 3)
        steps = journal.append(records)
        again = Journal(Disk().do(steps).sectors(), 4)
        self.assertEqual(again.records(), records)
        self.assertEqual(again.sectors_used(), len(steps) - 1)
        self.assertEqual(again.append([0]), writes(1 + len(steps), parts(0, 4, 5000, 0)) + [SYNC])


class TestRewrite(unittest.TestCase):
    def test_of_a_new_journal(self):
        journal = Journal([], 4)
        self.assertEqual(journal.rewrite([text(2), 1]),
                         writes(2, parts(1, 4, 0, text(2)) + parts(1, 4, 1, 1))
                         + [SYNC, ("write", 1, head(1, 2, 4)), SYNC])
        self.assertEqual(journal.records(), [text(2), 1])
        self.assertEqual(journal.sectors_used(), 3)

    def test_the_head_written_out(self):
        self.assertEqual(Journal([], 300).rewrite([])[1], ("write", 1, sector(1, [6, 3, 3, 1, 3, 2, 3, 172, 2])))

    def test_without_records(self):
        journal = Journal([], 4)
        self.assertEqual(journal.rewrite([]), [SYNC, ("write", 1, head(1, 2, 4)), SYNC])
        journal.append([1, 2])
        self.assertEqual(journal.rewrite([]), [SYNC, ("write", 0, head(2, 2, 4)), SYNC])
        self.assertEqual((journal.records(), journal.sectors_used()), ([], 0))

    def test_starts_and_head_sectors(self):
        journal = Journal([], 4)
        journal.append([text(3)])
        # Old start 2: no room before it, so behind the three sectors.
        self.assertEqual(journal.rewrite(["a", "b"]),
                         writes(5, parts(1, 4, 0, "a") + parts(1, 4, 1, "b"))
                         + [SYNC, ("write", 1, head(1, 5, 4)), SYNC])
        # Old start 5: three sectors fit before it.
        self.assertEqual(journal.rewrite([text(3)]),
                         writes(2, parts(2, 4, 0, text(3))) + [SYNC, ("write", 0, head(2, 2, 4)), SYNC])
        self.assertEqual(journal.rewrite([text(1)]),
                         writes(5, parts(3, 4, 0, text(1))) + [SYNC, ("write", 1, head(3, 5, 4)), SYNC])
        # Old start 5 and one old sector: four do not fit before it.
        self.assertEqual(journal.rewrite([text(4)]),
                         writes(6, parts(4, 4, 0, text(4))) + [SYNC, ("write", 0, head(4, 6, 4)), SYNC])
        # Old start 6: four fit, in one record or in several.
        self.assertEqual(journal.rewrite([1, text(2), 2]),
                         writes(2, parts(5, 4, 0, 1) + parts(5, 4, 1, text(2)) + parts(5, 4, 2, 2))
                         + [SYNC, ("write", 1, head(5, 2, 4)), SYNC])

    def test_behind_an_empty_generation(self):
        journal = Journal([], 4)
        journal.append([text(3)])
        journal.rewrite([1])
        journal.rewrite([text(2)])
        journal.rewrite([2])
        self.assertEqual(journal.rewrite([]), [SYNC, ("write", 0, head(4, 2, 4)), SYNC])
        # An old generation without records that starts at 2.
        self.assertEqual(journal.rewrite([5])[0], ("write", 2, parts(5, 4, 0, 5)[0]))

    def test_behind_an_empty_generation_with_a_later_start(self):
        sectors = [BLANK, head(3, 6, 1)]
        self.assertEqual(Journal(sectors, 2).rewrite([text(4)]),
                         writes(2, parts(4, 2, 0, text(4))) + [SYNC, ("write", 0, head(4, 2, 2)), SYNC])
        self.assertEqual(Journal(sectors, 2).rewrite([text(5)]),
                         writes(6, parts(4, 2, 0, text(5))) + [SYNC, ("write", 0, head(4, 6, 2)), SYNC])

    def test_appends_after_it(self):
        journal = Journal([], 4)
        journal.append([text(2)])
        journal.rewrite([1, 2])
        self.assertEqual(journal.append([3, text(2)]),
                         writes(6, parts(1, 4, 2, 3) + parts(1, 4, 3, text(2))) + [SYNC])
        self.assertEqual(journal.records(), [1, 2, 3, text(2)])
        self.assertEqual(journal.sectors_used(), 5)
        # The start of the next generation counts the appended ones too.
        self.assertEqual(journal.rewrite([text(3)])[0][1], 9)

    def test_opened_again(self):
        disk = Disk()
        first = Journal([], 4)
        disk.do(first.append([text(2)]))
        disk.do(first.rewrite([1, 2]))
        disk.do(first.append([3]))
        second = Journal(disk.sectors(), 8)
        self.assertEqual(second.records(), [1, 2, 3])
        self.assertEqual(second.sectors_used(), 3)
        self.assertEqual(second.append([4]), writes(7, parts(1, 8, 3, 4)) + [SYNC])
        self.assertEqual(second.rewrite([text(2)]),
                         writes(2, parts(2, 8, 0, text(2))) + [SYNC, ("write", 0, head(2, 2, 8)), SYNC])

    def test_generations_of_several_bytes(self):
        disk = Disk()
        boot = 2 ** 28 - 400
        for generation in range(1, 301):
            journal = Journal(disk.sectors(), boot + generation)
            steps = journal.rewrite([generation])
            start = steps[0][1]
            self.assertEqual(steps, writes(start, parts(generation, boot + generation, 0, generation))
                             + [SYNC, ("write", generation % 2, head(generation, start, boot + generation)), SYNC])
            self.assertEqual(start, 2 if generation % 2 else 3)
            disk.do(steps)
        self.assertEqual(Journal(disk.sectors(), 2 ** 28 - 1).records(), [300])


class TestOpening(unittest.TestCase):
    def test_writes_nothing_and_can_be_repeated(self):
        disk = Disk()
        journal = Journal([], 1)
        disk.do(journal.rewrite([text(2), 1]))
        disk.do(journal.append([text(3)]))
        sectors = disk.sectors()
        kept = list(sectors)
        for boot in (2, 3, 10):
            self.assertEqual(Journal(sectors, boot).records(), [text(2), 1, text(3)])
            self.assertEqual(sectors, kept)

    def test_the_disk_is_not_kept(self):
        sectors = [BLANK, BLANK] + parts(0, 1, 0, "a") + parts(0, 1, 1, "b")
        journal = Journal(sectors, 2)
        sectors.clear()
        self.assertEqual(journal.records(), ["a", "b"])
        self.assertEqual(journal.append([1]), writes(4, parts(0, 2, 2, 1)) + [SYNC])
        self.assertEqual(sectors, [])

    def test_sectors_beyond_the_end_are_blank(self):
        whole = [BLANK, BLANK] + parts(0, 1, 0, text(2)) + parts(0, 1, 1, text(2))
        for length, records in ((0, []), (1, []), (2, []), (3, []), (4, [text(2)]), (5, [text(2)]), (6, [text(2)] * 2)):
            with self.subTest(length):
                self.assertEqual(Journal(whole[:length], 2).records(), records)
                self.assertEqual(Journal(whole[:length] + [BLANK] * 3, 2).records(), records)

    def test_the_greatest_head_counts(self):
        for generation in (1, 2, 7, 8, 127, 128, 2 ** 28 - 2):
            sectors = [BLANK, BLANK, BLANK, BLANK]
            sectors[generation % 2] = head(generation, 4, 1)
            sectors[(generation + 1) % 2] = head(generation + 1, 2, 1)
            sectors[2:3] = parts(generation + 1, 1, 0, "new")
            sectors += parts(generation, 1, 0, "old")
            self.assertEqual(Journal(sectors, 2).records(), ["new"])
            sectors[(generation + 1) % 2] = BLANK
            self.assertEqual(Journal(sectors, 2).records(), ["old"])

    def test_the_next_generation_follows_the_greatest(self):
        sectors = [head(8, 2, 1), head(7, 5, 1)]
        self.assertEqual(Journal(sectors, 2).rewrite([]), [SYNC, ("write", 1, head(9, 2, 2)), SYNC])
        sectors = [head(8, 5, 1), head(9, 2, 1)]
        self.assertEqual(Journal(sectors, 2).rewrite([]), [SYNC, ("write", 0, head(10, 2, 2)), SYNC])

    def test_damaged_heads(self):
        good = head(2, 2, 1)
        damaged = good[:20] + (1,) + good[21:]
        wrong = (damaged, sector(2, [0, 1, 0, 0, 1, 0]), make_sector(3, []), sealed([0] * 60), make_sector(9, [1]))
        for bad in wrong:
            for sectors in ([bad], [bad, BLANK], [BLANK, bad], [bad, head(1, 2, 1)], [good, bad], [bad, bad]):
                with self.assertRaises(Damaged):
                    Journal(sectors, 2)

    def test_where_the_reading_ends(self):
        first = parts(0, 3, 0, text(1))
        second = parts(0, 3, 1, text(3))
        third = parts(0, 4, 2, "c")
        whole = [BLANK, BLANK] + first + second + third
        self.assertEqual(Journal(whole, 9).records(), [text(1), text(3), "c"])
        piece = pack(text(3))
        others = (
            BLANK,
            make_sector(1, [6, 0]),
            make_sector(3, [0, 3, 1, 1, 3] + piece[40:80]),
            part(1, 3, 1, 1, 3, piece[40:80]),
            part(0, 4, 1, 1, 3, piece[40:80]),
            part(0, 2, 1, 1, 3, piece[40:80]),
            part(0, 3, 2, 1, 3, piece[40:80]),
            part(0, 3, 0, 1, 3, piece[40:80]),
            part(0, 3, 1, 2, 3, piece[40:80]),
            part(0, 3, 1, 0, 3, piece[40:80]),
            part(0, 3, 1, 1, 2, piece[40:80]),
            part(0, 3, 1, 1, 4, piece[40:80]),
        )
        for other in others:
            self.assertEqual(Journal(whole[:4] + [other] + whole[5:], 9).records(), [text(1)])

    def test_the_first_part_of_a_record(self):
        piece = pack("b")
        before = [BLANK, BLANK] + parts(0, 3, 0, "a")
        after = parts(0, 5, 2, "c")
        for boot in (3, 4, 5):
            sectors = before + [part(0, boot, 1, 0, 1, piece)] + after
            self.assertEqual(Journal(sectors, 9).records(), ["a", "b", "c"])
        for other in (part(0, 2, 1, 0, 1, piece), part(0, 3, 0, 0, 1, piece), part(0, 3, 2, 0, 1, piece),
                      part(1, 3, 1, 0, 1, piece), part(0, 3, 1, 1, 2, piece), part(0, 3, 1, 1, 1, piece),
                      make_sector(1, [0]), make_sector(4, [0, 3, 1, 0, 1] + piece), BLANK):
            self.assertEqual(Journal(before + [other] + after, 9).records(), ["a"])
        # The boot of record 2 is compared with that of record 1, not with that of record 0.
        sectors = before + [part(0, 6, 1, 0, 1, piece)] + after
        self.assertEqual(Journal(sectors, 9).records(), ["a", "b"])

    def test_the_boot_of_the_head(self):
        for boot, records in ((4, []), (5, ["a"]), (6, ["a"])):
            sectors = [BLANK, head(3, 2, 5)] + parts(3, boot, 0, "a")
            self.assertEqual(Journal(sectors, 9).records(), records)

    def test_other_generations(self):
        for generation in (1, 2, 4, 5):
            sectors = [BLANK, head(3, 2, 5)] + parts(generation, 6, 0, "a")
            self.assertEqual(Journal(sectors, 9).records(), [])
        sectors = [head(2, 2, 5), BLANK] + parts(0, 6, 0, "a")
        self.assertEqual(Journal(sectors, 9).records(), [])

    def test_damaged_parts(self):
        whole = [BLANK, BLANK] + parts(0, 3, 0, text(1)) + parts(0, 3, 1, text(3)) + [BLANK, BLANK]
        for at in range(2, 7):
            for damaged in (sealed([10, 0] + [0] * 58), (1,) + whole[at][1:] if at < 6 else (1,) + BLANK[1:]):
                with self.subTest(at), self.assertRaises(Damaged):
                    Journal(whole[:at] + [damaged] + whole[at + 1:], 9)

    def test_damage_behind_the_end_of_the_reading(self):
        damaged = (1,) + BLANK[1:]
        whole = [BLANK, BLANK] + parts(0, 3, 0, text(1)) + parts(0, 3, 1, text(3)) + [BLANK]
        self.assertEqual(Journal(whole + [damaged], 9).records(), [text(1), text(3)])
        # Part 1 of record 1 is missing, so nothing behind it is read.
        self.assertEqual(Journal(whole[:4] + [BLANK, damaged], 9).records(), [text(1)])
        # Part 0 of record 1 is missing.
        self.assertEqual(Journal(whole[:3] + [BLANK, damaged], 9).records(), [text(1)])

    def test_damage_before_the_start(self):
        damaged = (1,) + BLANK[1:]
        sectors = [BLANK, head(1, 4, 1), damaged, damaged] + parts(1, 1, 0, "a")
        self.assertEqual(Journal(sectors, 9).records(), ["a"])


class TestLists(unittest.TestCase):
    def test_lists_may_be_changed_later(self):
        journal = Journal([], 1)
        given = ["a"]
        steps = journal.append(given)
        given.append("b")
        steps.clear()
        self.assertEqual(journal.records(), ["a"])
        journal.records().append("c")
        self.assertEqual(journal.records(), ["a"])
        given = ["d"]
        journal.rewrite(given).clear()
        given.append("e")
        self.assertEqual(journal.records(), ["d"])
        self.assertEqual(journal.append(["f"]), writes(4, parts(1, 1, 1, "f")) + [SYNC])

    def test_arguments_stay_as_they_were(self):
        journal = Journal([], 1)
        given = [text(2), 1]
        journal.append(given)
        journal.rewrite(given)
        self.assertEqual(given, [text(2), 1])

    def test_own_records_can_be_handed_in(self):
        journal = Journal([], 1)
        journal.append([1, 2])
        journal.append(journal.records())
        self.assertEqual(journal.records(), [1, 2, 1, 2])
        journal.rewrite(journal.records())
        self.assertEqual(journal.records(), [1, 2, 1, 2])


class TestNotAValue(unittest.TestCase):
    def test_nothing_changes(self):
        for bad in NO_VALUES:
            journal = Journal([], 1)
            journal.append(["a", text(2)])
            journal.rewrite(["b"])
            for given in ([bad], [bad, 1], [1, text(2), bad], [(1, bad)]):
                with self.assertRaises(NotAValue):
                    journal.append(given)
                with self.assertRaises(NotAValue):
                    journal.rewrite(given)
            self.assertEqual(journal.records(), ["b"])
            self.assertEqual(journal.sectors_used(), 1)
            self.assertEqual(journal.append([text(2)]), writes(6, parts(1, 1, 1, text(2))) + [SYNC])
            self.assertEqual(journal.rewrite([text(3)]),
                             writes(2, parts(2, 1, 0, text(3))) + [SYNC, ("write", 0, head(2, 2, 1)), SYNC])

    def test_parts_needed(self):
        for bad in NO_VALUES:
            with self.assertRaises(NotAValue):
                parts_needed(bad)


class TestLongRows(unittest.TestCase):
    def test_any_operations(self):
        chance = random.Random(20)
        for _ in range(30):
            disk = Disk()
            records = []
            for boot in range(1, 6):
                journal = Journal(disk.sectors(), boot)
                self.assertEqual(journal.records(), records)
                for _ in range(chance.randint(0, 4)):
                    given = [text(chance.randint(1, 5), chance.choice("abc")) for _ in range(chance.randint(0, 4))]
                    if chance.randrange(2):
                        records = records + given
                        disk.do(journal.append(given))
                    else:
                        records = given
                        disk.do(journal.rewrite(given))
                    self.assertEqual(journal.records(), records)
                    self.assertEqual(journal.sectors_used(), sum(len(parts(0, 0, 0, record)) for record in records))


if __name__ == "__main__":
    unittest.main()
