"""Points 2.3, 2.12 and 2.13: machines that fail, and the sectors that are written."""

import random
import unittest

from majordomo.journal import Journal
from tests.disks import Disk
from tests.test_journal import text


def outcomes(before, word, given):
    """The lists of records that may be there when an operation was interrupted."""
    if word == "rewrite":
        return [before, given]
    return [before + given[:count] for count in range(len(given) + 1)]


def steps_of(journal, word, given):
    if word == "rewrite":
        return journal.rewrite(given)
    return journal.append(given)


class TestEachFailure(unittest.TestCase):
    def check_disk(self, disk, boot, allowed, operations):
        """Open the disk, and interrupt the first of the operations in all ways, and so on."""
        journal = Journal(disk.sectors(), boot)
        records = journal.records()
        self.assertIn(records, allowed)
        self.count += 1
        if not operations:
            return
        (word, given), rest = operations[0], operations[1:]
        given = [record.replace("?", "abcdefghij"[boot]) for record in given]
        steps = steps_of(journal, word, given)
        for done in range(len(steps) + 1):
            allowed = outcomes(records, word, given)
            if done == len(steps):
                allowed = allowed[-1:]
            for failed in Disk(disk.sectors()).do(steps[:done]).all_after_failure():
                self.check_disk(failed, boot + 1, allowed, rest)

    def check(self, operations):
        self.count = 0
        self.check_disk(Disk(), 1, [[]], operations)
        self.assertGreater(self.count, 10)

    def test_two_appends(self):
        self.check([("append", [text(2, "?"), "?", "?"]), ("append", ["?", text(2, "?"), "?"])])

    def test_long_and_short_records(self):
        self.check([("append", [text(3, "?"), "?"]), ("append", [text(2, "?"), text(2, "?")])])
        self.check([("append", ["?", "?", "?"]), ("append", [text(2, "?")]), ("append", ["?"])])
        self.check([("append", ["?", "?"]), ("append", ["?"]), ("append", [text(2, "?")]), ("append", ["?"])])

    def test_rewrites(self):
        self.check([("append", [text(2, "?")]), ("rewrite", [text(2, "?"), "?"]), ("rewrite", ["?"]), ("append", ["?"])])
        self.check([("rewrite", ["?", "?"]), ("rewrite", ["?"]), ("append", ["?"]), ("rewrite", ["?"])])
        self.check([("rewrite", ["?", "?"]), ("rewrite", []), ("append", ["?"])])
        self.check([("append", ["?"]), ("rewrite", ["?", "?"]), ("rewrite", ["?", "?"]), ("append", ["?"])])

    def test_appends_between_rewrites(self):
        self.check([("rewrite", ["?"]), ("append", ["?", "?"]), ("rewrite", [text(2, "?")]), ("append", ["?"])])
        self.check([("rewrite", []), ("append", [text(2, "?")]), ("append", ["?", "?"]), ("rewrite", [])])


class TestStaleParts(unittest.TestCase):
    """Parts that an interrupted operation left where a later one would read them."""

    def test_of_an_append(self):
        first = Journal([], 1)
        steps = first.append(["a", "b", "c"])
        disk = Disk().do(steps[1:3])
        disk.do([("sync",)])
        second = Journal(disk.sectors(), 2)
        self.assertEqual(second.records(), [])
        disk.do(second.append(["z"]))
        self.assertEqual(Journal(disk.sectors(), 3).records(), ["z"])

    def test_of_a_rewrite(self):
        disk = Disk()
        first = Journal([], 1)
        disk.do(first.append([text(1)]))
        disk.do(first.rewrite([text(3), "b", "c"])[:-3] + [("sync",)])
        second = Journal(disk.sectors(), 2)
        self.assertEqual(second.records(), [text(1)])
        disk.do(second.rewrite([]))
        self.assertEqual(Journal(disk.sectors(), 3).records(), [])

    def test_of_a_rewrite_behind_the_records_of_another(self):
        disk = Disk()
        first = Journal([], 1)
        disk.do(first.append([text(1)]))
        disk.do(first.rewrite(["a", "b", "c"])[:-3] + [("sync",)])
        second = Journal(disk.sectors(), 2)
        disk.do(second.rewrite(["d"]))
        third = Journal(disk.sectors(), 3)
        self.assertEqual(third.records(), ["d"])
        disk.do(third.append(["e"]))
        self.assertEqual(Journal(disk.sectors(), 4).records(), ["d", "e"])

    def test_parts_of_two_boots_in_one_record(self):
        disk = Disk()
        disk.do(Journal([], 1).append([text(2, "a")])[1:2] + [("sync",)])
        second = Journal(disk.sectors(), 2)
        disk.do(second.append([text(2, "b")])[:1] + [("sync",)])
        self.assertEqual(Journal(disk.sectors(), 3).records(), [])


class TestLongRuns(unittest.TestCase):
    def random_records(self, chance, boot, longest):
        count = chance.choice((0, 1, 1, 2, 3, 4))
        return [text(chance.randint(1, longest), "abcdefghijklmnopqrst"[boot % 20]) for _ in range(count)]

    def run_disk(self, chance, rounds, longest, rewrites):
        """Operations that are done or interrupted, and failures; return the indexes that were written, and most."""
        disk, allowed, most, indexes, boot = Disk(), [[]], 0, [], 0
        for _ in range(rounds):
            boot += chance.randint(1, 3)
            journal = Journal(disk.sectors(), boot)
            records = journal.records()
            self.assertIn(records, allowed)
            most = max(most, journal.sectors_used())
            for last in [False] * chance.choice((0, 0, 1, 2)) + [True]:
                word = "rewrite" if chance.random() < rewrites or len(records) > 12 else "append"
                given = self.random_records(chance, boot, longest)
                steps = steps_of(journal, word, given)
                most = max(most, journal.sectors_used())
                done = chance.randint(0, len(steps)) if last else len(steps)
                disk.do(steps[:done])
                allowed = outcomes(records, word, given)
                if done == len(steps):
                    allowed = allowed[-1:]
                records = allowed[-1]
            indexes += disk.indexes
            disk = disk.after_failure(chance)
        return (indexes, most)

    def test_failures(self):
        chance = random.Random(31)
        for _ in range(150):
            indexes, most = self.run_disk(chance, 25, chance.randint(1, 4), chance.choice((0.1, 0.3, 0.6)))
            self.assertLess(max(indexes), max(2 + 3 * most, 2))

    def test_long_rows_of_rewrites(self):
        chance = random.Random(32)
        for _ in range(10):
            indexes, most = self.run_disk(chance, 150, 4, 0.9)
            self.assertLess(max(indexes), 2 + 3 * most)

    def test_growing_rewrites_come_close_to_the_bound(self):
        journal = Journal([], 1)
        indexes = []
        for count in (3, 1, 3, 3, 3, 2, 3, 1, 1, 3):
            indexes += [step[1] for step in journal.rewrite([text(count)]) if step[0] == "write"]
        self.assertLess(max(indexes), 11)
        self.assertGreater(max(indexes), 4)


if __name__ == "__main__":
    unittest.main()
