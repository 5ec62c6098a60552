"""Points 4.30 to 4.35: replicas on a disk, step by step, and the records that they need."""

import random
import unittest

from majordomo.durable import DurableReplica, compacted
from majordomo.journal import Journal
from majordomo.replica import Replica
from tests.disks import Disk
from tests.replicas import NAMES, command, commands, hear, send

SYNC = ("sync",)


def durable(name="r2", count=3, sectors=(), boot=1):
    return DurableReplica(name, NAMES[:count], list(sectors), boot)


def disk_with(records, boot=1):
    """The sectors of a disk that keeps some records."""
    return Disk().do(Journal([], boot).append(records)).sectors()


def image(base, text="x"):
    return ("image", base, ((base, (("drain", "a", 1, base, (text,)),)), (("c1", base, ("done", base)),)))


class TestCreation(unittest.TestCase):
    def test_a_blank_disk(self):
        replica = durable()
        self.assertEqual((replica.name, replica.look(), replica.dump()), ("r2", (0, 0, False), ((0, ()), ())))
        self.assertIsInstance(replica.journal, Journal)
        self.assertIsInstance(replica.replica, Replica)
        self.assertEqual((replica.replica.name, replica.journal.records()), ("r2", []))

    def test_a_disk_with_records(self):
        records = [("promised", 4), image(8), ("accepted", 5, 8, command(9))]
        sectors = disk_with(records)
        before = list(sectors)
        replica = durable("r2", 3, sectors, 2)
        self.assertEqual((replica.look(), replica.dump()), ((8, 8, False), image(8)[2]))
        self.assertEqual(replica.journal.records(), records)
        self.assertEqual(hear(replica, "r3", "prepare", 5, 0), [send("r3", "promise", 5, 8, ((8, 5, command(9)),))])
        self.assertEqual(sectors, before)
        sectors.clear()
        self.assertEqual(replica.journal.records(), records)

    def test_the_boot_is_that_of_the_journal(self):
        replica = durable(boot=7)
        steps = hear(replica, "r3", "prepare", 5, 0)
        self.assertEqual(steps, Journal([], 7).append([("promised", 5)]))
        self.assertNotEqual(steps, Journal([], 8).append([("promised", 5)]))


class TestEvents(unittest.TestCase):
    def test_other_events_are_ignored(self):
        replica = durable()
        hear(replica, "r3", "prepare", 5, 0)
        for event in (("stored", 1), ("ended", "web/0"), ("other",)):
            self.assertEqual(replica.handle(event), [])
        self.assertEqual(replica.handle(("synced", 1)), [send("r3", "promise", 5, 0, ())])

    def test_ticks(self):
        replica = durable("r1")
        for _ in range(7):
            self.assertEqual(replica.handle(("tick",)), [])
        self.assertEqual(replica.handle(("tick",)), Journal([], 1).append([("promised", 3)]))
        self.assertEqual(replica.handle(("synced", 1)), [send("r2", "prepare", 3, 0), send("r3", "prepare", 3, 0)])

    def test_letters_without_records(self):
        replica = durable()
        self.assertEqual(hear(replica, "f1", "since", 0), [send("f1", "changes", 0, (), 0)])
        self.assertEqual(hear(replica, "r3", "beat", 2, 0), [])
        self.assertEqual(hear(replica, "f1", "ask", command()), [send("r3", "ask", command())])

    def test_what_is_sent_goes_ahead_of_the_steps(self):
        replica = durable("r1", 3)
        for _ in range(8):
            replica.handle(("tick",))
        replica.handle(("synced", 1))
        hear(replica, "r2", "promise", 3, 0, ())
        journal = Journal([], 1)
        journal.append([("promised", 3)])
        self.assertEqual(hear(replica, "f1", "ask", command()), [
            send("r2", "accept", 3, 0, command()), send("r3", "accept", 3, 0, command()),
            *journal.append([("accepted", 3, 0, command())])])

    def test_a_list_of_effects_may_be_changed_later(self):
        replica = durable()
        for ballot in (5, 8):
            hear(replica, "r3", "prepare", ballot, 0).clear()
        self.assertEqual(len(replica.handle(("synced", 1))), 3)
        replica.handle(("synced", 2)).clear()
        self.assertEqual(replica.journal.records(), [("promised", 5), ("promised", 8)])


class TestAppending(unittest.TestCase):
    def test_one_sync_is_awaited_at_a_time(self):
        replica = durable()
        journal = Journal([], 1)
        self.assertEqual(hear(replica, "r3", "prepare", 5, 0), journal.append([("promised", 5)]))
        self.assertEqual(hear(replica, "r3", "accept", 5, 0, command(1)), [])
        self.assertEqual(hear(replica, "r3", "accept", 5, 1, command(2)), [])
        self.assertEqual(hear(replica, "f1", "since", 0), [send("f1", "changes", 0, (), 0)])
        self.assertEqual(replica.handle(("tick",)), [])
        self.assertEqual(replica.journal.records(), [("promised", 5)])
        queue = [("accepted", 5, 0, command(1)), ("accepted", 5, 1, command(2))]
        self.assertEqual(replica.handle(("synced", 1)), [send("r3", "promise", 5, 0, ())] + journal.append(queue))
        self.assertEqual(replica.journal.records(), [("promised", 5)] + queue)
        self.assertEqual(replica.handle(("synced", 2)), [send("r3", "accepted", 5, 0), send("r3", "accepted", 5, 1)])
        self.assertEqual(replica.handle(("synced", 3)), [])

    def test_what_is_stored_by_the_stored_event_is_handed_over_at_once(self):
        replica = durable("r1", 1)
        for _ in range(8):
            replica.handle(("tick",))
        replica.handle(("synced", 1))
        journal = Journal([], 1)
        journal.append([("promised", 1)])
        for at in range(7):
            self.assertEqual(hear(replica, "f1", "ask", command(at + 1)),
                             journal.append([("accepted", 1, at, command(at + 1))]))
            self.assertEqual(replica.handle(("synced", 2 + at)), [send("f1", "told", "c1", at + 1, ("done", at + 1))])
        hear(replica, "f1", "ask", command(8))
        journal.append([("accepted", 1, 7, command(8))])
        self.assertEqual(hear(replica, "f2", "ask", command(9)), [])
        effects = replica.handle(("synced", 9))
        # The queue holds the ninth command and the image, which was stored after it.
        steps = journal.rewrite([("image", 8, replica.dump()), ("promised", 1), ("accepted", 1, 8, command(9))])
        end = steps.index(SYNC) + 1
        self.assertEqual(effects, [send("f1", "told", "c1", 8, ("done", 8))] + steps[:end])
        self.assertEqual(replica.handle(("synced", 10)), steps[end:])
        self.assertEqual(replica.handle(("synced", 11)), [send("f2", "told", "c1", 9, ("done", 9))])

    def test_smaller_and_greater_numbers(self):
        replica = durable()
        self.assertEqual(replica.handle(("synced", 1)), [])
        hear(replica, "r3", "prepare", 5, 0)
        hear(replica, "r3", "prepare", 8, 0)
        self.assertEqual(replica.handle(("synced", 0)), [])
        self.assertEqual(replica.handle(("synced", 7))[0], send("r3", "promise", 5, 0, ()))
        for number in (0, 1):
            self.assertEqual(replica.handle(("synced", number)), [])
        self.assertEqual(replica.handle(("synced", 2)), [send("r3", "promise", 8, 0, ())])
        # A number from before does not count for the next sync.
        hear(replica, "r3", "prepare", 11, 0)
        self.assertEqual(replica.handle(("synced", 2)), [])
        self.assertEqual(replica.handle(("synced", 3)), [send("r3", "promise", 11, 0, ())])

    def test_a_sync_that_nobody_awaits_is_not_counted_as_done(self):
        replica = durable()
        self.assertEqual(replica.handle(("synced", 5)), [])
        hear(replica, "r3", "prepare", 5, 0)
        self.assertEqual(replica.handle(("synced", 0)), [])
        self.assertEqual(replica.handle(("synced", 1)), [send("r3", "promise", 5, 0, ())])


class TestRewriting(unittest.TestCase):
    def setUp(self):
        self.replica = durable()
        self.journal = Journal([], 1)
        hear(self.replica, "r1", "prepare", 3, 0)
        self.replica.handle(("synced", 1))
        self.journal.append([("promised", 3)])

    def test_an_image(self):
        steps = self.journal.rewrite([image(8), ("promised", 3)])
        self.assertEqual(steps.count(SYNC), 2)
        end = steps.index(SYNC) + 1
        self.assertEqual(hear(self.replica, "r1", *image(8)), steps[:end])
        self.assertEqual(self.replica.journal.records(), [image(8), ("promised", 3)])
        self.assertEqual(hear(self.replica, "r1", "prepare", 3, 0), [])
        # While the first sync is awaited, and while the second one is.
        for number in (0, 1):
            self.assertEqual(self.replica.handle(("synced", number)), [])
        self.assertEqual(self.replica.handle(("synced", 2)), steps[end:])
        self.assertEqual(steps[end:][1:], [SYNC])
        for number in (0, 1, 2):
            self.assertEqual(self.replica.handle(("synced", number)), [])
        self.assertEqual(hear(self.replica, "r1", "prepare", 3, 9), [])
        self.assertEqual(self.replica.handle(("synced", 3)),
                         [send("r1", "promise", 3, 8, ()), send("r1", "promise", 3, 8, ())])
        self.assertEqual(self.replica.handle(("synced", 4)), [])

    def test_a_greater_number_ends_one_sync_only(self):
        steps = self.journal.rewrite([image(8), ("promised", 3)])
        hear(self.replica, "r1", *image(8))
        hear(self.replica, "r1", "prepare", 3, 0)
        self.assertEqual(self.replica.handle(("synced", 9)), steps[steps.index(SYNC) + 1:])
        self.assertEqual(self.replica.handle(("synced", 9)), [send("r1", "promise", 3, 8, ())])

    def test_what_comes_while_it_is_rewritten_waits(self):
        hear(self.replica, "r1", *image(8))
        self.journal.rewrite([image(8), ("promised", 3)])
        self.assertEqual(hear(self.replica, "r1", "accept", 3, 8, command(1)), [])
        self.replica.handle(("synced", 2))
        self.assertEqual(hear(self.replica, "r1", "accept", 3, 9, command(2)), [])
        self.assertEqual(self.replica.handle(("synced", 3)), self.journal.append(
            [("accepted", 3, 8, command(1)), ("accepted", 3, 9, command(2))]))
        self.assertEqual(self.replica.handle(("synced", 4)),
                         [send("r1", "accepted", 3, 8), send("r1", "accepted", 3, 9)])

    def test_several_records_with_images(self):
        hear(self.replica, "r1", "accept", 3, 9, command(10))
        self.journal.append([("accepted", 3, 9, command(10))])
        hear(self.replica, "r1", "accept", 3, 7, command(8))
        hear(self.replica, "r1", *image(8))
        hear(self.replica, "r1", "accept", 3, 8, command(9))
        hear(self.replica, "r1", "accept", 4, 9, command(11))
        hear(self.replica, "r1", *image(9))
        hear(self.replica, "r1", "prepare", 6, 0)
        self.assertEqual(self.replica.journal.records(), [("promised", 3), ("accepted", 3, 9, command(10))])
        steps = self.journal.rewrite([image(9), ("promised", 6), ("accepted", 4, 9, command(11))])
        end = steps.index(SYNC) + 1
        self.assertEqual(self.replica.handle(("synced", 2)), [send("r1", "accepted", 3, 9)] + steps[:end])
        self.assertEqual(self.replica.handle(("synced", 3)), steps[end:])
        # All six records of the queue are safe, although only three are kept.
        self.assertEqual(self.replica.handle(("synced", 4)), [
            send("r1", "accepted", 3, 7), send("r1", "accepted", 3, 8), send("r1", "accepted", 4, 9),
            send("r1", "promise", 6, 9, ((9, 4, command(11)),))])

    def test_the_records_that_the_disk_had_are_not_counted(self):
        replica = durable("r2", 3, disk_with([("promised", 1), ("promised", 2), ("promised", 3)]), 2)
        hear(replica, "r1", "prepare", 6, 0)
        hear(replica, "r1", "prepare", 9, 0)
        self.assertEqual(replica.handle(("synced", 1))[0], send("r1", "promise", 6, 0, ()))
        self.assertEqual(replica.handle(("synced", 2)), [send("r1", "promise", 9, 0, ())])

    def test_an_image_on_the_disk_alone_does_not_rewrite(self):
        replica = durable("r2", 3, disk_with([image(8), ("promised", 3), ("promised", 5)]), 2)
        effects = hear(replica, "r1", "prepare", 6, 0)
        self.assertEqual((effects.count(SYNC), effects[-1]), (1, SYNC))
        self.assertEqual(replica.journal.records(), [image(8), ("promised", 3), ("promised", 5), ("promised", 6)])


class TestCompacted(unittest.TestCase):
    def test_lists_without_an_image(self):
        for records in ([], [("promised", 4)], [("accepted", 5, 1, command()), ("promised", 4), ("promised", 4),
                                               ("accepted", 5, 1, command())]):
            found = compacted(records)
            self.assertEqual(found, records)
            found.append(1)
            self.assertNotIn(1, records)

    def test_an_image_alone(self):
        self.assertEqual(compacted([image(8)]), [image(8), ("promised", 0)])

    def test_the_first_image_with_the_greatest_base(self):
        self.assertEqual(compacted([image(8), image(16, "a"), image(16, "b"), image(9)]),
                         [image(16, "a"), ("promised", 0)])
        self.assertEqual(compacted([image(0, "a"), image(0, "b")]), [image(0, "a"), ("promised", 0)])

    def test_the_greatest_ballot(self):
        for records, ballot in (([("promised", 4), ("promised", 3)], 4), ([("accepted", 6, 1, command())], 6),
                                ([("promised", 4), ("accepted", 6, 1, command()), ("promised", 5)], 6),
                                ([("accepted", 6, 1, command()), ("promised", 7)], 7)):
            for at in range(len(records) + 1):
                found = compacted(records[:at] + [image(8)] + records[at:])
                self.assertEqual(found, [image(8), ("promised", ballot)])

    def test_accepted_records_on_both_sides_of_the_base(self):
        accepted = [("accepted", ballot, slot, command(number))
                    for number, (ballot, slot) in enumerate(((3, 9), (3, 8), (4, 7), (5, 9), (4, 20), (2, 8)), 1)]
        self.assertEqual(compacted(accepted[:3] + [image(8)] + accepted[3:]),
                         [image(8), ("promised", 5), accepted[5], accepted[3], accepted[4]])

    def test_the_argument_is_not_changed(self):
        records = [("promised", 4), image(8), ("accepted", 4, 9, command())]
        before = list(records)
        compacted(records)
        self.assertEqual(records, before)

    def test_the_replica_is_the_same(self):
        chance = random.Random(4)
        for _ in range(200):
            records = [self.any_record(chance) for _ in range(chance.randrange(12))]
            first, second = [Replica("r1", NAMES[:3], found, 1) for found in (records, compacted(records))]
            self.assertEqual((first.look(), first.dump()), (second.look(), second.dump()))
            for event in (("letter", "r2", ("prepare", 4, 0)), ("letter", "r2", ("prepare", 30, 0)), ("stored", 1),
                          ("letter", "r2", ("want", 0))):
                self.assertEqual(first.handle(event), second.handle(event))

    def any_record(self, chance):
        word = chance.choice(("promised", "accepted", "accepted", "image"))
        if word == "promised":
            return (word, chance.randrange(9))
        if word == "image":
            return image(chance.randrange(1, 4), chance.choice("abc"))
        return (word, chance.randrange(9), chance.randrange(5), command(chance.randrange(1, 9)))


class TestDisks(unittest.TestCase):
    def test_the_disk_keeps_what_was_synced(self):
        replica = durable("r1", 1)
        disk = Disk()
        told = []
        syncs = 0
        events = [("tick",)] * 8 + [("letter", "f1", ("ask", asked)) for asked in commands(20)]
        for event in events:
            effects = replica.handle(event)
            while effects:
                steps = [effect for effect in effects if effect[0] != "send"]
                told += [effect[2] for effect in effects if effect[0] == "send"]
                disk.do(steps)
                syncs += steps.count(SYNC)
                effects = replica.handle(("synced", syncs)) if steps else []
        self.assertEqual(told, [("told", "c1", number, ("done", number)) for number in range(1, 21)])
        self.assertEqual(replica.look(), (20, 20, True))
        again = durable("r1", 1, disk.sectors(), 2)
        self.assertEqual(again.look(), (16, 16, False))
        self.assertEqual([record[0] for record in again.journal.records()],
                         ["image", "promised"] + ["accepted"] * 4)
        self.assertEqual(again.journal.records(), replica.journal.records())


if __name__ == "__main__":
    unittest.main()
