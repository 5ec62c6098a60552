"""Points 4.1 to 4.8: events, letters that are held until records are safe, and replicas made from records."""

import copy
import unittest

from majordomo.replica import IMAGE_EVERY, SENT_AT_ONCE, Replica
from tests.replicas import (
    NAMES, NOTHING, choose, command, commands, hear, leading, made, send, store, stored, tick, ticks_to_prepare,
)


class TestEvents(unittest.TestCase):
    def test_constants(self):
        self.assertEqual((IMAGE_EVERY, SENT_AT_ONCE), (8, 8))

    def test_a_new_replica(self):
        replica = Replica("r2", ("r1", "r2", "r3"), [], 9)
        self.assertEqual(replica.name, "r2")
        self.assertEqual(replica.look(), (0, 0, False))
        self.assertEqual(replica.dump(), ((0, ()), ()))
        self.assertIsNone(replica.value_at(0))

    def test_the_boot_does_nothing(self):
        runs = []
        for boot in (1, 77):
            replica = Replica("r1", NAMES[:3], [], boot)
            runs.append([tick(replica, 8), stored(replica, 1), hear(replica, "r2", "promise", 3, 0, ()),
                         hear(replica, "f1", "ask", command())])
        self.assertEqual(runs[0], runs[1])

    def test_other_events_and_letters_are_ignored(self):
        replica = made("r2")
        for event in (("ended", "web/0"), ("synced", 1), ("other",), ("ticks",)):
            self.assertEqual(replica.handle(event), [])
        for letter in (("told", "c1", 1, ("done", 1)), ("changes", 0, (), 0), ("whole", 3, ()), ("other", 1)):
            for sender in ("r1", "f1"):
                self.assertEqual(hear(replica, sender, *letter), [])
        self.assertEqual((replica.look(), ticks_to_prepare(replica)), ((0, 0, False), 12))

    def test_nothing_that_is_handed_in_is_changed_or_kept(self):
        records = [("promised", 5), ("accepted", 5, 0, command())]
        before = copy.deepcopy(records)
        replica = Replica("r1", NAMES[:3], records, 1)
        self.assertEqual(records, before)
        records.clear()
        self.assertEqual(hear(replica, "r2", "prepare", 7, 0)[0], store("promised", 7))
        self.assertEqual(stored(replica, 1), [send("r2", "promise", 7, 0, ((0, 5, command()),))])

    def test_a_list_of_effects_may_be_changed_later(self):
        replica = made("r1")
        effects = tick(replica, 8)
        effects.clear()
        self.assertEqual(len(stored(replica, 1)), 2)


class TestHeldLetters(unittest.TestCase):
    def test_prepares_are_held_behind_the_promise(self):
        replica = made("r1")
        self.assertEqual(tick(replica, 8), [store("promised", 3)])
        self.assertEqual(stored(replica, 0), [])
        self.assertEqual(stored(replica, 1), [send("r2", "prepare", 3, 0), send("r3", "prepare", 3, 0)])
        self.assertEqual(stored(replica, 1), [])

    def test_promises_are_held_one_by_one(self):
        replica = made("r1")
        self.assertEqual(hear(replica, "r2", "prepare", 4, 0), [store("promised", 4)])
        self.assertEqual(hear(replica, "r3", "prepare", 5, 0), [store("promised", 5)])
        self.assertEqual(stored(replica, 1), [send("r2", "promise", 4, 0, ())])
        self.assertEqual(stored(replica, 2), [send("r3", "promise", 5, 0, ())])

    def test_several_letters_are_released_in_order(self):
        replica = made("r1")
        hear(replica, "r2", "prepare", 4, 0)
        hear(replica, "r3", "accept", 5, 0, command())
        hear(replica, "r3", "prepare", 5, 0)
        self.assertEqual(stored(replica, 2), [
            send("r2", "promise", 4, 0, ()), send("r3", "accepted", 5, 0),
            send("r3", "promise", 5, 0, ((0, 5, command()),))])

    def test_a_number_that_is_not_greater_changes_nothing(self):
        replica = made("r1")
        hear(replica, "r2", "prepare", 4, 0)
        stored(replica, 1)
        hear(replica, "r3", "prepare", 5, 0)
        self.assertEqual(stored(replica, 1), [])
        self.assertEqual(stored(replica, 0), [])
        # It does not take back what was safe either.
        self.assertEqual(stored(replica, 2), [send("r3", "promise", 5, 0, ())])
        self.assertEqual(stored(replica, 1), [])
        self.assertEqual(hear(replica, "r3", "prepare", 5, 0), [send("r3", "promise", 5, 0, ())])

    def test_nothing_is_held_if_nothing_is_unsafe(self):
        replica = made("r1", 3, [("promised", 4)])
        self.assertEqual(hear(replica, "r2", "prepare", 4, 0), [send("r2", "promise", 4, 0, ())])
        hear(replica, "r2", "accept", 4, 0, command())
        # This promise stores nothing, but depends on what was stored before it.
        self.assertEqual(hear(replica, "r2", "prepare", 4, 1), [])
        self.assertEqual(stored(replica, 1), [send("r2", "accepted", 4, 0), send("r2", "promise", 4, 0, ())])
        self.assertEqual(hear(replica, "r2", "prepare", 4, 1), [send("r2", "promise", 4, 0, ())])

    def test_images_are_records_too(self):
        replica = made("r1")
        choose(replica, commands(8))
        self.assertEqual(hear(replica, "r2", "prepare", 4, 8), [store("promised", 4)])
        self.assertEqual(stored(replica, 1), [])
        self.assertEqual(stored(replica, 2), [send("r2", "promise", 4, 8, ())])

    def test_other_letters_are_not_held(self):
        replica = made("r1")
        hear(replica, "r2", "prepare", 4, 0)
        self.assertEqual(hear(replica, "r3", "prepare", 2, 0), [send("r3", "refuse", 4)])
        self.assertEqual(hear(replica, "r3", "accept", 2, 0, command()), [send("r3", "refuse", 4)])
        self.assertEqual(hear(replica, "r3", "beat", 2, 0), [send("r3", "refuse", 4)])
        self.assertEqual(hear(replica, "r3", "promise", 2, 9, ()), [send("r3", "want", 0)])
        self.assertEqual(hear(replica, "f1", "since", 0), [send("f1", "changes", 0, (), 0)])

    def test_an_old_ballot_is_still_prepared(self):
        replica = made("r1")
        tick(replica, 8)
        self.assertEqual(tick(replica, 8), [store("promised", 6)])
        self.assertEqual(stored(replica, 2), [
            send("r2", "prepare", 3, 0), send("r3", "prepare", 3, 0), send("r2", "prepare", 6, 0),
            send("r3", "prepare", 6, 0)])
        # The own promise of the ballot 6 counts, and that of 3 was refused.
        hear(replica, "r2", "promise", 6, 0, ())
        self.assertIs(replica.look()[2], True)


class TestLettersToItself(unittest.TestCase):
    def test_a_single_replica_leads_when_its_promise_is_safe(self):
        replica = made("r1", 1)
        self.assertEqual(tick(replica, 8), [store("promised", 1)])
        self.assertIs(replica.look()[2], False)
        self.assertEqual(stored(replica, 1), [])
        self.assertEqual(replica.look(), (0, 0, True))
        self.assertEqual(tick(replica), [])

    def test_a_single_replica_chooses_what_is_safe(self):
        replica, _ = leading(1)
        self.assertEqual(hear(replica, "f1", "ask", command(1)), [store("accepted", 1, 0, command(1))])
        self.assertEqual(hear(replica, "f1", "ask", command(2)), [store("accepted", 1, 1, command(2))])
        self.assertEqual(replica.look(), (0, 0, True))
        self.assertEqual(stored(replica, 2), [send("f1", "told", "c1", 1, ("done", 1))])
        self.assertEqual(stored(replica, 3), [send("f1", "told", "c1", 2, ("done", 2))])

    def test_the_own_promise_counts_only_when_it_is_released(self):
        replica = made("r1", 3)
        tick(replica, 8)
        # A promise for the new ballot, although its prepare was not sent yet.
        self.assertEqual(hear(replica, "r2", "promise", 3, 0, ()), [])
        self.assertIs(replica.look()[2], False)
        stored(replica, 1)
        self.assertIs(replica.look()[2], True)

    def test_what_is_made_by_a_released_letter_goes_ahead_of_the_other_held_ones(self):
        replica = made("r1", 3)
        tick(replica, 8)
        hear(replica, "r2", "promise", 3, 0, ((1, 2, command()),))
        self.assertEqual(stored(replica, 1), [
            store("accepted", 3, 0, NOTHING), send("r2", "accept", 3, 0, NOTHING), send("r3", "accept", 3, 0, NOTHING),
            store("accepted", 3, 1, command()), send("r2", "accept", 3, 1, command()),
            send("r3", "accept", 3, 1, command()), send("r2", "prepare", 3, 0), send("r3", "prepare", 3, 0)])
        # The own answers to these accepts were held behind the records, at the end.
        hear(replica, "r3", "accepted", 3, 1)
        hear(replica, "r3", "accepted", 3, 0)
        self.assertEqual(stored(replica, 2), [send("r2", "chosen", 0, NOTHING), send("r3", "chosen", 0, NOTHING)])
        self.assertEqual(stored(replica, 3), [send("r2", "chosen", 1, command()), send("r3", "chosen", 1, command())])

    def test_a_held_letter_to_itself_among_others(self):
        leader, ballot = leading(3)
        hear(leader, "f1", "ask", command(1))
        hear(leader, "r2", "prepare", 2, 0)
        hear(leader, "r2", "accepted", ballot, 0)
        hear(leader, "f1", "ask", command(2))
        hear(leader, "r3", "prepare", ballot, 0)
        self.assertEqual(stored(leader, 3), [
            send("r2", "chosen", 0, command(1)), send("r3", "chosen", 0, command(1)),
            send("f1", "told", "c1", 1, ("done", 1)),
            send("r3", "promise", ballot, 0, ((0, ballot, command(1)), (1, ballot, command(2))))])
        self.assertEqual(leader.look()[0], 1)

    def test_records_that_a_released_letter_stores_are_not_safe(self):
        leader, ballot = leading(1)
        effects = []
        for at in range(8):
            effects += hear(leader, "f1", "ask", command(at + 1))
        self.assertEqual(effects, [store("accepted", ballot, at, command(at + 1)) for at in range(8)])
        told = [send("f1", "told", "c1", at + 1, ("done", at + 1)) for at in range(8)]
        self.assertEqual(stored(leader, 9), told + [store("image", 8, leader.dump())])
        # What is accepted now waits for the image, too.
        self.assertEqual(hear(leader, "f1", "ask", command(9)), [store("accepted", ballot, 8, command(9))])
        self.assertEqual(stored(leader, 10), [])
        self.assertEqual(stored(leader, 11), [send("f1", "told", "c1", 9, ("done", 9))])

    def test_the_rows_of_a_promise_are_those_when_it_was_held(self):
        replica = made("r1")
        hear(replica, "r2", "prepare", 4, 0)
        hear(replica, "r2", "accept", 4, 0, command())
        self.assertEqual(stored(replica, 2), [send("r2", "promise", 4, 0, ()), send("r2", "accepted", 4, 0)])


class TestRecords(unittest.TestCase):
    def image(self, base, revision):
        entries = (("drain", "a", 1, revision, (str(base),)),)
        sessions = (("c1", revision, ("done", revision)),)
        return ("image", base, ((revision, entries), sessions))

    def test_what_was_promised_and_accepted(self):
        replica = made("r1", 3, [
            ("promised", 5), ("accepted", 7, 2, command(1)), ("promised", 6), ("accepted", 5, 0, command(2)),
            ("accepted", 8, 2, command(3))])
        self.assertEqual(hear(replica, "r2", "prepare", 7, 0), [send("r2", "refuse", 8)])
        self.assertEqual(hear(replica, "r3", "prepare", 8, 0),
                         [send("r3", "promise", 8, 0, ((0, 5, command(2)), (2, 8, command(3))))])
        self.assertEqual(hear(replica, "r3", "prepare", 8, 1), [send("r3", "promise", 8, 0, ((2, 8, command(3)),))])
        self.assertEqual(replica.look(), (0, 0, False))

    def test_the_proposer_has_seen_the_promised_ballot(self):
        for records, ballot in (([], 3), ([("promised", 2)], 3), ([("promised", 3)], 6), ([("promised", 10)], 12),
                                ([("accepted", 13, 0, command())], 15)):
            self.assertEqual(tick(made("r1", 3, records), 8)[0], store("promised", ballot))

    def test_an_image(self):
        image = self.image(8, 5)
        replica = made("r1", 3, [("accepted", 4, 7, command(1)), ("accepted", 4, 8, command(2)), image,
                                 ("accepted", 4, 6, command(3)), ("accepted", 4, 9, command(4))])
        self.assertEqual(replica.look(), (8, 5, False))
        self.assertEqual(replica.dump(), image[2])
        self.assertEqual(hear(replica, "r2", "prepare", 4, 0),
                         [send("r2", "promise", 4, 8, ((8, 4, command(2)), (9, 4, command(4))))])
        self.assertEqual(hear(replica, "r2", "want", 7), [("send", "r2", image)])
        self.assertEqual(hear(replica, "r2", "want", 8), [])
        self.assertEqual(hear(replica, "f1", "ask", command(5)), [send("f1", "told", "c1", 5, ("done", 5))])
        self.assertEqual(hear(replica, "f1", "since", 5), [send("f1", "changes", 5, (), 5)])
        self.assertEqual(hear(replica, "f1", "since", 4), [send("f1", "whole", 5, image[2][0][1])])
        self.assertEqual(tick(replica, 8), [store("promised", 6)])
        self.assertEqual(stored(replica, 1), [send("r2", "prepare", 6, 8), send("r3", "prepare", 6, 8)])

    def test_several_images(self):
        for bases, newest in (((8, 16), 16), ((16, 8), 16), ((8, 24, 16), 24), ((8, 8), 8)):
            images = [self.image(base, base + at) for at, base in enumerate(bases)]
            replica = made("r1", 3, images)
            # Of images of the same base, the first one counts.
            image = [image for image in images if image[1] == newest][0]
            self.assertEqual((replica.look()[0], replica.dump()), (newest, image[2]))
            self.assertEqual(hear(replica, "r2", "want", 0), [("send", "r2", image)])
            self.assertEqual(hear(replica, "r2", "prepare", 4, 0), [store("promised", 4)])
            self.assertEqual(stored(replica, 1), [send("r2", "promise", 4, newest, ())])

    def test_records_behind_an_image(self):
        replica = made("r1", 3, [self.image(8, 5), ("promised", 5), ("accepted", 5, 8, command(6))])
        self.assertEqual(hear(replica, "r2", "prepare", 5, 0), [send("r2", "promise", 5, 8, ((8, 5, command(6)),))])
        self.assertEqual(choose(replica, [command(6)], 8), [])
        self.assertEqual(replica.look()[:2], (9, 6))

    def test_a_replica_made_from_the_records_of_another_one(self):
        first = made("r2")
        records = []
        events = [("r1", "prepare", 3, 0), ("r1", "accept", 3, 0, command(1)), ("r1", "accept", 3, 1, command(2))]
        events += [("r1", "chosen", at, command(at + 1)) for at in range(9)]
        events += [("r3", "accept", 5, 10, command(1, "c2")), ("r3", "prepare", 8, 4)]
        for sender, *letter in events:
            records += [effect[1] for effect in hear(first, sender, *letter) if effect[0] == "store"]
        self.assertEqual([record[0] for record in records],
                         ["promised", "accepted", "accepted", "image", "accepted", "promised"])
        second = made("r2", 3, records)
        self.assertEqual(second.look(), (8, 8, False))
        self.assertEqual(hear(second, "r1", "prepare", 8, 0),
                         [send("r1", "promise", 8, 8, ((10, 5, command(1, "c2")),))])
        choose(second, [command(9)], 8)
        self.assertEqual((second.look(), second.dump()), (first.look(), first.dump()))


if __name__ == "__main__":
    unittest.main()
