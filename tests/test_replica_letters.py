"""Points 4.12 to 4.20 and 4.24: what a replica does with each letter of another one."""

import unittest

from tests.replicas import (
    NOTHING, choose, command, commands, hear, known_leader, leading, made, send, store, stored, tick,
)

EMPTY = ((0, ()), ())


def image(base, revision=1, sessions=()):
    return ("image", base, ((revision, (("drain", "a", 1, revision, ("",)),)), sessions))


class TestPrepare(unittest.TestCase):
    def test_below_equal_and_above(self):
        records = [("promised", 4), ("accepted", 4, 2, command(1)), ("accepted", 4, 5, command(2))]
        replica = made("r2", 3, records)
        self.assertEqual(hear(replica, "r1", "prepare", 3, 0), [send("r1", "refuse", 4)])
        rows = ((2, 4, command(1)), (5, 4, command(2)))
        self.assertEqual(hear(replica, "r3", "prepare", 4, 2), [send("r3", "promise", 4, 0, rows)])
        self.assertEqual(hear(replica, "r3", "prepare", 5, 3), [store("promised", 5)])
        self.assertEqual(stored(replica, 1), [send("r3", "promise", 5, 0, rows[1:])])
        self.assertEqual(hear(replica, "r3", "prepare", 4, 2), [send("r3", "refuse", 5)])

    def test_the_base_is_told(self):
        replica = made("r2", 3, [image(8), ("accepted", 2, 8, command(1))])
        self.assertEqual(hear(replica, "r3", "prepare", 2, 0), [send("r3", "promise", 2, 8, ((8, 2, command(1)),))])

    def test_a_refused_ballot_was_seen_too(self):
        replica = made("r1", 3, [("promised", 7)])
        hear(replica, "r2", "prepare", 4, 0)
        self.assertEqual(tick(replica, 8), [store("promised", 9)])

    def test_a_greater_ballot_ends_the_own_one(self):
        leader, ballot = leading()
        hear(leader, "f1", "ask", command(1))
        hear(leader, "r2", "prepare", ballot + 1, 0)
        self.assertIs(leader.look()[2], False)
        self.assertEqual(tick(leader, 8), [store("promised", 6)])

    def test_a_smaller_ballot_does_not(self):
        leader, ballot = leading()
        self.assertEqual(hear(leader, "r2", "prepare", 1, 0), [send("r2", "refuse", ballot)])
        self.assertIs(leader.look()[2], True)


class TestPromise(unittest.TestCase):
    def preparing(self, count=3, values=()):
        replica = made("r1", count)
        choose(replica, values)
        ballot = tick(replica, 8)[0][1][1]
        stored(replica, 1)
        return replica, ballot

    def test_a_majority_of_three_and_five(self):
        for count, needed in ((3, 1), (5, 2)):
            replica, ballot = self.preparing(count)
            for at in range(needed):
                self.assertIs(replica.look()[2], False)
                self.assertEqual(hear(replica, ("r3", "r2")[at], "promise", ballot, 0, ()), [])
            self.assertIs(replica.look()[2], True)

    def test_the_same_replica_counts_once(self):
        replica, ballot = self.preparing(5)
        for _ in range(3):
            hear(replica, "r3", "promise", ballot, 0, ())
        self.assertIs(replica.look()[2], False)

    def test_another_ballot(self):
        replica, ballot = self.preparing()
        for other in (ballot - 1, ballot + 3, 0):
            self.assertEqual(hear(replica, "r3", "promise", other, 0, ()), [])
        self.assertIs(replica.look()[2], False)
        # The promise of a greater ballot is not seen: only refusals are.
        self.assertEqual(tick(replica, 8), [store("promised", 6)])

    def test_what_was_accepted_is_proposed(self):
        replica, ballot = self.preparing(5)
        hear(replica, "r2", "promise", ballot, 0, ((0, 1, command(1)), (3, 1, command(2))))
        self.assertEqual(hear(replica, "r4", "promise", ballot, 0, ((0, 2, command(3)),)), [
            store("accepted", 5, 0, command(3)), send("r2", "accept", 5, 0, command(3)),
            send("r3", "accept", 5, 0, command(3)), send("r4", "accept", 5, 0, command(3)),
            send("r5", "accept", 5, 0, command(3)),
            store("accepted", 5, 1, NOTHING), send("r2", "accept", 5, 1, NOTHING), send("r3", "accept", 5, 1, NOTHING),
            send("r4", "accept", 5, 1, NOTHING), send("r5", "accept", 5, 1, NOTHING),
            store("accepted", 5, 2, NOTHING), send("r2", "accept", 5, 2, NOTHING), send("r3", "accept", 5, 2, NOTHING),
            send("r4", "accept", 5, 2, NOTHING), send("r5", "accept", 5, 2, NOTHING),
            store("accepted", 5, 3, command(2)), send("r2", "accept", 5, 3, command(2)),
            send("r3", "accept", 5, 3, command(2)), send("r4", "accept", 5, 3, command(2)),
            send("r5", "accept", 5, 3, command(2))])
        self.assertEqual(hear(replica, "f1", "ask", command(4))[0], store("accepted", 5, 4, command(4)))

    def test_the_own_rows_count(self):
        replica = made("r1", 3, [("accepted", 2, 0, command(1))])
        tick(replica, 8)
        stored(replica, 1)
        self.assertEqual(hear(replica, "r2", "promise", 3, 0, ((0, 1, command(2)),)), [
            store("accepted", 3, 0, command(1)), send("r2", "accept", 3, 0, command(1)),
            send("r3", "accept", 3, 0, command(1))])

    def test_a_base_above_what_was_applied(self):
        for ballot in (3, 1, 0, 9):
            replica, own = self.preparing(3, commands(2))
            self.assertEqual(own, 3)
            self.assertEqual(hear(replica, "r3", "promise", ballot, 3, ()), [send("r3", "want", 2)])
            self.assertIs(replica.look()[2], False)
        self.assertEqual(hear(made("r2"), "r1", "promise", 9, 1, ()), [send("r1", "want", 0)])
        # It did not count, so it may promise again.
        replica, ballot = self.preparing(3, commands(2))
        hear(replica, "r3", "promise", ballot, 3, ())
        hear(replica, "r3", "promise", ballot, 2, ())
        self.assertIs(replica.look()[2], True)

    def test_a_base_that_was_applied(self):
        replica, ballot = self.preparing(3)
        choose(replica, commands(3))
        # The first slot that may be proposed becomes 2; the row below it is decided.
        self.assertEqual(hear(replica, "r3", "promise", ballot, 2, ((1, 1, command(9)), (2, 1, command(3)))), [
            store("accepted", 3, 2, command(3)), send("r2", "accept", 3, 2, command(3)),
            send("r3", "accept", 3, 2, command(3))])

    def test_the_own_base_and_letters_to_itself(self):
        replica = made("r1", 3)
        tick(replica, 8)
        choose(replica, commands(8))
        # The own promise waits for the image; those of the others come before it.
        self.assertEqual(stored(replica, 1), [send("r2", "prepare", 3, 0), send("r3", "prepare", 3, 0)])
        hear(replica, "r2", "promise", 3, 0, ())
        self.assertEqual(hear(replica, "r3", "promise", 3, 0, ((7, 1, command(8)),))[:2], [
            send("r2", "accept", 3, 0, NOTHING), send("r3", "accept", 3, 0, NOTHING)])
        # Its own acceptor answers that the slots are decided, and the image that it sends to itself changes nothing.
        self.assertEqual(replica.look(), (8, 8, True))


class TestRefuse(unittest.TestCase):
    def test_greater_equal_and_smaller(self):
        for refused, leads in ((4, False), (3, True), (0, True), (100, False)):
            leader, ballot = leading()
            self.assertEqual(ballot, 3)
            self.assertEqual(hear(leader, "r2", "refuse", refused), [])
            self.assertIs(leader.look()[2], leads)

    def test_the_next_ballot_is_greater(self):
        leader, _ = leading()
        hear(leader, "r2", "refuse", 10)
        self.assertEqual(tick(leader, 8), [store("promised", 12)])

    def test_an_idle_replica_has_seen_it(self):
        replica = made("r1")
        self.assertEqual(hear(replica, "r2", "refuse", 10), [])
        self.assertEqual(tick(replica, 8), [store("promised", 12)])


class TestAccept(unittest.TestCase):
    def test_below_equal_and_above(self):
        replica = made("r2", 3, [("promised", 4)])
        self.assertEqual(hear(replica, "r1", "accept", 3, 0, command(1)), [send("r1", "refuse", 4)])
        self.assertEqual(hear(replica, "r3", "accept", 4, 6, command(2)), [store("accepted", 4, 6, command(2))])
        self.assertEqual(hear(replica, "r3", "accept", 5, 6, NOTHING), [store("accepted", 5, 6, NOTHING)])
        self.assertEqual(stored(replica, 2), [send("r3", "accepted", 4, 6), send("r3", "accepted", 5, 6)])
        self.assertEqual(hear(replica, "r3", "accept", 4, 6, command(2)), [send("r3", "refuse", 5)])

    def test_the_same_one_is_stored_again(self):
        replica = made("r2")
        for count in (1, 2):
            self.assertEqual(hear(replica, "r1", "accept", 3, 0, command()), [store("accepted", 3, 0, command())])
            self.assertEqual(stored(replica, count), [send("r1", "accepted", 3, 0)])

    def test_a_slot_that_was_applied_but_not_cut_is_accepted(self):
        replica = made("r2")
        choose(replica, commands(2))
        self.assertEqual(hear(replica, "r1", "accept", 3, 0, command()), [store("accepted", 3, 0, command())])

    def test_a_decided_slot(self):
        replica = made("r2", 3, [("promised", 4), image(8)])
        choose(replica, commands(1), 8)
        for slot in (0, 7):
            self.assertEqual(hear(replica, "r3", "accept", 4, slot, command()), [("send", "r3", image(8))])
        self.assertEqual(hear(replica, "r1", "accept", 3, 7, command()), [send("r1", "refuse", 4)])
        self.assertEqual(hear(replica, "r3", "accept", 5, 7, command()),
                         [store("promised", 5), ("send", "r3", image(8))])
        self.assertEqual(hear(replica, "r3", "accept", 5, 8, command()), [store("accepted", 5, 8, command())])

    def test_a_greater_ballot_ends_the_own_one(self):
        leader, ballot = leading()
        self.assertEqual(hear(leader, "r2", "accept", ballot + 1, 0, command()),
                         [store("accepted", ballot + 1, 0, command())])
        self.assertEqual((leader.look()[2], known_leader(leader)), (False, "r2"))

    def test_a_smaller_ballot_does_not(self):
        leader, ballot = leading()
        self.assertEqual(hear(leader, "r2", "accept", 1, 0, command()), [send("r2", "refuse", ballot)])
        self.assertIs(leader.look()[2], True)


class TestAccepted(unittest.TestCase):
    def test_three_replicas(self):
        leader, ballot = leading()
        hear(leader, "f1", "ask", command())
        stored(leader, 2)
        self.assertEqual(hear(leader, "r3", "accepted", ballot, 0), [
            send("r2", "chosen", 0, command()), send("r3", "chosen", 0, command()),
            send("f1", "told", "c1", 1, ("done", 1))])
        self.assertEqual(leader.look(), (1, 1, True))
        self.assertEqual(hear(leader, "r2", "accepted", ballot, 0), [])

    def test_five_replicas(self):
        leader, ballot = leading(5)
        hear(leader, "f1", "ask", command())
        for sender in ("r3", "r3"):
            self.assertEqual(hear(leader, sender, "accepted", ballot, 0), [])
        self.assertEqual(hear(leader, "r5", "accepted", ballot, 0), [])
        self.assertEqual(stored(leader, 2), [
            send("r2", "chosen", 0, command()), send("r3", "chosen", 0, command()), send("r4", "chosen", 0, command()),
            send("r5", "chosen", 0, command()), send("f1", "told", "c1", 1, ("done", 1))])

    def test_the_own_answer_does_not_count_before_it_is_safe(self):
        leader, ballot = leading()
        hear(leader, "f1", "ask", command())
        self.assertEqual(hear(leader, "r3", "accepted", ballot, 0), [])
        self.assertEqual(leader.look()[0], 0)

    def test_another_ballot_or_slot(self):
        leader, ballot = leading()
        hear(leader, "f1", "ask", command())
        stored(leader, 2)
        for letter in ((ballot - 1, 0), (ballot + 3, 0), (ballot, 1)):
            self.assertEqual(hear(leader, "r3", "accepted", *letter), [])
        self.assertEqual(leader.look(), (0, 0, True))

    def test_one_behind_a_gap(self):
        leader, ballot = leading()
        hear(leader, "f1", "ask", command(1))
        hear(leader, "f2", "ask", command(2, "c2"))
        stored(leader, 3)
        self.assertEqual(hear(leader, "r3", "accepted", ballot, 1), [
            send("r2", "chosen", 1, command(2, "c2")), send("r3", "chosen", 1, command(2, "c2"))])
        self.assertEqual(hear(leader, "r3", "accepted", ballot, 0), [
            send("r2", "chosen", 0, command(1)), send("r3", "chosen", 0, command(1)),
            send("f1", "told", "c1", 1, ("done", 1)), send("f2", "told", "c2", 2, ("done", 2))])

    def test_a_slot_that_was_heard_before(self):
        leader, ballot = leading()
        hear(leader, "f1", "ask", command(1))
        stored(leader, 2)
        choose(leader, [command(1)])
        self.assertEqual(hear(leader, "r3", "accepted", ballot, 0), [
            send("r2", "chosen", 0, command(1)), send("r3", "chosen", 0, command(1))])
        self.assertEqual(leader.look()[:2], (1, 1))


class TestChosen(unittest.TestCase):
    def test_new_and_known_ones(self):
        replica = made("r2")
        hear(replica, "f1", "ask", command(2))
        self.assertEqual(hear(replica, "r3", "chosen", 1, command(2)), [])
        self.assertEqual(replica.look()[0], 0)
        self.assertEqual(hear(replica, "r1", "chosen", 0, NOTHING), [send("f1", "told", "c1", 2, ("done", 1))])
        self.assertEqual(replica.look(), (2, 1, False))
        for slot in (0, 1):
            self.assertEqual(hear(replica, "r1", "chosen", slot, command(9)), [])
        self.assertEqual(replica.look(), (2, 1, False))
        self.assertEqual((replica.value_at(0), replica.value_at(1), replica.value_at(2)), (NOTHING, command(2), None))

    def test_a_known_slot_that_waits(self):
        replica = made("r2")
        hear(replica, "r3", "chosen", 1, command(2))
        hear(replica, "r3", "chosen", 1, command(9))
        hear(replica, "r3", "chosen", 0, command(1))
        self.assertEqual(replica.value_at(1), command(2))


class TestBeat(unittest.TestCase):
    def test_below_equal_and_above(self):
        replica = made("r2", 3, [("promised", 4)])
        self.assertEqual(hear(replica, "r1", "beat", 3, 0), [send("r1", "refuse", 4)])
        self.assertEqual(hear(replica, "r3", "beat", 4, 0), [])
        self.assertEqual(hear(replica, "r3", "beat", 5, 0), [])
        # A beat is no promise.
        self.assertEqual(hear(replica, "r1", "beat", 4, 0), [])

    def test_it_ends_the_own_ballot(self):
        leader, ballot = leading()
        hear(leader, "r2", "beat", ballot - 1, 0)
        self.assertIs(leader.look()[2], True)
        hear(leader, "r2", "beat", ballot + 1, 0)
        self.assertIs(leader.look()[2], False)

    def test_a_refused_one_is_not_seen(self):
        replica = made("r1", 3, [("promised", 5)])
        hear(replica, "r2", "beat", 4, 9)
        self.assertIsNone(known_leader(replica))
        self.assertEqual(tick(replica, 8), [store("promised", 6)])

    def test_the_ballot_of_a_beat_was_seen(self):
        replica = made("r1", 3)
        hear(replica, "r2", "beat", 10, 0)
        self.assertEqual(tick(replica, 8), [store("promised", 12)])


class TestWant(unittest.TestCase):
    def sent(self, replica, first):
        return hear(replica, "r3", "want", first)

    def test_at_most_eight(self):
        replica = made("r2")
        choose(replica, commands(7))
        letters = [send("r3", "chosen", at, command(at + 1)) for at in range(7)]
        for first in range(8):
            self.assertEqual(self.sent(replica, first), letters[first:])
        replica = made("r2")
        choose(replica, commands(15))
        # The image after slot 7 was made, so the slots from 8 on are kept.
        self.assertEqual(self.sent(replica, 8), [send("r3", "chosen", 8 + at, command(9 + at)) for at in range(7)])

    def test_eight_of_more(self):
        # The images keep the applied slots below eight, so this replica makes none.
        replica = made("r2")
        replica._keep_image = lambda base: None
        choose(replica, commands(11))
        letters = [send("r3", "chosen", at, command(at + 1)) for at in range(11)]
        for first in range(13):
            self.assertEqual(self.sent(replica, first), letters[first:first + 8])

    def test_slots_that_are_known_but_not_applied_are_not_sent(self):
        replica = made("r2")
        choose(replica, commands(2))
        choose(replica, commands(3), 3)
        self.assertEqual(self.sent(replica, 1), [send("r3", "chosen", 1, command(2))])
        self.assertEqual(self.sent(replica, 2), [])
        self.assertEqual(self.sent(replica, 3), [])

    def test_below_the_first_kept_slot(self):
        replica = made("r2")
        choose(replica, commands(8))
        dump = replica.dump()
        choose(replica, [command(1, "c2")], 8)
        for first in (0, 7):
            self.assertEqual(self.sent(replica, first), [send("r3", "image", 8, dump)])
        self.assertEqual(self.sent(replica, 8), [send("r3", "chosen", 8, command(1, "c2"))])
        self.assertEqual(self.sent(replica, 9), [])


class TestImage(unittest.TestCase):
    def test_a_smaller_or_equal_base_changes_nothing(self):
        leader, ballot = leading()
        choose(leader, commands(3))
        for base in (0, 2, 3):
            self.assertEqual(hear(leader, "r2", "image", base, image(base)[2]), [])
        self.assertEqual(leader.look(), (3, 3, True))
        self.assertEqual(hear(leader, "r2", "want", 0)[0], send("r2", "chosen", 0, command(1)))

    def test_an_image_is_adopted(self):
        adopted = image(8, 5, (("c1", 4, ("done", 5)),))
        replica = made("r2", 3, [("accepted", 1, 7, command(1)), ("accepted", 1, 8, command(2))])
        choose(replica, commands(1))
        self.assertEqual(hear(replica, "r3", *adopted), [("store", adopted)])
        self.assertEqual((replica.look(), replica.dump()), ((8, 5, False), adopted[2]))
        self.assertIsNone(replica.value_at(0))
        self.assertEqual(hear(replica, "r3", "want", 7), [("send", "r3", adopted)])
        self.assertEqual(hear(replica, "r3", "prepare", 2, 0), [store("promised", 2)])
        self.assertEqual(stored(replica, 2), [send("r3", "promise", 2, 8, ((8, 1, command(2)),))])
        self.assertEqual(hear(replica, "f1", "since", 4), [send("f1", "whole", 5, adopted[2][0][1])])

    def test_the_proposer_stops(self):
        leader, ballot = leading()
        hear(leader, "f1", "ask", command())
        hear(leader, "r2", *image(8))
        self.assertIs(leader.look()[2], False)
        self.assertEqual(hear(leader, "r2", "accepted", ballot, 0), [])
        replica = made("r1")
        tick(replica, 8)
        stored(replica, 1)
        hear(replica, "r2", *image(8))
        hear(replica, "r2", "promise", 3, 0, ())
        self.assertIs(replica.look()[2], False)

    def test_senders_that_wait_are_told_number_by_number(self):
        replica = made("r2")
        for sender, number, origin in (("f1", 4, "c1"), ("f2", 2, "c2"), ("f1", 3, "c1"), ("f3", 4, "c1"),
                                       ("f1", 2, "c3"), ("f2", 3, "c1"), ("f2", 5, "c1"), ("f1", 3, "c2")):
            hear(replica, sender, "ask", command(number, origin))
        adopted = image(8, 6, (("c1", 4, ("done", 5)), ("c2", 3, ("no", 0))))
        self.assertEqual(hear(replica, "r3", *adopted), [
            ("store", adopted),
            send("f1", "told", "c1", 4, ("done", 5)), send("f3", "told", "c1", 4, ("done", 5)),
            send("f2", "told", "c2", 2, ("old",)),
            send("f1", "told", "c1", 3, ("old",)), send("f2", "told", "c1", 3, ("old",)),
            send("f1", "told", "c2", 3, ("no", 0))])
        # Those that were told wait no longer; the others still do.
        self.assertEqual(choose(replica, [command(4), command(5), command(2, "c3")], 8), [
            send("f2", "told", "c1", 5, ("done", 7)), send("f1", "told", "c3", 2, ("done", 8))])

    def test_later_slots_that_are_known_are_applied(self):
        replica = made("r2")
        hear(replica, "f1", "ask", command(9))
        hear(replica, "f2", "ask", command(8))
        choose(replica, [command(9), command(10)], 8)
        choose(replica, [command(12)], 11)
        adopted = image(8, 5, (("c1", 8, ("done", 5)),))
        self.assertEqual(hear(replica, "r3", *adopted), [
            ("store", adopted), send("f2", "told", "c1", 8, ("done", 5)), send("f1", "told", "c1", 9, ("done", 6))])
        self.assertEqual(replica.look()[:2], (10, 7))
        self.assertEqual(replica.value_at(9), command(10))
        self.assertEqual(choose(replica, [command(11)], 10), [])
        self.assertEqual(replica.look()[:2], (12, 9))

    def test_slots_up_to_the_next_image(self):
        replica = made("r2")
        choose(replica, [NOTHING] * 8, 8)
        adopted = image(8, 5)
        self.assertEqual(hear(replica, "r3", *adopted), [("store", adopted), ("store", ("image", 16, adopted[2]))])

    def test_the_record_counts_as_one_that_must_be_safe(self):
        replica = made("r2")
        hear(replica, "r3", *image(8))
        self.assertEqual(hear(replica, "r3", "prepare", 0, 8), [])
        self.assertEqual(stored(replica, 1), [send("r3", "promise", 0, 8, ())])


class TestStrangers(unittest.TestCase):
    def test_letters_between_replicas_need_a_replica_as_sender(self):
        letters = (("prepare", 9, 0), ("promise", 3, 0, ()), ("promise", 3, 9, ()), ("refuse", 9),
                   ("accept", 9, 0, command()), ("accepted", 3, 0), ("chosen", 0, command()), ("beat", 9, 4),
                   ("beat", 0, 0), ("want", 0), image(8))
        for stranger in ("f1", "r4", "", "r"):
            for letter in letters:
                leader, ballot = leading()
                hear(leader, "f1", "ask", command(5))
                stored(leader, 2)
                self.assertEqual(hear(leader, stranger, *letter), [], letter)
                self.assertEqual(leader.look(), (0, 0, True), letter)
                self.assertEqual(tick(leader)[0], send("r2", "beat", ballot, 0))
                replica = made("r2")
                choose(replica, commands(1))
                tick(replica, 5)
                self.assertEqual(hear(replica, stranger, *letter), [])
                self.assertIsNone(known_leader(replica))
                self.assertEqual(tick(replica, 7), [store("promised", 1)])


if __name__ == "__main__":
    unittest.main()
