"""Points 4.9 to 4.11: patience, leaders, and what a tick does."""

import unittest

from tests.replicas import (
    NAMES, choose, command, commands, hear, known_leader, leading, made, send, store, stored, tick, ticks_to_prepare,
)


class TestPatience(unittest.TestCase):
    def test_the_patience_of_each_index(self):
        for index, name in enumerate(NAMES):
            self.assertEqual(ticks_to_prepare(made(name, 5)), 8 + 4 * index)

    def test_it_starts_anew_when_it_ends(self):
        for name, patience in (("r1", 8), ("r3", 16)):
            replica = made(name)
            self.assertEqual([ticks_to_prepare(replica) for _ in range(3)], [patience] * 3)

    def waited(self, replica=None, ticks=5):
        """r2, which has a patience of 12, after some ticks, with a promise for the ballot 4."""
        replica = replica or made("r2", 3, [("promised", 4)])
        if ticks:
            tick(replica, ticks)
        return replica

    def check_patience(self, left, *letter, sender="r3", replica=None):
        replica = self.waited(replica)
        hear(replica, sender, *letter)
        self.assertEqual(ticks_to_prepare(replica), left, letter)

    def test_a_promise_to_another_replica(self):
        self.check_patience(12, "prepare", 5, 0)
        self.check_patience(12, "prepare", 4, 0)
        self.check_patience(7, "prepare", 3, 0)

    def test_an_answer_to_an_accept_of_another_replica(self):
        self.check_patience(12, "accept", 5, 0, command())
        self.check_patience(12, "accept", 4, 0, command())
        self.check_patience(7, "accept", 3, 0, command())

    def test_an_accept_of_a_decided_slot(self):
        image = ("image", 8, ((0, ()), ()))
        for ballot, left in ((5, 12), (4, 12), (3, 7)):
            replica = made("r2", 3, [("promised", 4), image])
            self.check_patience(left, "accept", ballot, 7, command(), replica=replica)

    def test_a_beat(self):
        for applied in (0, 5):
            self.check_patience(12, "beat", 5, applied)
            self.check_patience(12, "beat", 4, applied)
            self.check_patience(7, "beat", 3, applied)

    def test_other_letters_do_not_count(self):
        image = ((0, ()), ())
        for letter in (("promise", 4, 0, ()), ("refuse", 3), ("refuse", 9), ("accepted", 4, 0), ("chosen", 0, command()),
                       ("want", 0), ("image", 8, image), ("ask", command()), ("since", 0)):
            self.check_patience(7 if letter != ("refuse", 9) else 7, *letter)

    def test_a_stored_event_does_not_count(self):
        replica = made("r2")
        hear(replica, "r3", "prepare", 5, 0)
        tick(replica, 5)
        stored(replica, 1)
        self.assertEqual(ticks_to_prepare(replica), 7)

    def test_own_letters_do_not_count(self):
        replica = made("r1")
        tick(replica, 8)
        tick(replica, 3)
        # The own prepare is answered now.
        stored(replica, 1)
        self.assertEqual(tick(replica), [])
        hear(replica, "r2", "promise", 3, 0, ())
        hear(replica, "f1", "ask", command())
        hear(replica, "r2", "refuse", 7)
        self.assertEqual(ticks_to_prepare(replica), 4)

    def test_a_leader_is_patient(self):
        leader, ballot = leading()
        for _ in range(30):
            self.assertEqual(tick(leader), [send("r2", "beat", ballot, 0), send("r3", "beat", ballot, 0)])
        hear(leader, "r2", "refuse", 7)
        self.assertEqual(ticks_to_prepare(leader), 8)


class TestLeaders(unittest.TestCase):
    def test_at_first_no_leader_is_known(self):
        self.assertIsNone(known_leader(made("r2")))
        self.assertIsNone(known_leader(made("r2", 3, [("promised", 4), ("accepted", 4, 0, command())])))

    def test_accepts(self):
        for ballot, leader in ((5, "r3"), (4, "r3"), (3, None)):
            replica = made("r2", 3, [("promised", 4)])
            hear(replica, "r3", "accept", ballot, 0, command())
            self.assertEqual(known_leader(replica), leader, ballot)

    def test_accepts_of_decided_slots(self):
        for ballot, leader in ((5, "r3"), (4, "r3"), (3, None)):
            replica = made("r2", 3, [("promised", 4), ("image", 8, ((0, ()), ()))])
            hear(replica, "r3", "accept", ballot, 0, command())
            self.assertEqual(known_leader(replica), leader, ballot)

    def test_beats(self):
        for ballot, leader in ((5, "r3"), (4, "r3"), (3, None)):
            replica = made("r2", 3, [("promised", 4)])
            hear(replica, "r3", "beat", ballot, 0)
            self.assertEqual(known_leader(replica), leader, ballot)

    def test_the_last_one_counts(self):
        replica = made("r2", 3)
        hear(replica, "r3", "beat", 2, 0)
        hear(replica, "r1", "beat", 3, 0)
        self.assertEqual(known_leader(replica), "r1")
        hear(replica, "r3", "accept", 5, 0, command())
        self.assertEqual(known_leader(replica), "r3")

    def test_prepares_and_promises_make_no_leader(self):
        replica = made("r2", 3)
        hear(replica, "r1", "prepare", 3, 0)
        self.assertIsNone(known_leader(replica))
        hear(replica, "r3", "beat", 5, 0)
        hear(replica, "r1", "prepare", 6, 0)
        self.assertEqual(known_leader(replica), "r3")

    def test_the_leader_is_forgotten_when_the_patience_ends(self):
        replica = made("r2", 3)
        hear(replica, "r3", "beat", 2, 0)
        tick(replica, 11)
        self.assertEqual(known_leader(replica), "r3")
        tick(replica)
        self.assertIsNone(known_leader(replica))

    def test_a_promise_that_makes_it_lead(self):
        replica = made("r1", 3)
        tick(replica, 8)
        stored(replica, 1)
        # A leader of a greater ballot is heard while the own one is prepared; it gives up.
        hear(replica, "r2", "beat", 4, 0)
        hear(replica, "r2", "promise", 3, 0, ())
        self.assertEqual((replica.look()[2], known_leader(replica)), (False, "r2"))
        replica = made("r1", 3)
        hear(replica, "r2", "beat", 1, 0)
        tick(replica, 8)
        stored(replica, 1)
        hear(replica, "r2", "promise", 3, 0, ())
        self.assertIs(replica.look()[2], True)
        hear(replica, "r2", "refuse", 7)
        self.assertIsNone(known_leader(replica))

    def test_a_promise_that_comes_when_it_leads_changes_no_leader(self):
        for count, late in ((3, ("r3",)), (5, ("r4", "r5")), (5, ("r4", "r4", "r2"))):
            for letter in (("beat", count, 0), ("accept", count, 0, command(9)), ("beat", count, 4)):
                replica = made("r1", count)
                tick(replica, 8)
                stored(replica, 1)
                for name in NAMES[1:count // 2 + 1]:
                    hear(replica, name, "promise", count, 0, ())
                self.assertIs(replica.look()[2], True)
                hear(replica, "r2", *letter)
                self.assertIs(replica.look()[2], True)
                for name in late:
                    hear(replica, name, "promise", count, 0, ())
                hear(replica, "r2", "refuse", count + 1)
                self.assertEqual((replica.look()[2], known_leader(replica)), (False, "r2"), (letter, late))

    def test_a_promise_of_another_ballot_changes_no_leader(self):
        for ballot in (0, 2, 6):
            leader, own = leading()
            hear(leader, "r2", "beat", own, 0)
            hear(leader, "r3", "promise", ballot, 0, ())
            hear(leader, "r2", "refuse", own + 1)
            self.assertEqual((leader.look()[2], known_leader(leader)), (False, "r2"))

    def test_each_time_that_it_is_made_to_lead_counts(self):
        replica = made("r1", 3)
        for ballot in (3, 6):
            tick(replica, 8)
            stored(replica, ballot // 3)
            hear(replica, "r2", "promise", ballot, 0, ())
            hear(replica, "r2", "beat", ballot, 0)
            hear(replica, "r2", "refuse", ballot + 1)
            self.assertEqual((replica.look()[2], known_leader(replica)), (False, "r2"))
        tick(replica, 8)
        stored(replica, 3)
        hear(replica, "r2", "promise", 9, 0, ())
        hear(replica, "r2", "refuse", 10)
        self.assertIsNone(known_leader(replica))

    def test_a_promise_of_a_leader_changes_no_leader(self):
        leader, ballot = leading(5)
        hear(leader, "r2", "refuse", 9)
        hear(leader, "r3", "beat", 9, 0)
        hear(leader, "r4", "promise", ballot, 0, ())
        self.assertEqual((leader.look()[2], known_leader(leader)), (False, "r3"))


class TestTicksOfALeader(unittest.TestCase):
    def test_without_open_proposals(self):
        leader, ballot = leading(5)
        self.assertEqual(tick(leader), [send(name, "beat", ballot, 0) for name in NAMES[1:]])

    def test_with_open_proposals(self):
        leader, ballot = leading()
        hear(leader, "f1", "ask", command(1))
        hear(leader, "f1", "ask", command(2))
        hear(leader, "f1", "ask", command(3))
        stored(leader, 4)
        hear(leader, "r2", "accepted", ballot, 1)
        choose(leader, [command(1)])
        self.assertEqual(leader.look()[0], 2)
        for _ in range(2):
            self.assertEqual(tick(leader), [
                send("r2", "beat", ballot, 2), send("r2", "accept", ballot, 0, command(1)),
                send("r2", "accept", ballot, 2, command(3)),
                send("r3", "beat", ballot, 2), send("r3", "accept", ballot, 0, command(1)),
                send("r3", "accept", ballot, 2, command(3))])

    def test_a_leader_in_the_middle_of_the_names(self):
        replica = made("r2", 3)
        tick(replica, 12)
        stored(replica, 1)
        hear(replica, "r3", "promise", 1, 0, ())
        self.assertEqual(tick(replica), [send("r1", "beat", 1, 0), send("r3", "beat", 1, 0)])

    def test_a_single_leader(self):
        leader, _ = leading(1)
        hear(leader, "f1", "ask", command(1))
        self.assertEqual(tick(leader), [])


class TestTicksOfOthers(unittest.TestCase):
    def test_the_letters_go_first_to_itself(self):
        for name, others in (("r1", ("r2", "r3")), ("r2", ("r1", "r3")), ("r3", ("r1", "r2"))):
            replica = made(name)
            ballot = {"r1": 3, "r2": 1, "r3": 2}[name]
            self.assertEqual(tick(replica, {"r1": 8, "r2": 12, "r3": 16}[name]), [store("promised", ballot)])
            self.assertEqual(stored(replica, 1), [send(other, "prepare", ballot, 0) for other in others])
            # The own promise was noted before.
            hear(replica, others[0], "promise", ballot, 0, ())
            self.assertIs(replica.look()[2], True)

    def test_the_first_slot_is_applied(self):
        replica = made("r1")
        choose(replica, commands(3))
        tick(replica, 8)
        self.assertEqual(stored(replica, 1)[0], send("r2", "prepare", 3, 3))

    def test_the_acceptor_has_promised_at_once(self):
        replica = made("r1")
        tick(replica, 8)
        self.assertEqual(hear(replica, "r2", "prepare", 1, 0), [send("r2", "refuse", 3)])

    def test_a_preparing_replica_prepares_another_ballot(self):
        replica = made("r1")
        self.assertEqual(tick(replica, 8), [store("promised", 3)])
        stored(replica, 1)
        self.assertEqual(tick(replica, 8), [store("promised", 6)])
        self.assertEqual(stored(replica, 2), [send("r2", "prepare", 6, 0), send("r3", "prepare", 6, 0)])
        self.assertEqual(hear(replica, "r2", "promise", 3, 0, ()), [])
        self.assertIs(replica.look()[2], False)

    def test_an_idle_replica_does_nothing_before_its_patience_ends(self):
        replica = made("r1")
        self.assertEqual(tick(replica, 7), [])


class TestAskingForMore(unittest.TestCase):
    def test_a_replica_that_is_behind(self):
        replica = made("r2", 5)
        choose(replica, [command(2)], 1)
        everybody = [send(name, "want", 0) for name in ("r1", "r3", "r4", "r5")]
        self.assertEqual(tick(replica), everybody)
        self.assertEqual(tick(replica), everybody)
        hear(replica, "r4", "beat", 4, 0)
        self.assertEqual(tick(replica), [send("r4", "want", 0)])
        choose(replica, [command(1)])
        self.assertEqual(tick(replica), [])

    def test_a_slot_that_waits_behind_the_next_one_is_not_enough(self):
        replica = made("r2")
        choose(replica, [command(1), command(2)])
        self.assertEqual(tick(replica), [])

    def test_a_beat_with_more_applied_slots(self):
        replica = made("r2")
        choose(replica, [command(1), command(2)])
        hear(replica, "r3", "beat", 5, 3)
        self.assertEqual(tick(replica), [send("r3", "want", 2)])
        # Only since the last tick.
        self.assertEqual(tick(replica), [])

    def test_a_beat_with_as_many_or_fewer(self):
        replica = made("r2")
        choose(replica, [command(1), command(2)])
        for applied in (0, 1, 2):
            hear(replica, "r3", "beat", 5, applied)
            self.assertEqual(tick(replica), [])

    def test_what_counts_is_what_was_applied_when_it_was_heard(self):
        replica = made("r2")
        hear(replica, "r3", "beat", 5, 1)
        choose(replica, [command(1), command(2)])
        hear(replica, "r3", "beat", 5, 2)
        self.assertEqual(tick(replica), [send("r3", "want", 2)])

    def test_a_refused_beat_does_not_count(self):
        replica = made("r2", 3, [("promised", 6)])
        hear(replica, "r3", "beat", 5, 3)
        self.assertEqual(tick(replica), [])

    def test_after_the_prepare_at_the_same_tick(self):
        replica = made("r1", 3, [("promised", 2)])
        choose(replica, [command(2)], 1)
        hear(replica, "r3", "beat", 2, 0)
        for _ in range(7):
            self.assertEqual(tick(replica), [send("r3", "want", 0)])
        # The patience ends, and so no leader is known.
        self.assertEqual(tick(replica), [store("promised", 3), send("r2", "want", 0), send("r3", "want", 0)])

    def test_a_leader_that_is_behind(self):
        leader, ballot = leading()
        choose(leader, [command(2)], 1)
        self.assertEqual(tick(leader), [send("r2", "beat", ballot, 0), send("r3", "beat", ballot, 0),
                                        send("r2", "want", 0), send("r3", "want", 0)])

    def test_one_that_led_asks_all_others(self):
        leader, _ = leading()
        choose(leader, [command(2)], 1)
        hear(leader, "r2", "refuse", 7)
        self.assertEqual(tick(leader), [send("r2", "want", 0), send("r3", "want", 0)])

    def test_a_beat_in_the_tick_before_it_led(self):
        replica = made("r1")
        tick(replica, 8)
        stored(replica, 1)
        hear(replica, "r3", "beat", 3, 4)
        hear(replica, "r2", "promise", 3, 0, ())
        self.assertEqual(tick(replica), [send("r2", "beat", 3, 0), send("r3", "beat", 3, 0),
                                         send("r2", "want", 0), send("r3", "want", 0)])
        self.assertEqual(tick(replica), [send("r2", "beat", 3, 0), send("r3", "beat", 3, 0)])


if __name__ == "__main__":
    unittest.main()
