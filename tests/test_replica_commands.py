"""Points 4.5, 4.21 and 4.22: commands that are asked, and questions for changes."""

import unittest

from majordomo.replica import is_command
from tests.replicas import choose, command, hear, leading, made, send, store, stored, tick, transaction


class TestForm(unittest.TestCase):
    def test_valid_commands(self):
        for origin in ("a", " ", "~", "A b.1/x", "x" * 20):
            self.assertIs(is_command((origin, 1, transaction())), True, origin)
        for number in (1, 2, 10 ** 12):
            self.assertIs(is_command(("c1", number, ((), (), ()))), True, number)

    def test_another_length_or_kind(self):
        good = command()
        for bad in ((), good[:2], good + (1,), list(good), "abc", 3, None, True, {}, (good,)):
            self.assertIs(is_command(bad), False, bad)

    def test_origins(self):
        for origin in ("", "x" * 21, "a%", "%", "a\n", "\x7f", "\x1f", "\u00e9", None, 1, True, ("a",), ["a"]):
            self.assertIs(is_command((origin, 1, transaction())), False, origin)

    def test_numbers(self):
        for number in (0, -1, 10 ** 12 + 1, True, False, None, "1", (1,)):
            self.assertIs(is_command(("c1", number, transaction())), False, number)

    def test_transactions(self):
        many = tuple(("drain", "a" + str(at), ("",)) for at in range(13))
        for bad in (None, (), ((), ()), ((), (), (), ()), [(), (), ()], ((), [], ()), ((), many, ()),
                    ((), (("drain", "a", ("",)),), (("drain", "a"),)), ((("drain", "a", True),), (), ()), 1, "abc"):
            self.assertIs(is_command(("c1", 1, bad)), False, bad)


class TestAsking(unittest.TestCase):
    def test_what_is_no_command_is_ignored(self):
        leader, _ = leading()
        follower = made("r2")
        hear(follower, "r1", "beat", 3, 0)
        for bad in (None, (), ("c1", 0, transaction()), ("", 1, transaction()), ("c1", 1, ((), ())), 7, "abc",
                    ("c1", True, transaction()), command() + (1,)):
            for replica in (leader, follower):
                self.assertEqual(hear(replica, "f1", "ask", bad), [])
        self.assertEqual(tick(leader), [send("r2", "beat", 3, 0), send("r3", "beat", 3, 0)])

    def test_a_leader_proposes(self):
        leader, ballot = leading()
        first, second = command(1), command(1, "c2")
        self.assertEqual(hear(leader, "f1", "ask", first), [
            store("accepted", ballot, 0, first), send("r2", "accept", ballot, 0, first),
            send("r3", "accept", ballot, 0, first)])
        self.assertEqual(hear(leader, "f2", "ask", second), [
            store("accepted", ballot, 1, second), send("r2", "accept", ballot, 1, second),
            send("r3", "accept", ballot, 1, second)])

    def test_a_leader_proposes_what_a_replica_passes_on(self):
        leader, ballot = leading()
        self.assertEqual(hear(leader, "r3", "ask", command()), [
            store("accepted", ballot, 0, command()), send("r2", "accept", ballot, 0, command()),
            send("r3", "accept", ballot, 0, command())])
        # A replica does not wait for an answer.
        self.assertEqual(hear(leader, "r2", "accepted", ballot, 0), [])
        self.assertEqual(stored(leader, 2), [
            send("r2", "chosen", 0, command()), send("r3", "chosen", 0, command())])

    def test_a_command_that_is_open_is_not_proposed_again(self):
        leader, ballot = leading()
        hear(leader, "f1", "ask", command(1))
        self.assertEqual(hear(leader, "f1", "ask", command(1)), [])
        self.assertEqual(hear(leader, "f2", "ask", command(1)), [])
        self.assertEqual(hear(leader, "r2", "ask", command(1)), [])
        # The same origin and number with another transaction is the same command.
        self.assertEqual(hear(leader, "f1", "ask", ("c1", 1, transaction("b"))), [])
        for other in (command(2), command(1, "c2")):
            self.assertEqual(len(hear(leader, "f1", "ask", other)), 3)
        stored(leader, 4)
        hear(leader, "r2", "accepted", ballot, 0)
        self.assertEqual(leader.look()[:2], (1, 1))

    def test_a_command_is_proposed_again_when_it_is_chosen_but_not_applied(self):
        leader, ballot = leading()
        hear(leader, "f1", "ask", command(1))
        hear(leader, "f1", "ask", command(2))
        stored(leader, 3)
        hear(leader, "r2", "accepted", ballot, 1)
        self.assertEqual(leader.look()[0], 0)
        self.assertEqual(hear(leader, "f1", "ask", command(2))[0], store("accepted", ballot, 2, command(2)))

    def test_each_waiting_sender_is_told_once_in_order(self):
        leader, ballot = leading()
        hear(leader, "f2", "ask", command())
        for sender in ("f1", "f2", "f1", "r2", "f3"):
            self.assertEqual(hear(leader, sender, "ask", command()), [])
        stored(leader, 2)
        self.assertEqual(hear(leader, "r3", "accepted", ballot, 0), [
            send("r2", "chosen", 0, command()), send("r3", "chosen", 0, command()),
            send("f2", "told", "c1", 1, ("done", 1)), send("f1", "told", "c1", 1, ("done", 1)),
            send("f3", "told", "c1", 1, ("done", 1))])

    def test_a_kept_answer_is_told_at_once(self):
        for replica in (made("r2"), leading()[0]):
            choose(replica, [command(3)])
            self.assertEqual(hear(replica, "f1", "ask", command(3)), [send("f1", "told", "c1", 3, ("done", 1))])
            self.assertEqual(hear(replica, "f2", "ask", ("c1", 3, ((), (), ()))),
                             [send("f2", "told", "c1", 3, ("done", 1))])
            self.assertEqual(hear(replica, "f1", "ask", command(2)), [send("f1", "told", "c1", 2, ("old",))])
            self.assertEqual(hear(replica, "f1", "ask", command(1)), [send("f1", "told", "c1", 1, ("old",))])
            self.assertEqual(replica.look()[:2], (1, 1))

    def test_a_replica_that_asks_is_not_told(self):
        for replica in (made("r2"), leading()[0]):
            choose(replica, [command(3)])
            for number in (3, 2):
                self.assertEqual(hear(replica, "r3", "ask", command(number)), [])

    def test_one_that_was_told_at_once_does_not_wait(self):
        replica = made("r2")
        choose(replica, [command(3)])
        hear(replica, "f1", "ask", command(2))
        self.assertEqual(choose(replica, [command(2)], 1), [])

    def test_a_known_leader_is_passed_the_command(self):
        replica = made("r2")
        hear(replica, "r3", "beat", 2, 0)
        self.assertEqual(hear(replica, "f1", "ask", command()), [send("r3", "ask", command())])
        # Whoever asks again is passed on again, but waits only once.
        self.assertEqual(hear(replica, "f1", "ask", command()), [send("r3", "ask", command())])
        self.assertEqual(hear(replica, "r1", "ask", command()), [])
        self.assertEqual(choose(replica, [command()]), [send("f1", "told", "c1", 1, ("done", 1))])

    def test_without_a_leader_the_sender_only_waits(self):
        replica = made("r2")
        self.assertEqual(hear(replica, "f1", "ask", command()), [])
        self.assertEqual(hear(replica, "r3", "ask", command()), [])
        self.assertEqual(choose(replica, [command()]), [send("f1", "told", "c1", 1, ("done", 1))])

    def test_a_replica_that_led_passes_nothing_to_itself(self):
        replica, _ = leading()
        hear(replica, "r2", "refuse", 7)
        self.assertEqual(hear(replica, "f1", "ask", command()), [])
        self.assertEqual(choose(replica, [command()]), [send("f1", "told", "c1", 1, ("done", 1))])

    def test_waiting_for_several_numbers_and_origins(self):
        replica = made("r2")
        for sender, asked in (("f1", command(2)), ("f2", command(1)), ("f3", command(2)), ("f1", command(1, "c2"))):
            hear(replica, sender, "ask", asked)
        self.assertEqual(choose(replica, [command(1)]), [send("f2", "told", "c1", 1, ("done", 1))])
        self.assertEqual(choose(replica, [command(1, "c3"), command(2)], 1), [
            send("f1", "told", "c1", 2, ("done", 3)), send("f3", "told", "c1", 2, ("done", 3))])
        self.assertEqual(choose(replica, [command(1, "c2"), command(1, "c2")], 3),
                         [send("f1", "told", "c2", 1, ("done", 4))])

    def test_a_number_that_is_passed_over_is_told_when_it_comes(self):
        replica = made("r2")
        hear(replica, "f1", "ask", command(1))
        self.assertEqual(choose(replica, [command(2)]), [])
        self.assertEqual(choose(replica, [command(1)], 1), [send("f1", "told", "c1", 1, ("old",))])


class TestSince(unittest.TestCase):
    def test_changes(self):
        for sender in ("f1", "r1", "r3", "somebody"):
            replica = made("r2")
            self.assertEqual(hear(replica, sender, "since", 0), [send(sender, "changes", 0, (), 0)])
            self.assertEqual(hear(replica, sender, "since", 4), [send(sender, "changes", 4, (), 4)])
            choose(replica, [command(1), command(2)])
            self.assertEqual(hear(replica, sender, "since", 1), [
                send(sender, "changes", 1, ((2, (("drain", "a", ("2",)),), ()),), 2)])

    def test_changes_on_both_sides_of_an_image(self):
        replica = made("r2")
        choose(replica, [("c1", number, transaction()) for number in range(1, 16)])
        letter = hear(replica, "f1", "since", 0)[0][2]
        self.assertEqual((letter[:2], [change[0] for change in letter[2]], letter[3]),
                         (("changes", 0), list(range(1, 16)), 15))

    def test_at_most_100_changes(self):
        replica = made("r2")
        # The slots never leave so many changes in the store, so it gets them straight.
        for _ in range(102):
            replica._machine.store.apply(transaction())
        for revision, upto in ((0, 100), (1, 101), (2, 102), (3, 102)):
            letter = hear(replica, "f1", "since", revision)[0][2]
            self.assertEqual([change[0] for change in letter[2]], list(range(revision + 1, upto + 1)))
            self.assertEqual(letter[3], upto)

    def test_a_whole_store(self):
        entries = (("drain", "a", 4, 5, ("",)),)
        replica = made("r2", 3, [("image", 8, ((6, entries), ()))])
        self.assertEqual(hear(replica, "f1", "since", 5), [send("f1", "whole", 6, entries)])
        self.assertEqual(hear(replica, "f1", "since", 6), [send("f1", "changes", 6, (), 6)])


if __name__ == "__main__":
    unittest.main()
