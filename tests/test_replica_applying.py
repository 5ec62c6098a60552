"""Point 4.23: slots that are applied, answers that are told, and images."""

import unittest

from majordomo.sessions import Sessions
from majordomo.store import Store
from tests.replicas import NOTHING, choose, command, commands, hear, leading, made, send, store, stored


def dump_after(values):
    store_made = Store()
    sessions = Sessions()
    for value in values:
        if value != NOTHING:
            sessions.run(store_made, value)
    return (store_made.image(), sessions.image())


class TestApplying(unittest.TestCase):
    def test_slots_are_applied_in_order(self):
        replica = made("r2")
        values = [command(1), NOTHING, command(2), command(1, "c2", "b")]
        for slot in (3, 1, 2):
            choose(replica, [values[slot]], slot)
            self.assertEqual(replica.look(), (0, 0, False))
        choose(replica, [values[0]])
        self.assertEqual(replica.look(), (4, 3, False))
        self.assertEqual(replica.dump(), dump_after(values))
        self.assertEqual([replica.value_at(slot) for slot in range(-1, 6)], [None] + values + [None] * 2)

    def test_nothing_changes_nothing(self):
        replica = made("r2")
        self.assertEqual(choose(replica, [NOTHING] * 3), [])
        self.assertEqual((replica.look(), replica.dump()), ((3, 0, False), dump_after([])))

    def test_a_command_in_several_slots_is_run_once(self):
        replica = made("r2")
        values = [command(2), command(2), command(1), command(3), command(2)]
        choose(replica, values)
        self.assertEqual(replica.look(), (5, 2, False))
        self.assertEqual(replica.dump()[1], (("c1", 3, ("done", 2)),))

    def test_who_waits_is_told_slot_by_slot_in_the_order_of_asking(self):
        replica = made("r2")
        refused = ("c2", 1, ((("drain", "a", 9),), (), ()))
        for sender, asked in (("f2", refused), ("f1", command(1)), ("f3", refused), ("f2", command(1)),
                              ("f1", refused)):
            hear(replica, sender, "ask", asked)
        choose(replica, [refused], 1)
        self.assertEqual(choose(replica, [command(1)]), [
            send("f1", "told", "c1", 1, ("done", 1)), send("f2", "told", "c1", 1, ("done", 1)),
            send("f2", "told", "c2", 1, ("no", 0)), send("f3", "told", "c2", 1, ("no", 0)),
            send("f1", "told", "c2", 1, ("no", 0))])
        self.assertEqual(choose(replica, [command(1), refused], 2), [])

    def test_a_leader_sends_what_is_chosen_before_it_applies_it(self):
        leader, ballot = leading()
        hear(leader, "f1", "ask", command())
        hear(leader, "r3", "accepted", ballot, 0)
        self.assertEqual(stored(leader, 2), [
            send("r2", "chosen", 0, command()), send("r3", "chosen", 0, command()),
            send("f1", "told", "c1", 1, ("done", 1))])


class TestImages(unittest.TestCase):
    def test_an_image_at_each_eighth_slot(self):
        replica = made("r2")
        for number in range(1, 30):
            effects = choose(replica, [command(number)], number - 1)
            expected = [] if number % 8 else [store("image", number, dump_after(commands(number)))]
            self.assertEqual(effects, expected, number)

    def test_an_image_after_nothing(self):
        replica = made("r2")
        self.assertEqual(choose(replica, [NOTHING] * 8), [store("image", 8, dump_after([]))])

    def test_the_dump_is_that_of_this_moment(self):
        replica = made("r2")
        for sender, number in (("f1", 8), ("f2", 9), ("f3", 16)):
            hear(replica, sender, "ask", command(number))
        choose(replica, commands(17)[1:], 1)
        self.assertEqual(choose(replica, [command(1)]), [
            send("f1", "told", "c1", 8, ("done", 8)), store("image", 8, dump_after(commands(8))),
            send("f2", "told", "c1", 9, ("done", 9)), send("f3", "told", "c1", 16, ("done", 16)),
            store("image", 16, dump_after(commands(16)))])
        self.assertEqual((replica.look()[0], replica.dump()), (17, dump_after(commands(17))))

    def test_the_acceptor_and_the_slots_are_cut(self):
        replica = made("r2")
        for slot in (6, 7, 8):
            hear(replica, "r1", "accept", 3, slot, command(slot + 1))
        choose(replica, commands(7))
        self.assertEqual(replica.value_at(0), command(1))
        choose(replica, [command(8), command(9)], 7)
        self.assertEqual([replica.value_at(slot) for slot in range(10)], [None] * 8 + [command(9), None])
        hear(replica, "r1", "prepare", 3, 0)
        self.assertEqual(stored(replica, 4)[-1], send("r1", "promise", 3, 8, ((8, 3, command(9)),)))

    def told(self, replica, revision):
        """The first member of what a follower with this revision is told."""
        return hear(replica, "f1", "since", revision)[0][2][0]

    def test_changes_are_forgotten_up_to_the_image_before_the_newest_one(self):
        replica = made("r2")
        # Each second slot is a command, so the revisions are half as great as the slots.
        values = [value for number in range(1, 20) for value in (NOTHING, command(number))]
        for slot, value in enumerate(values):
            choose(replica, [value], slot)
            oldest = max(0, (slot + 1) // 8 - 1) * 4
            self.assertEqual(self.told(replica, oldest), "changes", slot)
            if oldest:
                self.assertEqual(self.told(replica, oldest - 1), "whole", slot)

    def test_behind_a_restart(self):
        image = ("image", 8, dump_after(commands(8)))
        replica = made("r2", 3, [image])
        self.assertEqual([self.told(replica, revision) for revision in (7, 8)], ["whole", "changes"])
        self.assertEqual(choose(replica, commands(16)[8:], 8), [store("image", 16, dump_after(commands(16)))])
        # The image before was the one that was read.
        self.assertEqual([self.told(replica, revision) for revision in (7, 8)], ["whole", "changes"])
        choose(replica, commands(24)[16:], 16)
        self.assertEqual([self.told(replica, revision) for revision in (15, 16)], ["whole", "changes"])

    def test_behind_an_adopted_image(self):
        replica = made("r2")
        choose(replica, commands(9))
        adopted = ("image", 16, dump_after(commands(16)))
        hear(replica, "r3", *adopted)
        self.assertEqual([self.told(replica, revision) for revision in (15, 16)], ["whole", "changes"])
        choose(replica, commands(24)[16:], 16)
        self.assertEqual([self.told(replica, revision) for revision in (15, 16)], ["whole", "changes"])
        choose(replica, commands(32)[24:], 24)
        self.assertEqual([self.told(replica, revision) for revision in (23, 24)], ["whole", "changes"])

    def test_the_newest_image_is_the_one_that_was_made(self):
        replica = made("r2", 3, [("image", 8, dump_after(commands(8)))])
        choose(replica, commands(16)[8:], 8)
        self.assertEqual(hear(replica, "r3", "want", 3), [send("r3", "image", 16, dump_after(commands(16)))])

    def test_a_dump_may_be_looked_at_at_any_time(self):
        replica = made("r2")
        choose(replica, commands(2))
        before = replica.dump()
        choose(replica, [command(3)], 2)
        self.assertEqual(before, dump_after(commands(2)))
        self.assertEqual(replica.dump(), dump_after(commands(3)))


if __name__ == "__main__":
    unittest.main()
