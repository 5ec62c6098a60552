"""Points 6.7 to 6.13."""

import unittest

from majordomo.cache import Cache
from majordomo.front import Front
from tests.replicas import command, send


def hear(front, sender, *letter):
    return front.handle(("letter", sender, letter))


def made(replicas=("r1", "r2", "r3"), ring=100):
    return Front("f1", list(replicas), ring, 1)


def changes(since, count):
    made_changes = tuple((since + at + 1, (("drain", "a", (str(at),)),), ()) for at in range(count))
    return ("changes", since, made_changes, since + count)


class TestTurns(unittest.TestCase):
    def test_ticks_with_several_replicas(self):
        front = made()
        for name in ("r1", "r2", "r3", "r1", "r2"):
            self.assertEqual(front.handle(("tick",)), [send(name, "since", 0)])

    def test_ticks_with_one_replica(self):
        front = made(["r2"])
        for _ in range(3):
            self.assertEqual(front.handle(("tick",)), [send("r2", "since", 0)])

    def test_whatever_is_written_moves_the_turn(self):
        front = made()
        self.assertEqual(hear(front, "c1", "ask", command(1)), [send("r1", "ask", command(1))])
        self.assertEqual(front.handle(("tick",)), [send("r2", "since", 0)])
        self.assertEqual(hear(front, "c1", "ask", command(1)), [send("r3", "ask", command(1))])
        self.assertEqual(hear(front, "c2", "ask", command(1, "c2")), [send("r1", "ask", command(1, "c2"))])

    def test_the_revision_is_that_of_the_cache(self):
        front = made()
        hear(front, "r3", *changes(0, 4))
        self.assertEqual(front.handle(("tick",)), [send("r1", "since", 4)])

    def test_the_list_of_replicas_is_not_kept(self):
        replicas = ["r1", "r2"]
        front = Front("f1", replicas, 0, 1)
        replicas.reverse()
        self.assertEqual(front.handle(("tick",)), [send("r1", "since", 0)])
        replicas.clear()
        self.assertEqual(front.handle(("tick",)), [send("r2", "since", 0)])
        self.assertEqual(hear(front, "r2", *changes(0, 1)), [])
        self.assertEqual(front.cache.revision, 1)


class TestTaking(unittest.TestCase):
    def test_letters_of_each_replica(self):
        front = made()
        self.assertIsInstance(front.cache, Cache)
        self.assertEqual(hear(front, "r3", *changes(0, 2)), [])
        self.assertEqual(hear(front, "r1", *changes(2, 1)), [])
        self.assertEqual((front.cache.revision, front.cache.ready), (3, True))
        self.assertEqual(hear(front, "r2", "whole", 9, ()), [])
        self.assertEqual((front.cache.revision, front.cache.view), (9, {}))

    def test_letters_of_strangers(self):
        front = made()
        for stranger in ("f2", "r4", "c1", ""):
            for letter in (changes(0, 2), changes(0, 100), ("whole", 5, ())):
                self.assertEqual(hear(front, stranger, *letter), [])
        self.assertEqual((front.cache.revision, front.cache.ready), (0, False))

    def test_exactly_100_changes(self):
        for count in (99, 100, 101):
            front = made()
            expected = [send("r3", "since", 100)] if count == 100 else []
            self.assertEqual(hear(front, "r3", *changes(0, count)), expected)
            # The turn was not moved.
            self.assertEqual(front.handle(("tick",)), [send("r1", "since", count)])

    def test_100_changes_that_are_not_taken(self):
        front = made()
        hear(front, "r3", *changes(0, 1))
        self.assertEqual(hear(front, "r3", *changes(0, 100)), [])
        self.assertEqual(hear(front, "r3", *changes(2, 100)), [])
        self.assertEqual(hear(front, "r3", *changes(1, 100)), [send("r3", "since", 101)])

    def test_a_whole_letter_with_100_entries(self):
        entries = tuple(("drain", "a" + str(at), 1, 1, ("",)) for at in range(100, 200))
        self.assertEqual(hear(made(), "r3", "whole", 1, entries), [])

    def test_the_ring_is_that_of_the_cache(self):
        for ring, oldest in ((0, 5), (1, 4), (3, 2), (100, 0)):
            front = made(ring=ring)
            hear(front, "r1", *changes(0, 5))
            self.assertEqual(front.cache.oldest, oldest)


class TestAnswering(unittest.TestCase):
    def test_before_the_cache_is_ready(self):
        front = made()
        for sender in ("w1", "r1"):
            self.assertEqual(hear(front, sender, "since", 0), [])
        hear(front, "r1", *changes(7, 1))
        self.assertEqual(hear(front, "w1", "since", 0), [])

    def test_from_any_sender(self):
        front = made(ring=2)
        hear(front, "r1", *changes(0, 0))
        self.assertEqual(hear(front, "w1", "since", 0), [send("w1", "changes", 0, (), 0)])
        hear(front, "r1", *changes(0, 3))
        for sender in ("w1", "f2", "r1", "r9"):
            for revision in range(5):
                letter = front.cache.since(revision)
                self.assertEqual(hear(front, sender, "since", revision), [("send", sender, letter)])
        self.assertEqual(hear(front, "w1", "since", 0), [send("w1", "whole", 3, (("drain", "a", 1, 3, ("2",)),))])
        self.assertEqual(hear(front, "w1", "since", 2), [send("w1", "changes", 2, changes(2, 1)[2][:0] + (
            (3, (("drain", "a", ("2",)),), ()),), 3)])


class TestPassingOn(unittest.TestCase):
    def test_an_answer_goes_to_who_asked(self):
        front = made()
        hear(front, "w1", "ask", command(4))
        self.assertEqual(front.asking(), [("c1", 4, "w1")])
        self.assertEqual(hear(front, "r3", "told", "c1", 4, ("done", 2)), [send("w1", "told", "c1", 4, ("done", 2))])
        self.assertEqual(front.asking(), [])
        self.assertEqual(hear(front, "r1", "told", "c1", 4, ("done", 2)), [])

    def test_answers_of_strangers_and_others(self):
        front = made()
        hear(front, "w1", "ask", command(4))
        for sender, origin, number in (("f2", "c1", 4), ("w1", "c1", 4), ("r4", "c1", 4), ("r1", "c1", 3),
                                       ("r1", "c1", 5), ("r1", "c2", 4)):
            self.assertEqual(hear(front, sender, "told", origin, number, ("done", 2)), [])
            self.assertEqual(front.asking(), [("c1", 4, "w1")])

    def test_two_senders_for_one_origin(self):
        front = made()
        hear(front, "w1", "ask", command(4))
        hear(front, "w2", "ask", command(4))
        self.assertEqual(front.asking(), [("c1", 4, "w2")])
        self.assertEqual(hear(front, "r1", "told", "c1", 4, ("old",)), [send("w2", "told", "c1", 4, ("old",))])
        self.assertEqual(hear(front, "r1", "told", "c1", 4, ("old",)), [])

    def test_two_numbers_for_one_origin(self):
        front = made()
        for first, second in ((4, 5), (5, 4)):
            hear(front, "w1", "ask", command(first))
            hear(front, "w1", "ask", command(second))
            self.assertEqual(hear(front, "r1", "told", "c1", first, ("done", 1)), [])
            self.assertEqual(front.asking(), [("c1", second, "w1")])
            self.assertEqual(hear(front, "r1", "told", "c1", second, ("done", 1)),
                             [send("w1", "told", "c1", second, ("done", 1))])

    def test_the_order_in_which_they_were_remembered(self):
        front = made()
        for sender, origin in (("w1", "b"), ("w2", "a"), ("w3", "c"), ("w2", "b"), ("w1", "a")):
            hear(front, sender, "ask", command(1, origin))
        self.assertEqual(front.asking(), [("c", 1, "w3"), ("b", 1, "w2"), ("a", 1, "w1")])

    def fill(self, front, count):
        for at in range(count):
            hear(front, "w" + str(at), "ask", command(1, "c" + str(at)))
        return [("c" + str(at), 1, "w" + str(at)) for at in range(count)]

    def test_50_origins(self):
        front = made()
        remembered = self.fill(front, 50)
        self.assertEqual(front.asking(), remembered)
        # A known origin takes no room of another one.
        hear(front, "w7", "ask", command(2, "c7"))
        self.assertEqual(front.asking(), remembered[:7] + remembered[8:] + [("c7", 2, "w7")])

    def test_51_origins(self):
        front = made()
        remembered = self.fill(front, 51)
        self.assertEqual(front.asking(), remembered[1:])
        self.assertEqual(hear(front, "r1", "told", "c0", 1, ("done", 1)), [])
        self.assertEqual(hear(front, "r1", "told", "c1", 1, ("done", 1)), [send("w1", "told", "c1", 1, ("done", 1))])
        # There is room for one again.
        hear(front, "w0", "ask", command(1, "c0"))
        self.assertEqual(front.asking(), remembered[2:] + remembered[:1])

    def test_the_one_that_was_remembered_first_is_forgotten(self):
        front = made()
        remembered = self.fill(front, 50)
        hear(front, "w0", "ask", command(1, "c0"))
        hear(front, "x", "ask", command(1, "new"))
        self.assertEqual(front.asking(), remembered[2:] + [("c0", 1, "w0"), ("new", 1, "x")])

    def test_the_letter_is_passed_on_unchanged(self):
        front = made(["r1"])
        for asked in (command(3), ("c9", 0, None), ("", 1, ())):
            self.assertEqual(hear(front, "w1", "ask", asked), [send("r1", "ask", asked)])


class TestOthers(unittest.TestCase):
    def test_other_events_and_letters_are_ignored(self):
        front = made()
        for event in (("stored", 1), ("ended", "web/0"), ("synced", 1), ("other",)):
            self.assertEqual(front.handle(event), [])
        for sender in ("r1", "w1"):
            for letter in (("prepare", 1, 0), ("beat", 1, 0), ("image", 8, ((0, ()), ())), ("other",)):
                self.assertEqual(hear(front, sender, *letter), [])
        self.assertEqual((front.asking(), front.cache.ready), ([], False))
        self.assertEqual(front.handle(("tick",)), [send("r1", "since", 0)])

    def test_returned_lists_may_be_changed(self):
        front = made()
        hear(front, "w1", "ask", command(4)).clear()
        front.asking().clear()
        self.assertEqual(front.asking(), [("c1", 4, "w1")])

    def test_the_boot_is_not_used(self):
        fronts = [Front("f1", ["r1", "r2"], 3, boot) for boot in (1, 9)]
        for event in (("tick",), ("letter", "r1", changes(0, 2)), ("letter", "w1", ("ask", command())), ("tick",)):
            self.assertEqual(fronts[0].handle(event), fronts[1].handle(event))


if __name__ == "__main__":
    unittest.main()
