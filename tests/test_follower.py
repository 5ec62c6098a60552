"""Points 7.6 to 7.8."""

import unittest

from majordomo.cache import Cache
from majordomo.follower import Follower
from tests.replicas import send


def changes(since, *names):
    made = tuple((since + at + 1, (("drain", name, ("",)),), ()) for at, name in enumerate(names))
    return ("changes", since, made, since + len(names))


def keys(*names):
    return [("drain", name) for name in names]


class TestQuestions(unittest.TestCase):
    def asked(self, follower, ticks):
        """The ticks at which a question is sent, with the fronts to which it is sent."""
        found = []
        for at in range(1, ticks + 1):
            effects = follower.tick()
            if effects:
                self.assertEqual(effects, [send(follower.front, "since", follower.cache.revision)])
                found.append((at, follower.front))
        return found

    def test_a_new_follower(self):
        follower = Follower(("f1", "f2"))
        self.assertEqual(follower.front, "f1")
        self.assertIsInstance(follower.cache, Cache)
        self.assertEqual((follower.cache.revision, follower.cache.ready), (0, False))

    def test_the_first_tick_asks_the_first_front(self):
        self.assertEqual(Follower(("f1", "f2")).tick(), [send("f1", "since", 0)])

    def test_the_fronts_take_turns_without_answers(self):
        self.assertEqual(self.asked(Follower(("f1", "f2", "f3"), patience=2), 9),
                         [(1, "f1"), (3, "f2"), (5, "f3"), (7, "f1"), (9, "f2")])

    def test_one_front(self):
        self.assertEqual(self.asked(Follower(("f1",), patience=3), 8), [(1, "f1"), (4, "f1"), (7, "f1")])

    def test_the_bounds_of_the_patience(self):
        self.assertEqual(self.asked(Follower(("f1", "f2"), patience=1), 3), [(1, "f1"), (2, "f2"), (3, "f1")])
        self.assertEqual(self.asked(Follower(("f1", "f2"), patience=100), 205), [(1, "f1"), (101, "f2"), (201, "f1")])

    def test_the_patience_is_4_if_none_is_given(self):
        self.assertEqual(self.asked(Follower(("f1", "f2")), 9), [(1, "f1"), (5, "f2"), (9, "f1")])

    def test_after_an_answer_the_next_tick_asks(self):
        follower = Follower(("f1", "f2"), patience=3)
        self.asked(follower, 6)
        self.assertEqual(follower.front, "f2")
        follower.hear("f2", changes(0, "a"))
        self.assertEqual(follower.tick(), [send("f2", "since", 1)])
        # The new question has waited 0 ticks.
        self.assertEqual(self.asked(follower, 4), [(3, "f1")])

    def test_the_patience_is_a_keyword(self):
        with self.assertRaises(TypeError):
            Follower(("f1",), 4)


class TestHearing(unittest.TestCase):
    def setUp(self):
        self.follower = Follower(("f1", "f2"), patience=5)
        self.follower.tick()

    def is_open(self):
        return self.follower.tick() == []

    def test_the_front_at_hand(self):
        self.assertEqual(self.follower.hear("f1", changes(0, "b", "a")), keys("a", "b"))
        self.assertEqual(self.follower.cache.revision, 2)
        self.assertFalse(self.is_open())

    def test_other_senders(self):
        for sender in ("f2", "r1", ""):
            revision = self.follower.cache.revision
            self.assertEqual(self.follower.hear(sender, changes(revision, "a")), keys("a"))
            self.assertEqual(self.follower.cache.revision, revision + 1)
        self.assertTrue(self.is_open())

    def test_a_letter_that_is_not_taken(self):
        self.assertEqual(self.follower.hear("f2", changes(3, "a")), [])
        self.assertTrue(self.is_open())
        self.assertEqual(self.follower.hear("f1", changes(3, "a")), [])
        self.assertEqual((self.follower.cache.revision, self.follower.cache.ready), (0, False))
        self.assertEqual(self.follower.tick(), [send("f1", "since", 0)])

    def test_whole_letters(self):
        whole = ("whole", 7, (("drain", "a", 1, 2, ("",)),))
        self.assertEqual(self.follower.hear("f2", whole), keys("a"))
        self.assertTrue(self.is_open())
        self.assertEqual(self.follower.hear("f1", whole), [])
        self.assertEqual(self.follower.tick(), [send("f1", "since", 7)])

    def test_an_answer_without_changes(self):
        self.assertEqual(self.follower.hear("f1", changes(0)), [])
        self.assertIs(self.follower.cache.ready, True)
        self.assertFalse(self.is_open())

    def test_other_letters_are_ignored(self):
        for letter in (("told", "m1", 1, ("done", 1)), ("since", 0), ("ask", ("m1", 1, ((), (), ()))), ("beat", 1, 0)):
            self.assertEqual(self.follower.hear("f1", letter), [])
        self.assertTrue(self.is_open())

    def test_an_answer_of_a_front_that_was_at_hand(self):
        for _ in range(5):
            self.follower.tick()
        self.assertEqual(self.follower.front, "f2")
        self.assertEqual(self.follower.hear("f1", changes(0, "a")), keys("a"))
        self.assertTrue(self.is_open())

    def test_a_letter_while_no_question_is_open(self):
        follower = Follower(("f1",))
        self.assertEqual(follower.hear("f1", changes(0, "a")), keys("a"))
        self.assertEqual(follower.tick(), [send("f1", "since", 1)])

    def test_the_cache_has_no_room_in_its_ring(self):
        self.follower.hear("f1", changes(0, "a", "b"))
        self.assertEqual(self.follower.cache.oldest, 2)
        self.assertEqual(self.follower.cache.since(1)[0], "whole")

    def test_returned_lists_may_be_changed(self):
        self.follower.hear("f1", changes(0, "a")).clear()
        self.follower.tick().clear()
        self.assertEqual(self.follower.hear("f1", ("changes", 9, (), 9)), [])
        self.assertEqual(list(self.follower.cache.view), keys("a"))


if __name__ == "__main__":
    unittest.main()
