"""Point 9.6: binds that are assumed, and names that are held back."""

import unittest

from majordomo.assumed import Assumed
from majordomo.holds import Holds


def three():
    assumed = Assumed()
    assumed.add("b/0", "n1", 3, 5)
    assumed.add("a/1", "n1", 4, 6)
    assumed.add("a/10", "n2", 1, 6)
    return assumed


class TestAssumed(unittest.TestCase):
    def test_none(self):
        assumed = Assumed()
        self.assertEqual(assumed.names(), [])
        self.assertIs(assumed.has("a/0"), False)
        self.assertEqual((assumed.size_on("n1"), assumed.count_on("n1", 5)), (0, 0))

    def test_several(self):
        assumed = three()
        self.assertEqual(assumed.names(), ["a/1", "a/10", "b/0"])
        self.assertEqual([assumed.has(name) for name in ("a/1", "a/10", "b/0", "b/1", "a", "")], [True] * 3 + [False] * 3)
        self.assertEqual([assumed.size_on(name) for name in ("n1", "n2", "n3", "n")], [7, 1, 0, 0])
        self.assertEqual([assumed.count_on("n1", born) for born in (4, 5, 6)], [0, 1, 1])
        self.assertEqual([assumed.count_on("n2", born) for born in (4, 5, 6)], [0, 0, 1])

    def test_several_binds_of_one_service_on_a_node(self):
        assumed = three()
        assumed.add("a/2", "n1", 0, 6)
        assumed.add("a/3", "n1", 5, 6)
        self.assertEqual((assumed.size_on("n1"), assumed.count_on("n1", 6), assumed.count_on("n1", 5)), (12, 3, 1))

    def test_a_task_that_is_assumed_again(self):
        assumed = three()
        assumed.done("a/1", 7)
        assumed.add("a/1", "n2", 9, 8)
        self.assertEqual(assumed.names(), ["a/1", "a/10", "b/0"])
        self.assertEqual((assumed.size_on("n1"), assumed.size_on("n2")), (3, 10))
        self.assertEqual((assumed.count_on("n1", 6), assumed.count_on("n2", 6), assumed.count_on("n2", 8)), (0, 1, 1))
        # The answer to the earlier bind does not count for this one.
        assumed.settle(100)
        self.assertEqual(assumed.names(), ["a/1", "a/10", "b/0"])

    def test_drop(self):
        assumed = three()
        assumed.drop("a/1")
        self.assertEqual((assumed.names(), assumed.has("a/1"), assumed.size_on("n1")), (["a/10", "b/0"], False, 3))
        assumed.drop("a/1")
        assumed.drop("c/0")
        self.assertEqual(assumed.names(), ["a/10", "b/0"])

    def test_done_and_settle(self):
        assumed = three()
        assumed.done("a/1", 7)
        assumed.done("b/0", 9)
        for revision, names in ((0, ["a/1", "a/10", "b/0"]), (6, ["a/1", "a/10", "b/0"]), (7, ["a/10", "b/0"]),
                                (8, ["a/10", "b/0"]), (9, ["a/10"]), (1000, ["a/10"])):
            assumed.settle(revision)
            self.assertEqual(assumed.names(), names)
        assumed.done("a/10", 3)
        self.assertEqual(assumed.names(), ["a/10"])
        assumed.settle(1000)
        self.assertEqual(assumed.names(), [])

    def test_an_answered_bind_counts_until_it_is_settled(self):
        assumed = three()
        assumed.done("a/1", 7)
        self.assertEqual((assumed.has("a/1"), assumed.size_on("n1"), assumed.count_on("n1", 6)), (True, 7, 1))
        assumed.settle(7)
        self.assertEqual((assumed.has("a/1"), assumed.size_on("n1"), assumed.count_on("n1", 6)), (False, 3, 0))

    def test_an_answer_for_a_task_that_is_not_assumed(self):
        assumed = three()
        assumed.done("c/0", 7)
        self.assertEqual(assumed.names(), ["a/1", "a/10", "b/0"])
        assumed.add("c/0", "n1", 1, 5)
        assumed.settle(100)
        self.assertIs(assumed.has("c/0"), True)

    def test_a_dropped_bind_forgets_its_answer(self):
        assumed = three()
        assumed.done("a/1", 7)
        assumed.drop("a/1")
        assumed.add("a/1", "n1", 4, 6)
        assumed.settle(7)
        self.assertIs(assumed.has("a/1"), True)

    def test_several_are_settled_at_once(self):
        assumed = three()
        for name in assumed.names():
            assumed.done(name, 7)
        assumed.settle(7)
        self.assertEqual(assumed.names(), [])

    def test_what_was_returned_may_be_changed(self):
        assumed = three()
        assumed.names().clear()
        self.assertEqual(len(assumed.names()), 3)


class TestHolds(unittest.TestCase):
    def test_none(self):
        self.assertIs(Holds().is_held("a/0", 0, 0), False)
        self.assertEqual(Holds().names(0, 0), [])

    def test_the_revision_and_the_clock_each_alone(self):
        holds = Holds()
        holds.note("a/0", 7, 20)
        for revision in (0, 6, 7):
            self.assertEqual([holds.is_held("a/0", revision, clock) for clock in (20, 22, 23, 24, 25)],
                             [True, True, True, False, False])
        for clock in (20, 23, 24):
            self.assertIs(holds.is_held("a/0", 8, clock), False)

    def test_several(self):
        holds = Holds()
        holds.note("b/0", 7, 20)
        holds.note("a/0", 9, 18)
        holds.note("a/10", 9, 21)
        self.assertEqual(holds.names(7, 21), ["a/0", "a/10", "b/0"])
        self.assertEqual(holds.names(7, 22), ["a/10", "b/0"])
        self.assertEqual(holds.names(8, 21), ["a/0", "a/10"])
        self.assertEqual(holds.names(9, 24), ["a/10"])
        self.assertEqual(holds.names(10, 21), [])

    def test_the_last_one_counts(self):
        holds = Holds()
        holds.note("a/0", 7, 20)
        holds.note("a/0", 8, 22)
        self.assertIs(holds.is_held("a/0", 8, 25), True)
        self.assertIs(holds.is_held("a/0", 8, 26), False)


if __name__ == "__main__":
    unittest.main()
