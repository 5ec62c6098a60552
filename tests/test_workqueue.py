"""Points 7.9 to 7.14."""

import copy
import random
import unittest

from majordomo.errors import NotTaken
from majordomo.workqueue import WorkQueue


def state(queue, keys="abcdefx"):
    return (queue.waiting(), queue.in_work(), queue.delayed(), [queue.failures(key) for key in keys])


def taken(queue, *keys):
    """Put keys into work."""
    for key in keys:
        queue.add(key)
        while queue.take() != key:
            pass
    return queue


class TestAdding(unittest.TestCase):
    def test_a_new_queue(self):
        queue = WorkQueue()
        self.assertEqual(state(queue), ([], [], [], [0] * 7))
        self.assertIsNone(queue.take())
        queue.tick()
        self.assertEqual(state(queue), ([], [], [], [0] * 7))

    def test_the_example(self):
        queue = WorkQueue()
        for key in ("a", "b", "a"):
            self.assertIsNone(queue.add(key))
        self.assertEqual(queue.take(), "a")
        queue.add("a")
        self.assertIsNone(queue.finish("a"))
        self.assertEqual(queue.waiting(), ["b", "a"])

    def test_a_waiting_key(self):
        queue = WorkQueue()
        for key in ("c", "a", "b", "a", "c"):
            queue.add(key)
        self.assertEqual(queue.waiting(), ["c", "a", "b"])

    def test_a_key_in_work_comes_again(self):
        queue = taken(WorkQueue(), "a")
        queue.add("a")
        queue.add("a")
        self.assertEqual(state(queue)[:3], ([], ["a"], []))
        queue.finish("a")
        self.assertEqual(state(queue)[:3], (["a"], [], []))
        self.assertEqual(queue.take(), "a")
        queue.finish("a")
        self.assertEqual(state(queue)[:3], ([], [], []))

    def test_a_delayed_key_is_delayed_no_longer(self):
        queue = WorkQueue()
        queue.add_later("a", 3)
        queue.add("b")
        queue.add("a")
        self.assertEqual(state(queue)[:3], (["b", "a"], [], []))
        for _ in range(4):
            queue.tick()
        self.assertEqual(queue.waiting(), ["b", "a"])

    def test_a_key_in_work_that_is_delayed_stays_delayed(self):
        queue = taken(WorkQueue(), "a")
        queue.add_later("a", 3)
        queue.add("a")
        self.assertEqual(state(queue)[:3], ([], ["a"], [("a", 3)]))
        queue.finish("a")
        # It was to come again, so it is added, and delayed no longer.
        self.assertEqual(state(queue)[:3], (["a"], [], []))


class TestAddingLater(unittest.TestCase):
    def test_an_unknown_key(self):
        queue = WorkQueue()
        self.assertIsNone(queue.add_later("a", 1000))
        queue.add_later("b", 1)
        self.assertEqual(state(queue)[:3], ([], [], [("a", 1000), ("b", 1)]))

    def test_0_ticks_are_the_same_as_adding(self):
        queue = taken(WorkQueue(), "w")
        queue.add_later("d", 5)
        for key in ("a", "d", "a", "w"):
            queue.add_later(key, 0)
        self.assertEqual(state(queue)[:3], (["a", "d"], ["w"], []))
        queue.finish("w")
        self.assertEqual(queue.waiting(), ["a", "d", "w"])

    def test_a_waiting_key_does_not_change(self):
        queue = WorkQueue()
        queue.add("a")
        queue.add_later("a", 1)
        self.assertEqual(state(queue)[:3], (["a"], [], []))

    def test_a_delayed_key_keeps_the_smaller_number(self):
        queue = WorkQueue()
        for ticks, left in ((5, 5), (7, 5), (5, 5), (4, 4), (9, 4), (1, 1), (2, 1)):
            queue.add_later("a", ticks)
            self.assertEqual(queue.delayed(), [("a", left)])

    def test_it_compares_with_the_ticks_that_are_left(self):
        queue = WorkQueue()
        queue.add_later("a", 5)
        queue.tick()
        queue.tick()
        queue.add_later("a", 4)
        self.assertEqual(queue.delayed(), [("a", 3)])
        queue.add_later("a", 2)
        self.assertEqual(queue.delayed(), [("a", 2)])

    def test_a_key_in_work(self):
        queue = taken(WorkQueue(), "a")
        queue.add_later("a", 2)
        self.assertEqual(state(queue)[:3], ([], ["a"], [("a", 2)]))
        queue.add_later("a", 4)
        self.assertEqual(queue.delayed(), [("a", 2)])
        queue.finish("a")
        self.assertEqual(state(queue)[:3], ([], [], [("a", 2)]))


class TestTaking(unittest.TestCase):
    def test_the_first_waiting_key(self):
        queue = WorkQueue()
        for key in ("b", "a", "c"):
            queue.add(key)
        self.assertEqual([queue.take() for _ in range(4)], ["b", "a", "c", None])
        self.assertEqual(state(queue)[:3], ([], ["a", "b", "c"], []))

    def test_delayed_keys_are_not_taken(self):
        queue = WorkQueue()
        queue.add_later("a", 1)
        self.assertIsNone(queue.take())
        self.assertEqual(queue.in_work(), [])


class TestFailures(unittest.TestCase):
    def fail(self, queue, key):
        """Let a key fail and return its delay."""
        queue.add(key)
        self.assertEqual(queue.take(), key)
        self.assertIsNone(queue.fail(key))
        return dict(queue.delayed()).get(key)

    def test_the_delays(self):
        for most, delays in ((1, [1, 1, 1, 1]), (8, [1, 2, 4, 8, 8, 8]), (64, [1, 2, 4, 8, 16, 32, 64, 64, 64]),
                             (6, [1, 2, 4, 6, 6]), (3, [1, 2, 3, 3]), (2, [1, 2, 2])):
            queue = WorkQueue(most=most)
            self.assertEqual([self.fail(queue, "a") for _ in delays], delays)
            self.assertEqual(queue.failures("a"), len(delays))

    def test_most_is_8_if_none_is_given(self):
        queue = WorkQueue()
        self.assertEqual([self.fail(queue, "a") for _ in range(6)], [1, 2, 4, 8, 8, 8])
        with self.assertRaises(TypeError):
            WorkQueue(8)

    def test_many_failures(self):
        queue = WorkQueue(most=64)
        for _ in range(3000):
            delay = self.fail(queue, "a")
        self.assertEqual((delay, queue.failures("a")), (64, 3000))

    def test_each_key_has_its_own_count(self):
        queue = WorkQueue()
        self.assertEqual([self.fail(queue, key) for key in "aabab"], [1, 2, 1, 4, 2])
        self.assertEqual([queue.failures(key) for key in "abc"], [3, 2, 0])

    def test_finishing_starts_the_count_anew(self):
        queue = WorkQueue()
        self.fail(queue, "a")
        self.fail(queue, "a")
        taken(queue, "a").finish("a")
        self.assertEqual(queue.failures("a"), 0)
        self.assertEqual(self.fail(queue, "a"), 1)

    def test_a_key_that_is_to_come_again(self):
        queue = taken(WorkQueue(), "a")
        queue.add("a")
        queue.fail("a")
        self.assertEqual((state(queue)[:3], queue.failures("a")), ((["a"], [], []), 1))
        # The failure counts for the next one.
        queue.take()
        queue.fail("a")
        self.assertEqual(queue.delayed(), [("a", 2)])

    def test_a_delayed_key_that_fails(self):
        for ticks, left in ((1, 1), (2, 2), (5, 2)):
            queue = WorkQueue()
            self.fail(queue, "a")
            taken(queue, "a").add_later("a", ticks)
            queue.fail("a")
            self.assertEqual(state(queue)[:3], ([], [], [("a", left)]))

    def test_a_delayed_key_that_is_to_come_again_and_fails(self):
        queue = taken(WorkQueue(), "a")
        queue.add_later("a", 5)
        queue.add("a")
        queue.fail("a")
        self.assertEqual(state(queue)[:3], (["a"], [], []))

    def test_keys_that_are_not_in_work(self):
        queue = WorkQueue()
        queue.add("a")
        queue.add_later("b", 3)
        finished = taken(WorkQueue(), "d")
        finished.finish("d")
        for made, keys in ((queue, ("a", "b", "x")), (finished, ("d",))):
            before = state(made)
            for key in keys:
                for report in (made.finish, made.fail):
                    with self.assertRaises(NotTaken) as caught:
                        report(key)
                    self.assertEqual(caught.exception.key, key)
                    self.assertEqual(state(made), before)

    def test_a_report_of_another_key_forgets_no_failures(self):
        queue = WorkQueue()
        self.fail(queue, "a")
        with self.assertRaises(NotTaken):
            queue.finish("a")
        self.assertEqual((queue.failures("a"), queue.delayed()), (1, [("a", 1)]))


class TestTicks(unittest.TestCase):
    def test_the_ticks_are_reduced(self):
        queue = WorkQueue()
        queue.add_later("b", 3)
        queue.add_later("a", 2)
        self.assertIsNone(queue.tick())
        self.assertEqual(state(queue)[:3], ([], [], [("a", 1), ("b", 2)]))
        queue.tick()
        self.assertEqual(state(queue)[:3], (["a"], [], [("b", 1)]))
        queue.tick()
        self.assertEqual(state(queue)[:3], (["a", "b"], [], []))

    def test_several_keys_are_added_in_ascending_order(self):
        queue = WorkQueue()
        queue.add("z")
        for key in ("c", "ab", "d", "a", "b"):
            queue.add_later(key, 1 if key != "d" else 2)
        queue.tick()
        self.assertEqual(queue.waiting(), ["z", "a", "ab", "b", "c"])

    def test_a_key_in_work_becomes_one_that_is_to_come_again(self):
        for report in ("finish", "fail"):
            queue = taken(WorkQueue(), "a")
            queue.add_later("a", 1)
            queue.tick()
            self.assertEqual(state(queue)[:3], ([], ["a"], []))
            getattr(queue, report)("a")
            self.assertEqual(state(queue)[:3], (["a"], [], []))


class TestConventions(unittest.TestCase):
    def test_returned_lists_may_be_changed(self):
        queue = taken(WorkQueue(), "a")
        queue.add("b")
        queue.add_later("c", 3)
        before = copy.deepcopy(state(queue))
        for listed in (queue.waiting(), queue.in_work(), queue.delayed()):
            listed.clear()
        self.assertEqual(state(queue), before)


class Model:
    """The work queue in the words of the document, each part as a set or a dict of its own."""

    def __init__(self, most):
        self.most = most
        self.line = []
        self.work = set()
        self.again = set()
        self.late = {}
        self.failed = {}

    def add(self, key):
        if key in self.work:
            self.again.add(key)
        elif key not in self.line:
            self.line.append(key)
            self.late.pop(key, None)

    def add_later(self, key, ticks):
        if ticks == 0:
            self.add(key)
        elif key in self.line:
            pass
        elif key in self.late:
            self.late[key] = min(self.late[key], ticks)
        else:
            self.late[key] = ticks

    def take(self):
        if self.line:
            key = self.line.pop(0)
            self.work.add(key)
            return key
        return None

    def leave(self, key):
        if key not in self.work:
            raise NotTaken(key)
        self.work.remove(key)
        comes = key in self.again
        self.again.discard(key)
        return comes

    def finish(self, key):
        comes = self.leave(key)
        self.failed[key] = 0
        if comes:
            self.add(key)

    def fail(self, key):
        comes = self.leave(key)
        self.failed[key] = self.failed.get(key, 0) + 1
        if comes:
            self.add(key)
        else:
            self.add_later(key, min(self.most, 2 ** (self.failed[key] - 1)))

    def tick(self):
        for key in self.late:
            self.late[key] -= 1
        ended = sorted(key for key in self.late if self.late[key] == 0)
        for key in ended:
            del self.late[key]
        for key in ended:
            self.add(key)


class TestAgainstTheModel(unittest.TestCase):
    def test_random_runs(self):
        for seed in range(60):
            chance = random.Random(seed)
            most = chance.randrange(1, 65)
            queue, model = WorkQueue(most=most), Model(most)
            for _ in range(200):
                word, arguments = self.any_call(chance)
                self.assertEqual(self.outcome(queue, word, arguments), self.outcome(model, word, arguments))
                self.assertEqual(state(queue), (model.line, sorted(model.work), sorted(model.late.items()),
                                                [model.failed.get(key, 0) for key in "abcdefx"]))

    def any_call(self, chance):
        word = chance.choice(("add", "add_later", "take", "take", "finish", "fail", "fail", "tick"))
        if word in ("take", "tick"):
            return word, ()
        key = chance.choice("abcdef")
        return word, (key, chance.randrange(6)) if word == "add_later" else (key,)

    def outcome(self, queue, word, arguments):
        try:
            return getattr(queue, word)(*arguments)
        except NotTaken as error:
            return ("not taken", error.key)


if __name__ == "__main__":
    unittest.main()
