"""Points 9.2 and 9.3: pending tasks, and room on nodes."""

import unittest

from majordomo.fit import fits, free_size, is_open, pending_tasks


def node(size=9, used=2, life=3, lost=0, zone=""):
    return (size, used, life, lost, zone)


def task(size=1, zone="", state="new", stop=0):
    return (5, "run", size, state, stop, "", 0, zone)


class TestFreeSize(unittest.TestCase):
    def test_what_is_left(self):
        self.assertEqual(free_size(node(), 0), 7)
        self.assertEqual(free_size(node(), 3), 4)
        self.assertEqual(free_size(node(), 7), 0)
        self.assertEqual(free_size(node(), 8), -1)
        self.assertEqual(free_size(node(3, 5), 0), -2)
        self.assertEqual(free_size(node(3, 5), 10), -12)
        self.assertEqual(free_size(node(0, 0), 0), 0)
        self.assertEqual(free_size(node(10 ** 12, 1), 2), 10 ** 12 - 3)


class TestOpen(unittest.TestCase):
    def test_lost_and_life(self):
        self.assertEqual([is_open(node(life=life)) for life in (0, 1, 2, 10 ** 12)], [False, True, True, True])
        self.assertEqual([is_open(node(life=life, lost=1)) for life in (0, 1, 2)], [False] * 3)

    def test_nothing_else_counts(self):
        for found in (node(0, 0), node(3, 9), node(zone="z")):
            self.assertIs(is_open(found), True)


class TestFits(unittest.TestCase):
    def test_a_task_that_fits(self):
        self.assertIs(fits(task(), node(), False, 0), True)

    def test_each_cause_alone(self):
        self.assertIs(fits(task(), node(life=0), False, 0), False)
        self.assertIs(fits(task(), node(lost=1), False, 0), False)
        self.assertIs(fits(task(), node(), True, 0), False)
        self.assertIs(fits(task(zone="z"), node(), False, 0), False)
        self.assertIs(fits(task(size=8), node(), False, 0), False)

    def test_zones(self):
        for zone, there, found in (("", "", True), ("", "z", True), ("z", "z", True), ("z", "", False), ("z", "y", False),
                                   ("z", "zz", False), ("zz", "z", False)):
            self.assertIs(fits(task(zone=zone), node(zone=there), False, 0), found)

    def test_sizes(self):
        self.assertEqual([fits(task(size), node(), False, 0) for size in (0, 6, 7, 8)], [True, True, True, False])
        self.assertEqual([fits(task(size), node(), False, 4) for size in (0, 2, 3, 4)], [True, True, True, False])
        self.assertEqual([fits(task(size), node(), False, 7) for size in (0, 1)], [True, False])

    def test_a_free_size_below_zero(self):
        self.assertIs(fits(task(0), node(), False, 8), False)
        self.assertIs(fits(task(0), node(2, 3), False, 0), False)
        self.assertIs(fits(task(0), node(3, 3), False, 0), True)


class TestPending(unittest.TestCase):
    def test_the_order(self):
        entries = [("task", name, born, 90 - born, task()) for name, born in
                   (("b/0", 7), ("a/1", 7), ("c/0", 6), ("a/10", 7), ("0/0", 8), ("z/0", 10))]
        before = list(entries)
        self.assertEqual(pending_tasks(entries), ["c/0", "a/1", "a/10", "b/0", "0/0", "z/0"])
        self.assertEqual(entries, before)

    def test_states_and_stops(self):
        entries = [("task", state + "/" + str(stop), 5, 6, task(state=state, stop=stop))
                   for state in ("new", "bound", "running", "ended") for stop in (0, 1)]
        self.assertEqual(pending_tasks(entries), ["new/0"])

    def test_other_kinds(self):
        entries = [("beat", "n1", 1, 1, (1, 2)), ("drain", "n1", 1, 1, ("",)), ("node", "n1", 1, 1, node()),
                   ("note", "a", 1, 1, ("", "", "", 0)), ("rollout", "a", 1, 1, (1, ())),
                   ("service", "a", 1, 1, (1, "", 1, 1, "")), ("task", "a/0", 1, 1, task())]
        self.assertEqual(pending_tasks(entries), ["a/0"])
        self.assertEqual(pending_tasks(entries[:-1]), [])
        self.assertEqual(pending_tasks([]), [])


if __name__ == "__main__":
    unittest.main()
