"""Points 10.7 to 10.9: which runs there are, and which tasks come next."""

import unittest

from majordomo.runs import Runs, next_end, next_start, tasks_of, to_run


def made(name, state="running", stop=0, node="w1", life=2, born=7, text="run", size=3):
    """The entry of a task."""
    return ("task", name, born, 40, (5, text, size, state, stop, node, life, ""))


class TestRuns(unittest.TestCase):
    def test_none(self):
        runs = Runs()
        self.assertEqual((runs.slots(), runs.born_of("a/0")), ([], 0))
        runs.end("a/0")
        runs.end_all()
        self.assertEqual(runs.slots(), [])

    def test_several(self):
        runs = Runs()
        for slot, born in (("b/0", 5), ("a/1", 7), ("a/10", 6), ("a/1", 8)):
            runs.begin(slot, born)
        self.assertEqual(runs.slots(), ["a/1", "a/10", "b/0"])
        self.assertEqual([runs.born_of(slot) for slot in ("a/1", "a/10", "b/0", "b/1")], [8, 6, 5, 0])
        runs.end("a/1")
        runs.end("c/0")
        self.assertEqual((runs.slots(), runs.born_of("a/1")), (["a/10", "b/0"], 0))
        runs.slots().clear()
        self.assertEqual(runs.slots(), ["a/10", "b/0"])
        runs.end_all()
        self.assertEqual((runs.slots(), runs.born_of("b/0")), ([], 0))
        runs.begin("b/0", 9)
        self.assertEqual((runs.slots(), runs.born_of("b/0")), (["b/0"], 9))


class TestTasksOf(unittest.TestCase):
    def test_nodes_and_lives(self):
        entries = [made("b/0"), made("a/10"), made("a/1", life=1), made("a/2", life=3), made("a/3", node="w11"),
                   made("a/4", node=""), made("a/0")]
        before = list(entries)
        self.assertEqual(tasks_of(entries, "w1", 2), [made("a/0")[1:], made("a/10")[1:], made("b/0")[1:]])
        self.assertEqual(tasks_of(entries, "w1", 3), [made("a/2", life=3)[1:]])
        self.assertEqual(tasks_of(entries, "w2", 2), [])
        self.assertEqual(entries, before)
        tasks_of(entries, "w1", 2).clear()
        self.assertEqual(len(tasks_of(entries, "w1", 2)), 3)

    def test_states_and_other_kinds(self):
        entries = [made(state + "/0", state) for state in ("new", "bound", "running", "ended")]
        others = [("node", "w1", 1, 2, (9, 0, 2, 0, "")), ("drain", "w1", 1, 2, ("",)), ("beat", "w1", 1, 2, (2, 0)),
                  ("note", "w1", 1, 2, ("", "", "", 0)), ("service", "w1", 1, 2, (1, "", 1, 1, "")),
                  ("rollout", "w1", 1, 2, (5, ()))]
        self.assertEqual([task[0] for task in tasks_of(others + entries, "w1", 2)], ["bound/0", "ended/0", "new/0", "running/0"])
        self.assertEqual(tasks_of([], "w1", 2), [])


def several():
    """A task in each state and with each stop, by name."""
    return tasks_of([made(state + "/" + str(stop), state, stop, born=10 * at + stop, text=state, size=at)
                     for at, state in enumerate(("new", "bound", "running", "ended")) for stop in (0, 1)]
                    + [made("z/0", born=90), made("y/0", "bound", born=91), made("x/0", "running", 1, born=92)], "w1", 2)


class TestToRun(unittest.TestCase):
    def test_states_and_stops(self):
        tasks = several()
        before = list(tasks)
        self.assertEqual(to_run(tasks, Runs(), []), [("running/0", 20, "running", 2), ("z/0", 90, "run", 3)])
        self.assertEqual(tasks, before)

    def test_slots_that_run(self):
        runs = Runs()
        runs.begin("z/0", 90)
        self.assertEqual(to_run(several(), runs, []), [("running/0", 20, "running", 2)])
        # Also if another task runs in the slot.
        runs.begin("running/0", 19)
        self.assertEqual(to_run(several(), runs, []), [])
        self.assertEqual(runs.slots(), ["running/0", "z/0"])
        runs.end("z/0")
        self.assertEqual(to_run(several(), runs, []), [("z/0", 90, "run", 3)])

    def test_confirmed_ends(self):
        confirmed = [20, 91]
        self.assertEqual(to_run(several(), Runs(), confirmed), [("z/0", 90, "run", 3)])
        self.assertEqual(confirmed, [20, 91])
        self.assertEqual(to_run(several(), Runs(), [90, 20]), [])

    def test_the_order_is_that_of_the_tasks(self):
        tasks = [made("b/0")[1:], made("a/0")[1:]]
        self.assertEqual([found[0] for found in to_run(tasks, Runs(), [])], ["b/0", "a/0"])


class TestNext(unittest.TestCase):
    def test_starts(self):
        tasks = several()
        self.assertEqual(next_start(tasks, []), made("bound/0", "bound", born=10, text="bound", size=1)[1:])
        self.assertEqual(next_start(tasks, ["bound/0", "z/0"])[0], "y/0")
        self.assertIsNone(next_start(tasks, ["bound/0", "y/0"]))
        self.assertEqual(next_start(tasks, ["y/0"])[0], "bound/0")
        self.assertIsNone(next_start([], []))

    def test_ends(self):
        tasks = several()
        self.assertEqual(next_end(tasks, [])[0], "bound/1")
        self.assertEqual(next_end(tasks, ["bound/1"]), made("running/1", stop=1, born=21, text="running", size=2)[1:])
        self.assertEqual(next_end(tasks, ["bound/1", "running/1"])[0], "x/0")
        self.assertIsNone(next_end(tasks, ["bound/1", "running/1", "x/0"]))
        self.assertIsNone(next_end([], []))

    def test_what_was_handed_in_stays(self):
        tasks, held = several(), ["bound/0", "bound/1"]
        next_start(tasks, held)
        next_end(tasks, held)
        self.assertEqual((tasks, held), (several(), ["bound/0", "bound/1"]))


if __name__ == "__main__":
    unittest.main()
