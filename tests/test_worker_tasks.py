"""Points 10.7 to 10.10: what a worker runs, starts and ends, and runs that end by themselves."""

import unittest

from tests.clients import ask, asked, changes, one_asked, tell, tick, whole
from tests.workers import Clerk, enrolled, is_beat, made, own_beat, own_node, own_task, show


def run(number, text="run", size=1):
    return ("run", "web/" + str(number), text, size)


def stop(number):
    return ("stop", "web/" + str(number))


def end_of(number, used, *, node_revision=91, task_revision, state_life=1, size=1, text="run"):
    """The transaction that ends a task, when the node has this much left in use."""
    return ((("node", "w1", node_revision), ("task", "web/" + str(number), task_revision)),
            (("node", "w1", (9, used, state_life, 0, "")),
             ("task", "web/" + str(number), (5, text, size, "ended", 1, "w1", state_life, ""))), ())


def start_of(number, task_revision):
    return ((("task", "web/" + str(number), task_revision),),
            (("task", "web/" + str(number), (5, "run", 1, "running", 0, "w1", 1, "")),), ())


class TestRuns(unittest.TestCase):
    def test_states_and_stops(self):
        for state in ("new", "bound", "running", "ended"):
            for stopping in (0, 1):
                worker = enrolled(12)
                effects = show(worker, own_task(0, state, stopping))
                self.assertEqual(effects, [run(0)] if (state, stopping) == ("running", 0) else [], (state, stopping))

    def test_nodes_and_lives(self):
        worker = enrolled(12)
        others = [own_task(0, life=0), own_task(1, life=2), own_task(2, life=3)]
        self.assertEqual(show(worker, *others), [])
        self.assertEqual(changes(worker, 92, (((("task", "web/5", (5, "run", 1, "running", 0, "w11", 1, "")),)), ())), [])
        self.assertEqual(changes(worker, 93, (((("task", "web/5", (5, "run", 1, "running", 0, "w1", 1, "")),)), ())), [run(5)])

    def test_several_in_ascending_order(self):
        worker = enrolled(12)
        tasks = [own_task(7, text="b c", size=4), own_task(0), own_task(3, name="a"), own_task(3)]
        self.assertEqual(show(worker, *tasks), [("run", "a/3", "run", 1), run(0), run(3), run(7, "b c", 4)])
        self.assertEqual(worker.runs.slots(), ["a/3", "web/0", "web/3", "web/7"])
        self.assertEqual([worker.runs.born_of(slot) for slot in ("a/3", "web/7")], [92, 92])
        # They run already.
        self.assertEqual(show(worker, own_task(0)), [])
        self.assertEqual([effect[0] for effect in tick(worker)], ["send"])

    def test_without_feed(self):
        worker = enrolled(4)
        # The beat of the second tick is not answered, and so the engine is fed until the fifth one.
        tick(worker, 3)
        self.assertEqual((worker.clock, worker.fed_until), (4, 5))
        self.assertEqual(show(worker, own_task(0)), [run(0)])
        self.assertEqual([effect for effect in tick(worker) if effect[0] != "send"], [])
        self.assertEqual((worker.clock, worker.fed_until, worker.runs.slots()), (5, 5, []))
        self.assertEqual(show(worker, own_task(1)), [])
        self.assertEqual([effect for effect in tick(worker) if effect[0] != "send"], [])
        self.assertEqual(worker.runs.slots(), [])

    def test_without_a_life(self):
        worker = enrolled(12)
        tick(worker, 4)
        tell(worker, ("w1.1", 2), ("no", 0))
        self.assertEqual(worker.life, 0)
        self.assertEqual(show(worker, own_task(0), own_task(1, life=0), own_task(2, life=2)), [])
        # In the next life only what was bound to it is run.
        self.assertEqual(tell(worker, ("w1.1", 3), ("done", 95)), [("feed", 12), run(2)])

    def test_a_task_that_is_gone_runs_on(self):
        worker = enrolled(12, own_task(0))
        self.assertEqual(show(worker, deletes=(("task", "web/0"),)), [])
        self.assertEqual(worker.runs.slots(), ["web/0"])

    def test_another_task_in_a_slot_that_runs(self):
        worker = enrolled(12, own_task(0))
        show(worker, deletes=(("task", "web/0"),))
        self.assertEqual(show(worker, own_task(0)), [])
        self.assertEqual(worker.runs.born_of("web/0"), 92)


class TestStarts(unittest.TestCase):
    def test_a_start(self):
        worker = enrolled(12, own_task(0, "bound"))
        self.assertEqual(tick(worker)[1:], [ask("w1.1", 2, start_of(0, 92))])
        self.assertEqual(worker.runs.slots(), [])
        self.assertEqual(tell(worker, ("w1.1", 2), ("done", 95)), [run(0)])
        self.assertEqual(worker.runs.born_of("web/0"), 92)

    def test_which_tasks(self):
        for state in ("new", "running", "ended"):
            worker = enrolled(12, own_task(0, state))
            self.assertEqual(asked(tick(worker)), [])
        for life in (0, 2):
            worker = enrolled(12, own_task(0, "bound", life=life))
            self.assertEqual(asked(tick(worker)), [])

    def test_several_in_ascending_order(self):
        worker = enrolled(12, own_task(4, "bound"), own_task(0, "bound"), own_task(2, "bound", name="a"))
        found = []
        effects = tick(worker)
        for number in range(2, 5):
            found.append(one_asked(effects)[1][0][1])
            effects = tell(worker, ("w1.1", number), ("done", 100 + number))
            self.assertEqual(effects[0][:2], ("run", found[-1]))
        self.assertEqual(found, ["a/2", "web/0", "web/4"])
        self.assertEqual(len(effects), 1)

    def test_a_start_that_was_done_while_the_cache_shows_the_task_bound(self):
        worker = enrolled(30, own_task(0, "bound"))
        tick(worker)
        tell(worker, ("w1.1", 2), ("done", 95))
        for _ in range(5):
            self.assertEqual([effect for effect in tick(worker) if effect[2][0] != "since"], [])
        # It is put again as a bound task, and the cache is newer now.
        self.assertEqual(show(worker, own_task(0, "bound")), [])
        self.assertEqual(asked(tick(worker)), [])
        self.assertEqual(worker.runs.slots(), ["web/0"])
        self.assertEqual(show(worker, own_task(0)), [])

    def test_a_task_that_was_started_and_is_ended_in_the_cache(self):
        worker = enrolled(30, own_task(0, "bound"))
        tick(worker)
        tell(worker, ("w1.1", 2), ("done", 95))
        worker.handle(("ended", "web/0"))
        self.assertEqual(show(worker, own_task(0, "ended")), [])
        self.assertEqual(Clerk(worker).pass_ticks(5), [])

    def test_it_is_run_again_though_the_cache_shows_it_bound(self):
        worker = enrolled(30, own_task(0, "bound"))
        tick(worker)
        tell(worker, ("w1.1", 2), ("done", 95))
        self.assertEqual(worker.handle(("ended", "web/0")), [])
        self.assertEqual([effect for effect in tick(worker) if effect[0] != "send"], [run(0)])

    def test_another_task_in_the_slot_is_started_for_itself(self):
        worker = enrolled(30, own_task(0, "bound"))
        tick(worker)
        tell(worker, ("w1.1", 2), ("done", 95))
        worker.handle(("ended", "web/0"))
        show(worker, deletes=(("task", "web/0"),))
        show(worker, own_task(0, "bound"))
        effects = tick(worker)
        self.assertEqual(one_asked(effects), start_of(0, 94))
        self.assertEqual([effect for effect in effects if effect[0] != "send"], [])

    def test_a_start_without_feed(self):
        worker = enrolled(30, own_task(0, "bound"))
        tick(worker)
        worker.fed_until = 2
        # It is done, but it is not run before the engine is fed.
        self.assertEqual(tell(worker, ("w1.1", 2), ("done", 95)), [])
        self.assertEqual(Clerk(worker).pass_ticks(10), [run(0)])


class TestEnds(unittest.TestCase):
    def test_a_task_that_runs(self):
        worker = enrolled(12, own_node(used=3), own_task(0, size=2))
        self.assertEqual(worker.runs.slots(), ["web/0"])
        self.assertEqual(show(worker, own_task(0, stop=1, size=2)), [])
        self.assertEqual(worker.runs.slots(), ["web/0"])
        self.assertEqual(tick(worker)[1:], [stop(0), ask("w1.1", 2, end_of(0, 1, node_revision=92, task_revision=94, size=2))])
        self.assertEqual(worker.runs.slots(), [])
        self.assertEqual(tell(worker, ("w1.1", 2), ("no", 0)), [])

    def test_a_task_that_does_not_run(self):
        for state in ("bound", "running"):
            worker = enrolled(12, own_node(used=3), own_task(0, state, stop=1))
            self.assertEqual(tick(worker)[1:], [ask("w1.1", 2, end_of(0, 2, node_revision=92, task_revision=93))])

    def test_which_tasks(self):
        for state in ("new", "ended"):
            worker = enrolled(12, own_task(0, state, stop=1))
            self.assertEqual(asked(tick(worker)), [])
        for life in (0, 2):
            worker = enrolled(12, own_task(0, stop=1, life=life))
            self.assertEqual(asked(tick(worker)), [])
        worker = enrolled(12)
        changes(worker, 91, ((("task", "web/5", (5, "run", 1, "running", 1, "w2", 1, "")),), ()))
        self.assertEqual(asked(tick(worker)), [])

    def test_ends_come_before_starts_in_ascending_order(self):
        worker = enrolled(40, own_node(used=9), own_task(2), own_task(6), own_task(0, "bound"), own_task(6, stop=1),
                          own_task(2, stop=1), own_task(4, "bound", stop=1), own_task(1, "bound"), own_task(3))
        effects = tick(worker)
        found = []
        clerk = Clerk(worker)
        for number in (2, 4, 6, 0, 1):
            found.append([effect[0] if effect[0] != "send" else effect[2][0] for effect in effects])
            name = one_asked(effects)[1][-1][1]
            self.assertEqual(name, "web/" + str(number))
            state = one_asked(effects)[1][-1][2]
            change = (("task", name, state),)
            changes(worker, worker.follower.cache.revision, (change, ()))
            effects = clerk.answer()
        self.assertEqual(found, [["since", "stop", "ask"], ["ask"], ["stop", "ask"], ["ask"], ["ask"]])
        self.assertEqual(effects, [])
        self.assertEqual(worker.runs.slots(), ["web/0", "web/1", "web/3"])

    def test_an_end_that_was_begun_is_not_run_again(self):
        for answer in (("done", 99), ("no", 1), ("old",)):
            worker = enrolled(40, own_task(0), own_node(used=5))
            show(worker, own_task(0, stop=1))
            tick(worker)
            self.assertEqual(worker.runs.slots(), [])
            tell(worker, ("w1.1", 2), answer)
            # Even if the stop were taken back, it would not run again in this life.
            self.assertEqual(show(worker, own_task(0)), [])
            self.assertNotIn("run", [effect[0] for effect in Clerk(worker).pass_ticks(6)])

    def test_another_task_in_the_slot_of_an_end(self):
        worker = enrolled(40, own_task(0), own_node(used=5))
        show(worker, own_task(0, stop=1))
        tick(worker)
        show(worker, deletes=(("task", "web/0"),))
        self.assertEqual(show(worker, own_task(0)), [run(0)])

    def test_the_next_life_begins_with_nothing_confirmed(self):
        worker = enrolled(12, own_task(0), own_node(used=5))
        show(worker, own_task(0, stop=1))
        self.assertEqual(tick(worker)[1], stop(0))
        tell(worker, ("w1.1", 2), ("no", 0))
        tick(worker, 3)
        tell(worker, ("w1.1", 3), ("no", 0))
        # A task keeps its born, so this one is the same; it is bound to the new life now.
        show(worker, own_task(0, life=2))
        self.assertEqual(tell(worker, ("w1.1", 4), ("done", 99)), [("feed", 12), run(0)])

    def test_an_end_that_was_done_while_the_cache_shows_the_task(self):
        worker = enrolled(40, own_node(used=5), own_task(0))
        show(worker, own_task(0, stop=1))
        transaction = end_of(0, 4, node_revision=92, task_revision=94)
        self.assertEqual(one_asked(tick(worker)), transaction)
        # It is sent again at once, and then it is refused.
        self.assertEqual(tell(worker, ("w1.1", 2), ("done", 95)), [ask("w1.1", 3, transaction)])
        self.assertEqual(tell(worker, ("w1.1", 3), ("no", 0)), [])
        self.assertEqual([one_asked(tick(worker)) for _ in range(4)], [None] * 3 + [transaction])
        show(worker, own_node(used=4), own_task(0, "ended", stop=1))
        self.assertEqual(tell(worker, ("w1.1", 4), ("no", 0)), [])

    def test_a_start_that_is_under_way_when_the_task_is_stopped(self):
        worker = enrolled(40, own_task(0, "bound"), own_node(used=5))
        tick(worker)
        show(worker, own_task(0, "bound", stop=1))
        # The start is done in the store after all; the end is sent at once, and the slot is never run.
        effects = tell(worker, ("w1.1", 2), ("done", 95))
        self.assertEqual(effects, [ask("w1.1", 3, end_of(0, 4, node_revision=93, task_revision=94))])

    def test_a_task_that_was_started_is_ended_though_the_cache_shows_it_bound(self):
        worker = enrolled(40, own_task(0, "bound"), own_node(used=5))
        tick(worker)
        self.assertEqual(tell(worker, ("w1.1", 2), ("done", 95)), [run(0)])
        show(worker, own_task(0, "bound", stop=1))
        self.assertEqual(tick(worker)[1:], [stop(0), ask("w1.1", 3, end_of(0, 4, node_revision=93, task_revision=94))])


class TestHeld(unittest.TestCase):
    def held(self, stopping, answer, late=0):
        """A worker whose start or end was refused."""
        worker = enrolled(50, own_node(used=5), own_task(0, "bound", stopping))
        self.assertEqual(len(asked(tick(worker))), 1)
        if late:
            tick(worker, late)
        self.assertEqual(tell(worker, ("w1.1", 2), answer), [])
        return worker

    def test_the_clock(self):
        for stopping in (0, 1):
            for answer in (("no", 0), ("no", 1), ("old",)):
                for late in (0, 3, 5):
                    worker = self.held(stopping, answer, late)
                    found = [len(asked(tick(worker))) for _ in range(5)]
                    self.assertEqual(found, [0, 0, 0, 1, 0], (stopping, answer, late))

    def test_the_revision(self):
        for stopping in (0, 1):
            worker = self.held(stopping, ("no", 0))
            changes(worker, 93)
            self.assertEqual(asked(tick(worker)), [])
            self.assertEqual(show(worker, own_node(used=6)), [])
            self.assertEqual(len(asked(tick(worker))), 1)

    def test_a_cache_that_was_newer_before_the_answer(self):
        worker = enrolled(50, own_node(used=5), own_task(0, stop=1))
        tick(worker)
        show(worker, own_node(used=7))
        effects = tell(worker, ("w1.1", 2), ("no", 0))
        self.assertEqual(effects, [ask("w1.1", 3, end_of(0, 6, node_revision=94, task_revision=93))])

    def test_neither_of_the_two_is_sent(self):
        worker = enrolled(50, own_node(used=5), own_task(0, "bound"))
        tick(worker)
        show(worker, own_task(1, "bound"))
        self.assertEqual(one_asked(tell(worker, ("w1.1", 2), ("no", 0)))[1][0][1], "web/0")
        # The cache is newer than at the first sending; this one is as new as the cache.
        self.assertEqual(one_asked(tell(worker, ("w1.1", 3), ("no", 0)))[1][0][1], "web/1")
        show(worker, own_task(0, "bound", stop=1))
        # The stop comes by a newer revision, which ends the hold.
        self.assertEqual(one_asked(tell(worker, ("w1.1", 4), ("done", 99)))[1][1][1], "web/0")

    def test_a_held_task_does_not_stop_the_others(self):
        worker = enrolled(50, own_node(used=5))
        show(worker, own_task(0, stop=1), own_task(1, "bound"), own_task(2, stop=1), own_task(3, "bound"))
        found = []
        effects = tick(worker)
        for number in range(2, 6):
            found.append(one_asked(effects)[1][-1][1])
            effects = tell(worker, ("w1.1", number), ("no", 0))
        self.assertEqual(found, ["web/0", "web/2", "web/1", "web/3"])
        self.assertEqual(effects, [])
        # All of them were refused at the same tick.
        self.assertEqual([asked(tick(worker)) for _ in range(3)], [[]] * 3)
        self.assertEqual(one_asked(tick(worker))[1][1][1], "web/0")

    def test_a_held_task_runs_on(self):
        worker = enrolled(50, own_node(used=5), own_task(0))
        show(worker, own_task(0, "bound"))
        self.assertEqual(len(asked(tick(worker))), 1)
        tell(worker, ("w1.1", 2), ("no", 0))
        self.assertEqual(worker.runs.slots(), ["web/0"])

    def test_the_next_life_begins_with_nothing_held(self):
        worker = enrolled(12, own_node(used=5), own_task(0, "bound", life=1), own_task(1, "bound", life=2))
        tick(worker, 3)
        tell(worker, ("w1.1", 2), ("no", 0))
        self.assertTrue(is_beat(tick(worker)[-1]))
        tell(worker, ("w1.1", 3), ("no", 0))
        effects = tell(worker, ("w1.1", 4), ("done", 99))
        self.assertEqual(effects[0], ("feed", 12))
        self.assertEqual(one_asked(effects)[1][0][1], "web/1")
        # The worker enrolled a second time, and the name of the first task is not held.
        self.assertEqual(worker.life, 2)
        tell(worker, ("w1.1", 5), ("no", 0))
        show(worker, own_task(0, "bound", life=2))
        self.assertEqual(one_asked(tick(worker))[1][0][1], "web/0")

    def test_a_hold_of_an_earlier_life_is_forgotten(self):
        worker = enrolled(12, own_node(used=5), own_task(0, "bound"))
        tick(worker)
        tell(worker, ("w1.1", 2), ("no", 0))
        # Still at the same revision of the cache, and within four ticks, the worker is in another life.
        tick(worker, 3)
        tell(worker, ("w1.1", 3), ("no", 0))
        self.assertEqual(worker.clock, 5)
        tell(worker, ("w1.1", 4), ("done", 99))
        whole(worker, 93 + 6, own_node(used=5, life=2), own_beat(2), own_task(0, "bound", life=2))
        self.assertEqual(len(asked(tick(worker))), 1)


class TestRunsThatEnd(unittest.TestCase):
    def runs_again(self, worker, slot="web/0"):
        """The number of ticks until the slot is run again, which just ended by itself."""
        clerk = Clerk(worker)
        for count in range(1, 60):
            effects = clerk.pass_ticks(1)
            if effects:
                self.assertEqual([effect[:2] for effect in effects], [("run", slot)])
                return count
        return None

    def end(self, worker, slot="web/0"):
        self.assertEqual(worker.handle(("ended", slot)), [])
        self.assertNotIn(slot, worker.runs.slots())

    def test_the_waits(self):
        worker = enrolled(50, own_task(0))
        found = []
        for _ in range(7):
            self.end(worker)
            found.append(self.runs_again(worker))
        self.assertEqual(found, [1, 2, 4, 8, 16, 16, 16])

    def test_long_runs(self):
        for lasted, waits in ((1, 8), (31, 8), (32, 1), (33, 1)):
            worker = enrolled(50, own_task(0))
            for expected in (1, 2, 4):
                self.end(worker)
                self.assertEqual(self.runs_again(worker), expected)
            self.assertEqual(Clerk(worker).pass_ticks(lasted), [])
            self.end(worker)
            self.assertEqual(self.runs_again(worker), waits, lasted)
            self.end(worker)
            self.assertEqual(self.runs_again(worker), min(16, 2 * waits))

    def test_a_run_that_ended_with_the_watchdog_counts_from_its_next_begin(self):
        worker = enrolled(50, own_task(0))
        self.end(worker)
        self.assertEqual(self.runs_again(worker), 1)
        clerk = Clerk(worker)
        clerk.pass_ticks(30)
        worker.fed_until = worker.clock + 1
        # The watchdog ends it; then the next beat lets it run again.
        self.assertEqual(clerk.pass_ticks(16), [run(0)])
        self.end(worker)
        self.assertEqual(self.runs_again(worker), 2)

    def test_a_slot_that_does_not_run(self):
        worker = enrolled(50, own_task(0), own_task(1, "bound"))
        for slot in ("web/1", "web/2", "w1"):
            self.assertEqual(worker.handle(("ended", slot)), [])
        self.end(worker)
        self.assertEqual(worker.handle(("ended", "web/0")), [])
        self.assertEqual(worker.handle(("ended", "web/0")), [])
        # The second one was ignored, so it waits one tick and two ticks the next time.
        self.assertEqual([effect for effect in tick(worker) if effect[0] == "run"], [run(0)])
        self.end(worker)
        self.assertEqual([[effect for effect in tick(worker) if effect[0] == "run"] for _ in range(2)], [[], [run(0)]])

    def test_it_waits_at_letters_too(self):
        worker = enrolled(50, own_task(0))
        self.end(worker)
        self.assertEqual(show(worker, own_task(0), own_task(1)), [run(1)])
        self.assertEqual([effect for effect in tick(worker) if effect[0] == "run"], [run(0)])

    def test_slots_wait_for_themselves(self):
        worker = enrolled(50, own_task(0), own_task(1))
        for expected in (1, 2, 4):
            self.end(worker)
            self.assertEqual(self.runs_again(worker), expected)
        self.end(worker, "web/1")
        self.assertEqual(self.runs_again(worker, "web/1"), 1)
        self.end(worker)
        self.assertEqual(self.runs_again(worker), 8)

    def test_several_slots_at_one_tick(self):
        worker = enrolled(50, own_task(2), own_task(0), own_task(1))
        for number in (2, 0, 1):
            self.end(worker, "web/" + str(number))
        self.assertEqual([effect for effect in tick(worker) if effect[0] == "run"], [run(0), run(1), run(2)])

    def test_a_new_life_forgets_the_waits(self):
        worker = enrolled(12, own_task(0))
        clerk = Clerk(worker)
        for expected in (1, 2, 4):
            self.end(worker)
            self.assertEqual(self.runs_again(worker), expected)
        self.end(worker)
        while not is_beat((tick(worker) or [("stop",)])[-1]):
            pass
        clerk.answer(("no", 0))
        show(worker, own_task(0, life=2))
        self.assertEqual(clerk.answer(), [("feed", 12), run(0)])
        self.end(worker)
        self.assertEqual(self.runs_again(worker), 1)

    def test_an_end_that_is_begun_forgets_the_waits(self):
        worker = enrolled(50, own_node(used=5), own_task(0))
        clerk = Clerk(worker)
        for expected in (1, 2, 4):
            self.end(worker)
            self.assertEqual(self.runs_again(worker), expected)
        self.end(worker)
        show(worker, own_task(0, stop=1))
        self.assertEqual([effect[0] for effect in tick(worker)][-1], "send")
        show(worker, deletes=(("task", "web/0"),))
        clerk.answer()
        # Another task in the slot does not wait.
        self.assertEqual(show(worker, own_task(0)), [run(0)])
        self.end(worker)
        self.assertEqual(self.runs_again(worker), 1)

    def test_a_task_whose_end_is_not_begun_keeps_its_waits(self):
        worker = enrolled(50, own_task(0))
        for expected in (1, 2, 4):
            self.end(worker)
            self.assertEqual(self.runs_again(worker), expected)
        self.end(worker)
        show(worker, deletes=(("task", "web/0"),))
        self.assertEqual(show(worker, own_task(0)), [])
        self.assertEqual(self.runs_again(worker), 8)


class TestABootThatIsOver(unittest.TestCase):
    def test_tasks_of_an_older_life_are_left_alone(self):
        worker = made(12, boot=2, running=("web/0", "web/1"))
        self.assertEqual(worker.begin(), [stop(0), stop(1)])
        tasks = (own_task(0), own_task(1, stop=1), own_task(2, "bound"), own_task(3, "bound", stop=1))
        whole(worker, 95, own_node(used=4), own_beat(), *tasks)
        self.assertEqual(one_asked(tick(worker))[1][1], ("node", "w1", (9, 4, 2, 0, "")))
        self.assertEqual(tell(worker, ("w1.2", 1), ("done", 96)), [("feed", 12)])
        self.assertEqual(show(worker, own_node(used=4, life=2), own_beat(2)), [])
        self.assertEqual(Clerk(worker).pass_ticks(12), [])


if __name__ == "__main__":
    unittest.main()
