"""Points 8.6 to 8.9: which tasks of a service are replaced."""

import copy
import random
import unittest

from majordomo.objects import check_transaction
from majordomo.rollout import next_open, open_numbers, rollout_need
from majordomo.services import service_need
from tests.views import drain, rollout, service, store_view, store_with, task, view_of


def old(number, state="running", stop=0, **more):
    """A task with another text than that of the service."""
    return task(number, state, stop, text="walk", **more)


class TestOpenNumbers(unittest.TestCase):
    def test_without_a_service_or_a_rollout(self):
        for objects in ((), (rollout(1, 2),), (service(),), (service(), rollout(1, name="web1")),
                        (service(name="web1"), rollout(1))):
            self.assertEqual(open_numbers(view_of(*objects), "web"), ())

    def test_the_born_of_the_service(self):
        for born in (4, 6, 7, 0):
            self.assertEqual(open_numbers(view_of(service(), rollout(1, 2, service_born=born)), "web"), ())
        self.assertEqual(open_numbers(view_of(service(), rollout(1, 2)), "web"), (1, 2))
        self.assertEqual(open_numbers(view_of(service(), rollout()), "web"), ())

    def test_numbers_at_the_count_and_above(self):
        self.assertEqual(open_numbers(view_of(service(2), rollout(0, 1, 2, 9)), "web"), (0, 1, 2, 9))


class TestNextOpen(unittest.TestCase):
    def check(self, found, *objects):
        view = view_of(*objects)
        before = copy.deepcopy(view)
        self.assertEqual(next_open(view, "web"), found)
        self.assertIs(type(next_open(view, "web")), tuple)
        self.assertEqual(view, before)

    def test_without_a_service(self):
        self.check(())
        self.check((), rollout(1), old(0), old(1))
        self.check((), service(name="we"), old(0))

    def test_nothing_to_do(self):
        self.check((), service(2), task(0), task(1))
        self.check((), service(2))

    def test_open_numbers_are_kept_until_they_are_settled(self):
        for made in (task(0, "new"), task(0, "bound"), task(0, stop=1), task(0, "ended"), old(0), old(0, "new"),
                     old(0, "bound"), task(0, service_born=4), old(0, stop=1)):
            self.check((0,), service(2), made, task(1), rollout(0))
        self.check((0,), service(2), task(1), rollout(0))
        self.check((0,), service(2), task(0), task(1), drain(), rollout(0))
        self.check((), service(2), task(0), task(1), rollout(0))
        self.check((), service(2), task(0), task(1), drain("n2"), rollout(0, 1))

    def test_numbers_of_another_rollout_are_not_kept(self):
        self.check((), service(2), task(1), rollout(0, service_born=4))

    def test_open_numbers_at_the_count_and_above(self):
        self.check((1,), service(2), task(0), rollout(1, 2, 3, 9))
        self.check((), service(0), rollout(0, 1))

    def test_each_stale_task(self):
        for made in (old(1), task(1, size=4), task(1, zone="east"), old(1, "bound"), old(1, stop=1)):
            self.check((1,), service(2), task(0), made)
        for state in ("bound", "running"):
            self.check((1,), service(2), task(0), task(1, state, node="n2"), drain("n2"))

    def test_tasks_that_are_not_stale(self):
        for made in (task(1), task(1, "bound"), old(1, "new"), old(1, "ended"), old(1, service_born=4),
                     task(1, "new"), task(1, stop=1)):
            self.check((), service(2), task(0), made)
        self.check((), service(1), task(0), old(1))

    def test_candidates_in_descending_order(self):
        tasks = [old(number) for number in range(5)]
        for gone, found in ((1, (4,)), (2, (3, 4)), (4, (1, 2, 3, 4)), (5, (0, 1, 2, 3, 4)), (9, (0, 1, 2, 3, 4))):
            self.check(found, service(5, gone=gone), *tasks)

    def test_candidates_that_are_down_come_first(self):
        tasks = [old(0, "bound"), old(1), old(2, stop=1), old(3)]
        for gone, found in ((1, (2,)), (2, (0, 2)), (3, (0, 2, 3)), (4, (0, 1, 2, 3))):
            self.check(found, service(4, gone=gone), *tasks)

    def test_others_that_are_down_count(self):
        # 0 is down, but no candidate: it has no task, or one that is not stale.
        for down in ((), (task(0, "new"),), (task(0, "bound"),), (task(0, service_born=4),), (task(0, stop=1),)):
            for gone, found in ((1, ()), (2, (2,)), (3, (1, 2))):
                self.check(found, service(3, gone=gone), *down, old(1), old(2))

    def test_candidates_that_are_down_do_not_wait_for_others_that_are_down(self):
        # 0 and 1 have no tasks.
        self.check((2,), service(4, gone=1), old(2, "bound"), task(3))
        self.check((2, 3), service(4, gone=2), old(2, "bound"), old(3, "bound"))

    def test_kept_numbers_count(self):
        tasks = [old(1), old(2), old(3)]
        for gone, found in ((1, (0,)), (2, (0, 3)), (3, (0, 2, 3))):
            self.check(found, service(4, gone=gone), task(0, "new"), *tasks, rollout(0))
        # More numbers than gone are kept if the service now allows fewer.
        self.check((1, 2), service(4, gone=1), task(0), *tasks[:2], old(3), rollout(1, 2))

    def test_a_kept_number_that_is_not_down_counts_once(self):
        self.check((0, 3), service(4, gone=2), old(0), old(1), old(2), old(3), rollout(0))

    def test_chosen_and_down_are_counted_each_once(self):
        # 3 is chosen and down; together with 0, which is down, there are two.
        self.check((3,), service(4, gone=2), old(1), old(2), old(3, "bound"))
        self.check((2, 3), service(4, gone=3), old(1), old(2), old(3, "bound"))

    def test_a_settled_number_may_be_opened_again(self):
        self.check((1,), service(2), task(0), old(1), rollout(0))


class TestNeed(unittest.TestCase):
    def need(self, *objects):
        view = view_of(*objects)
        before = copy.deepcopy(view)
        found = rollout_need(view, "web")
        self.assertEqual(view, before)
        if found is not None:
            check_transaction(found)
        return found

    def test_without_a_service(self):
        self.assertIsNone(self.need())
        self.assertIsNone(self.need(rollout(1), old(1)))

    def test_nothing_to_do(self):
        self.assertIsNone(self.need(service(2), task(0), task(1)))
        self.assertIsNone(self.need(service(2), task(0), task(1), rollout()))
        self.assertIsNone(self.need(service(2), task(0), task(1, "new"), rollout(1)))

    def test_the_put_of_the_rollout(self):
        self.assertEqual(self.need(service(3, gone=2), old(0), old(2), task(3)), (
            (("rollout", "web", 0), ("service", "web", 6), ("task", "web/0", 30), ("task", "web/1", 0),
             ("task", "web/2", 32)),
            (("rollout", "web", (5, (2,))),), ()))
        self.assertEqual(self.need(service(1, gone=2), task(0), rollout(0, 1)), (
            (("rollout", "web", 8), ("service", "web", 6), ("task", "web/0", 30)), (("rollout", "web", (5, ())),), ()))
        self.assertEqual(self.need(service(0), rollout(0)), (
            (("rollout", "web", 8), ("service", "web", 6)), (("rollout", "web", (5, ())),), ()))

    def test_the_conditions_of_nine_numbers(self):
        found = self.need(service(9, gone=9), *[old(number) for number in range(9)])
        self.assertEqual(len(found[0]), 11)
        self.assertEqual(found[1], (("rollout", "web", (5, tuple(range(9)))),))

    def test_a_rollout_of_a_service_that_is_gone(self):
        # The numbers of the old service are not open; the new rollout takes its place.
        self.assertEqual(self.need(service(1), old(0), rollout(0, service_born=4)), (
            (("rollout", "web", 8), ("service", "web", 6), ("task", "web/0", 30)),
            (("rollout", "web", (5, (0,))),), ()))
        self.assertIsNone(self.need(service(1), task(0), rollout(0, service_born=4)))

    def test_the_stop_of_an_open_task(self):
        for state in ("bound", "running"):
            made = old(1, state, node="n7", size=4, zone="east", life=9)
            self.assertEqual(self.need(service(2), task(0), made, rollout(1)), (
                (("rollout", "web", 8), ("service", "web", 6), ("task", "web/1", 31)),
                (("task", "web/1", (5, "walk", 4, state, 1, "n7", 9, "east")),), ()))

    def test_the_lowest_open_number_first(self):
        tasks = [old(0), old(1), old(2), old(3)]
        self.assertEqual(self.need(service(4, gone=2), *tasks, rollout(1, 3))[1][0][:2], ("task", "web/1"))
        stopping = [old(0), old(1, stop=1), old(2), old(3)]
        self.assertEqual(self.need(service(4, gone=2), *stopping, rollout(1, 3))[1][0][:2], ("task", "web/3"))
        self.assertIsNone(self.need(service(4, gone=2), old(0), old(1, stop=1), old(2), old(3, "ended"), rollout(1, 3)))
        self.assertIsNone(self.need(service(4, gone=2), old(0), old(1, stop=1), old(2), rollout(1, 3)))

    def test_a_drained_task(self):
        made = task(1, node="n2")
        value = (5, "run", 1, "running", 1, "n2", 3, "")
        self.assertEqual(self.need(service(2), task(0), made, drain("n2"), rollout(1)), (
            (("drain", "n2", 50), ("rollout", "web", 8), ("service", "web", 6), ("task", "web/1", 31)),
            (("task", "web/1", value),), ()))

    def test_a_drained_task_that_is_not_current(self):
        self.assertEqual(self.need(service(2), task(0, "new"), old(1), drain(), rollout(0, 1))[0],
                         (("rollout", "web", 8), ("service", "web", 6), ("task", "web/1", 31)))
        # Beside it, the drain is the only reason for the current task.
        self.assertEqual(self.need(service(2), task(0), old(1), drain(), rollout(0, 1))[0],
                         (("drain", "n1", 50), ("rollout", "web", 8), ("service", "web", 6), ("task", "web/0", 30)))


def counted(view, name):
    """The next open numbers in the words of the document, with sets; None if there is no service."""
    born, _, (count, text, size, gone, zone) = view[("service", name)]
    stale, settled, down = set(), set(), set()
    for number in range(count):
        entry = view.get(("task", f"{name}/{number}"))
        wanted = entry is not None and entry[2][0] == born
        value = entry[2] if wanted else (0, "", 0, "none", 1, "", 0, "")
        current = wanted and (value[1], value[2], value[7]) == (text, size, zone)
        available = wanted and value[3] == "running" and value[4] == 0
        drained = value[3] in ("bound", "running") and ("drain", value[5]) in view
        if wanted and value[3] in ("bound", "running") and (not current or drained):
            stale.add(number)
        if current and available and not drained:
            settled.add(number)
        if not available:
            down.add(number)
    entry = view.get(("rollout", name))
    is_open = set(entry[2][1]) if entry is not None and entry[2][0] == born else set()
    chosen = {number for number in is_open if number < count} - settled
    rest = stale - chosen
    for number in sorted(rest & down, reverse=True) + sorted(rest - down, reverse=True):
        if len(chosen) < gone and (number in down or len(chosen | down) < gone):
            chosen.add(number)
    return tuple(sorted(chosen))


class TestRandomly(unittest.TestCase):
    def any_view(self, chance):
        count = chance.randrange(10)
        objects = [service(count, gone=chance.randrange(1, 10))]
        for number in range(10):
            if chance.random() < 0.85:
                make = chance.choice((task, old))
                objects.append(make(number, chance.choice(("new", "bound", "running", "running", "running", "ended")),
                                    chance.choice((0, 0, 1)), node=chance.choice(("n1", "n2")),
                                    service_born=chance.choice((5, 5, 5, 4))))
        if chance.random() < 0.7:
            numbers = [number for number in range(10) if chance.random() < 0.3]
            objects.append(rollout(*numbers, service_born=chance.choice((5, 5, 4))))
        if chance.random() < 0.3:
            objects.append(drain())
        return view_of(*objects)

    def test_against_the_words_of_the_document(self):
        chance = random.Random(8)
        for _ in range(3000):
            view = self.any_view(chance)
            self.assertEqual(next_open(view, "web"), counted(view, "web"))
            need = rollout_need(view, "web")
            if next_open(view, "web") != open_numbers(view, "web"):
                self.assertEqual(need[1], (("rollout", "web", (5, next_open(view, "web"))),))
            elif need is not None:
                self.assertEqual((need[1][0][0], need[1][0][2][4]), ("task", 1))
                self.assertIn(int(need[1][0][1][-1]), open_numbers(view, "web"))

    def test_a_rollout_replaces_all_tasks_a_few_at_a_time(self):
        for seed in range(20):
            self.run_rollout(random.Random(seed))

    def run_rollout(self, chance):
        count, gone = chance.randrange(1, 10), chance.randrange(1, 5)
        store = store_with(("service", "web", (count, "walk", 1, gone, "")))
        for number in range(count):
            store.apply(((), (("task", f"web/{number}", (1, "walk", 1, "running", 0, "n1", 3, "")),), ()))
        store.apply(((), (("service", "web", (count, "run", 1, gone, "")),), ()))
        for _ in range(400):
            need = service_need(store_view(store), "web")
            tasks = [(key[1], entry[2]) for key, entry in store_view(store).items() if key[0] == "task"]
            moving = [(slot, value) for slot, value in tasks if value[3] != "running" or value[4] == 1]
            if need is not None and (not moving or chance.random() < 0.5):
                self.assertEqual(store.apply(need)[0], "done")
            elif moving:
                slot, value = chance.choice(moving)
                state = "ended" if value[4] == 1 else {"new": "bound", "bound": "running"}.get(value[3], value[3])
                store.apply(((), (("task", slot, value[:3] + (state,) + value[4:]),), ()))
            running = [1 for key, entry in store_view(store).items()
                       if key[0] == "task" and entry[2][3] == "running" and entry[2][4] == 0]
            self.assertGreaterEqual(len(running), count - gone)
        self.assertIsNone(service_need(store_view(store), "web"))
        self.assertEqual([entry[4][:5] for entry in store.entries() if entry[0] == "task"],
                         [(1, "run", 1, "running", 0)] * count)
        self.assertEqual(store.entry("rollout", "web")[2], (1, ()))


if __name__ == "__main__":
    unittest.main()
