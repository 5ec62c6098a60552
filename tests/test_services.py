"""Points 8.4 and 8.5: what a service name needs next."""

import copy
import unittest

from majordomo.objects import check_transaction
from majordomo.services import service_need
from tests.views import drain, rollout, service, store_view, store_with, task, view_of

# One object for each of the seven lines, in a view with the service web, which has 9 slots and tasks 0 and 1.
ENDED = task(4, "ended")
UNWANTED_NEW = task(9, "new")
UNWANTED_PLACED = task(3, "bound", service_born=4)
OLD_ROLLOUT = rollout(1, service_born=4)
RENEWED = task(2, "new", text="walk")
STALE = task(0, text="walk")


def put(made, value):
    return ((made[0], made[1], value),)


class TestLines(unittest.TestCase):
    def need(self, *objects, name="web"):
        view = view_of(*objects)
        before = copy.deepcopy(view)
        found = service_need(view, name)
        self.assertEqual(view, before)
        if found is not None:
            check_transaction(found)
            self.assertEqual(len(found[1]) + len(found[2]), 1)
        return found

    def test_a_name_that_is_not_known(self):
        self.assertIsNone(self.need())
        self.assertIsNone(self.need(service(), task(9, "ended"), name="we"))
        self.assertIsNone(self.need(service(name="web1"), task(0, "ended", name="web1"), rollout(name="web1")))

    def test_a_service_that_has_what_it_declares(self):
        self.assertIsNone(self.need(service(), task(0), task(1)))
        self.assertIsNone(self.need(service(0)))

    def test_the_example_of_the_document(self):
        view = {("service", "web"): (7, 7, (2, "run", 1, 1, ""))}
        self.assertEqual(service_need(view, "web"), (
            (("service", "web", 7), ("task", "web/0", 0)),
            (("task", "web/0", (7, "run", 1, "new", 0, "", 0, "")),), ()))

    def test_an_ended_task(self):
        for made in (service(9), service(9, born=6), service(0), None):
            objects = [task(5, "ended"), task(7, "ended", 1)] + ([made] if made else [])
            self.assertEqual(self.need(*objects), ((("task", "web/5", 35),), (), (("task", "web/5"),)))

    def test_a_new_task_that_is_not_wanted(self):
        found = ((("service", "web", 6), ("task", "web/2", 32)), (), (("task", "web/2"),))
        self.assertEqual(self.need(service(2), task(2, "new"), task(4, "new")), found)
        self.assertEqual(self.need(service(9), task(2, "new", service_born=4), task(4, "new", 1, service_born=4)), found)
        self.assertEqual(self.need(task(2, "new"), task(3, "bound")),
                         ((("service", "web", 0), ("task", "web/2", 32)), (), (("task", "web/2"),)))

    def test_a_placed_task_that_is_not_wanted(self):
        for state in ("bound", "running"):
            made = task(2, state, text="other", size=8, zone="east", node="n7", life=9)
            value = (5, "other", 8, state, 1, "n7", 9, "east")
            self.assertEqual(self.need(service(2), task(0), task(1), made, task(3)),
                             ((("service", "web", 6), ("task", "web/2", 32)), put(made, value), ()))
            self.assertEqual(self.need(made), ((("service", "web", 0), ("task", "web/2", 32)), put(made, value), ()))
            # One that is to end already is left alone.
            self.assertIsNone(self.need(service(2), task(0), task(1), task(2, state, 1)))
        made = task(0, service_born=4)
        self.assertEqual(self.need(service(2), made, task(1)), (
            (("service", "web", 6), ("task", "web/0", 30)), put(made, (4,) + made[4][1:4] + (1,) + made[4][5:]), ()))

    def test_a_slot_whose_task_belongs_to_another_service_waits(self):
        self.assertIsNone(self.need(service(2), task(0, stop=1, service_born=4), task(1)))

    def test_a_rollout_that_is_not_wanted(self):
        found = ((("rollout", "web", 8), ("service", "web", 6)), (), (("rollout", "web"),))
        for born in (4, 6, 0):
            self.assertEqual(self.need(service(0), rollout(1, service_born=born)), found)
        self.assertEqual(self.need(rollout(), name="web"),
                         ((("rollout", "web", 8), ("service", "web", 0)), (), (("rollout", "web"),)))
        self.assertIsNone(self.need(service(0), rollout()))
        self.assertEqual(self.need(service(0, born=8), rollout(1)), found)

    def test_a_slot_without_a_task(self):
        made = service(3, "go", 4, 2, "east")
        value = (5, "go", 4, "new", 0, "", 0, "east")
        self.assertEqual(self.need(made), (
            (("service", "web", 6), ("task", "web/0", 0)), (("task", "web/0", value),), ()))
        found = ((("service", "web", 6), ("task", "web/1", 0)), (("task", "web/1", value),), ())
        here = [task(number, text="go", size=4, zone="east") for number in (0, 2)]
        self.assertEqual(self.need(made, *here), found)
        self.assertEqual(self.need(made, here[0]), found)
        self.assertEqual(self.need(made, here[0], task(1, name="web1"), task(1, name="we")), found)
        self.assertIsNone(self.need(made, *here, task(1, text="go", size=4, zone="east")))

    def test_the_last_slot(self):
        self.assertEqual(self.need(service(9), *[task(number) for number in range(8)])[1][0][:2], ("task", "web/8"))
        self.assertIsNone(self.need(service(9), *[task(number) for number in range(9)]))

    def test_a_new_task_that_is_not_current(self):
        for other in ({"text": "walk"}, {"size": 9}, {"zone": "east"}):
            for stop in (0, 1):
                made = task(1, "new", stop, **other)
                self.assertEqual(self.need(service(2), task(0), made), (
                    (("service", "web", 6), ("task", "web/1", 31)),
                    put(made, (5, "run", 1, "new", stop, "", 0, "")), ()))
        made = service(3, "go", 4, 2, "west")
        self.assertEqual(self.need(made, task(0, "new"), task(1, "new"), task(2, "new", text="go", size=4, zone="west")),
                         ((("service", "web", 6), ("task", "web/0", 30)),
                          (("task", "web/0", (5, "go", 4, "new", 0, "", 0, "west")),), ()))

    def test_all_else_of_a_new_task_stays(self):
        made = ("task", "web/0", 20, 30, (5, "walk", 1, "new", 1, "n8", 77, "east"))
        self.assertEqual(self.need(service(1), made)[1], put(made, (5, "run", 1, "new", 1, "n8", 77, "")))

    def test_what_the_rollout_needs(self):
        self.assertEqual(self.need(service(1), STALE), (
            (("rollout", "web", 0), ("service", "web", 6), ("task", "web/0", 30)), (("rollout", "web", (5, (0,))),), ()))
        self.assertEqual(self.need(service(1), STALE, rollout(0))[1],
                         put(STALE, (5, "walk", 1, "running", 1, "n1", 3, "")))

    def test_each_line_is_ahead_of_each_later_one(self):
        tasks = [task(number) for number in (1, 5, 6, 7, 8)]
        lines = [ENDED, UNWANTED_NEW, UNWANTED_PLACED, OLD_ROLLOUT, None, RENEWED, STALE]
        found = [("delete", "web/4"), ("delete", "web/9"), ("put", "web/3"), ("delete", "web"), ("put", "web/6"),
                 ("put", "web/2"), ("put", "web")]
        for first in range(7):
            for second in range(first, 7):
                present = {made[:2]: made for made in tasks + [task(0), task(2), task(3), task(4)]}
                for at in sorted({first, second}):
                    if lines[at] is None:
                        del present[("task", "web/6")]
                    else:
                        present[lines[at][:2]] = lines[at]
                need = self.need(service(9), *present.values())
                self.assertEqual(self.what(need), found[first], (first, second))

    def what(self, need):
        word, members = ("put", need[1]) if need[1] else ("delete", need[2])
        return (word, members[0][1])

    def test_all_lines_one_after_the_other(self):
        """A store on which everything that is needed is done, and whose tasks end when they are asked to."""
        value = (3, "run", 1, 2, "east")
        store = store_with(
            ("service", "web", value), ("rollout", "web", (77, (1,))),
            ("task", "web/0", (1, "run", 1, "ended", 0, "n1", 3, "east")),
            ("task", "web/1", (1, "run", 1, "running", 0, "n1", 3, "west")),
            ("task", "web/2", (1, "walk", 1, "new", 1, "", 0, "east")),
            ("task", "web/4", (1, "run", 1, "bound", 0, "n1", 3, "east")),
            ("task", "web/5", (9, "run", 1, "new", 0, "", 0, "east")),
            ("task", "web/6", (9, "run", 1, "running", 1, "n1", 3, "east")))
        done = []
        for _ in range(40):
            need = service_need(store_view(store), "web")
            if need is None:
                slots = [entry for entry in store.entries() if entry[0] == "task" and self.goes_on(entry[4])]
                if not slots:
                    break
                _, slot, _, _, old = slots[0]
                store.apply(((), (("task", slot, old[:3] + (self.goes_on(old),) + old[4:]),), ()))
            else:
                done.append(self.what(need))
                self.assertEqual(store.apply(need)[0], "done")
        self.assertEqual(done[:6], [("delete", "web/0"), ("delete", "web/5"), ("put", "web/4"), ("delete", "web"),
                                    ("put", "web/0"), ("put", "web/2")])
        tasks = [entry for entry in store.entries() if entry[0] == "task"]
        self.assertEqual([entry[1] for entry in tasks], ["web/0", "web/1", "web/2"])
        for entry in tasks:
            self.assertEqual((entry[4][:5], entry[4][7]), ((1, "run", 1, "running", 0), "east"))
        self.assertEqual(store.entry("rollout", "web")[2], (1, ()))

    def goes_on(self, value):
        """The next state of a task, whose worker and scheduler do what they should, or None."""
        if value[4] == 1 and value[3] != "ended":
            return "ended"
        return {"new": "bound", "bound": "running"}.get(value[3])

    def test_a_drain_alone(self):
        self.assertIsNone(self.need(service(1), task(0, "new"), drain()))
        self.assertEqual(self.need(service(1), task(0), drain())[1], (("rollout", "web", (5, (0,))),))


if __name__ == "__main__":
    unittest.main()
