"""Points 8.1 to 8.3: views, conditions, and how tasks stand to their services."""

import copy
import unittest

from majordomo.conditions import conditions
from majordomo.wanted import is_available, is_current, is_drained, is_wanted
from tests.views import drain, service, task, view_of

ALL = (is_wanted, is_current, is_available, is_drained)


class TestConditions(unittest.TestCase):
    VIEW = view_of(service(), task(0), drain(), service(name="a"), ("beat", "z", 1, 9, (1, 1)))

    def test_objects_that_are_there_and_that_are_not(self):
        self.assertEqual(conditions(self.VIEW, [("service", "web")]), (("service", "web", 6),))
        self.assertEqual(conditions(self.VIEW, [("service", "x")]), (("service", "x", 0),))
        self.assertEqual(conditions(self.VIEW, []), ())
        self.assertEqual(conditions({}, [("task", "web/0")]), (("task", "web/0", 0),))

    def test_they_are_in_ascending_order_each_once(self):
        keys = [("task", "web/1"), ("service", "web"), ("task", "web/0"), ("drain", "n1"), ("service", "web"),
                ("service", "a"), ("task", "web/1"), ("beat", "z"), ("service", "we"), ("service", "web1")]
        self.assertEqual(conditions(self.VIEW, keys), (
            ("beat", "z", 9), ("drain", "n1", 50), ("service", "a", 6), ("service", "we", 0), ("service", "web", 6),
            ("service", "web1", 0), ("task", "web/0", 30), ("task", "web/1", 0)))

    def test_the_revision_is_told_not_the_born(self):
        self.assertEqual(conditions(view_of(("drain", "a", 3, 4, ("",))), [("drain", "a")]), (("drain", "a", 4),))

    def test_the_arguments_are_not_changed(self):
        keys = [("task", "web/0"), ("drain", "n1"), ("task", "web/0")]
        view = copy.deepcopy(self.VIEW)
        conditions(view, keys)
        self.assertEqual(keys, [("task", "web/0"), ("drain", "n1"), ("task", "web/0")])
        self.assertEqual(view, self.VIEW)


class TestWanted(unittest.TestCase):
    def check(self, found, *objects, slot="web/1"):
        view = view_of(*objects)
        before = copy.deepcopy(view)
        self.assertEqual([look(view, slot) for look in ALL], found)
        for look in ALL:
            self.assertIs(type(look(view, slot)), bool)
        self.assertEqual(view, before)

    def test_a_slot_without_a_task(self):
        self.check([False] * 4)
        self.check([False] * 4, service(9), drain(), drain(""))
        self.check([False] * 4, service(9), drain(), task(1), slot="web/2")

    def test_names_that_are_no_slot_names(self):
        for slot in ("web", "web/", "web/10", "/1", ""):
            self.check([False] * 4, service(9), task(1), slot=slot)
            self.check([False] * 4, service(9), ("task", slot) + task(1)[2:], slot=slot)

    def test_a_task_without_a_service(self):
        self.check([False] * 4, task(1))
        self.check([False, False, False, True], task(1), drain())

    def test_a_service_that_was_born_again(self):
        for born in (4, 6, 0):
            self.check([False] * 4, service(9), task(1, service_born=born))
        self.check([False, False, False, True], service(9, born=6), task(1), drain())
        self.check([True, True, True, False], service(9, born=6), task(1, service_born=6))

    def test_the_revision_of_the_service_does_not_count(self):
        self.check([True, True, True, False], service(9, revision=99), task(1))

    def test_numbers_below_at_and_above_the_count(self):
        for count, found in ((0, False), (1, False), (2, True), (9, True)):
            self.check([found, found, found, False], service(count), task(1))
        self.check([True, True, True, False], service(1), task(0), slot="web/0")
        self.check([True, True, True, False], service(9), task(8), slot="web/8")
        self.check([False] * 4, service(9), task(9), slot="web/9")

    def test_names_that_begin_alike(self):
        self.check([False] * 4, service(9, name="web1"), service(9, name="we"), task(1))
        self.check([False] * 4, service(9), task(1, name="web1"), slot="web1/1")
        self.check([True, True, True, False], service(9, name="web1"), task(1, name="web1"), slot="web1/1")

    def test_another_text_size_or_zone(self):
        for other in (task(1, text="walk"), task(1, size=2), task(1, zone="east"), task(1, text="")):
            self.check([True, False, True, False], service(), other)
        self.check([True, True, True, False], service(text="walk", size=7, zone="east"),
                   task(1, text="walk", size=7, zone="east"))
        # How many may be gone at a time is no part of a task.
        self.check([True, True, True, False], service(gone=9), task(1))

    def test_each_state_and_stop(self):
        for state in ("new", "bound", "running", "ended"):
            for stop in (0, 1):
                available = state == "running" and stop == 0
                drained = state in ("bound", "running")
                self.check([True, True, available, False], service(), task(1, state, stop))
                self.check([True, True, available, drained], service(), task(1, state, stop), drain())

    def test_drains_of_other_nodes(self):
        self.check([True, True, True, False], service(), task(1, node="n2"), drain("n1"), drain("n"), drain("n22"))
        self.check([True, True, True, True], service(), task(1, node="n2"), drain("n2"))
        self.check([True, True, True, False], service(), task(1), ("node", "n1", 1, 1, (1, 1, 1, 1, "")))

    def test_a_task_that_is_not_wanted_may_be_drained(self):
        self.check([False, False, False, True], service(1), task(1, "bound", 1), drain())


if __name__ == "__main__":
    unittest.main()
