"""Points 8.20 to 8.25: nodes that are silent, and tasks that are stranded on lost ones."""

import copy
import unittest

from majordomo.nodes import NodeWatch, stranded
from majordomo.objects import check_transaction
from tests.views import beat, drain, node, note, service, task, view_of


def seen(wait, *views):
    """A watch that was shown some views, one at each tick, and what it returned."""
    watch = NodeWatch(wait)
    return watch, [watch.tick(view) for view in views]


class TestClock(unittest.TestCase):
    def test_fields(self):
        watch = NodeWatch(7)
        self.assertEqual((watch.wait, watch.clock), (7, 0))
        for at in range(1, 4):
            self.assertEqual(watch.tick({}), [])
            self.assertEqual((watch.wait, watch.clock), (7, at))

    def test_asking_lets_no_time_pass(self):
        view = view_of(node(), beat())
        watch, _ = seen(2, view, view)
        for _ in range(5):
            self.assertIs(watch.silent(view, "n1"), False)
            self.assertIsNone(watch.need(view, "n1"))
        self.assertEqual(watch.clock, 2)


class TestSilent(unittest.TestCase):
    def first_silent(self, wait, *views):
        """The number of the tick from which on the node is silent, or 0."""
        watch = NodeWatch(wait)
        found = []
        for view in views:
            before = copy.deepcopy(view)
            names = watch.tick(view)
            found.append(watch.silent(view, "n1"))
            self.assertEqual(names, ["n1"] if found[-1] else [])
            self.assertEqual(view, before)
        self.assertEqual(sorted(found), found)
        return found.index(True) + 1 if True in found else 0

    def test_a_beat_that_stays(self):
        view = view_of(node(), beat())
        for wait in (1, 2, 5, 40):
            # Seen at the first tick, and silent when the clock is greater by more than the wait.
            self.assertEqual(self.first_silent(wait, *[view] * 50), wait + 2)

    def test_other_objects_with_the_name_of_the_beat(self):
        for others in ((beat(), node(), drain(), service(name="n1"), note("n1")),
                       (drain(), service(name="n1"), note("n1"), node(), beat())):
            self.assertEqual(self.first_silent(2, *[view_of(*others)] * 6), 4)
            views = [view_of(node(revision=90 + at), *[other for other in others if other[0] != "node"])
                     for at in range(6)]
            self.assertEqual(self.first_silent(2, *views), 4)
            views = [view_of(beat(revision=90 + at), *[other for other in others if other[0] != "beat"])
                     for at in range(6)]
            self.assertEqual(self.first_silent(2, *views), 0)

    def test_a_beat_that_comes_later(self):
        view = view_of(node(), beat())
        self.assertEqual(self.first_silent(2, {}, view_of(node()), view_of(beat("n2")), *[view] * 9), 7)

    def test_a_beat_that_changes(self):
        views = [view_of(node(), beat(revision=80 + at)) for at in range(10)]
        self.assertEqual(self.first_silent(1, *views), 0)
        self.assertEqual(self.first_silent(1, *[view for view in views for _ in "ab"]), 0)
        self.assertEqual(self.first_silent(2, *[view for view in views for _ in "abc"]), 0)
        self.assertEqual(self.first_silent(1, *[views[at] for at in (0, 0, 1, 1, 2, 2, 2, 2)]), 7)
        old, new = views[:2]
        self.assertEqual(self.first_silent(3, old, old, old, old, new, new, new, new, new, new), 9)
        # It is the revision that counts, also if it is less or the value stays.
        self.assertEqual(self.first_silent(3, new, new, new, new, old, old, old, old, old), 9)

    def test_a_beat_with_another_value_and_the_same_revision(self):
        views = [view_of(node(), beat(count=at)) for at in range(6)]
        self.assertEqual(self.first_silent(2, *views), 4)

    def test_a_beat_that_is_gone_and_comes_back(self):
        view = view_of(node(), beat())
        self.assertEqual(self.first_silent(2, view, view, view, {}, view, view, view, view), 8)
        self.assertEqual(self.first_silent(2, view, view, view, view_of(node()), view, view, view), 0)

    def test_a_node_that_is_gone_for_a_while(self):
        view = view_of(node(), beat())
        self.assertEqual(self.first_silent(3, view, view_of(beat()), view_of(beat()), view_of(beat()), view), 5)

    def test_a_node_without_a_beat(self):
        self.assertEqual(self.first_silent(1, *[view_of(node(), beat("n2"))] * 6), 0)

    def test_a_beat_without_a_node(self):
        self.assertEqual(self.first_silent(1, *[view_of(node("n2"), beat())] * 6), 0)

    def test_a_node_that_is_lost_already(self):
        self.assertEqual(self.first_silent(1, *[view_of(node(lost=1), beat())] * 6), 0)

    def test_a_beat_of_another_life(self):
        for life in (0, 2, 4):
            self.assertEqual(self.first_silent(1, *[view_of(node(life=3), beat(life=life))] * 6), 0)
        self.assertEqual(self.first_silent(1, *[view_of(node(life=0), beat(life=0))] * 6), 3)

    def test_a_life_that_begins_while_its_beat_is_noted(self):
        other = view_of(node(life=4), beat(life=3))
        self.assertEqual(self.first_silent(2, other, other, other, view_of(node(life=4), beat(life=4))), 4)

    def test_a_view_that_was_not_shown(self):
        view = view_of(node(), beat())
        watch, _ = seen(1, view, view, view)
        self.assertIs(watch.silent(view, "n1"), True)
        self.assertIs(watch.silent(view_of(node(), beat(revision=81)), "n1"), False)
        self.assertIs(watch.silent(view_of(node(lost=1), beat()), "n1"), False)
        self.assertIs(watch.silent(view_of(node(life=4), beat()), "n1"), False)
        self.assertIs(watch.silent(view_of(node()), "n1"), False)
        self.assertIs(watch.silent(view_of(beat()), "n1"), False)
        self.assertIs(watch.silent(view, "n2"), False)
        self.assertIs(watch.silent({}, "n1"), False)
        self.assertIs(NodeWatch(1).silent(view, "n1"), False)

    def test_several_nodes(self):
        views = [view_of(node("b"), beat("b", revision=90 + at // 5), node("a"), beat("a"), node("ab"),
                         beat("ab", revision=70 + at), node("c", lost=1), beat("c")) for at in range(10)]
        watch, found = seen(2, *views)
        self.assertEqual(found, [[], [], [], ["a", "b"], ["a", "b"], ["a"], ["a"], ["a"], ["a", "b"], ["a", "b"]])


class TestStranded(unittest.TestCase):
    def check(self, names, *objects):
        view = view_of(*objects)
        before = copy.deepcopy(view)
        found = stranded(view, "n1")
        self.assertEqual(found, names)
        found.append("other")
        self.assertEqual(stranded(view, "n1"), names)
        self.assertEqual(view, before)

    def test_states(self):
        tasks = [task(0, "new"), task(1, "bound"), task(2, "running"), task(3, "ended")]
        self.check(["web/1", "web/2"], node(life=4), *tasks)
        self.check(["web/1", "web/2"], node(life=3, lost=1), *tasks)
        self.check([], node(life=3), *tasks)

    def test_tasks_that_are_to_stop(self):
        self.check(["web/1", "web/2"], node(life=4), task(1, "bound", stop=1), task(2, "running", stop=1))

    def test_lives(self):
        tasks = [task(at, life=at) for at in range(7)]
        self.check(["web/0", "web/1", "web/2"], node(life=3), *tasks)
        self.check(["web/0", "web/1", "web/2", "web/3"], node(life=3, lost=1), *tasks)

    def test_nodes(self):
        tasks = [task(0), task(1, node="n2"), task(2, node="n11"), task(3, node=""), task(4)]
        self.check(["web/0", "web/4"], node(life=4), node("n2", life=4), *tasks)
        self.check([], node("n2", life=4), *tasks)
        self.check([], *tasks)
        self.assertEqual(stranded({}, "n1"), [])
        self.assertEqual(stranded(view_of(*tasks), ""), [])

    def test_the_order(self):
        self.check(["a/3", "ab/0", "web/0", "web/2"], node(life=4), task(2), task(0, name="ab"), task(0), task(3, name="a"))

    def test_other_objects_do_not_count(self):
        self.check(["web/1"], node(life=4), service(), drain(), note("n1"), beat(), task(1))


class TestNeed(unittest.TestCase):
    def need(self, *objects, ticks=0, name="n1", wait=1):
        view = view_of(*objects)
        watch, _ = seen(wait, *[view] * ticks)
        before = copy.deepcopy(view)
        found = watch.need(view, name)
        self.assertEqual(view, before)
        if found is not None:
            check_transaction(found)
        # A name that needs something is one that a tick returns.
        watch.clock -= 1
        self.assertEqual(name in watch.tick(view), found is not None)
        return found

    def test_a_silent_node(self):
        objects = (node(zone="z"), beat())
        self.assertIsNone(self.need(*objects, ticks=2))
        for ticks in (3, 4, 9):
            self.assertEqual(self.need(*objects, ticks=ticks), (
                (("beat", "n1", 80), ("node", "n1", 70)),
                (("beat", "n1", (3, 4)), ("node", "n1", (9, 2, 3, 1, "z"))), ()))

    def test_a_silent_node_comes_before_its_stranded_tasks(self):
        objects = (node(), beat(), task(1, life=2))
        lost = ((("beat", "n1", 80), ("node", "n1", 70)), (("beat", "n1", (3, 4)), ("node", "n1", (9, 2, 3, 1, ""))), ())
        self.assertEqual(self.need(*objects, ticks=2)[0], (("node", "n1", 70), ("task", "web/1", 31)))
        self.assertEqual(self.need(*objects, ticks=3), lost)

    def test_a_stranded_task(self):
        self.assertEqual(self.need(node(life=4, zone="z"), task(1, stop=1, size=2, zone="z")), (
            (("node", "n1", 70), ("task", "web/1", 31)),
            (("node", "n1", (9, 0, 4, 0, "z")), ("task", "web/1", (5, "run", 2, "ended", 1, "n1", 3, "z"))), ()))
        self.assertEqual(self.need(node(lost=1, used=7), task(1, "bound")), (
            (("node", "n1", 70), ("task", "web/1", 31)),
            (("node", "n1", (9, 6, 3, 1, "")), ("task", "web/1", (5, "run", 1, "ended", 0, "n1", 3, ""))), ()))

    def test_what_is_left_of_used(self):
        for used, size, left in ((5, 2, 3), (5, 5, 0), (5, 6, 0), (0, 3, 0), (0, 0, 0), (3, 0, 3)):
            found = self.need(node(life=4, used=used), task(1, size=size))
            self.assertEqual(found[1][0], ("node", "n1", (9, left, 4, 0, "")))

    def test_the_first_of_several_tasks(self):
        objects = (node(life=4), task(3), task(2), task(1, "ended"), task(0, life=4), task(9, name="wea"))
        self.assertEqual(self.need(*objects)[1][1][1], "wea/9")
        self.assertEqual(self.need(*objects[:-1])[1][1][1], "web/2")

    def test_nothing(self):
        self.assertIsNone(self.need())
        self.assertIsNone(self.need(node(), beat(), task(1)))
        self.assertIsNone(self.need(node(lost=1), beat(), task(1, "ended"), ticks=9))
        self.assertIsNone(self.need(node(life=4), task(1), name="n2"))
        self.assertIsNone(self.need(beat(), task(1, life=0), ticks=9))
        # The task of another node that is lost.
        self.assertIsNone(self.need(node(), node("n2", life=4), task(1, node="n2")))

    def test_several_nodes(self):
        view = view_of(node("c", life=4), task(1, node="c"), node("a"), beat("a"), node("b"), beat("b"), node("d", life=1),
                       task(2, node="d"), beat("d"), task(4, node="d", life=0))
        watch, found = seen(1, view, view, view)
        self.assertEqual(found, [["c", "d"], ["c", "d"], ["a", "b", "c", "d"]])
        watch.tick(view).clear()
        self.assertEqual(watch.tick(view), ["a", "b", "c", "d"])

    def test_the_example_of_the_document(self):
        watch = NodeWatch(1)
        view = {("node", "w1"): (1, 4, (9, 2, 1, 0, "")), ("beat", "w1"): (1, 6, (1, 5))}
        self.assertEqual([watch.tick(view) for _ in range(3)], [[], [], ["w1"]])
        self.assertEqual(watch.need(view, "w1"), (
            (("beat", "w1", 6), ("node", "w1", 4)), (("beat", "w1", (1, 5)), ("node", "w1", (9, 2, 1, 1, ""))), ()))


if __name__ == "__main__":
    unittest.main()
