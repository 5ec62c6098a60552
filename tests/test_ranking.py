"""Point 9.4: the choice among nodes."""

import itertools
import unittest

from majordomo.ranking import choose_node, same_service


def node(size=9, used=2, life=3, lost=0, zone=""):
    return (size, used, life, lost, zone)


def task(size=1, zone=""):
    return (5, "run", size, "new", 0, "", 0, zone)


def placed(name, state="running", node_name="n1", born=5, stop=0, life=3):
    return ("task", name, 1, 2, (born, "run", 1, state, stop, node_name, life, ""))


class TestSameService(unittest.TestCase):
    def test_states(self):
        entries = [placed(state + "/" + str(stop), state, stop=stop)
                   for state in ("new", "bound", "running", "ended") for stop in (0, 1)]
        self.assertEqual(same_service(entries, "n1", 5), 4)
        self.assertEqual(same_service(entries[2:3], "n1", 5), 1)
        self.assertEqual(same_service(entries[4:5], "n1", 5), 1)

    def test_nodes_and_services(self):
        entries = [placed("a/0"), placed("a/1", node_name="n2"), placed("a/2", born=6), placed("a/3", life=1),
                   placed("b/0"), placed("b/1", node_name="n11")]
        before = list(entries)
        self.assertEqual(same_service(entries, "n1", 5), 3)
        self.assertEqual(same_service(entries, "n2", 5), 1)
        self.assertEqual(same_service(entries, "n1", 6), 1)
        self.assertEqual(same_service(entries, "n2", 6), 0)
        self.assertEqual(same_service(entries, "n3", 5), 0)
        self.assertEqual(same_service([], "n1", 5), 0)
        self.assertEqual(entries, before)

    def test_other_kinds(self):
        entries = [("beat", "n1", 1, 1, (1, 2)), ("drain", "n1", 1, 1, ("",)), ("node", "n1", 1, 1, node()),
                   ("service", "a", 1, 1, (1, "", 1, 1, ""))]
        self.assertEqual(same_service(entries, "n1", 5), 0)


class TestChoice(unittest.TestCase):
    def check(self, name, nodes, found_task=None):
        for several in itertools.permutations(nodes):
            several = list(several)
            self.assertEqual(choose_node(found_task or task(), several), name)
            self.assertEqual(sorted(several), sorted(nodes))

    def test_no_node(self):
        self.check("", [])
        self.check("", [("a", node(lost=1), False, 0, 0), ("b", node(life=0), False, 0, 0), ("c", node(), True, 0, 0),
                        ("d", node(), False, 7, 0)])
        self.check("", [("a", node(zone="y"), False, 0, 0), ("b", node(), False, 0, 0)], task(zone="z"))
        self.check("", [("a", node(), False, 0, 0)], task(size=8))

    def test_one_node(self):
        self.check("a", [("a", node(), False, 6, 9)])

    def test_the_fewest_of_the_same_service(self):
        self.check("c", [("a", node(), False, 0, 2), ("b", node(2, 1), False, 0, 1), ("c", node(), False, 0, 0)])

    def test_the_least_that_is_left(self):
        self.check("b", [("a", node(9, 2), False, 0, 1), ("b", node(5, 1), False, 2, 1), ("c", node(4, 1), False, 0, 1),
                         ("d", node(1, 0), False, 0, 2)])
        # Sizes count that are assumed.
        self.check("c", [("a", node(9, 2), False, 0, 0), ("b", node(9, 2), False, 5, 0), ("c", node(9, 2), False, 6, 0),
                         ("d", node(9, 2), False, 7, 0)])

    def test_names_decide_ties(self):
        self.check("a", [(name, node(), False, 0, 1) for name in ("b", "a", "aa")])
        self.check("a10", [(name, node(), False, 0, 1) for name in ("a9", "a2", "a10")])
        self.check("0", [(name, node(), False, 0, 1) for name in ("a", "0", "z")])

    def test_ties_in_one_of_them_only(self):
        self.check("b", [("a", node(9, 1), False, 0, 1), ("b", node(9, 2), False, 0, 1), ("c", node(9, 2), False, 0, 1)])
        self.check("b", [("a", node(9, 2), False, 0, 1), ("b", node(9, 2), False, 0, 0), ("c", node(9, 2), False, 0, 0)])

    def test_the_better_node_does_not_fit(self):
        self.check("c", [("a", node(lost=1), False, 0, 0), ("b", node(), True, 0, 0), ("c", node(), False, 0, 7),
                         ("d", node(2, 2), False, 0, 0), ("e", node(life=0), False, 0, 0)])
        self.check("b", [("a", node(), False, 0, 0), ("b", node(zone="z"), False, 0, 3)], task(zone="z"))

    def test_exactly_enough(self):
        self.check("a", [("a", node(9, 2), False, 0, 0), ("b", node(9, 1), False, 0, 0)], task(size=7))
        self.check("a", [("a", node(2, 2), False, 0, 0)], task(size=0))


if __name__ == "__main__":
    unittest.main()
