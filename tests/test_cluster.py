"""Points 0.2 and 10.12, and what the document promises over the whole program, with all actors at work."""

import random
import unittest

from tests.cluster import Cluster, StoreHost, available_numbers, wanted_tasks
from tests.groups import DurableHost, PlainHost

DECLARED = (
    "declare a count 3 text x size 2 gone 1",
    'declare b count 4 text "y z" size 1 gone 2',
    "declare c count 2 text v size 1 gone 1 zone z",
)
NOTES = (
    "note k1 owner service a text why",
    "note k2 owner task b/1",
    "note k3 owner node w1 text what",
    "note f1 text that",
)


class TestRage(unittest.TestCase):
    """Letters are lost, repeated, delayed and reordered, actors fall, and clocks drift; then all is well again."""

    def rage(self, host, count, seeds, steps, dead=()):
        stopped = lost = runs = notes = 0
        for seed in seeds:
            with self.subTest(seed):
                cluster = Cluster(self, random.Random(seed), host, count)
                cluster.command(*DECLARED, *NOTES)
                cluster.rage(steps)
                for name in dead:
                    cluster.kill(name)
                view = cluster.calm()
                for name in dead:
                    self.assertEqual(cluster.engines[name].runs, {})
                    self.assertNotIn(name, [entry[2][5] for key, entry in view.items() if key[0] == "task"])
                stopped += cluster.history.stopped_by_rollouts
                lost += cluster.history.lost
                notes += cluster.history.deleted_notes
                runs += len(cluster.history.ran)
        return runs, stopped, lost, notes

    def test_over_one_store(self):
        runs, stopped, lost, notes = self.rage(StoreHost, 1, range(10), 30000)
        self.assertGreater(runs, 200)
        self.assertGreater(min(stopped, lost, notes), 10)

    def test_over_replicas(self):
        runs, stopped, lost, _ = self.rage(PlainHost, 3, range(100, 106), 30000)
        self.assertGreater(runs, 50)
        self.assertGreater(min(stopped, lost), 3)

    def test_over_five_replicas(self):
        self.rage(PlainHost, 5, range(200, 202), 10000)

    def test_over_replicas_on_disks(self):
        runs, _, _, _ = self.rage(DurableHost, 3, range(300, 304), 30000)
        self.assertGreater(runs, 40)

    def test_over_one_replica_on_a_disk(self):
        self.rage(DurableHost, 1, range(400, 402), 10000)

    def test_a_worker_that_is_down_for_good(self):
        for dead in (("w1",), ("w2", "w3")):
            self.rage(StoreHost, 1, range(500, 504), 6000, dead)
        self.rage(PlainHost, 3, range(600, 602), 6000, ("w2",))


class TestDrift(unittest.TestCase):
    """An engine that is cut off runs its tasks as long as it is fed, and nobody else runs them meanwhile (8.26)."""

    def drift(self, feed, wait, seed):
        """Cut off a worker whose clock is slow; at each moment it is checked that no slot runs twice."""
        cluster = Cluster(self, random.Random(seed), StoreHost, 1, feed=feed, wait=wait)
        cluster.command("declare a count 6 text x")
        cluster.calm()
        self.assertEqual(len(cluster.engines["w2"].runs), 2)
        cluster.alone = ["w2"]
        cluster.drift("w2", 100 * feed + 2000)
        view = cluster.history.views[-1]
        self.assertEqual((view[("node", "w2")][2][3], cluster.engines["w2"].runs), (1, {}))
        self.assertEqual(cluster.history.lost, 1)
        self.assertEqual(len(available_numbers(view, "a")), 6)
        # It is heard again, and begins another life.
        cluster.alone = []
        cluster.calm()
        cluster.command("scale a 8")
        view = cluster.calm()
        self.assertEqual(view[("node", "w2")][2][1:4], (2, 2, 0))

    def test_the_least_wait_is_long_enough(self):
        for feed in (4, 12, 30):
            for seed in range(4):
                self.drift(feed, None, seed)

    def test_a_shorter_one_is_not(self):
        with self.assertRaises(AssertionError):
            for seed in range(4):
                self.drift(30, 20, seed)


class TestCalm(unittest.TestCase):
    """Nothing fails."""

    def cluster(self, *lines, seed=1, host=StoreHost, count=1, **more):
        cluster = Cluster(self, random.Random(seed), host, count, **more)
        cluster.command(*lines)
        return cluster, cluster.calm()

    def placed(self, view, name):
        return sorted(value[5] for value in wanted_tasks(view, name).values())

    def test_what_is_declared_runs(self):
        for host, count in ((StoreHost, 1), (PlainHost, 3), (DurableHost, 3), (PlainHost, 1), (PlainHost, 2)):
            cluster, view = self.cluster(*DECLARED, host=host, count=count)
            self.assertEqual(available_numbers(view, "a"), [0, 1, 2])
            self.assertEqual(available_numbers(view, "b"), [0, 1, 2, 3])
            self.assertEqual(self.placed(view, "c"), ["w3", "w3"])
            # The tasks of one service are spread over the nodes.
            self.assertEqual(self.placed(view, "a"), ["w1", "w2", "w3"])

    def test_scale_and_remove(self):
        cluster, _ = self.cluster(*DECLARED)
        for lines, counts in ((("scale a 1", "scale b 6"), (1, 6)), (("scale a 0", "scale b 2"), (0, 2)),
                              (("declare a count 2", "scale b 0"), (2, 0))):
            cluster.command(*lines)
            view = cluster.calm()
            for name, count in zip("ab", counts):
                self.assertEqual(available_numbers(view, name), list(range(count)))
        cluster.command(*NOTES)
        view = cluster.calm()
        self.assertEqual([name for kind, name in sorted(view) if kind == "note"], ["f1", "k1", "k3"])
        cluster.command("remove a", "remove b", "remove c")
        view = cluster.calm()
        # The notes of what is gone are gone; the one of the node and the one without an owner stay.
        left = [key for key in sorted(view) if key[0] not in ("node", "beat")]
        self.assertEqual(left, [("note", "f1"), ("note", "k3")])
        self.assertEqual([engine.runs for engine in cluster.engines.values()], [{}, {}, {}])

    def test_rollouts_within_their_gone(self):
        for gone in (1, 2, 3):
            for change in ("text new", "size 2", "zone z"):
                for seed in (1, 2):
                    cluster, _ = self.cluster("declare a count 5 text x gone " + str(gone), seed=seed, sizes=(9, 9, 20))
                    cluster.history.floors["a"] = 5 - gone
                    cluster.command("declare a " + change)
                    view = cluster.calm()
                    self.assertEqual(available_numbers(view, "a"), [0, 1, 2, 3, 4])
                    stopped = cluster.history.stopped_by_rollouts
                    self.assertEqual(stopped, 5)
                    self.assertEqual(view[("rollout", "a")][2][1], ())

    def test_drains(self):
        cluster, view = self.cluster("declare a count 6 text x gone 2", "declare b count 3 text y gone 1")
        cluster.history.floors.update({"a": 4, "b": 2})
        for node in ("w1", "w2"):
            cluster.command("drain " + node + " because repair")
            view = cluster.calm()
            self.assertNotIn(node, self.placed(view, "a") + self.placed(view, "b"))
            cluster.command("undrain " + node)
        view = cluster.calm()
        self.assertEqual((len(available_numbers(view, "a")), len(available_numbers(view, "b"))), (6, 3))

    def test_as_far_as_they_fit(self):
        cluster, view = self.cluster("declare a count 9 text x size 2", "declare b count 3 text y size 7")
        self.assertEqual(len(available_numbers(view, "a")), 9)
        self.assertEqual(available_numbers(view, "b"), [])
        # The rollout waits while a slot of the service finds no room.
        cluster.command("scale a 9", "declare a text new size 3")
        view = cluster.calm()
        waiting = [value for value in wanted_tasks(view, "a").values() if value[3] == "new"]
        self.assertTrue(waiting)
        self.assertTrue([value for value in wanted_tasks(view, "a").values() if value[1] == "x"])
        cluster.command("scale a 6")
        view = cluster.calm()
        self.assertEqual([value[1] for value in wanted_tasks(view, "a").values()], ["new"] * 6)
        self.assertEqual(len(available_numbers(view, "a")), 6)

    def test_a_node_that_is_lost(self):
        for host, count in ((StoreHost, 1), (PlainHost, 3)):
            cluster, view = self.cluster("declare a count 6 text x gone 1", host=host, count=count)
            self.assertEqual(self.placed(view, "a"), ["w1", "w1", "w2", "w2", "w3", "w3"])
            cluster.kill("w2")
            view = cluster.calm()
            self.assertEqual(self.placed(view, "a"), ["w1", "w1", "w1", "w3", "w3", "w3"])
            self.assertEqual((view[("node", "w2")][2][1], view[("node", "w2")][2][3]), (0, 1))
            cluster.dead = []
            cluster.start("w2")
            cluster.command("scale a 8")
            view = cluster.calm()
            self.assertEqual((view[("node", "w2")][2][1:4], self.placed(view, "a").count("w2")), ((2, 2, 0), 2))

    def test_a_worker_that_starts_again_at_once(self):
        cluster, view = self.cluster("declare a count 6 text x gone 1")
        for _ in range(3):
            cluster.start("w2")
            view = cluster.calm()
            self.assertEqual(len(available_numbers(view, "a")), 6)
        self.assertEqual(view[("node", "w2")][2][2:4], (4, 0))

    def test_without_managers_or_schedulers_nothing_runs(self):
        cluster = Cluster(self, random.Random(1), StoreHost, 1, schedulers=0)
        cluster.command(*DECLARED)
        for _ in range(100):
            cluster.round()
        view = cluster.history.views[-1]
        self.assertEqual({entry[2][3] for key, entry in view.items() if key[0] == "task"}, {"new"})
        self.assertEqual(len(wanted_tasks(view, "b")), 4)


if __name__ == "__main__":
    unittest.main()
