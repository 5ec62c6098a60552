"""Points 4.3, 4.25 and 4.36: groups of replicas whose letters and machines fail."""

import random
import unittest

from tests.groups import DurableHost, Group, PlainHost

RUNS = ((1, 1200, 6), (3, 1500, 10), (5, 1500, 8))


class TestGroups(unittest.TestCase):
    def run_group(self, seed, count, steps, host):
        group = Group(self, random.Random(seed), count, host)
        for _ in range(steps):
            group.step()
        group.check_end(group.finish())
        return group

    def check_groups(self, host):
        for count, steps, seeds in RUNS:
            for seed in range(seeds):
                with self.subTest((count, seed)):
                    group = self.run_group(100 * count + seed, count, steps, host)
                    self.assertGreater(len(group.answers), 3)

    def test_replicas(self):
        self.check_groups(PlainHost)

    def test_durable_replicas(self):
        self.check_groups(DurableHost)

    def test_groups_in_which_nothing_fails(self):
        for host in (PlainHost, DurableHost):
            for count in (1, 2, 3, 4, 5):
                group = Group(self, random.Random(count), count, host)
                for _ in range(10):
                    group.round()
                # The one with the least patience leads, after its 8 ticks.
                self.assertEqual([group.hosts[name].replica.look()[2] for name in group.names],
                                 [True] + [False] * (count - 1))
                for origin in list(group.numbers) * 5:
                    group.ask(origin)
                    group.round()
                group.check_end(group.finish())
                # Each command takes one slot: none of them was lost or proposed twice.
                self.assertEqual(group.hosts["r1"].replica.look()[0], sum(group.numbers.values()))


if __name__ == "__main__":
    unittest.main()
