"""Point 8.26: a node is declared lost only when its engine runs nothing any more, however the clocks drift."""

import random
import unittest

from majordomo.lease import beat_due, feed_left, safe_wait
from majordomo.nodes import NodeWatch
from tests.clocks import Fair
from tests.views import beat, node, view_of

ENGINE = 0
MANAGER = 1


class Drift:
    """An engine that is fed by beats, which a watch sees, and that then loses its letters."""

    def __init__(self, chance, feed, wait):
        self.chance = chance
        self.feed = feed
        self.fair = Fair()
        self.watch = NodeWatch(wait)
        self.clock = 0
        self.fed_until = 0
        self.sent = 0
        self.revision = 80
        self.view = view_of(node(), beat(revision=self.revision))

    def tick_engine(self, is_heard):
        self.fair.tick(ENGINE)
        self.clock += 1
        if is_heard and beat_due(self.feed, self.sent, self.clock):
            self.beat()

    def beat(self):
        """A beat is sent, done and seen; its answer may come later, which does not change how long it feeds."""
        self.sent = self.clock
        self.revision += 1
        self.view = view_of(node(), beat(revision=self.revision))
        now = self.clock + self.chance.randrange(self.feed)
        self.fed_until = max(self.fed_until, now + feed_left(self.feed, self.sent, now))

    def tick_manager(self):
        self.fair.tick(MANAGER)
        return self.watch.tick(self.view)

    def may_tick(self, clock):
        return self.fair.may_tick(clock)


def ticks_too_early(chance, feed, wait, before):
    """How many ticks of its clock the engine may still run when it is declared lost."""
    drift = Drift(chance, feed, wait)
    for _ in range(before):
        clock = chance.choice([clock for clock in (ENGINE, MANAGER) if drift.may_tick(clock)])
        if clock == ENGINE:
            drift.tick_engine(True)
        elif drift.tick_manager():
            return max(0, drift.fed_until - drift.clock)
    drift.beat()
    is_greedy = chance.random() < 0.5
    while True:
        if drift.may_tick(MANAGER) and (is_greedy or not drift.may_tick(ENGINE) or chance.random() < 0.8):
            if drift.tick_manager():
                return max(0, drift.fed_until - drift.clock)
        else:
            drift.tick_engine(False)


class TestDrift(unittest.TestCase):
    def worst(self, feed, wait):
        found = [ticks_too_early(random.Random(seed), feed, wait, seed % 40) for seed in range(120)]
        return max(found)

    def test_the_least_wait_is_safe(self):
        for feed in (1, 2, 3, 4, 7, 12, 50):
            self.assertEqual(self.worst(feed, safe_wait(feed)), 0, feed)
            self.assertEqual(self.worst(feed, safe_wait(feed) + 5), 0, feed)

    def test_a_shorter_wait_would_not_be(self):
        for feed in (4, 7, 12, 50):
            self.assertGreater(self.worst(feed, 2 * feed + 2), 0, feed)
            self.assertGreater(self.worst(feed, feed), feed // 3, feed)

    def test_the_clocks_are_fair(self):
        fair = Fair()
        ticks = []
        chance = random.Random(1)
        for _ in range(300):
            clock = chance.choice([clock for clock in (0, 1) if fair.may_tick(clock)] * (1 + chance.randrange(2)))
            fair.tick(clock)
            ticks.append(clock)
        for begin in range(300):
            for end in range(begin, 301, 7):
                counts = [ticks[begin:end].count(clock) for clock in (0, 1)]
                self.assertLessEqual(max(counts), 2 * min(counts) + 6)


if __name__ == "__main__":
    unittest.main()
