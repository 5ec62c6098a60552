"""Points 10.5, 10.6 and 8.26: feeding, beats that are due, and how long a manager waits."""

import unittest

from majordomo.lease import beat_due, feed_left, safe_wait


class TestFeedLeft(unittest.TestCase):
    def test_what_is_left(self):
        self.assertEqual([feed_left(5, 7, now) for now in range(7, 15)], [5, 4, 3, 2, 1, 0, 0, 0])
        self.assertEqual([feed_left(1, 0, now) for now in range(4)], [1, 0, 0, 0])
        self.assertEqual([feed_left(2, 10, now) for now in range(10, 14)], [2, 1, 0, 0])
        self.assertEqual(feed_left(50, 100, 100), 50)
        self.assertEqual(feed_left(50, 100, 149), 1)
        self.assertEqual(feed_left(50, 100, 150), 0)
        self.assertEqual(feed_left(50, 100, 1000), 0)


class TestBeatDue(unittest.TestCase):
    def test_the_first_tick_at_which_it_is_due(self):
        firsts = {1: 1, 2: 1, 3: 1, 4: 1, 5: 1, 6: 2, 7: 2, 8: 2, 9: 3, 10: 3, 11: 3, 12: 4, 49: 16, 50: 16, 51: 17}
        for feed, first in firsts.items():
            for asked in (0, 1, 20):
                found = [beat_due(feed, asked, asked + passed) for passed in range(first + 3)]
                self.assertEqual(found, [False] * first + [True] * 3, feed)
                self.assertTrue(all(type(due) is bool for due in found))


class TestSafeWait(unittest.TestCase):
    def test_waits(self):
        self.assertEqual([safe_wait(feed) for feed in (1, 2, 3, 4, 50, 1000)], [14, 16, 18, 20, 112, 2012])


if __name__ == "__main__":
    unittest.main()
