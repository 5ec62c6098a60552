"""Point 10.10: how long slots wait whose runs ended by themselves."""

import unittest

from majordomo.restarts import Restarts


class TestRestarts(unittest.TestCase):
    def wait(self, restarts, now, slot="a/0"):
        """How long the slot waits from a tick on."""
        for passed in range(40):
            if restarts.is_due(slot, now + passed):
                self.assertTrue(all(restarts.is_due(slot, now + later) for later in range(passed, 40)))
                return passed
        return None

    def test_a_slot_for_which_nothing_is_noted(self):
        restarts = Restarts()
        for now in (0, 1, 100):
            self.assertIs(restarts.is_due("a/0", now), True)
        restarts.forget("a/0")
        self.assertIs(restarts.is_due("a/0", 0), True)

    def test_a_run_that_began_does_not_wait(self):
        restarts = Restarts()
        restarts.begun("a/0", 5)
        for now in (0, 5, 6, 100):
            self.assertIs(restarts.is_due("a/0", now), True)

    def test_the_first_end(self):
        for begun in (None, 0, 5, 9, 10):
            restarts = Restarts()
            if begun is not None:
                restarts.begun("a/0", begun)
            restarts.failed("a/0", 10)
            self.assertIs(restarts.is_due("a/0", 10), False)
            self.assertEqual(self.wait(restarts, 10), 1)

    def test_the_waits(self):
        restarts = Restarts()
        now = 3
        found = []
        for _ in range(7):
            restarts.begun("a/0", now)
            now += 2
            restarts.failed("a/0", now)
            found.append(self.wait(restarts, now))
            now += found[-1]
        self.assertEqual(found, [1, 2, 4, 8, 16, 16, 16])

    def test_long_runs(self):
        for lasted, waits in ((30, 4), (31, 4), (32, 1), (33, 1), (500, 1)):
            restarts = Restarts()
            for begun in (0, 10):
                restarts.begun("a/0", begun)
                restarts.failed("a/0", begun + 1)
            self.assertEqual(self.wait(restarts, 11), 2)
            restarts.begun("a/0", 20)
            restarts.failed("a/0", 20 + lasted)
            self.assertEqual(self.wait(restarts, 20 + lasted), waits, lasted)
            # The next wait is twice the one before.
            restarts.begun("a/0", 900)
            restarts.failed("a/0", 905)
            self.assertEqual(self.wait(restarts, 905), 2 * waits)

    def test_a_long_first_run(self):
        restarts = Restarts()
        restarts.begun("a/0", 0)
        restarts.failed("a/0", 100)
        self.assertEqual(self.wait(restarts, 100), 1)

    def test_a_run_that_began_again_without_an_end(self):
        restarts = Restarts()
        restarts.begun("a/0", 0)
        restarts.failed("a/0", 1)
        restarts.begun("a/0", 2)
        restarts.begun("a/0", 30)
        restarts.failed("a/0", 40)
        self.assertEqual(self.wait(restarts, 40), 2)

    def test_forget(self):
        restarts = Restarts()
        for begun in (0, 10, 20):
            restarts.begun("a/0", begun)
            restarts.failed("a/0", begun + 1)
        restarts.forget("a/0")
        self.assertIs(restarts.is_due("a/0", 21), True)
        restarts.begun("a/0", 21)
        restarts.failed("a/0", 22)
        self.assertEqual(self.wait(restarts, 22), 1)
        restarts.forget("a/0")
        restarts.failed("a/0", 30)
        self.assertEqual(self.wait(restarts, 30), 1)

    def test_slots_wait_for_themselves(self):
        restarts = Restarts()
        for begun in (0, 10, 20):
            for slot in ("a/0", "b/0"):
                restarts.begun(slot, begun)
            restarts.failed("a/0", begun + 1)
        self.assertIs(restarts.is_due("b/0", 21), True)
        restarts.failed("b/0", 23)
        self.assertEqual((self.wait(restarts, 21), self.wait(restarts, 23, "b/0")), (4, 1))
        restarts.forget("a/0")
        self.assertIs(restarts.is_due("b/0", 23), False)


if __name__ == "__main__":
    unittest.main()
