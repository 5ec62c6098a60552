"""Points 3.2, 3.3 and 3.5: ballots, majorities, and the value to propose."""

import itertools
import unittest

from majordomo.ballots import majority, next_ballot, owner
from majordomo.quorum import NOTHING, value_to_propose


class TestMajority(unittest.TestCase):
    def test_counts(self):
        self.assertEqual([majority(count) for count in range(1, 6)], [1, 2, 2, 3, 3])

    def test_two_majorities_share_a_replica_and_no_fewer_do(self):
        for count in range(1, 6):
            self.assertGreater(2 * majority(count), count)
            self.assertLessEqual(2 * (majority(count) - 1), count)


class TestBallots(unittest.TestCase):
    def test_owner(self):
        self.assertEqual([owner(ballot, 3) for ballot in range(8)], [-1, 1, 2, 0, 1, 2, 0, 1])
        for count in range(1, 6):
            self.assertEqual(owner(0, count), -1)
            for ballot in list(range(1, 40)) + [10 ** 30, 10 ** 30 + 1]:
                self.assertEqual(owner(ballot, count), ballot % count)

    def test_next_ballot(self):
        self.assertEqual(next_ballot(4, 1, 3), 7)
        self.assertEqual(next_ballot(0, 0, 1), 1)
        self.assertEqual(next_ballot(0, 0, 3), 3)
        self.assertEqual(next_ballot(0, 1, 3), 1)
        self.assertEqual(next_ballot(0, 2, 3), 2)
        self.assertEqual(next_ballot(2, 2, 3), 5)

    def test_it_is_the_least_one_above(self):
        for count in range(1, 6):
            for index in range(count):
                for above in list(range(60)) + [10 ** 20 + more for more in range(12)]:
                    ballot = next_ballot(above, index, count)
                    own = [other for other in range(above + 1, above + count + 1) if other % count == index]
                    self.assertEqual([ballot], own)
                    self.assertEqual(owner(ballot, count), index)


class TestValueToPropose(unittest.TestCase):
    def test_nothing(self):
        self.assertEqual(NOTHING, ("nothing",))
        self.assertEqual(value_to_propose([]), ("nothing",))

    def test_the_greatest_ballot(self):
        pairs = [(4, ("a",)), (7, ("b",)), (0, ("c",))]
        for order in itertools.permutations(pairs):
            self.assertEqual(value_to_propose(list(order)), ("b",))

    def test_one_pair(self):
        self.assertEqual(value_to_propose([(0, ("a",))]), ("a",))
        self.assertEqual(value_to_propose([(10 ** 20, ("a", 1))]), ("a", 1))

    def test_the_first_of_several_with_the_greatest_ballot(self):
        self.assertEqual(value_to_propose([(3, ("z",)), (5, ("m",)), (5, ("a",)), (5, ("x",)), (1, ("b",))]), ("m",))
        self.assertEqual(value_to_propose([(0, ("b",)), (0, ("a",))]), ("b",))

    def test_the_list_stays_as_it_was(self):
        pairs = [(4, ("a",)), (7, ("b",)), (0, ("c",))]
        value_to_propose(pairs)
        self.assertEqual(pairs, [(4, ("a",)), (7, ("b",)), (0, ("c",))])


if __name__ == "__main__":
    unittest.main()
