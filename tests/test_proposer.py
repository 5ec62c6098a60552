"""Points 3.17 to 3.23: the proposer."""

import unittest

from majordomo.proposer import Proposer
from majordomo.quorum import NOTHING

A, B, C, D = ("a",), ("b",), ("c",), ("d",)


def leading(index=1, count=3, first=0, rows=()):
    """A proposer that leads in its first ballot, by its own promise and those of the next replicas."""
    proposer = Proposer(index, count)
    ballot = proposer.begin(first)
    proposer.hear_promise(index, ballot, 0, rows)
    for more in range(count // 2):
        proposer.hear_promise((index + 1 + more) % count, ballot, 0, ())
    assert proposer.state == "leading"
    return proposer


class TestBegin(unittest.TestCase):
    def test_a_new_one(self):
        proposer = Proposer(1, 3)
        self.assertEqual((proposer.state, proposer.ballot, proposer.open_proposals()), ("idle", 0, []))

    def test_the_first_ballots(self):
        for count in range(1, 6):
            for index in range(count):
                proposer = Proposer(index, count)
                ballot = proposer.begin(0)
                self.assertEqual(ballot, index or count)
                self.assertEqual((proposer.ballot, proposer.state), (ballot, "preparing"))
                self.assertEqual(proposer.begin(0), ballot + count)

    def test_above_what_was_seen(self):
        for seen, ballot in ((0, 2), (1, 2), (2, 5), (4, 5), (5, 8), (10 ** 18, 10 ** 18 + 1)):
            proposer = Proposer(2, 3)
            self.assertIs(proposer.saw(seen), False)
            self.assertEqual(proposer.begin(0), ballot)

    def test_smaller_ballots_that_were_seen_later(self):
        proposer = Proposer(2, 3)
        proposer.saw(20)
        proposer.saw(4)
        self.assertEqual(proposer.begin(0), 23)
        proposer.saw(7)
        self.assertEqual(proposer.begin(0), 26)

    def test_it_forgets_promises_and_proposals(self):
        proposer = leading()
        proposer.propose(A)
        self.assertEqual(proposer.begin(0), 4)
        self.assertEqual((proposer.state, proposer.open_proposals()), ("preparing", []))
        self.assertEqual(proposer.propose(B), -1)
        self.assertIsNone(proposer.hear_accepted(0, 1, 0))
        self.assertIsNone(proposer.hear_accepted(0, 4, 0))
        self.assertEqual(proposer.hear_promise(1, 4, 0, ()), [])
        self.assertEqual(proposer.state, "preparing")
        proposer.hear_promise(2, 4, 0, ())
        self.assertEqual((proposer.state, proposer.open_proposals(), proposer.propose(B)), ("leading", [], 0))

    def test_promises_of_the_earlier_ballot_do_not_count(self):
        proposer = Proposer(1, 3)
        proposer.begin(0)
        proposer.hear_promise(1, 1, 0, ())
        proposer.begin(0)
        self.assertEqual(proposer.hear_promise(0, 4, 0, ()), [])
        self.assertEqual(proposer.state, "preparing")


class TestSaw(unittest.TestCase):
    def test_idle(self):
        proposer = Proposer(1, 3)
        for ballot in (0, 1, 99):
            self.assertIs(proposer.saw(ballot), False)
            self.assertEqual(proposer.state, "idle")

    def test_preparing(self):
        proposer = Proposer(1, 3)
        proposer.begin(0)
        for ballot in (0, 1):
            self.assertIs(proposer.saw(ballot), False)
            self.assertEqual(proposer.state, "preparing")
        self.assertIs(proposer.saw(2), True)
        self.assertEqual((proposer.state, proposer.ballot), ("idle", 1))
        self.assertIs(proposer.saw(3), False)
        self.assertEqual(proposer.hear_promise(0, 1, 0, ()), [])
        self.assertEqual(proposer.hear_promise(2, 1, 0, ()), [])
        self.assertEqual(proposer.state, "idle")
        self.assertEqual(proposer.begin(0), 4)

    def test_leading(self):
        proposer = leading()
        proposer.propose(A)
        for ballot in (0, 1):
            self.assertIs(proposer.saw(ballot), False)
            self.assertEqual((proposer.state, proposer.open_proposals()), ("leading", [(0, A)]))
        self.assertIs(proposer.saw(9), True)
        self.assertEqual((proposer.state, proposer.open_proposals(), proposer.ballot), ("idle", [], 1))
        self.assertEqual(proposer.propose(B), -1)
        self.assertIsNone(proposer.hear_accepted(0, 1, 0))
        self.assertEqual(proposer.begin(0), 10)


class TestHearPromise(unittest.TestCase):
    def test_majorities(self):
        for count in range(1, 6):
            proposer = Proposer(0, count)
            ballot = proposer.begin(0)
            for index in range(count // 2):
                self.assertEqual(proposer.hear_promise(index, ballot, 0, ((0, 0, A),)), [])
                self.assertEqual(proposer.state, "preparing")
            self.assertEqual(proposer.hear_promise(count - 1, ballot, 0, ((0, 0, A),)), [(0, A)])
            self.assertEqual(proposer.state, "leading")

    def test_idle(self):
        proposer = Proposer(0, 1)
        self.assertEqual(proposer.hear_promise(0, 0, 5, ((6, 0, A),)), [])
        self.assertEqual((proposer.state, proposer.open_proposals()), ("idle", []))

    def test_leading(self):
        proposer = leading()
        self.assertEqual(proposer.hear_promise(0, 1, 7, ((3, 0, A),)), [])
        self.assertEqual((proposer.open_proposals(), proposer.propose(B)), ([], 0))

    def test_other_ballots(self):
        proposer = Proposer(1, 3)
        proposer.begin(0)
        proposer.begin(0)
        for ballot in (0, 1, 3, 5, 7):
            self.assertEqual(proposer.hear_promise(0, ballot, 9, ((2, 0, B),)), [])
            self.assertEqual(proposer.hear_promise(2, ballot, 9, ((2, 0, B),)), [])
        self.assertEqual(proposer.state, "preparing")
        self.assertEqual(proposer.hear_promise(0, 4, 0, ()), [])
        self.assertEqual(proposer.hear_promise(2, 4, 0, ((1, 0, A),)), [(0, NOTHING), (1, A)])

    def test_repeated_ones(self):
        proposer = Proposer(1, 5)
        proposer.begin(0)
        self.assertEqual(proposer.hear_promise(4, 1, 0, ((0, 0, A),)), [])
        for _ in range(4):
            self.assertEqual(proposer.hear_promise(4, 1, 3, ((0, 9, B), (5, 9, C))), [])
        self.assertEqual(proposer.hear_promise(1, 1, 0, ()), [])
        self.assertEqual(proposer.state, "preparing")
        self.assertEqual(proposer.hear_promise(3, 1, 0, ()), [(0, A)])

    def test_values_of_the_greatest_ballots(self):
        proposer = Proposer(2, 5)
        proposer.saw(40)
        ballot = proposer.begin(0)
        proposer.hear_promise(2, ballot, 0, ((0, 3, A), (1, 9, B)))
        proposer.hear_promise(0, ballot, 0, ((0, 6, C), (1, 8, D), (3, 1, D)))
        opened = proposer.hear_promise(4, ballot, 0, ((0, 5, D), (3, 2, A)))
        self.assertEqual(opened, [(0, C), (1, B), (2, NOTHING), (3, A)])
        self.assertEqual(proposer.open_proposals(), opened)

    def test_the_first_promise_decides_among_equal_ballots(self):
        for order in ((0, 1), (1, 0)):
            proposer = Proposer(1, 3)
            ballot = proposer.begin(0)
            values = {0: A, 1: B}
            proposer.hear_promise(order[0], ballot, 0, ((0, 0, values[order[0]]),))
            self.assertEqual(proposer.hear_promise(order[1], ballot, 0, ((0, 0, values[order[1]]),)),
                             [(0, values[order[0]])])

    def test_rows_below_the_first_slot(self):
        proposer = Proposer(1, 3)
        proposer.begin(4)
        proposer.hear_promise(1, 1, 0, ((2, 0, A), (3, 0, B)))
        self.assertEqual(proposer.hear_promise(0, 1, 4, ((1, 0, C),)), [])
        self.assertEqual((proposer.state, proposer.propose(D)), ("leading", 4))

    def test_rows_on_both_sides_of_the_first_slot(self):
        proposer = Proposer(1, 3)
        proposer.begin(4)
        proposer.hear_promise(1, 1, 0, ((3, 0, A), (4, 0, B)))
        self.assertEqual(proposer.hear_promise(0, 1, 2, ((7, 0, C),)),
                         [(4, B), (5, NOTHING), (6, NOTHING), (7, C)])
        self.assertEqual(proposer.propose(D), 8)

    def test_a_base_above_the_first_slot(self):
        for order in (((0, 6, ()), (1, 0, ((4, 0, A), (5, 0, B), (6, 0, C), (8, 0, D)))),
                      ((1, 0, ((4, 0, A), (5, 0, B), (6, 0, C), (8, 0, D))), (0, 6, ()))):
            proposer = Proposer(1, 3)
            proposer.begin(4)
            results = [proposer.hear_promise(index, 1, base, rows) for index, base, rows in order]
            self.assertEqual(results, [[], [(6, C), (7, NOTHING), (8, D)]])
            self.assertEqual(proposer.propose(A), 9)

    def test_a_base_above_all_rows(self):
        proposer = Proposer(1, 3)
        proposer.begin(4)
        proposer.hear_promise(1, 1, 0, ((4, 0, A), (5, 0, B)))
        self.assertEqual(proposer.hear_promise(0, 1, 9, ()), [])
        self.assertEqual((proposer.state, proposer.propose(A)), ("leading", 9))

    def test_a_base_at_the_first_slot_and_smaller_ones(self):
        proposer = Proposer(1, 5)
        proposer.begin(4)
        for index, base in ((1, 5), (2, 3), (3, 4)):
            proposer.hear_promise(index, 1, base, ())
        self.assertEqual(proposer.propose(A), 5)

    def test_a_base_counts_only_for_its_ballot(self):
        proposer = Proposer(1, 3)
        proposer.begin(0)
        proposer.hear_promise(0, 1, 9, ())
        proposer.begin(2)
        proposer.hear_promise(1, 4, 0, ())
        proposer.hear_promise(0, 4, 0, ())
        self.assertEqual(proposer.propose(A), 2)

    def test_rows_may_be_a_list_that_changes_later(self):
        proposer = Proposer(1, 3)
        proposer.begin(0)
        rows = [(0, 0, A)]
        proposer.hear_promise(0, 1, 0, rows)
        rows.append((1, 0, B))
        opened = proposer.hear_promise(1, 1, 0, [])
        self.assertEqual((opened, rows), ([(0, A)], [(0, 0, A), (1, 0, B)]))
        opened.clear()
        self.assertEqual(proposer.open_proposals(), [(0, A)])


class TestPropose(unittest.TestCase):
    def test_each_state(self):
        proposer = Proposer(1, 3)
        self.assertEqual(proposer.propose(A), -1)
        proposer.begin(3)
        self.assertEqual(proposer.propose(A), -1)
        proposer.hear_promise(0, 1, 0, ())
        self.assertEqual(proposer.propose(A), -1)
        proposer.hear_promise(1, 1, 0, ())
        self.assertEqual([proposer.propose(value) for value in (A, B, A)], [3, 4, 5])
        self.assertEqual(proposer.open_proposals(), [(3, A), (4, B), (5, A)])
        proposer.stop()
        self.assertEqual((proposer.propose(A), proposer.open_proposals()), (-1, []))

    def test_slots_are_not_used_again(self):
        proposer = leading(0, 1)
        self.assertEqual(proposer.propose(A), 0)
        self.assertEqual(proposer.hear_accepted(0, 1, 0), A)
        self.assertEqual(proposer.propose(B), 1)


class TestHearAccepted(unittest.TestCase):
    def test_majorities(self):
        for count in range(1, 6):
            proposer = leading(0, count)
            slot = proposer.propose(A)
            for index in range(count // 2):
                self.assertIsNone(proposer.hear_accepted(index, proposer.ballot, slot))
                self.assertEqual(proposer.open_proposals(), [(slot, A)])
            self.assertEqual(proposer.hear_accepted(count - 1, proposer.ballot, slot), A)
            self.assertEqual(proposer.open_proposals(), [])
            self.assertIsNone(proposer.hear_accepted(count - 1, proposer.ballot, slot))
            self.assertIsNone(proposer.hear_accepted(0, proposer.ballot, slot))

    def test_each_replica_counts_once(self):
        proposer = leading(1, 5)
        proposer.propose(A)
        for index in (4, 4, 4, 2, 2, 4):
            self.assertIsNone(proposer.hear_accepted(index, 1, 0))
        self.assertEqual(proposer.hear_accepted(0, 1, 0), A)

    def test_each_proposal_by_itself(self):
        proposer = leading(1, 3)
        proposer.propose(A)
        proposer.propose(B)
        self.assertIsNone(proposer.hear_accepted(0, 1, 0))
        self.assertIsNone(proposer.hear_accepted(2, 1, 1))
        self.assertEqual(proposer.hear_accepted(0, 1, 1), B)
        self.assertEqual(proposer.open_proposals(), [(0, A)])
        self.assertEqual(proposer.hear_accepted(1, 1, 0), A)

    def test_other_ballots_slots_and_states(self):
        proposer = leading(1, 3)
        proposer.propose(A)
        for ballot, slot in ((0, 0), (2, 0), (4, 0), (1, 1), (1, -1)):
            for index in range(3):
                self.assertIsNone(proposer.hear_accepted(index, ballot, slot))
        self.assertEqual(proposer.open_proposals(), [(0, A)])
        proposer.stop()
        for index in range(3):
            self.assertIsNone(proposer.hear_accepted(index, 1, 0))
        proposer.begin(0)
        for index in range(3):
            self.assertIsNone(proposer.hear_accepted(index, 4, 0))
        self.assertIsNone(Proposer(0, 1).hear_accepted(0, 0, 0))

    def test_votes_of_an_earlier_ballot_do_not_count(self):
        proposer = leading(1, 3)
        proposer.propose(A)
        proposer.hear_accepted(0, 1, 0)
        proposer.begin(0)
        proposer.hear_promise(0, 4, 0, ())
        proposer.hear_promise(1, 4, 0, ())
        proposer.propose(B)
        self.assertIsNone(proposer.hear_accepted(2, 4, 0))
        self.assertEqual(proposer.hear_accepted(0, 4, 0), B)

    def test_opened_proposals_are_chosen_too(self):
        proposer = leading(1, 3, rows=((1, 0, A),))
        self.assertEqual(proposer.open_proposals(), [(0, NOTHING), (1, A)])
        proposer.hear_accepted(0, 1, 1)
        self.assertEqual(proposer.hear_accepted(1, 1, 1), A)
        proposer.hear_accepted(0, 1, 0)
        self.assertEqual(proposer.hear_accepted(2, 1, 0), NOTHING)


class TestOpenProposals(unittest.TestCase):
    def test_ascending(self):
        proposer = leading(1, 3, first=8, rows=((9, 0, A), (11, 0, B)))
        for value in (A, B, C):
            proposer.propose(value)
        for index in (0, 1):
            proposer.hear_accepted(index, 1, 10)
        expected = [(8, NOTHING), (9, A), (11, B), (12, A), (13, B), (14, C)]
        self.assertEqual(proposer.open_proposals(), expected)
        proposer.open_proposals().clear()
        self.assertEqual(proposer.open_proposals(), expected)


class TestStop(unittest.TestCase):
    def test_each_state(self):
        proposer = Proposer(1, 3)
        self.assertIsNone(proposer.stop())
        self.assertEqual((proposer.state, proposer.ballot), ("idle", 0))
        proposer.begin(0)
        proposer.stop()
        self.assertEqual((proposer.state, proposer.ballot), ("idle", 1))
        proposer = leading()
        proposer.propose(A)
        proposer.stop()
        self.assertEqual((proposer.state, proposer.ballot, proposer.open_proposals()), ("idle", 1, []))
        self.assertIs(proposer.saw(9), False)

    def test_it_does_not_forget_what_was_seen(self):
        proposer = Proposer(1, 3)
        proposer.begin(0)
        proposer.saw(30)
        proposer.stop()
        self.assertEqual(proposer.begin(0), 31)


if __name__ == "__main__":
    unittest.main()
