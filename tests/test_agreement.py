"""Point 3.24: acceptors and proposers whose letters are lost, repeated and reordered."""

import random
import unittest

from majordomo.acceptor import Acceptor
from majordomo.ballots import majority
from majordomo.proposer import Proposer
from majordomo.slots import Slots


class Group:
    """Replicas without a disk that lose nothing of their acceptors, and letters that arrive in any order."""

    def __init__(self, chance, count):
        self.chance = chance
        self.count = count
        self.acceptors = [Acceptor() for _ in range(count)]
        self.proposers = [Proposer(index, count) for index in range(count)]
        self.slots = [Slots() for _ in range(count)]
        self.letters = []
        self.told = {}
        self.votes = {}
        self.asked = 0

    def send(self, sender, receiver, letter):
        self.letters.append((sender, receiver, letter))

    def send_all(self, sender, letter):
        for receiver in range(self.count):
            self.send(sender, receiver, letter)

    def begin(self, index):
        first = self.slots[index].applied
        ballot = self.proposers[index].begin(first)
        # The own promise comes first, so that the ballot is not used again after a failure.
        self.acceptors[index].prepare(ballot, first)
        self.send_all(index, ("prepare", ballot, first))

    def propose(self, index):
        self.asked += 1
        value = ("value", index, self.asked)
        slot = self.proposers[index].propose(value)
        if slot >= 0:
            self.send_all(index, ("accept", self.proposers[index].ballot, slot, value))

    def repeat(self, index):
        for slot, value in self.proposers[index].open_proposals():
            self.send_all(index, ("accept", self.proposers[index].ballot, slot, value))

    def fail(self, index):
        """The replica loses all but its acceptor and its slots."""
        self.proposers[index] = Proposer(index, self.count)
        self.proposers[index].saw(self.acceptors[index].promised)

    def deliver(self):
        at = self.chance.randrange(len(self.letters))
        sender, receiver, letter = self.letters[at]
        if self.chance.random() < 0.9:
            self.letters[at] = self.letters[-1]
            self.letters.pop()
        getattr(self, "hear_" + letter[0])(sender, receiver, *letter[1:])

    def hear_prepare(self, sender, receiver, ballot, first):
        self.proposers[receiver].saw(ballot)
        self.send(receiver, sender, self.acceptors[receiver].prepare(ballot, first))

    def hear_promise(self, sender, receiver, ballot, base, rows):
        proposer = self.proposers[receiver]
        # The caller must know what is below the base; here every replica may look at what was chosen.
        if base > self.slots[receiver].applied:
            return
        for slot, value in proposer.hear_promise(sender, ballot, base, rows):
            self.send_all(receiver, ("accept", ballot, slot, value))

    def hear_refuse(self, sender, receiver, ballot):
        self.proposers[receiver].saw(ballot)

    def hear_accept(self, sender, receiver, ballot, slot, value):
        self.proposers[receiver].saw(ballot)
        answer = self.acceptors[receiver].accept(ballot, slot, value)
        self.send(receiver, sender, answer)
        if answer[0] == "accepted":
            voters = self.votes.setdefault((slot, ballot, value), set())
            voters.add(receiver)
            if len(voters) >= majority(self.count):
                self.choose(slot, value)

    def hear_decided(self, sender, receiver, base):
        pass

    def hear_accepted(self, sender, receiver, ballot, slot):
        value = self.proposers[receiver].hear_accepted(sender, ballot, slot)
        if value is not None:
            self.choose(slot, value)
            self.send_all(receiver, ("chosen", slot, value))

    def hear_chosen(self, sender, receiver, slot, value):
        self.slots[receiver].learn(slot, value)
        self.slots[receiver].take()
        if self.chance.random() < 0.1:
            base = self.slots[receiver].applied
            self.acceptors[receiver].cut(base)
            self.slots[receiver].cut(base)

    def choose(self, slot, value):
        assert self.told.setdefault(slot, value) == value, (slot, value, self.told[slot])

    def step(self, calm):
        index = self.chance.randrange(self.count)
        dice = self.chance.random()
        if dice < (0.01 if calm else 0.03):
            self.begin(index)
        elif dice < 0.10:
            self.propose(index)
        elif dice < 0.13:
            self.repeat(index)
        elif dice < 0.135:
            self.fail(index)
        elif dice < 0.16 and self.letters and not calm:
            self.letters.pop(self.chance.randrange(len(self.letters)))
        elif self.letters:
            self.deliver()


class TestAgreement(unittest.TestCase):
    def test_two_values_chosen_for_one_slot_are_equal(self):
        chosen = 0
        for seed in range(240):
            chance = random.Random(seed)
            group = Group(chance, 1 + seed % 5)
            for step in range(900):
                group.step(step % 300 > 150)
            chosen += len(group.told)
        # The runs must get far enough to mean something.
        self.assertGreater(chosen, 1500)

    def test_a_chosen_value_is_found_again(self):
        proposer = Proposer(1, 3)
        acceptors = [Acceptor() for _ in range(3)]
        ballot = proposer.begin(0)
        for index in (1, 2):
            proposer.hear_promise(index, *acceptors[index].prepare(ballot, 0)[1:])
        slot = proposer.propose(("x",))
        acceptors[1].accept(ballot, slot, ("x",))
        acceptors[2].accept(ballot, slot, ("x",))
        for members in ((0, 1), (0, 2), (1, 2), (2, 0)):
            other = Proposer(0, 3)
            other.saw(acceptors[members[0]].promised)
            other.saw(acceptors[members[1]].promised)
            ballot = other.begin(0)
            opened = []
            for index in members:
                opened = other.hear_promise(index, *acceptors[index].prepare(ballot, 0)[1:])
            self.assertEqual(opened, [(0, ("x",))])
            for index in members:
                acceptors[index].accept(ballot, 0, ("x",))


if __name__ == "__main__":
    unittest.main()
