"""The bookkeeping of a replica that proposes."""

from majordomo.ballots import majority, next_ballot
from majordomo.quorum import value_to_propose

IDLE = "idle"
PREPARING = "preparing"
LEADING = "leading"


class Proposer:
    """The own ballot, the promises for it, and the open proposals in it."""

    def __init__(self, index, count):
        self.ballot = 0
        self.state = IDLE
        self._index = index
        self._count = count
        self._seen = 0
        self._next_slot = 0
        self._promises = {}
        self._proposals = {}
        self._voters = {}

    def saw(self, ballot):
        """Note that a ballot exists; return True if the own one is given up for it."""
        self._seen = max(self._seen, ballot)
        if ballot <= self.ballot or self.state == IDLE:
            return False
        self.stop()
        return True

    def begin(self, first):
        """Begin a new ballot whose first slot is given, and return it."""
        self.ballot = next_ballot(max(self._seen, self.ballot), self._index, self._count)
        self.state = PREPARING
        self._next_slot = first
        self._promises = {}
        self._forget_proposals()
        return self.ballot

    def hear_promise(self, index, ballot, base, rows):
        """Note a promise; return the list of (slot, value) of the proposals that it opens."""
        if self.state != PREPARING or ballot != self.ballot or index in self._promises:
            return []
        self._promises[index] = tuple(rows)
        # What is below a base was decided, and no promise tells any more what it was.
        self._next_slot = max(self._next_slot, base)
        if len(self._promises) < majority(self._count):
            return []
        self.state = LEADING
        self._open_accepted()
        return self.open_proposals()

    def _open_accepted(self):
        """Open a proposal for each slot from the first one to the greatest one of the promises."""
        pairs = self._promised_pairs()
        # The slots in between must be filled too: nothing behind a gap can be applied.
        last = max(pairs, default=-1)
        while self._next_slot <= last:
            self.propose(value_to_propose(pairs.get(self._next_slot, [])))

    def _promised_pairs(self):
        """Return a dict from slots to the (ballot, value) of the promises, in the order in which they came."""
        pairs = {}
        for index in self._promises:
            for slot, ballot, value in self._promises[index]:
                pairs.setdefault(slot, []).append((ballot, value))
        return pairs

    def propose(self, value):
        """Open a proposal for the next free slot and return the slot, or return -1 if not leading."""
        if self.state != LEADING:
            return -1
        slot = self._next_slot
        self._next_slot += 1
        self._proposals[slot] = value
        self._voters[slot] = {}
        return slot

    def hear_accepted(self, index, ballot, slot):
        """Note that a replica accepted a proposal; return the value if it is chosen by this."""
        if self.state != LEADING or ballot != self.ballot or slot not in self._proposals:
            return None
        self._voters[slot][index] = True
        if len(self._voters[slot]) < majority(self._count):
            return None
        del self._voters[slot]
        return self._proposals.pop(slot)

    def open_proposals(self):
        """Return the list of (slot, value) of the open proposals, in ascending order of slots."""
        return [(slot, self._proposals[slot]) for slot in sorted(self._proposals)]

    def stop(self):
        """Give up the own ballot."""
        self.state = IDLE
        self._forget_proposals()

    def _forget_proposals(self):
        self._proposals = {}
        self._voters = {}
