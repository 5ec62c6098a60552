"""The memory of one replica as an acceptor."""


def _is_record(record, word, size):
    return isinstance(record, tuple) and len(record) == size and record[0] == word


class Acceptor:
    """The greatest ballot that was promised, and what was accepted for the slots from the base on."""

    def __init__(self):
        self.promised = 0
        self.base = 0
        self._accepted = {}

    def prepare(self, ballot, first):
        """Promise the ballot and tell what was accepted from a slot on, or refuse."""
        if ballot < self.promised:
            return ("refuse", self.promised)
        self.promised = ballot
        rows = [(slot,) + self._accepted[slot] for slot in sorted(self._accepted) if slot >= first]
        return ("promise", ballot, self.base, tuple(rows))

    def accept(self, ballot, slot, value):
        """Accept the value for the slot, or refuse, or tell that the slot is decided."""
        if ballot < self.promised:
            return ("refuse", self.promised)
        self.promised = ballot
        if slot < self.base:
            return ("decided", self.base)
        self._accepted[slot] = (ballot, value)
        return ("accepted", ballot, slot)

    def cut(self, base):
        """Raise the base and forget the slots below it."""
        if base > self.base:
            self.base = base
            self._accepted = {slot: self._accepted[slot] for slot in self._accepted if slot >= base}

    def replay(self, record):
        """Do what the record of an earlier change says; other records are ignored."""
        if _is_record(record, "promised", 2):
            self.promised = max(self.promised, record[1])
        if _is_record(record, "accepted", 4):
            ballot, slot, value = record[1:]
            self.promised = max(self.promised, ballot)
            if slot >= self.base:
                self._accepted[slot] = (ballot, value)
