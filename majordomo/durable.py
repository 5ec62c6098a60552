"""A replica whose records are kept by a journal on a disk."""

from majordomo.journal import Journal
from majordomo.replica import Replica

SYNC = ("sync",)


def _newest_image(records):
    """Return the first image record with the greatest base, or None."""
    newest = None
    for record in records:
        if record[0] == "image" and (newest is None or record[1] > newest[1]):
            newest = record
    return newest


def compacted(records):
    """Return the list of the records that are needed to create the same replica."""
    image = _newest_image(records)
    if image is None:
        return list(records)
    accepted = {}
    promised = 0
    for record in records:
        if record[0] in ("promised", "accepted"):
            promised = max(promised, record[1])
        if record[0] == "accepted" and record[2] >= image[1]:
            accepted[record[2]] = record
    return [image, ("promised", promised)] + [accepted[slot] for slot in sorted(accepted)]


class DurableReplica:
    """A replica, its journal, and the records that wait until the journal is free."""

    def __init__(self, name, replicas, sectors, boot):
        self.name = name
        self.journal = Journal(sectors, boot)
        self.replica = Replica(name, replicas, self.journal.records(), boot)
        self._queue = []
        # How many records were handed to the journal since the creation.
        self._handed = 0
        # How many syncs were asked for since the creation; if one is awaited, it is the last of them.
        self._syncs = 0
        self._is_awaited = False
        # What the journal wants to be done after the awaited sync.
        self._later = []

    def handle(self, event):
        """Handle an event and return the list of the effects."""
        effects = []
        match event:
            case ("tick",):
                effects = self._pass(event)
            case ("letter", _, _):
                effects = self._pass(event)
            case ("synced", count):
                effects = self._end_sync(count)
        return effects + self._hand_over()

    def look(self):
        """Return (number of applied slots, revision of the store, True if the proposer is leading)."""
        return self.replica.look()

    def dump(self):
        """Return the tuple (image of the store, image of the sessions)."""
        return self.replica.dump()

    def _pass(self, event):
        """Give an event to the replica; return what it sends and queue what it stores."""
        sent = []
        for effect in self.replica.handle(event):
            if effect[0] == "store":
                self._queue.append(effect[1])
            else:
                sent.append(effect)
        return sent

    def _end_sync(self, count):
        if not self._is_awaited or count < self._syncs:
            return []
        self._is_awaited = False
        if self._later:
            return self._begin_sync(self._later)
        return self._pass(("stored", self._handed))

    def _begin_sync(self, steps):
        """Return the steps up to the first sync, which is awaited then; the others are kept for later."""
        end = steps.index(SYNC) + 1
        self._later = steps[end:]
        self._syncs += 1
        self._is_awaited = True
        return steps[:end]

    def _hand_over(self):
        """Hand the queue to the journal if it is free; return the steps up to the first sync."""
        if self._is_awaited or not self._queue:
            return []
        queue = self._queue
        self._queue = []
        self._handed += len(queue)
        if _newest_image(queue) is None:
            return self._begin_sync(self.journal.append(queue))
        return self._begin_sync(self.journal.rewrite(compacted(self.journal.records() + queue)))
