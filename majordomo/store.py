"""The store of all objects, which is changed by transactions."""

from majordomo.errors import TooNew
from majordomo.objects import check_transaction


def _sorted_by_key(members):
    """Return the puts or deletes in ascending order of their keys, which they begin with, as a tuple."""
    return tuple(sorted(members, key=lambda member: member[:2]))


class Store:
    """The objects under their keys, and the changes since the oldest revision."""

    def __init__(self):
        self.revision = 0
        self.oldest = 0
        self._table = {}
        # Each revision after the oldest one was made by one change, so these are without gaps.
        self._changes = []

    def entry(self, kind, name):
        """Return the entry (born, revision, value) of an object, or None."""
        return self._table.get((kind, name))

    def entries(self):
        """Return the list of all (kind, name, born, revision, value), in ascending order."""
        return [key + self._table[key] for key in sorted(self._table)]

    def apply(self, transaction):
        """Do the transaction if all its conditions and deletes hold; return the answer."""
        check_transaction(transaction)
        conditions, puts, deletes = transaction
        holds = [self._holds(kind, name, revision) for kind, name, revision in conditions]
        holds.extend([key in self._table for key in deletes])
        if False in holds:
            return ("no", holds.index(False))
        if puts or deletes:
            self._change(puts, deletes)
        return ("done", self.revision)

    def _holds(self, kind, name, revision):
        entry = self.entry(kind, name)
        if entry is None:
            return revision == 0
        return revision == entry[1]

    def _change(self, puts, deletes):
        self.revision += 1
        for kind, name, value in puts:
            entry = self.entry(kind, name)
            born = self.revision if entry is None else entry[0]
            self._table[(kind, name)] = (born, self.revision, value)
        for key in deletes:
            del self._table[key]
        self._changes.append((self.revision, _sorted_by_key(puts), _sorted_by_key(deletes)))

    def since(self, revision, *, limit=100):
        """Return the letter that tells a follower with this revision what came after it."""
        if revision < self.oldest:
            return ("whole", self.revision, tuple(self.entries()))
        # A revision beyond that of the store gives no changes here.
        skipped = revision - self.oldest
        changes = self._changes[skipped:skipped + limit]
        return ("changes", revision, tuple(changes), revision + len(changes))

    def forget(self, revision):
        """Forget the changes up to a revision."""
        if revision > self.revision:
            raise TooNew("the store has no such revision yet")
        if revision > self.oldest:
            del self._changes[:revision - self.oldest]
            self.oldest = revision

    def image(self):
        """Return the tuple (revision, entries)."""
        return (self.revision, tuple(self.entries()))

    @staticmethod
    def from_image(image):
        """Return the store that an image describes."""
        store = Store()
        store.revision, entries = image
        store.oldest = store.revision
        for kind, name, born, revision, value in entries:
            store._table[(kind, name)] = (born, revision, value)
        return store
