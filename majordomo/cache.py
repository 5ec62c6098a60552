"""A copy of the store that is filled by letters and can answer followers itself."""

MOST_CHANGES = 100


def _different_keys(before, after):
    """Return the list of the keys whose entries have another born or revision, in ascending order.

    Both are dicts from keys to entries, or to None for objects that are not there.
    """
    keys = {key: True for entries in (before, after) for key in entries}
    return [key for key in sorted(keys) if _mark(before.get(key)) != _mark(after.get(key))]


def _mark(entry):
    """Return what tells an entry from another one of the same key: its born and its revision."""
    if entry is None:
        return None
    return entry[:2]


class Cache:
    """The objects of the store at one of its revisions, and the last changes that led to it."""

    def __init__(self, ring=100):
        self.revision = 0
        self.oldest = 0
        self.ready = False
        self.view = {}
        self._room = ring
        self._changes = []

    def take(self, letter):
        """Take a letter and return the list of the keys that are different, or None if it is not taken."""
        if letter[0] == "changes":
            return self._take_changes(letter)
        return self._take_whole(letter)

    def _take_changes(self, letter):
        _, since, changes, upto = letter
        if since != self.revision:
            return None
        before = {}
        for change in changes:
            self._change(change, before)
        self.revision = upto
        self.ready = True
        self._keep(changes)
        after = {key: self.view.get(key) for key in before}
        return _different_keys(before, after)

    def _change(self, change, before):
        """Do a change; note in before what each object was that had not been changed yet."""
        revision, puts, deletes = change
        for kind, name, value in puts:
            key = (kind, name)
            entry = self.view.get(key)
            before.setdefault(key, entry)
            born = revision if entry is None else entry[0]
            self.view[key] = (born, revision, value)
        for key in deletes:
            before.setdefault(key, self.view.pop(key, None))

    def _keep(self, changes):
        """Put changes into the ring; older ones are dropped if there is no room."""
        kept = self._changes + list(changes)
        self._changes = kept[max(0, len(kept) - self._room):]
        self.oldest = self._changes[0][0] - 1 if self._changes else self.revision

    def _take_whole(self, letter):
        _, revision, entries = letter
        if self.ready and revision <= self.revision:
            return None
        before = self.view
        self.view = {(kind, name): (born, changed, value) for kind, name, born, changed, value in entries}
        self.revision = revision
        self.ready = True
        self._changes = []
        self._keep([])
        return _different_keys(before, self.view)

    def entries(self):
        """Return the list of all (kind, name, born, revision, value), in ascending order."""
        return [key + self.view[key] for key in sorted(self.view)]

    def since(self, revision):
        """Return the letter that tells a follower with this revision what came after it."""
        if revision < self.oldest:
            return ("whole", self.revision, tuple(self.entries()))
        changes = [change for change in self._changes if change[0] > revision][:MOST_CHANGES]
        upto = changes[-1][0] if changes else revision
        return ("changes", revision, tuple(changes), upto)
