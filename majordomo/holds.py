"""Names that are held back after a transaction of theirs was refused."""

LONGEST_HOLD = 4


class Holds:
    """For each held name, the revision at which its transaction was sent and the clock at its answer."""

    def __init__(self):
        self._held = {}

    def note(self, name, revision, clock):
        """Hold a name whose transaction was sent with a cache at this revision and is refused now."""
        self._held[name] = (revision, clock)

    def is_held(self, name, revision, clock):
        """Return True if neither the cache nor the clock has moved on enough since the name was held."""
        if name not in self._held:
            return False
        sent_at, refused_at = self._held[name]
        return revision <= sent_at and clock < refused_at + LONGEST_HOLD

    def names(self, revision, clock):
        """Return the list of the names that are held, in ascending order."""
        return [name for name in sorted(self._held) if self.is_held(name, revision, clock)]
