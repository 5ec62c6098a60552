"""The effects of a replica, and its letters that wait until records are safe."""


class Outbox:
    """The effects of one event, in order, and the held letters, in the order in which they were held."""

    def __init__(self):
        self._effects = []
        self._stored = 0
        self._safe = 0
        self._held = []

    def send(self, receiver, letter):
        """Send a letter."""
        self._effects.append(("send", receiver, letter))

    def keep(self, record):
        """Store a record, which is not safe yet."""
        self._effects.append(("store", record))
        self._stored += 1

    def is_all_safe(self):
        """Return True if each record that was stored is safe."""
        return self._stored <= self._safe

    def hold(self, receiver, letter):
        """Hold a letter until all records that were stored so far are safe."""
        self._held.append((self._stored, receiver, letter))

    def note_safe(self, count):
        """Note that the first records, as many as count, are safe."""
        self._safe = max(self._safe, count)

    def release(self):
        """Return the first (receiver, letter) that is held, which then is held no longer, or None if it must wait."""
        if not self._held or self._held[0][0] > self._safe:
            return None
        return self._held.pop(0)[1:]

    def take_effects(self):
        """Return the list of the effects since the last call."""
        effects = self._effects
        self._effects = []
        return effects
