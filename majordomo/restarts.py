"""How long slots wait whose runs ended by themselves."""

FIRST_WAIT = 1
MOST_WAIT = 16
# A run that lasted so many ticks counts as one that went well.
LONG_RUN = 32


class Restarts:
    """For each slot when its last run began, how long it waited last, and from which tick on it may run again."""

    def __init__(self):
        self._begun = {}
        self._waits = {}
        self._due = {}

    def begun(self, slot, now):
        """Note that a run of the slot began."""
        self._begun[slot] = now

    def failed(self, slot, now):
        """Note that the run of the slot ended by itself, so that the slot waits."""
        self._waits[slot] = self._next_wait(slot, now)
        self._due[slot] = now + self._waits[slot]

    def _next_wait(self, slot, now):
        if slot not in self._waits or now - self._begun.get(slot, now) >= LONG_RUN:
            return FIRST_WAIT
        return min(MOST_WAIT, 2 * self._waits[slot])

    def is_due(self, slot, now):
        """Return True if the slot may run."""
        return now >= self._due.get(slot, now)

    def forget(self, slot):
        """Forget what is noted for the slot."""
        self._begun.pop(slot, None)
        self._waits.pop(slot, None)
        self._due.pop(slot, None)
