"""Who waits for the answers of commands."""


class Waiting:
    """The senders that wait for an origin and a number, in the order in which they asked."""

    def __init__(self):
        self._senders = {}

    def note(self, sender, origin, number):
        """Note that a sender waits; one that waits already does not wait twice."""
        senders = self._senders.setdefault((origin, number), [])
        if sender not in senders:
            senders.append(sender)

    def awaited(self):
        """Return the list of (origin, number) for which somebody waits, in the order in which they were first asked."""
        return list(self._senders)

    def leave(self, origin, number):
        """Return the list of the senders that wait for an origin and a number; they wait no longer."""
        return self._senders.pop((origin, number), [])
