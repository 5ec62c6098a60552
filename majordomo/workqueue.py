"""The keys of what a controller has to look at."""

from majordomo.errors import NotTaken


class WorkQueue:
    """The keys that wait, that are in work and that are delayed, with their counts of failures."""

    def __init__(self, *, most=8):
        self._most = most
        self._waiting = []
        # For each key in work, True if it is to come again.
        self._working = {}
        self._ticks = {}
        self._failures = {}

    def add(self, key):
        """Add a key that is to be looked at."""
        if key in self._working:
            self._working[key] = True
        elif key not in self._waiting:
            self._waiting.append(key)
            self._ticks.pop(key, None)

    def add_later(self, key, ticks):
        """Add a key that is to be looked at after some ticks."""
        if ticks == 0:
            self.add(key)
        elif key not in self._waiting:
            self._ticks[key] = min(ticks, self._ticks.get(key, ticks))

    def tick(self):
        """Let one tick pass and add the keys whose delay ends by it."""
        self._ticks = {key: self._ticks[key] - 1 for key in self._ticks}
        ended = sorted([key for key in self._ticks if self._ticks[key] == 0])
        for key in ended:
            del self._ticks[key]
            self.add(key)

    def take(self):
        """Put the first waiting key into work and return it, or return None."""
        if not self._waiting:
            return None
        key = self._waiting.pop(0)
        self._working[key] = False
        return key

    def finish(self, key):
        """Report that what a key in work needed is done."""
        comes_again = self._leave(key)
        self._failures.pop(key, None)
        if comes_again:
            self.add(key)

    def fail(self, key):
        """Report that what a key in work needed could not be done."""
        comes_again = self._leave(key)
        self._failures[key] = self.failures(key) + 1
        if comes_again:
            self.add(key)
        else:
            self.add_later(key, self._delay(key))

    def _leave(self, key):
        """Take a key out of work and return True if it is to come again."""
        if key not in self._working:
            raise NotTaken(key)
        return self._working.pop(key)

    def _delay(self, key):
        delay = 1
        failures = self._failures[key]
        # A key may have failed very often, so the doubling stops at the most.
        while failures > 1 and delay < self._most:
            delay *= 2
            failures -= 1
        return min(delay, self._most)

    def waiting(self):
        """Return the list of the waiting keys, in order."""
        return list(self._waiting)

    def in_work(self):
        """Return the list of the keys in work, in ascending order."""
        return sorted(self._working)

    def delayed(self):
        """Return the list of pairs (key, ticks) of the delayed keys, in ascending order."""
        return [(key, self._ticks[key]) for key in sorted(self._ticks)]

    def failures(self, key):
        """Return the count of failures of a key."""
        return self._failures.get(key, 0)
