"""The chosen values of one replica."""


class Slots:
    """The values of the slots from the base on, and how far they were applied."""

    def __init__(self):
        self.base = 0
        self.applied = 0
        self._known = {}

    def learn(self, slot, value):
        """Note that the value is chosen for the slot; return True if this is new and can be applied some time."""
        if slot < self.applied or slot in self._known:
            return False
        self._known[slot] = value
        return True

    def take(self):
        """Return the list of (slot, value) that can be applied now, which then counts as applied."""
        taken = []
        while self.applied in self._known:
            taken.append((self.applied, self._known[self.applied]))
            self.applied += 1
        return taken

    def is_behind(self):
        """Return True if the slot to be applied is not known while a later one is."""
        if self.applied in self._known:
            return False
        return any([slot > self.applied for slot in self._known])

    def value_at(self, slot):
        """Return the value of a slot that was applied and is still kept, otherwise None."""
        if slot < self.base or slot >= self.applied:
            return None
        return self._known[slot]

    def cut(self, base):
        """Forget the values of the slots below the base, if all of them were applied."""
        if self.base < base <= self.applied:
            self._forget_below(base)

    def jump(self, base):
        """Count all slots below the base as applied, because an image contains them."""
        if base > self.applied:
            self.applied = base
            self._forget_below(base)

    def _forget_below(self, base):
        self.base = base
        self._known = {slot: self._known[slot] for slot in self._known if slot >= base}
