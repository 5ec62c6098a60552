"""The turns of several names, one after the other."""


class Rota:
    """Names that have their turns in order; after the last one, the first one has its turn again."""

    def __init__(self, names):
        self._names = tuple(names)
        self._turn = 0

    def take_turn(self):
        """Return the name whose turn it is, and pass the turn on."""
        name = self._names[self._turn]
        self._turn = (self._turn + 1) % len(self._names)
        return name
