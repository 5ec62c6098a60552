"""A follower: it keeps a cache by asking fronts what changed."""

from majordomo.cache import Cache
from majordomo.rota import Rota


class Follower:
    """A cache, the front at hand, and whether a question is open."""

    def __init__(self, fronts, *, patience=4):
        self.cache = Cache(0)
        self._rota = Rota(fronts)
        self.front = self._rota.take_turn()
        self._patience = patience
        self._waited = 0
        self._is_open = False

    def tick(self):
        """Ask what changed, or wait one tick more; return the list of effects."""
        if not self._is_open:
            return self._ask()
        self._waited += 1
        if self._waited < self._patience:
            return []
        self.front = self._rota.take_turn()
        return self._ask()

    def hear(self, sender, letter):
        """Give a letter to the cache and return the list of the keys that are different."""
        if letter[0] not in ("changes", "whole"):
            return []
        if sender == self.front:
            self._is_open = False
        keys = self.cache.take(letter)
        if keys is None:
            return []
        return keys

    def _ask(self):
        self._is_open = True
        self._waited = 0
        return [("send", self.front, ("since", self.cache.revision))]
