"""A front: an actor that keeps a cache of the store and passes on what is asked and told."""

from majordomo.cache import MOST_CHANGES, Cache
from majordomo.rota import Rota

MOST_ORIGINS = 50


class Front:
    """A cache, the turns of the replicas, and for each origin who asked last, with the number."""

    def __init__(self, name, replicas, ring, boot):
        self.name = name
        self.cache = Cache(ring)
        self._replicas = tuple(replicas)
        self._rota = Rota(replicas)
        self._asking = {}

    def handle(self, event):
        """Handle an event and return the list of the effects."""
        match event:
            case ("tick",):
                return [self._write(("since", self.cache.revision))]
            case ("letter", sender, letter):
                return self._hear(sender, letter)
        return []

    def asking(self):
        """Return the list of the remembered (origin, number, sender), in the order in which they were remembered."""
        return [(origin,) + self._asking[origin] for origin in self._asking]

    def _write(self, letter):
        """Return the effect that sends a letter to the next replica."""
        return ("send", self._rota.take_turn(), letter)

    def _hear(self, sender, letter):
        match letter:
            case ("changes", _, changes, _):
                return self._take(sender, letter, len(changes) == MOST_CHANGES)
            case ("whole", _, _):
                return self._take(sender, letter, False)
            case ("since", revision):
                return self._answer(sender, revision)
            case ("ask", command):
                self._remember(sender, command)
                return [self._write(letter)]
            case ("told", origin, number, _):
                return self._pass_on(sender, origin, number, letter)
        return []

    def _take(self, sender, letter, is_full):
        """Give a letter of a replica to the cache; ask for more if it had no room for all changes."""
        if sender not in self._replicas:
            return []
        keys = self.cache.take(letter)
        if keys is None or not is_full:
            return []
        return [("send", sender, ("since", self.cache.revision))]

    def _answer(self, sender, revision):
        if not self.cache.ready:
            return []
        return [("send", sender, self.cache.since(revision))]

    def _remember(self, sender, command):
        origin, number, _ = command
        if origin in self._asking:
            del self._asking[origin]
        elif len(self._asking) == MOST_ORIGINS:
            first = list(self._asking)[0]
            del self._asking[first]
        self._asking[origin] = (number, sender)

    def _pass_on(self, sender, origin, number, letter):
        """Pass an answer of a replica on to who asked last, if that was for this number."""
        if sender not in self._replicas or origin not in self._asking:
            return []
        awaited, asker = self._asking[origin]
        if number != awaited:
            return []
        del self._asking[origin]
        return [("send", asker, letter)]
