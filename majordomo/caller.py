"""A caller: it sends transactions to the store, one at a time, until they are answered."""

from majordomo.errors import Busy
from majordomo.rota import Rota


class Caller:
    """The transaction that is under way, and the front at hand."""

    def __init__(self, origin, fronts, *, patience=4):
        self.origin = origin
        self.number = 0
        self.age = 0
        self._rota = Rota(fronts)
        self.front = self._rota.take_turn()
        self._patience = patience
        self._waited = 0
        self._command = None

    @property
    def busy(self):
        """True if a transaction is under way."""
        return self._command is not None

    def ask(self, transaction):
        """Begin a transaction and return the list of effects."""
        if self.busy:
            raise Busy("a transaction is under way")
        self.number += 1
        self.age = 0
        self._command = (self.origin, self.number, transaction)
        return self._send()

    def tick(self):
        """Wait one tick more and return the list of effects."""
        if self.number > 0:
            self.age += 1
        if not self.busy:
            return []
        self._waited += 1
        if self._waited < self._patience:
            return []
        self.front = self._rota.take_turn()
        return self._send()

    def hear(self, letter):
        """Return the answer if the letter is the one to the transaction under way, otherwise None."""
        match letter:
            case ("told", origin, number, answer):
                if self.busy and origin == self.origin and number == self.number:
                    self._command = None
                    return answer
        return None

    def _send(self):
        self._waited = 0
        return [("send", self.front, ("ask", self._command))]
