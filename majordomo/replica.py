"""A replica of the store: an actor that agrees with the others on one sequence of commands."""

from majordomo.acceptor import Acceptor
from majordomo.errors import BadTransaction
from majordomo.forms import has_plain_characters, is_integer_within
from majordomo.machine import Machine
from majordomo.objects import MOST_COUNT, check_transaction
from majordomo.outbox import Outbox
from majordomo.proposer import LEADING, Proposer
from majordomo.quorum import NOTHING
from majordomo.slots import Slots
from majordomo.waiting import Waiting

IMAGE_EVERY = 8
SENT_AT_ONCE = 8
MOST_ORIGIN = 20
LEAST_PATIENCE = 8
PATIENCE_STEP = 4


def is_command(command):
    """Return True if the argument, any value, is a valid command."""
    if not isinstance(command, tuple) or len(command) != 3:
        return False
    origin, number, transaction = command
    return _is_origin(origin) and is_integer_within(number, 1, MOST_COUNT) and _is_transaction(transaction)


def _is_origin(origin):
    return isinstance(origin, str) and 1 <= len(origin) <= MOST_ORIGIN and has_plain_characters(origin)


def _is_transaction(transaction):
    try:
        check_transaction(transaction)
    except BadTransaction:
        return False
    return True


class Replica:
    """The acceptor, the proposer and the slots of one replica, with the store and the sessions."""

    def __init__(self, name, replicas, records, boot):
        self.name = name
        self._replicas = tuple(replicas)
        self._index = self._replicas.index(name)
        self._others = [other for other in self._replicas if other != name]
        self._acceptor = Acceptor()
        self._proposer = Proposer(self._index, len(self._replicas))
        self._slots = Slots()
        self._machine = Machine()
        self._outbox = Outbox()
        self._waiting = Waiting()
        self._leader = None
        self._renew_patience()
        # True if a beat since the last tick told of more applied slots than there were here.
        self._is_outrun = False
        for record in records:
            self._replay(record)
        self._proposer.saw(self._acceptor.promised)

    def handle(self, event):
        """Handle an event and return the list of the effects."""
        match event:
            case ("tick",):
                self._tick()
            case ("letter", sender, letter):
                self._hear(sender, letter)
            case ("stored", count):
                self._release(count)
        return self._outbox.take_effects()

    def look(self):
        """Return (number of applied slots, revision of the store, True if the proposer is leading)."""
        return (self._slots.applied, self._machine.store.revision, self._proposer.state == LEADING)

    def dump(self):
        """Return the tuple (image of the store, image of the sessions)."""
        return self._machine.dump()

    def value_at(self, slot):
        """Return the value of a slot that was applied and is still kept, or None."""
        return self._slots.value_at(slot)

    def _replay(self, record):
        self._acceptor.replay(record)
        if record[0] == "image" and record[1] > self._slots.applied:
            self._load(record)

    def _load(self, image):
        base = image[1]
        self._machine.load(image)
        self._slots.jump(base)
        self._acceptor.cut(base)

    def _store_promise(self, before):
        """Store the promised ballot if it is greater than before."""
        if self._acceptor.promised > before:
            self._outbox.keep(("promised", self._acceptor.promised))

    def _send(self, receiver, letter):
        """Send a letter; one to the replica itself is handled at this moment."""
        if receiver == self.name:
            self._hear(self.name, letter)
        else:
            self._outbox.send(receiver, letter)

    def _send_all(self, receivers, letter):
        for receiver in receivers:
            self._send(receiver, letter)

    def _hold(self, receiver, letter):
        """Send a letter as soon as all records that were stored before it are safe."""
        if self._outbox.is_all_safe():
            self._send(receiver, letter)
        else:
            self._outbox.hold(receiver, letter)

    def _release(self, count):
        self._outbox.note_safe(count)
        held = self._outbox.release()
        while held is not None:
            receiver, letter = held
            self._send(receiver, letter)
            held = self._outbox.release()

    def _renew_patience(self):
        self._patience = LEAST_PATIENCE + PATIENCE_STEP * self._index

    def _follow(self, leader):
        self._leader = leader
        self._renew_patience()

    def _tick(self):
        if self._proposer.state == LEADING:
            self._lead()
        else:
            self._lose_patience()
        if self._slots.is_behind() or self._is_outrun:
            self._ask_for_more()
        self._is_outrun = False

    def _lead(self):
        ballot = self._proposer.ballot
        for other in self._others:
            self._send(other, ("beat", ballot, self._slots.applied))
            for slot, value in self._proposer.open_proposals():
                self._send(other, ("accept", ballot, slot, value))

    def _lose_patience(self):
        self._patience -= 1
        if self._patience == 0:
            self._renew_patience()
            self._leader = None
            self._prepare()

    def _prepare(self):
        """Begin a ballot; the acceptor promises it at once, so that it is not used again after a failure."""
        first = self._slots.applied
        ballot = self._proposer.begin(first)
        self._acceptor.prepare(ballot, first)
        self._outbox.keep(("promised", ballot))
        for receiver in [self.name] + self._others:
            self._hold(receiver, ("prepare", ballot, first))

    def _ask_for_more(self):
        letter = ("want", self._slots.applied)
        if self._leader is None or self._leader == self.name:
            self._send_all(self._others, letter)
        else:
            self._send(self._leader, letter)

    def _send_accepts(self, slot, value):
        self._send_all([self.name] + self._others, ("accept", self._proposer.ballot, slot, value))

    def _hear(self, sender, letter):
        match letter:
            case ("ask", command):
                self._hear_ask(sender, command)
            case ("since", revision):
                self._send(sender, self._machine.store.since(revision))
            case _:
                if sender in self._replicas:
                    self._hear_replica(sender, letter)

    def _hear_replica(self, sender, letter):
        match letter:
            case ("prepare", ballot, first):
                self._hear_prepare(sender, ballot, first)
            case ("promise", ballot, base, rows):
                self._hear_promise(sender, ballot, base, rows)
            case ("refuse", ballot):
                self._proposer.saw(ballot)
            case ("accept", ballot, slot, value):
                self._hear_accept(sender, ballot, slot, value)
            case ("accepted", ballot, slot):
                self._hear_accepted(sender, ballot, slot)
            case ("chosen", slot, value):
                if self._slots.learn(slot, value):
                    self._apply()
            case ("beat", ballot, applied):
                self._hear_beat(sender, ballot, applied)
            case ("want", first):
                self._hear_want(sender, first)
            case ("image", base, _):
                if base > self._slots.applied:
                    self._adopt(letter)

    def _hear_prepare(self, sender, ballot, first):
        self._proposer.saw(ballot)
        before = self._acceptor.promised
        answer = self._acceptor.prepare(ballot, first)
        if answer[0] == "refuse":
            self._send(sender, answer)
            return
        self._store_promise(before)
        if sender != self.name:
            self._renew_patience()
        self._hold(sender, answer)

    def _hear_promise(self, sender, ballot, base, rows):
        if base > self._slots.applied:
            # The sender forgot what it accepted below its base, and what was decided there is not known here.
            self._send(sender, ("want", self._slots.applied))
            return
        was_leading = self._proposer.state == LEADING
        opened = self._proposer.hear_promise(self._replicas.index(sender), ballot, base, rows)
        # Only the promise that makes it lead changes its leader: it may hear of another one later.
        if self._proposer.state == LEADING and not was_leading:
            self._leader = self.name
        for slot, value in opened:
            self._send_accepts(slot, value)

    def _hear_accept(self, sender, ballot, slot, value):
        self._proposer.saw(ballot)
        before = self._acceptor.promised
        answer = self._acceptor.accept(ballot, slot, value)
        if answer[0] == "refuse":
            self._send(sender, answer)
            return
        if sender != self.name:
            self._follow(sender)
        if answer[0] == "accepted":
            self._outbox.keep(("accepted", ballot, slot, value))
            self._hold(sender, answer)
        else:
            self._store_promise(before)
            self._hear_want(sender, slot)

    def _hear_accepted(self, sender, ballot, slot):
        value = self._proposer.hear_accepted(self._replicas.index(sender), ballot, slot)
        if value is not None:
            self._slots.learn(slot, value)
            self._send_all(self._others, ("chosen", slot, value))
            self._apply()

    def _hear_beat(self, sender, ballot, applied):
        if ballot < self._acceptor.promised:
            self._send(sender, ("refuse", self._acceptor.promised))
            return
        self._proposer.saw(ballot)
        self._follow(sender)
        if applied > self._slots.applied:
            self._is_outrun = True

    def _hear_want(self, sender, first):
        if first < self._slots.base:
            self._send(sender, self._machine.newest)
            return
        for slot in range(first, min(first + SENT_AT_ONCE, self._slots.applied)):
            self._send(sender, ("chosen", slot, self._slots.value_at(slot)))

    def _adopt(self, image):
        self._load(image)
        self._outbox.keep(image)
        self._proposer.stop()
        for origin, number in self._waiting.awaited():
            answer = self._machine.sessions.answer(origin, number)
            if answer is not None:
                self._tell(origin, number, answer)
        self._apply()

    def _hear_ask(self, sender, command):
        if not is_command(command):
            return
        origin, number = command[:2]
        is_replica = sender in self._replicas
        answer = self._machine.sessions.answer(origin, number)
        if answer is not None:
            if not is_replica:
                self._send(sender, ("told", origin, number, answer))
            return
        if not is_replica:
            self._waiting.note(sender, origin, number)
        if self._proposer.state == LEADING:
            self._propose(command)
        elif self._leader not in (None, self.name) and not is_replica:
            self._send(self._leader, ("ask", command))

    def _propose(self, command):
        opened = [value[:2] for _, value in self._proposer.open_proposals()]
        if command[:2] not in opened:
            self._send_accepts(self._proposer.propose(command), command)

    def _apply(self):
        """Apply the slots that can be taken, one by one."""
        for slot, value in self._slots.take():
            if value != NOTHING:
                origin, number = value[:2]
                self._tell(origin, number, self._machine.sessions.run(self._machine.store, value))
            if (slot + 1) % IMAGE_EVERY == 0:
                self._keep_image(slot + 1)

    def _tell(self, origin, number, answer):
        """Tell the answer to all that wait for it."""
        for sender in self._waiting.leave(origin, number):
            self._send(sender, ("told", origin, number, answer))

    def _keep_image(self, base):
        self._outbox.keep(self._machine.make_image(base))
        self._acceptor.cut(base)
        self._slots.cut(base)
