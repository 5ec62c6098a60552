"""A manager: an actor that makes the tasks, the notes and the nodes what they have to be."""

from majordomo.caller import Caller
from majordomo.collector import note_need
from majordomo.follower import Follower
from majordomo.nodes import NodeWatch
from majordomo.objects import split_slot
from majordomo.services import service_need
from majordomo.tasks import NODE
from majordomo.workqueue import WorkQueue

MOST_DELAY = 8
# After each such number of ticks, everything is looked at again.
LOOK_EVERY = 16


def work_keys(view, kind, name):
    """Return the list of the work keys of an object key, in ascending order."""
    return _work_keys(kind, name, _notes_of_owners(view), _slots_on_nodes(view))


def _notes_of_owners(view):
    """Return a dict from the keys of owners to the lists of the names of their notes."""
    notes = {}
    for kind, name in view:
        if kind == "note":
            _, owner_kind, owner_name, _ = view[(kind, name)][2]
            notes.setdefault((owner_kind, owner_name), []).append(name)
    return notes


def _slots_on_nodes(view):
    """Return a dict from the names of nodes to the lists of the slots of their tasks."""
    slots = {}
    for kind, name in view:
        if kind == "task":
            slots.setdefault(view[(kind, name)][2][NODE], []).append(name)
    return slots


def _work_keys(kind, name, notes, slots):
    keys = ["note " + note for note in notes.get((kind, name), [])]
    if kind == "task":
        keys += _service_keys([name])
    elif kind == "drain":
        keys += _service_keys(slots.get(name, []))
    elif kind in ("service", "rollout"):
        keys.append("service " + name)
    elif kind in ("node", "beat"):
        keys.append("node " + name)
    elif kind == "note":
        keys.append("note " + name)
    return sorted({key: True for key in keys})


def _service_keys(slots):
    """Return the list of the work keys of the services that the slots name."""
    parts = [split_slot(slot) for slot in slots]
    return ["service " + part[0] for part in parts if part is not None]


class Manager:
    """A follower, a caller, a work queue and a node watch, and the key whose transaction is under way."""

    def __init__(self, name, fronts, wait, boot):
        self._follower = Follower(fronts)
        self._caller = Caller(f"{name}.{boot}", fronts)
        self._queue = WorkQueue(most=MOST_DELAY)
        self._watch = NodeWatch(wait)
        self._ticks = 0
        self._key = ""

    def handle(self, event):
        """Handle an event and return the list of the effects."""
        match event:
            case ("tick",):
                return self._tick()
            case ("letter", sender, letter):
                return self._hear(sender, letter)
        return []

    def look(self):
        """Return (revision, ready, list of the waiting keys in order, key in work or "")."""
        cache = self._follower.cache
        return (cache.revision, cache.ready, self._queue.waiting(), self._key)

    def _tick(self):
        self._ticks += 1
        effects = self._follower.tick() + self._caller.tick()
        self._queue.tick()
        view = self._follower.cache.view
        for name in self._watch.tick(view):
            self._queue.add("node " + name)
        if self._ticks % LOOK_EVERY == 0:
            self._add(sorted(view))
        return effects + self._work()

    def _hear(self, sender, letter):
        self._add(self._follower.hear(sender, letter))
        answer = self._caller.hear(letter)
        if answer is not None:
            self._end_work(answer)
        return self._work()

    def _add(self, keys):
        """Add the work keys of each of some object keys."""
        view = self._follower.cache.view
        notes = _notes_of_owners(view)
        slots = _slots_on_nodes(view)
        for kind, name in keys:
            for key in _work_keys(kind, name, notes, slots):
                self._queue.add(key)

    def _end_work(self, answer):
        if answer[0] == "done":
            self._queue.finish(self._key)
        else:
            self._queue.fail(self._key)
        self._key = ""

    def _work(self):
        """Look at waiting keys until one of them needs a transaction; return the list of effects."""
        effects = []
        while self._follower.cache.ready and not self._caller.busy and self._queue.waiting():
            key = self._queue.take()
            need = self._need(key)
            if need is None:
                self._queue.finish(key)
            else:
                self._key = key
                effects = self._caller.ask(need)
        return effects

    def _need(self, key):
        """Return the transaction that a work key needs next, or None."""
        view = self._follower.cache.view
        kind, _, name = key.partition(" ")
        if kind == "service":
            return service_need(view, name)
        if kind == "note":
            return note_need(view, name)
        return self._watch.need(view, name)
