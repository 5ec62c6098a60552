"""Which nodes are lost, and what becomes of their tasks."""

from majordomo.conditions import conditions
from majordomo.tasks import LIFE, NODE, SIZE, ended, is_placed


def _is_stranded(view, task):
    """Return True if the life in which the task with this value was bound to its node is over."""
    key = ("node", task[NODE])
    if not is_placed(task) or key not in view:
        return False
    _, _, life, lost, _ = view[key][2]
    return life > task[LIFE] or (life == task[LIFE] and lost == 1)


def stranded(view, name):
    """Return the list of the names of the stranded tasks of a node, in ascending order."""
    slots = [slot for kind, slot in view if kind == "task" and view[(kind, slot)][2][NODE] == name]
    return sorted([slot for slot in slots if _is_stranded(view, view[("task", slot)][2])])


def _nodes_with_stranded(view):
    """Return a dict whose keys are the names of the nodes that have stranded tasks."""
    tasks = [view[key][2] for key in view if key[0] == "task"]
    return {task[NODE]: True for task in tasks if _is_stranded(view, task)}


def _lose(view, name):
    """Return the transaction that declares a node lost."""
    beat = ("beat", name)
    node = ("node", name)
    size, used, life, _, zone = view[node][2]
    # The beat is put as it is: its new revision alone refuses the next beat of the worker.
    puts = (beat + (view[beat][2],), node + ((size, used, life, 1, zone),))
    return (conditions(view, [beat, node]), puts, ())


def _end(view, name, slot):
    """Return the transaction that ends a task and frees its room on the node."""
    node = ("node", name)
    key = ("task", slot)
    task = view[key][2]
    size, used, life, lost, zone = view[node][2]
    puts = (node + ((size, max(0, used - task[SIZE]), life, lost, zone),), key + (ended(task),))
    return (conditions(view, [node, key]), puts, ())


class NodeWatch:
    """A clock, and for each beat its revision and when this was first seen."""

    def __init__(self, wait):
        self.wait = wait
        self.clock = 0
        self._noted = {}

    def tick(self, view):
        """Let one tick pass; return the list of the names of the nodes that need something, in ascending order."""
        self.clock += 1
        self._note_beats(view)
        with_stranded = _nodes_with_stranded(view)
        names = [name for kind, name in view if kind == "node"]
        return sorted([name for name in names if name in with_stranded or self.silent(view, name)])

    def _note_beats(self, view):
        noted = {}
        for kind, name in view:
            if kind == "beat":
                revision = view[(kind, name)][1]
                before = self._noted.get(name)
                is_known = before is not None and before[0] == revision
                noted[name] = before if is_known else (revision, self.clock)
        self._noted = noted

    def silent(self, view, name):
        """Return True if the beat of the node has been the same for longer than the wait."""
        if ("node", name) not in view or ("beat", name) not in view or name not in self._noted:
            return False
        _, _, life, lost, _ = view[("node", name)][2]
        _, revision, beat = view[("beat", name)]
        noted, seen = self._noted[name]
        return noted == revision and lost == 0 and beat[0] == life and self.clock - seen > self.wait

    def need(self, view, name):
        """Return the transaction that a node name needs next, or None."""
        if self.silent(view, name):
            return _lose(view, name)
        slots = stranded(view, name)
        if not slots:
            return None
        return _end(view, name, slots[0])
