"""A scheduler: an actor that binds new tasks to nodes."""

from majordomo.assumed import Assumed
from majordomo.caller import Caller
from majordomo.fit import fits, pending_tasks
from majordomo.follower import Follower
from majordomo.holds import Holds
from majordomo.ranking import choose_node, same_service
from majordomo.tasks import SERVICE_BORN, SIZE, bound


def bind_transaction(task, task_entry, node, node_entry):
    """Return the transaction that binds a task to a node."""
    _, task_revision, task_value = task_entry
    _, node_revision, node_value = node_entry
    size, used, life, lost, zone = node_value
    conditions = (("drain", node, 0), ("node", node, node_revision), ("task", task, task_revision))
    puts = (
        ("node", node, (size, used + task_value[SIZE], life, lost, zone)),
        ("task", task, bound(task_value, node, life)),
    )
    return (conditions, puts, ())


class Scheduler:
    """A follower, a caller, the assumed binds, and the task whose bind is under way."""

    def __init__(self, name, fronts, boot):
        self.follower = Follower(fronts)
        self.caller = Caller(f"{name}.{boot}", fronts)
        self.assumed = Assumed()
        self._holds = Holds()
        self._clock = 0
        self._task = ""
        # The revision of the cache when the bind that is under way was sent.
        self._sent_at = 0

    def handle(self, event):
        """Handle an event and return the list of the effects."""
        match event:
            case ("tick",):
                self._clock += 1
                return self.follower.tick() + self.caller.tick() + self._send_bind()
            case ("letter", sender, letter):
                return self._hear(sender, letter)
        return []

    def _hear(self, sender, letter):
        if letter[0] != "told":
            self.follower.hear(sender, letter)
            self.assumed.settle(self.follower.cache.revision)
            return []
        answer = self.caller.hear(letter)
        if answer is None:
            return []
        self._end_bind(answer)
        return self._send_bind()

    def _end_bind(self, answer):
        if answer[0] == "done":
            self.assumed.done(self._task, answer[1])
        else:
            self.assumed.drop(self._task)
            self._holds.note(self._task, self._sent_at, self._clock)
        self.assumed.settle(self.follower.cache.revision)

    def _send_bind(self):
        """Send the first bind that can be sent now; return the list of effects."""
        cache = self.follower.cache
        if self.caller.busy or not cache.ready:
            return []
        entries = cache.entries()
        nodes = self._nodes(cache.view)
        for task in self._free_tasks(entries):
            node = self._choose(cache.view[("task", task)][2], nodes, entries)
            if node != "":
                return self._bind(task, node)
        return []

    def _free_tasks(self, entries):
        """Return the list of the pending tasks that are neither assumed nor held back, in their order."""
        revision = self.follower.cache.revision
        tasks = [task for task in pending_tasks(entries) if not self.assumed.has(task)]
        return [task for task in tasks if not self._holds.is_held(task, revision, self._clock)]

    def _nodes(self, view):
        """Return the list of (name, node_value, drained, assumed) of all nodes."""
        names = [name for kind, name in view if kind == "node"]
        return [(name, view[("node", name)][2], ("drain", name) in view, self.assumed.size_on(name)) for name in names]

    def _choose(self, task_value, nodes, entries):
        """Return the name of the node for a task, or "" if it fits on none."""
        born = task_value[SERVICE_BORN]
        choices = []
        for node in nodes:
            name, node_value, drained, assumed = node
            # Most nodes do not fit, and the tasks on them need not be counted.
            if fits(task_value, node_value, drained, assumed):
                same = same_service(entries, name, born) + self.assumed.count_on(name, born)
                choices.append(node + (same,))
        return choose_node(task_value, choices)

    def _bind(self, task, node):
        cache = self.follower.cache
        task_entry = cache.view[("task", task)]
        task_value = task_entry[2]
        self.assumed.add(task, node, task_value[SIZE], task_value[SERVICE_BORN])
        self._task = task
        self._sent_at = cache.revision
        return self.caller.ask(bind_transaction(task, task_entry, node, cache.view[("node", node)]))
