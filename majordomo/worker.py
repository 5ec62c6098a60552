"""A worker: an actor that runs the tasks that are bound to its node."""

from majordomo.caller import Caller
from majordomo.follower import Follower
from majordomo.holds import Holds
from majordomo.lease import beat_due, feed_left
from majordomo.restarts import Restarts
from majordomo.runs import Runs, next_end, next_start, tasks_of, to_run
from majordomo.tasks import SIZE, STATE, ended, started


def _next_life(node_entry):
    """Return the number of the life that the next enrolment begins."""
    if node_entry is None:
        return 1
    return node_entry[2][2] + 1


def enroll_transaction(name, size, zone, node_entry, beat_entry):
    """Return the transaction that gives the node its next life."""
    life = _next_life(node_entry)
    used = 0
    revisions = (0, 0)
    if node_entry is not None:
        _, used, _, _, _ = node_entry[2]
        revisions = (beat_entry[1], node_entry[1])
    conditions = (("beat", name, revisions[0]), ("node", name, revisions[1]))
    puts = (("beat", name, (life, 0)), ("node", name, (size, used, life, 0, zone)))
    return (conditions, puts, ())


def beat_transaction(name, beat_rev, life, count):
    """Return the transaction of the beat that follows the one with this count."""
    return ((("beat", name, beat_rev),), (("beat", name, (life, count + 1)),), ())


def start_transaction(slot, task_entry):
    """Return the transaction that says that a bound task runs."""
    _, revision, value = task_entry
    return ((("task", slot, revision),), (("task", slot, started(value)),), ())


def end_transaction(slot, task_entry, node, node_entry):
    """Return the transaction that says that a task has ended, and frees its room on the node."""
    _, task_revision, task_value = task_entry
    _, node_revision, node_value = node_entry
    size, used, life, lost, zone = node_value
    conditions = (("node", node, node_revision), ("task", slot, task_revision))
    puts = (("node", node, (size, used - task_value[SIZE], life, lost, zone)), ("task", slot, ended(task_value)))
    return (conditions, puts, ())


class Worker:
    """A follower, a caller, the runs of the engine, and what the worker knows of its present life."""

    def __init__(self, name, fronts, size, zone, feed, boot, running):
        self.clock = 0
        self.fed_until = 0
        self.runs = Runs()
        self.follower = Follower(fronts)
        self.caller = Caller(f"{name}.{boot}", fronts)
        self._name = name
        self._size = size
        self._zone = zone
        self._feed = feed
        self._left_over = sorted(running)
        # What the transaction under way is for: its kind, and the life, or the slot and the born of the task.
        self._under_way = None
        # The revision of the cache when the transaction under way was sent.
        self._sent_at = 0
        # The tick at which the last enrolment or beat was sent first.
        self._asked = 0
        self._begin_life(0, 0)

    def _begin_life(self, life, revision):
        self.life = life
        self._beat_rev = revision
        self._count = 0
        # The borns of the tasks whose starts are done, and of those whose ends were begun to be confirmed.
        self._started = []
        self._confirmed = []
        # The tasks that are held; and the node, as long as an enrolment that was refused is to wait.
        self._holds = Holds()
        self._restarts = Restarts()

    def begin(self):
        """Return the effects of the start: what an earlier worker left running is stopped."""
        return [("stop", slot) for slot in self._left_over]

    def handle(self, event):
        """Handle an event and return the list of the effects."""
        match event:
            case ("tick",):
                return self._tick()
            case ("letter", sender, letter):
                return self._hear(sender, letter)
            case ("ended", slot):
                return self._end_run(slot)
        return []

    def _tick(self):
        self.clock += 1
        if self.clock >= self.fed_until:
            # The watchdog has ended them.
            self.runs.end_all()
        effects = self.follower.tick() + self.caller.tick()
        effects += self._begin_runs()
        return effects + self._send_next()

    def _hear(self, sender, letter):
        if letter[0] != "told":
            self.follower.hear(sender, letter)
            return self._begin_runs()
        answer = self.caller.hear(letter)
        if answer is None:
            return []
        effects = self._end_transaction(answer)
        effects += self._begin_runs()
        return effects + self._send_next()

    def _end_run(self, slot):
        """A run ended by itself: its slot waits."""
        if slot not in self.runs.slots():
            return []
        self.runs.end(slot)
        self._restarts.failed(slot, self.clock)
        return self._begin_runs()

    def _tasks(self):
        """Return the tasks of this life as tasks_of does; those that were started count as running."""
        found = []
        for name, born, revision, value in tasks_of(self.follower.cache.entries(), self._name, self.life):
            if value[STATE] == "bound" and born in self._started:
                found.append((name, born, revision, started(value)))
            else:
                found.append((name, born, revision, value))
        return found

    def _begin_runs(self):
        """Run what is to run and does not; return the list of effects."""
        if self.life == 0 or self.clock >= self.fed_until:
            return []
        effects = []
        for slot, born, text, size in to_run(self._tasks(), self.runs, self._confirmed):
            if self._restarts.is_due(slot, self.clock):
                effects.append(("run", slot, text, size))
                self.runs.begin(slot, born)
                self._restarts.begun(slot, self.clock)
        return effects

    def _send_next(self):
        """Send the next transaction if there is one and none is under way; return the list of effects."""
        cache = self.follower.cache
        if self.caller.busy or not cache.ready:
            return []
        if self.life == 0:
            return self._send_enroll()
        if beat_due(self._feed, self._asked, self.clock):
            return self._send_beat()
        tasks = self._tasks()
        held = self._holds.names(cache.revision, self.clock)
        task = next_end(tasks, held)
        if task is not None:
            return self._send_end(task)
        task = next_start(tasks, held)
        if task is not None:
            return self._send_start(task)
        return []

    def _ask(self, under_way, transaction):
        self._under_way = under_way
        self._sent_at = self.follower.cache.revision
        return self.caller.ask(transaction)

    def _send_enroll(self):
        cache = self.follower.cache
        if self._holds.is_held(self._name, cache.revision, self.clock):
            return []
        node_entry = cache.view.get(("node", self._name))
        beat_entry = cache.view.get(("beat", self._name))
        self._asked = self.clock
        transaction = enroll_transaction(self._name, self._size, self._zone, node_entry, beat_entry)
        return self._ask(("enroll", _next_life(node_entry)), transaction)

    def _send_beat(self):
        self._asked = self.clock
        return self._ask(("beat",), beat_transaction(self._name, self._beat_rev, self.life, self._count))

    def _send_end(self, task):
        slot, born, revision, value = task
        effects = []
        if slot in self.runs.slots():
            effects.append(("stop", slot))
            self.runs.end(slot)
        self._restarts.forget(slot)
        if born not in self._confirmed:
            self._confirmed.append(born)
        node_entry = self.follower.cache.view[("node", self._name)]
        transaction = end_transaction(slot, (born, revision, value), self._name, node_entry)
        return effects + self._ask(("end", slot, born), transaction)

    def _send_start(self, task):
        slot, born, revision, value = task
        return self._ask(("start", slot, born), start_transaction(slot, (born, revision, value)))

    def _end_transaction(self, answer):
        """Handle the answer to the transaction that was under way; return the list of effects."""
        is_done = answer[0] == "done"
        match self._under_way:
            case ("enroll", life):
                return self._end_enroll(life, answer)
            case ("beat",):
                return self._end_beat(answer)
            case ("start", slot, born):
                if is_done:
                    self._started.append(born)
                else:
                    self._holds.note(slot, self._sent_at, self.clock)
            case ("end", slot, _):
                if not is_done:
                    self._holds.note(slot, self._sent_at, self.clock)
        return []

    def _end_enroll(self, life, answer):
        if answer[0] != "done":
            self._holds.note(self._name, self._sent_at, self.clock)
            return []
        self._begin_life(life, answer[1])
        return self._feed_engine()

    def _end_beat(self, answer):
        if answer[0] == "done":
            self._beat_rev = answer[1]
            self._count += 1
            return self._feed_engine()
        effects = [("stop", slot) for slot in self.runs.slots()]
        self.runs.end_all()
        self._begin_life(0, 0)
        return effects

    def _feed_engine(self):
        """Feed the engine with what is left of the enrolment or beat that was done; return the list of effects."""
        left = feed_left(self._feed, self._asked, self.clock)
        if left == 0 or self.fed_until >= self.clock + left:
            return []
        self.fed_until = self.clock + left
        return [("feed", left)]
