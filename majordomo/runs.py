"""The runs of a worker, and which of its tasks come next."""

from majordomo.tasks import LIFE, NODE, SIZE, STATE, STOP, TEXT, is_placed


class Runs:
    """The slots that run, with the borns of their tasks."""

    def __init__(self):
        self._borns = {}

    def begin(self, slot, born):
        """Note a run."""
        self._borns[slot] = born

    def end(self, slot):
        """Forget the run of a slot, if there is one."""
        self._borns.pop(slot, None)

    def end_all(self):
        """Forget all runs."""
        self._borns = {}

    def born_of(self, slot):
        """Return the born of the task that runs in the slot, or 0."""
        return self._borns.get(slot, 0)

    def slots(self):
        """Return the list of the slots that run, in ascending order."""
        return sorted(self._borns)


def tasks_of(entries, node, life):
    """Return the list of (name, born, revision, value) of the tasks of a node in one of its lives, by name."""
    tasks = [entry[1:] for entry in entries if entry[0] == "task"]
    return sorted([task for task in tasks if task[3][NODE] == node and task[3][LIFE] == life])


def to_run(tasks, runs, confirmed):
    """Return the list of (name, born, text, size) of the tasks that are to run and do not."""
    running = runs.slots()
    found = []
    for name, born, _, value in tasks:
        if value[STATE] == "running" and value[STOP] == 0 and name not in running and born not in confirmed:
            found.append((name, born, value[TEXT], value[SIZE]))
    return found


def next_start(tasks, held):
    """Return the first task that is to be started, or None."""
    for task in tasks:
        name, _, _, value = task
        if value[STATE] == "bound" and value[STOP] == 0 and name not in held:
            return task
    return None


def next_end(tasks, held):
    """Return the first task that is to be ended, or None."""
    for task in tasks:
        name, _, _, value = task
        if is_placed(value) and value[STOP] == 1 and name not in held:
            return task
    return None
