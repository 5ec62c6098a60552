"""Which tasks wait for a node, and on which nodes they fit."""

from majordomo.tasks import SIZE, STATE, STOP, ZONE


def free_size(node_value, assumed):
    """Return the size that is left on a node; it may be negative."""
    size, used, _, _, _ = node_value
    return size - used - assumed


def is_open(node_value):
    """Return True if the node has begun a life and is not lost."""
    _, _, life, lost, _ = node_value
    return lost == 0 and life >= 1


def fits(task_value, node_value, drained, assumed):
    """Return True if the task may be bound to the node."""
    _, _, _, _, zone = node_value
    if drained or not is_open(node_value) or task_value[ZONE] not in ("", zone):
        return False
    return task_value[SIZE] <= free_size(node_value, assumed)


def pending_tasks(entries):
    """Return the list of the names of the pending tasks, the eldest first."""
    tasks = [(born, name) for kind, name, born, _, value in entries if kind == "task" and _is_pending(value)]
    return [name for _, name in sorted(tasks)]


def _is_pending(value):
    return value[STATE] == "new" and value[STOP] == 0
