"""How the task of a slot stands to the service that the slot names."""

from majordomo.objects import split_slot
from majordomo.tasks import NODE, SERVICE_BORN, SIZE, STATE, STOP, TEXT, ZONE, is_placed


def task_of(view, slot):
    """Return the value of the task of a slot, or None."""
    if ("task", slot) not in view:
        return None
    return view[("task", slot)][2]


def is_wanted(view, slot):
    """Return True if the view has the task's own service, and this counts the slot in."""
    task = task_of(view, slot)
    parts = split_slot(slot)
    if task is None or parts is None:
        return False
    name, number = parts
    if ("service", name) not in view:
        return False
    born, _, service = view[("service", name)]
    return task[SERVICE_BORN] == born and number < service[0]


def is_current(view, slot):
    """Return True if the task is wanted and is what the service declares."""
    if not is_wanted(view, slot):
        return False
    name, _ = split_slot(slot)
    _, text, size, _, zone = view[("service", name)][2]
    task = task_of(view, slot)
    return (task[TEXT], task[SIZE], task[ZONE]) == (text, size, zone)


def is_available(view, slot):
    """Return True if the task is wanted, runs and is not to end."""
    if not is_wanted(view, slot):
        return False
    task = task_of(view, slot)
    return task[STATE] == "running" and task[STOP] == 0


def is_drained(view, slot):
    """Return True if the task is on a node that has a drain."""
    task = task_of(view, slot)
    return task is not None and is_placed(task) and ("drain", task[NODE]) in view
