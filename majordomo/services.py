"""What a service name needs next, so that its tasks become those that are declared."""

from majordomo.conditions import deleting, putting
from majordomo.objects import MOST_NUMBER, slot_name
from majordomo.rollout import rollout_need
from majordomo.tasks import STATE, STOP, is_placed, new_task, renewed, stopped
from majordomo.wanted import is_current, is_wanted, task_of


def _slots(view, name):
    """Return the list of the slots of the name that have a task, with the lowest number first."""
    slots = [slot_name(name, number) for number in range(MOST_NUMBER + 1)]
    return [slot for slot in slots if ("task", slot) in view]


def _delete_ended(view, name):
    for slot in _slots(view, name):
        if task_of(view, slot)[STATE] == "ended":
            return deleting(view, [("task", slot)], ("task", slot))
    return None


def _delete_unwanted(view, name):
    for slot in _slots(view, name):
        if not is_wanted(view, slot) and task_of(view, slot)[STATE] == "new":
            return deleting(view, [("service", name), ("task", slot)], ("task", slot))
    return None


def _stop_unwanted(view, name):
    for slot in _slots(view, name):
        task = task_of(view, slot)
        if not is_wanted(view, slot) and is_placed(task) and task[STOP] == 0:
            return putting(view, [("service", name), ("task", slot)], ("task", slot), stopped(task))
    return None


def _delete_rollout(view, name):
    if ("rollout", name) not in view:
        return None
    service_born, _ = view[("rollout", name)][2]
    if ("service", name) in view and view[("service", name)][0] == service_born:
        return None
    return deleting(view, [("service", name), ("rollout", name)], ("rollout", name))


def _make_task(view, name):
    if ("service", name) not in view:
        return None
    born, _, service = view[("service", name)]
    count, text, size, _, zone = service
    for number in range(count):
        slot = slot_name(name, number)
        if ("task", slot) not in view:
            value = new_task(born, text, size, zone)
            return putting(view, [("service", name), ("task", slot)], ("task", slot), value)
    return None


def _renew_task(view, name):
    for slot in _slots(view, name):
        task = task_of(view, slot)
        if is_wanted(view, slot) and task[STATE] == "new" and not is_current(view, slot):
            _, text, size, _, zone = view[("service", name)][2]
            value = renewed(task, text, size, zone)
            return putting(view, [("service", name), ("task", slot)], ("task", slot), value)
    return None


# The order is that of the list of what a name needs.
NEEDS = (_delete_ended, _delete_unwanted, _stop_unwanted, _delete_rollout, _make_task, _renew_task)


def service_need(view, name):
    """Return the transaction that a service name needs next, or None."""
    for find_need in NEEDS:
        need = find_need(view, name)
        if need is not None:
            return need
    return rollout_need(view, name)
