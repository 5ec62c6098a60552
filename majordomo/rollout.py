"""Which tasks of a service are replaced, a few at a time."""

from majordomo.conditions import putting
from majordomo.objects import slot_name
from majordomo.tasks import NODE, STOP, is_placed, stopped
from majordomo.wanted import is_available, is_current, is_drained, is_wanted, task_of


def open_numbers(view, name):
    """Return the tuple of the numbers whose tasks may be stopped now, in ascending order."""
    if ("service", name) not in view or ("rollout", name) not in view:
        return ()
    service_born, numbers = view[("rollout", name)][2]
    if service_born != view[("service", name)][0]:
        return ()
    return numbers


def next_open(view, name):
    """Return the tuple of the numbers that are to be open next, in ascending order."""
    if ("service", name) not in view:
        return ()
    count, _, _, gone, _ = view[("service", name)][2]
    chosen = _kept(view, name, count)
    down = [number for number in range(count) if not is_available(view, slot_name(name, number))]
    for number in _candidates(view, name, count, down):
        if number not in chosen and len(chosen) < gone:
            if number in down or len(_either(chosen, down)) < gone:
                chosen.append(number)
    return tuple(sorted(chosen))


def _kept(view, name, count):
    """Return the list of the open numbers whose tasks are not replaced yet."""
    return [number for number in open_numbers(view, name)
            if number < count and not _is_settled(view, slot_name(name, number))]


def _candidates(view, name, count, down):
    """Return the list of the stale numbers: first those that are down, each part in descending order."""
    stale = [number for number in range(count) if _is_stale(view, slot_name(name, number))]
    # Replacing what does not run anyway makes nothing worse.
    return sorted(stale, key=lambda number: (number not in down, -number))


def _either(chosen, down):
    """Return the list of the numbers that are in one of the lists, each once."""
    return chosen + [number for number in down if number not in chosen]


def _is_stale(view, slot):
    if not is_wanted(view, slot) or not is_placed(task_of(view, slot)):
        return False
    return not is_current(view, slot) or is_drained(view, slot)


def _is_settled(view, slot):
    return is_current(view, slot) and is_available(view, slot) and not is_drained(view, slot)


def rollout_need(view, name):
    """Return the transaction that the rollout of a service needs next, or None."""
    if ("service", name) not in view:
        return None
    keys = [("service", name), ("rollout", name)]
    numbers = next_open(view, name)
    if numbers == open_numbers(view, name):
        return _stop_open(view, name, keys, numbers)
    born, _, service = view[("service", name)]
    tasks = [("task", slot_name(name, number)) for number in range(service[0])]
    return putting(view, keys + tasks, ("rollout", name), (born, numbers))


def _stop_open(view, name, keys, numbers):
    """Return the transaction that stops the first stale task of the open numbers, or None."""
    for number in numbers:
        slot = slot_name(name, number)
        task = task_of(view, slot)
        if _is_stale(view, slot) and task[STOP] == 0:
            # A current task is stale for its drain only, so the drain must still be there.
            reasons = [("drain", task[NODE])] if is_current(view, slot) else []
            return putting(view, keys + [("task", slot)] + reasons, ("task", slot), stopped(task))
    return None
