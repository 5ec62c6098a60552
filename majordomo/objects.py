"""The kinds of objects in the store, the forms of their names and values, and transactions."""

from majordomo.errors import BadTransaction
from majordomo.forms import DIGITS, has_plain_characters, is_integer_within

KINDS = ("beat", "drain", "node", "note", "rollout", "service", "task")
STATES = ("new", "bound", "running", "ended")

NAME_CHARACTERS = "abcdefghijklmnopqrstuvwxyz0123456789"
MOST_NAME = 12
MOST_TEXT = 40
MOST_COUNT = 10 ** 12
MOST_NUMBER = 9
MOST_MEMBERS = 12


def is_plain_name(name):
    """Return True if the argument, any value, is a plain name."""
    if not isinstance(name, str) or not 1 <= len(name) <= MOST_NAME:
        return False
    return all([character in NAME_CHARACTERS for character in name])


def is_slot_name(name):
    """Return True if the argument, any value, is a slot name."""
    if not isinstance(name, str) or len(name) < 3:
        return False
    return name[-1] in DIGITS and name[-2] == "/" and is_plain_name(name[:-2])


def is_text(text):
    """Return True if the argument, any value, is a text."""
    return isinstance(text, str) and len(text) <= MOST_TEXT and has_plain_characters(text)


def is_count(number):
    """Return True if the argument, any value, is a count."""
    return is_integer_within(number, 0, MOST_COUNT)


def is_zone(zone):
    """Return True if the argument, any value, is a zone."""
    return zone == "" or is_plain_name(zone)


def slot_name(name, number):
    """Return the slot name of a plain name and a number from 0 to 9."""
    return f"{name}/{number}"


def split_slot(slot):
    """Return the plain name and the number of a slot name, or None if the string is none."""
    if not is_slot_name(slot):
        return None
    return (slot[:-2], int(slot[-1]))


def is_key(kind, name):
    """Return True if the kind is one and the name has the form of its names."""
    if kind == "task":
        return is_slot_name(name)
    return kind in KINDS and is_plain_name(name)


def _is_beat(value):
    if len(value) != 2:
        return False
    return is_count(value[0]) and is_count(value[1])


def _is_drain(value):
    return len(value) == 1 and is_text(value[0])


def _is_node(value):
    if len(value) != 5:
        return False
    size, used, life, lost, zone = value
    return is_count(size) and is_count(used) and is_count(life) and is_integer_within(lost, 0, 1) and is_zone(zone)


def _is_note(value):
    if len(value) != 4:
        return False
    text, owner_kind, owner_name, owner_born = value
    if not is_text(text) or not is_count(owner_born):
        return False
    return owner_kind == owner_name == "" or is_key(owner_kind, owner_name)


def _is_rollout(value):
    return len(value) == 2 and is_count(value[0]) and _are_open_numbers(value[1])


def _are_open_numbers(numbers):
    if not isinstance(numbers, tuple):
        return False
    least = 0
    for number in numbers:
        if not is_integer_within(number, least, MOST_NUMBER):
            return False
        least = number + 1
    return True


def _is_service(value):
    if len(value) != 5:
        return False
    count, text, size, gone, zone = value
    if not is_integer_within(count, 0, MOST_NUMBER) or not is_integer_within(gone, 1, MOST_NUMBER):
        return False
    return is_text(text) and is_count(size) and is_zone(zone)


def _is_task(value):
    if len(value) != 8:
        return False
    service_born, text, size, state, stop, node, life, zone = value
    if not is_count(service_born) or not is_count(size) or not is_count(life):
        return False
    # A node has a plain name or is empty, which is the form of zones.
    if not is_text(text) or not is_zone(node) or not is_zone(zone):
        return False
    return state in STATES and is_integer_within(stop, 0, 1)


VALUE_FORMS = {
    "beat": _is_beat,
    "drain": _is_drain,
    "node": _is_node,
    "note": _is_note,
    "rollout": _is_rollout,
    "service": _is_service,
    "task": _is_task,
}


def is_object(kind, name, value):
    """Return True if the key and the value have the form of an object."""
    if not is_key(kind, name) or not isinstance(value, tuple):
        return False
    has_form = VALUE_FORMS[kind]
    return has_form(value)


def _is_tuple_of(value, size):
    return isinstance(value, tuple) and len(value) == size


def _is_condition(condition):
    return _is_tuple_of(condition, 3) and is_key(condition[0], condition[1]) and is_count(condition[2])


def _is_put(put):
    return _is_tuple_of(put, 3) and is_object(put[0], put[1], put[2])


def _is_delete(delete):
    return _is_tuple_of(delete, 2) and is_key(delete[0], delete[1])


def _are_distinct(keys):
    seen = {}
    for key in keys:
        if key in seen:
            return False
        seen[key] = True
    return True


def check_transaction(transaction):
    """Raise BadTransaction if the argument, a value, is not a transaction."""
    if not _is_tuple_of(transaction, 3):
        raise BadTransaction("a transaction has three parts")
    for part in transaction:
        if not isinstance(part, tuple) or len(part) > MOST_MEMBERS:
            raise BadTransaction("a part is a tuple of at most 12 members")
    conditions, puts, deletes = transaction
    if not all([_is_condition(condition) for condition in conditions]):
        raise BadTransaction("a condition has not its form")
    if not all([_is_put(put) for put in puts]):
        raise BadTransaction("a put has not its form")
    if not all([_is_delete(delete) for delete in deletes]):
        raise BadTransaction("a delete has not its form")
    if not _are_distinct([put[:2] for put in puts] + list(deletes)):
        raise BadTransaction("a key appears twice among the puts and deletes")
