"""The transactions of the commands that people give."""

from majordomo.conditions import deleting, putting
from majordomo.errors import NotThere

NEW_SERVICE = (1, "", 1, 1, "")
NEW_NOTE = ("", "", "", 0)


def command_transaction(view, command):
    """Return the transaction of a parsed command."""
    match command:
        case ("declare", name, options):
            return _declare(view, name, options)
        case ("scale", name, count):
            return _scale(view, name, count)
        case ("drain", name, text):
            return _drain(view, name, text)
        case ("note", name, options):
            return _note(view, name, options)
        case ("remove", name):
            return _delete(view, "service", name)
        case ("undrain", name):
            return _delete(view, "drain", name)
        case ("forget", name):
            return _delete(view, "note", name)


def _value(view, key, value):
    """Return the value of the object of a key, or the given one if there is none."""
    if key not in view:
        return value
    return view[key][2]


def _check_there(view, key):
    if key not in view:
        raise NotThere(key[0], key[1])


def _declare(view, name, options):
    key = ("service", name)
    count, text, size, gone, zone = _value(view, key, NEW_SERVICE)
    chosen = {"count": count, "text": text, "size": size, "gone": gone, "zone": zone}
    for option, worth in options:
        chosen[option] = worth
    value = (chosen["count"], chosen["text"], chosen["size"], chosen["gone"], chosen["zone"])
    return putting(view, [key], key, value)


def _scale(view, name, count):
    key = ("service", name)
    _check_there(view, key)
    return putting(view, [key], key, (count,) + view[key][2][1:])


def _drain(view, name, text):
    key = ("drain", name)
    return putting(view, [key], key, (text,))


def _note(view, name, options):
    key = ("note", name)
    text, kind, owner, born = _value(view, key, NEW_NOTE)
    keys = [key]
    for option, worth in options:
        if option == "text":
            text = worth
        else:
            _check_there(view, worth)
            kind, owner = worth
            born = view[worth][0]
            keys.append(worth)
    return putting(view, keys, key, (text, kind, owner, born))


def _delete(view, kind, name):
    key = (kind, name)
    _check_there(view, key)
    return deleting(view, [key], key)
