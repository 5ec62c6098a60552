"""The state of the cluster as rows, and the rows as text."""

from majordomo.collector import owner_present
from majordomo.errors import BadReport, BadWord
from majordomo.forms import number_within
from majordomo.objects import (
    MOST_COUNT, MOST_NUMBER, STATES, is_key, is_plain_name, is_slot_name, is_text, is_zone, slot_name,
)
from majordomo.rollout import open_numbers
from majordomo.tasks import NODE, STATE, STOP
from majordomo.wanted import is_available, is_current, is_wanted
from majordomo.words import split_words, write_word

NO_NUMBERS = "-"


def report_rows(view):
    """Return the list of the rows of the report of a view."""
    rows = []
    for kind, name in sorted(view):
        value = view[(kind, name)][2]
        match kind:
            case "drain":
                rows.append(("drain", name) + value)
            case "node":
                rows.append(("node", name) + value + (_bit(("drain", name) in view),))
            case "note":
                text, owner_kind, owner_name, _ = value
                rows.append(("note", name, owner_kind, owner_name, _bit(owner_present(view, value)), text))
            case "service":
                rows.append(_service_row(view, name))
            case "task":
                wanted = _bit(is_wanted(view, name))
                rows.append(("task", name, value[STATE], value[STOP], value[NODE], wanted))
    return rows


def _bit(condition):
    return 1 if condition else 0


def _service_row(view, name):
    slots = [slot_name(name, number) for number in range(MOST_NUMBER + 1)]
    available = len([slot for slot in slots if is_available(view, slot)])
    current = len([slot for slot in slots if is_current(view, slot)])
    return ("service", name, view[("service", name)][2][0], available, current, open_numbers(view, name))


def write_report(rows):
    """Return the report of the rows, a string."""
    return "".join([_write_row(row) + "\n" for row in rows])


def _write_row(row):
    return " ".join([_write_member(member) for member in row])


def _write_member(member):
    if isinstance(member, str):
        return write_word(member)
    if isinstance(member, tuple):
        return ",".join([str(number) for number in member]) or NO_NUMBERS
    return str(member)


def read_report(text):
    """Return the list of the rows of a report."""
    lines = text.split("\n")
    rest = lines.pop()
    rows = []
    for line in lines:
        row = _read_row(line)
        if row is None:
            raise BadReport(len(rows) + 1)
        rows.append(row)
    if rest != "":
        raise BadReport(len(rows) + 1)
    return rows


# What reads a member of a row returns None for a word that is not the member's.

def _read_name(word):
    return word if is_plain_name(word) else None


def _read_slot(word):
    return word if is_slot_name(word) else None


def _read_zone(word):
    return word if is_zone(word) else None


def _read_text(word):
    return word if is_text(word) else None


def _read_state(word):
    return word if word in STATES else None


def _read_string(word):
    return word


def _read_count(word):
    return number_within(word, 0, MOST_COUNT)


def _read_bit(word):
    return number_within(word, 0, 1)


def _read_numbers(word):
    if word == NO_NUMBERS:
        return ()
    numbers = [number_within(part, 0, MOST_NUMBER) for part in word.split(",")]
    if None in numbers or numbers != sorted({number: True for number in numbers}):
        return None
    return tuple(numbers)


ROW_FORMS = {
    "drain": (_read_name, _read_text),
    "node": (_read_name, _read_count, _read_count, _read_count, _read_bit, _read_zone, _read_bit),
    "note": (_read_name, _read_string, _read_string, _read_bit, _read_text),
    "service": (_read_name, _read_count, _read_count, _read_count, _read_numbers),
    "task": (_read_slot, _read_state, _read_bit, _read_zone, _read_bit),
}


def _read_row(line):
    """Return the row of a line, or None if it is not the line of a row."""
    words = _words(line)
    if not words or words[0] not in ROW_FORMS or len(words) != len(ROW_FORMS[words[0]]) + 1:
        return None
    members = [words[0]]
    for read_member, word in zip(ROW_FORMS[words[0]], words[1:]):
        members.append(read_member(word))
    row = tuple(members)
    # A row has only one line: no word of it is written in another way.
    if None in row or not _has_owner_form(row) or _write_row(row) != line:
        return None
    return row


def _words(line):
    """Return the list of the words of a line; none if the line cannot be split."""
    try:
        return [word for word, _ in split_words(line)]
    except BadWord:
        return []


def _has_owner_form(row):
    """Return True if the row is none of a note, or the note has no owner or a key as its owner."""
    if row[0] != "note":
        return True
    _, _, kind, name, _, _ = row
    return kind == name == "" or is_key(kind, name)
