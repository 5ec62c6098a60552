"""Notes whose owners are gone."""

from majordomo.conditions import deleting


def owner_present(view, value):
    """Return True if the note with this value has no owner, or if its very owner is in the view."""
    _, owner_kind, owner_name, owner_born = value
    if owner_kind == "":
        return True
    key = (owner_kind, owner_name)
    return key in view and view[key][0] == owner_born


def note_need(view, name):
    """Return the transaction that deletes the note if its owner is gone, otherwise None."""
    key = ("note", name)
    if key not in view or owner_present(view, view[key][2]):
        return None
    _, owner_kind, owner_name, _ = view[key][2]
    return deleting(view, [key, (owner_kind, owner_name)], key)


def lost_notes(view):
    """Return the list of the names of all notes whose owners are gone, in ascending order."""
    return [name for kind, name in sorted(view) if kind == "note" and not owner_present(view, view[(kind, name)][2])]
