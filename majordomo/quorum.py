"""The rule that keeps a value that may have been chosen already."""

NOTHING = ("nothing",)


def value_to_propose(pairs):
    """Return the value with the greatest ballot of a list of (ballot, value), NOTHING for the empty list."""
    best = -1
    value = NOTHING
    for ballot, accepted in pairs:
        if ballot > best:
            best = ballot
            value = accepted
    return value
