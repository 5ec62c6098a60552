"""The members of the values of tasks."""

SERVICE_BORN = 0
TEXT = 1
SIZE = 2
STATE = 3
STOP = 4
NODE = 5
LIFE = 6
ZONE = 7


def new_task(service_born, text, size, zone):
    """Return the value of a task that is on no node yet."""
    return (service_born, text, size, "new", 0, "", 0, zone)


def is_placed(value):
    """Return True if the task is on a node."""
    return value[STATE] in ("bound", "running")


def stopped(value):
    """Return the value with stop 1, and all else as it was."""
    return value[:STOP] + (1,) + value[STOP + 1:]


def ended(value):
    """Return the value with the state "ended", and all else as it was."""
    return value[:STATE] + ("ended",) + value[STATE + 1:]


def started(value):
    """Return the value with the state "running", and all else as it was."""
    return value[:STATE] + ("running",) + value[STATE + 1:]


def bound(value, node, life):
    """Return the value with the state "bound" on a node in one of its lives, and all else as it was."""
    return value[:STATE] + ("bound", value[STOP], node, life, value[ZONE])


def renewed(value, text, size, zone):
    """Return the value with another text, size and zone, and all else as it was."""
    return (value[SERVICE_BORN], text, size) + value[STATE:ZONE] + (zone,)
