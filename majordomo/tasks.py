"""The members of the values of tasks."""

SERVICE_BORN = 0
TEXT = 1
SIZE = 2
STATE = 3
STOP = 4
NODE = 5
LIFE = 6
ZONE = 7


def new_task(service_born, text, size, zone):
    """Return the value of a task that is on no node yet."""
    return (service_born, text, size, "new", 0, "", 0, zone)


def is_placed(value):
    """Return True if the task is on a node."""
    return value[STATE] in ("bound", "running")


def stopped(value):
    """Return the value with stop 1, and all else as it was."""
    return value[:STOP] + (1,) + value[STOP + 1:]


def renewed(value, text, size, zone):
    """Return the value with another text, size and zone, and all else as it was."""
    return (value[SERVICE_BORN], text, size) + value[STATE:ZONE] + (zone,)
