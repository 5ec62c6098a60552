"""Replicas for tests, and short words for their events and effects."""

from majordomo.replica import Replica

NAMES = ("r1", "r2", "r3", "r4", "r5")
NOTHING = ("nothing",)


def made(name="r1", count=3, records=()):
    return Replica(name, NAMES[:count], list(records), 1)


def tick(replica, times=1):
    """The effects of the last of some ticks; those before it have none."""
    for _ in range(times - 1):
        effects = replica.handle(("tick",))
        assert effects == [], effects
    return replica.handle(("tick",))


def hear(replica, sender, *letter):
    return replica.handle(("letter", sender, letter))


def stored(replica, count):
    return replica.handle(("stored", count))


def send(receiver, *letter):
    return ("send", receiver, letter)


def store(*record):
    return ("store", record)


def transaction(name="a", text=""):
    return ((), (("drain", name, (text,)),), ())


def command(number=1, origin="c1", name="a"):
    return (origin, number, transaction(name, str(number)))


def commands(count):
    return [command(number) for number in range(1, count + 1)]


def leading(count=3, records=()):
    """r1 as a leader whose records are all safe, and the number of the records that it stored."""
    replica = made("r1", count, records)
    effects = tick(replica, 8)
    ballot = effects[0][1][1]
    stored(replica, 1)
    for name in NAMES[1:count]:
        hear(replica, name, "promise", ballot, 0, ())
    assert replica.look()[2]
    return replica, ballot


def choose(replica, values, first=0, sender="r2"):
    """The effects of the letters by which a replica hears that values are chosen."""
    effects = []
    for at, value in enumerate(values):
        effects += hear(replica, sender, "chosen", first + at, value)
    return effects


def ticks_to_prepare(replica):
    """How many ticks pass until the replica begins a ballot."""
    count = 1
    while not any(effect[:1] == ("store",) for effect in replica.handle(("tick",))):
        count += 1
        assert count < 100
    return count


def known_leader(replica):
    """The replica to which a command of a front is passed on, or None."""
    effects = hear(replica, "f9", "ask", command(1, "who leads"))
    if not effects:
        return None
    assert len(effects) == 1 and effects[0][2] == ("ask", command(1, "who leads")), effects
    return effects[0][1]
