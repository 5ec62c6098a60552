"""Actors that follow the store through fronts and change it, driven by tests one event at a time."""


def tick(actor, times=1):
    """The effects of the last of some ticks."""
    for _ in range(times - 1):
        actor.handle(("tick",))
    return actor.handle(("tick",))


def hear(actor, *letter, sender="f1"):
    return actor.handle(("letter", sender, letter))


def whole(actor, revision, *objects, sender="f1"):
    """The effects of a letter with all objects, each given as (kind, name, born, revision, value)."""
    return hear(actor, "whole", revision, tuple(sorted(objects)), sender=sender)


def changes(actor, since, *several, sender="f1"):
    """The effects of a letter with changes, each given as (puts, deletes); each makes one revision."""
    found = tuple((since + at + 1, puts, deletes) for at, (puts, deletes) in enumerate(several))
    return hear(actor, "changes", since, found, since + len(found), sender=sender)


def put(made):
    """The put of an object that is given as (kind, name, born, revision, value)."""
    return made[:2] + made[4:]


def since(revision, front="f1"):
    return ("send", front, ("since", revision))


def ask(origin, number, transaction, front="f1"):
    return ("send", front, ("ask", (origin, number, transaction)))


def asked(effects):
    """The commands that are asked, in order."""
    return [letter[1] for word, _, letter in [effect for effect in effects if effect[0] == "send"] if letter[0] == "ask"]


def one_asked(effects):
    """The transaction of the only command that is asked, or None."""
    commands = asked(effects)
    assert len(commands) <= 1, commands
    return commands[0][2] if commands else None


def tell(actor, command, answer, sender="f1"):
    """The effects of the answer to a command."""
    return hear(actor, "told", command[0], command[1], answer, sender=sender)
