"""Workers for tests, and what their caches have."""

from majordomo.worker import Worker
from tests.clients import changes, put, tell, tick, whole
from tests.views import beat, node, task


def made(feed=12, boot=1, size=9, zone="", running=()):
    return Worker("w1", ("f1", "f2"), size, zone, feed, boot, running)


def own_node(used=0, life=1, lost=0, revision=91):
    return node("w1", 9, used, life, lost, "", revision)


def own_beat(life=1, count=0, revision=91):
    return beat("w1", life, count, revision)


def own_task(number, state="running", stop=0, life=1, **more):
    return task(number, state, stop, "w1", life=life, **more)


def show(worker, *objects, deletes=()):
    """The effects of one change by which objects are put and keys are deleted."""
    return changes(worker, worker.follower.cache.revision, (tuple(put(found) for found in objects), tuple(deletes)))


def enrolled(feed=12, *objects):
    """A worker at its first tick whose first life has begun; its cache is at revision 91 or later."""
    worker = made(feed)
    whole(worker, 90)
    tick(worker)
    assert tell(worker, ("w1.1", 1), ("done", 91)) == [("feed", feed)]
    show(worker, own_beat(), own_node())
    for found in objects:
        show(worker, found)
    return worker


class Clerk:
    """It answers the transactions of a worker, and lets time pass while the beats are done."""

    def __init__(self, worker):
        self.worker = worker
        self.revision = 1000

    def answer(self, answer=None):
        """The effects of the answer to the transaction under way, which is done if no other answer is given."""
        self.revision += 1
        caller = self.worker.caller
        return tell(self.worker, (caller.origin, caller.number), answer or ("done", self.revision))

    def pass_ticks(self, count):
        """Let ticks pass; beats are done at once. Returns all effects but those of the beats and the questions."""
        found = []
        for _ in range(count):
            effects = tick(self.worker)
            while effects:
                effect = effects.pop(0)
                if is_beat(effect):
                    effects += self.answer()
                elif effect[0] != "feed" and not (effect[0] == "send" and effect[2][0] == "since"):
                    found.append(effect)
        return found


def is_beat(effect):
    """True if the effect asks a transaction that puts a beat and nothing else."""
    return effect[0] == "send" and effect[2][0] == "ask" and [found[0] for found in effect[2][1][2][1]] == ["beat"]
