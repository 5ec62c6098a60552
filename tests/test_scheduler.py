"""Points 9.1 to 9.7: schedulers."""

import copy
import random
import unittest

from majordomo.objects import check_transaction
from majordomo.scheduler import Scheduler, bind_transaction
from majordomo.store import Store
from tests.clients import ask, asked, changes, hear, one_asked, put, since, tell, tick, whole
from tests.views import beat, drain, node, note, rollout, service, store_view, task


def made(boot=1, fronts=("f1", "f2")):
    return Scheduler("s1", fronts, boot)


def waiting(number, size=1, zone="", born=None, name="web", service_born=5, stop=0):
    """A task that is pending, if its stop is 0."""
    value = (service_born, "run", size, "new", stop, "", 0, zone)
    return ("task", name + "/" + str(number), 20 + number if born is None else born, 30 + number, value)


def bind_of(task_made, node_made):
    return bind_transaction(task_made[1], task_made[2:], node_made[1], node_made[2:])


def chosen(effects):
    """The pair (task, node) of the bind that is asked, or None."""
    transaction = one_asked(effects)
    return None if transaction is None else (transaction[1][1][1], transaction[1][0][1])


def ready(*objects, revision=90, actor=None):
    """A scheduler whose cache has some objects; nothing is asked before a tick."""
    scheduler = actor or made()
    assert whole(scheduler, revision, *objects) == []
    return scheduler


class TestBind(unittest.TestCase):
    def test_the_transaction(self):
        task_entry = (20, 30, (5, "run it", 4, "new", 0, "", 0, ""))
        node_entry = (65, 70, (9, 2, 3, 0, ""))
        before = copy.deepcopy((task_entry, node_entry))
        found = bind_transaction("web/0", task_entry, "n1", node_entry)
        self.assertEqual(found, (
            (("drain", "n1", 0), ("node", "n1", 70), ("task", "web/0", 30)),
            (("node", "n1", (9, 6, 3, 0, "")), ("task", "web/0", (5, "run it", 4, "bound", 0, "n1", 3, ""))), ()))
        self.assertEqual((task_entry, node_entry), before)
        check_transaction(found)

    def test_zones_and_a_node_without_tasks(self):
        found = bind_transaction("a/9", (1, 2, (7, "", 0, "new", 0, "", 0, "z")), "b", (3, 4, (0, 0, 1, 0, "z")))
        self.assertEqual(found, (
            (("drain", "b", 0), ("node", "b", 4), ("task", "a/9", 2)),
            (("node", "b", (0, 0, 1, 0, "z")), ("task", "a/9", (7, "", 0, "bound", 0, "b", 1, "z"))), ()))
        found = bind_transaction("a/9", (1, 2, (7, "", 6, "new", 0, "", 0, "")), "b", (3, 4, (8, 0, 12, 0, "z")))
        self.assertEqual(found[1], (("node", "b", (8, 6, 12, 0, "z")), ("task", "a/9", (7, "", 6, "bound", 0, "b", 12, ""))))

    def test_its_conditions(self):
        for other, answer in ((drain(), ("no", 0)), (node(used=3), ("no", 1)), (waiting(0, size=2), ("no", 2))):
            store = Store()
            store.apply(((), (put(node()), put(waiting(0))), ()))
            view = store_view(store)
            bind = bind_transaction("web/0", view[("task", "web/0")], "n1", view[("node", "n1")])
            store.apply(((), (put(other),), ()))
            self.assertEqual(store.apply(bind), answer)

    def test_it_is_done_once(self):
        store = Store()
        store.apply(((), (put(node()), put(waiting(0))), ()))
        view = store_view(store)
        bind = bind_transaction("web/0", view[("task", "web/0")], "n1", view[("node", "n1")])
        self.assertEqual([store.apply(bind), store.apply(bind)], [("done", 2), ("no", 1)])


class TestTicks(unittest.TestCase):
    def test_the_fields(self):
        scheduler = made(boot=12)
        self.assertEqual(scheduler.caller.origin, "s1.12")
        self.assertEqual(scheduler.assumed.names(), [])
        self.assertEqual((scheduler.follower.front, scheduler.caller.front), ("f1", "f1"))

    def test_ticks_without_letters(self):
        scheduler = made()
        expected = {1: [since(0)], 5: [since(0, "f2")], 9: [since(0)]}
        for at in range(1, 13):
            self.assertEqual(tick(scheduler), expected.get(at, []), at)

    def test_a_bind(self):
        scheduler = ready(node(), waiting(0))
        self.assertEqual(tick(scheduler), [since(90), ask("s1.1", 1, bind_of(waiting(0), node()))])
        self.assertEqual(scheduler.assumed.names(), ["web/0"])
        self.assertEqual((scheduler.assumed.size_on("n1"), scheduler.assumed.count_on("n1", 5)), (1, 1))

    def test_the_caller_comes_after_the_follower(self):
        scheduler = ready(node(), waiting(0), waiting(1))
        bind = bind_of(waiting(0), node())
        tick(scheduler)
        self.assertEqual([tick(scheduler), tick(scheduler), tick(scheduler)], [[], [], []])
        # The question is as old as the transaction; nothing else is asked while this is under way.
        self.assertEqual(tick(scheduler), [since(90, "f2"), ask("s1.1", 1, bind, "f2")])
        self.assertEqual([tick(scheduler), tick(scheduler), tick(scheduler)], [[], [], []])
        self.assertEqual(tick(scheduler), [since(90), ask("s1.1", 1, bind)])
        # The answer to the first sending is as good.
        effects = hear(scheduler, "told", "s1.1", 1, ("done", 91))
        self.assertEqual(chosen(effects), ("web/1", "n1"))

    def test_nothing_to_bind(self):
        for objects in ((), (node(),), (waiting(0),), (node(), waiting(0, stop=1)), (node(), task(0), task(1, "bound")),
                        (node(), task(0, "ended")), (service(), rollout(), note("a"), beat(), node())):
            scheduler = ready(*objects)
            self.assertEqual([tick(scheduler), tick(scheduler)], [[since(90)], []])
            self.assertEqual(scheduler.assumed.names(), [])

    def test_a_cache_that_is_not_ready(self):
        scheduler = made()
        for _ in range(20):
            self.assertEqual(asked(tick(scheduler)), [])
        hear(scheduler, "changes", 1, (), 1)
        self.assertEqual(asked(tick(scheduler)), [])
        ready(node(), waiting(0), revision=0, actor=scheduler)
        self.assertEqual(chosen(tick(scheduler)), ("web/0", "n1"))

    def test_events_and_letters_that_are_not_known(self):
        scheduler = ready(node(), waiting(0))
        for event in (("stored", 1), ("ended", "web/0"), ("tock",), ()):
            self.assertEqual(scheduler.handle(event), [])
        for letter in (("hello",), ("since", 0), ("ask", ("c", 1, ())), ("beat", 1, 2), ("told", "s1.1", 1, ("done", 1)),
                       ("told", "s1", 0, ("done", 1))):
            self.assertEqual(hear(scheduler, *letter), [])
        self.assertEqual(chosen(tick(scheduler)), ("web/0", "n1"))


class TestWhichTask(unittest.TestCase):
    def test_the_eldest_first(self):
        scheduler = ready(node(), waiting(0, born=8), waiting(1, born=7), waiting(0, born=7, name="db"), waiting(2, born=10))
        effects = tick(scheduler)
        found = []
        for number in range(1, 5):
            found.append(chosen(effects)[0])
            effects = tell(scheduler, ("s1.1", number), ("done", 90 + number))
        self.assertEqual(found, ["db/0", "web/1", "web/0", "web/2"])
        self.assertEqual(effects, [])

    def test_one_that_fits_nowhere_is_passed_over(self):
        for first in (waiting(0, size=8), waiting(0, zone="z"), waiting(0, stop=1)):
            scheduler = ready(node(), first, waiting(1))
            self.assertEqual(chosen(tick(scheduler)), ("web/1", "n1"))

    def test_nodes_on_which_nothing_fits(self):
        for objects in ((node(lost=1),), (node(life=0),), (node(), drain()), (node(used=9),), (node(size=2, used=5),)):
            scheduler = ready(waiting(0), *objects)
            self.assertEqual(asked(tick(scheduler)), [])

    def test_a_drain_of_another_node(self):
        scheduler = ready(waiting(0), node(), drain("n2"), drain("n"))
        self.assertEqual(chosen(tick(scheduler)), ("web/0", "n1"))


class TestWhichNode(unittest.TestCase):
    def test_the_fewest_of_the_same_service(self):
        scheduler = ready(node("a", 3, 0), node("b"), waiting(5), task(0, node="a"), task(1, node="b", service_born=4),
                          task(2, "ended", node="b"))
        self.assertEqual(chosen(tick(scheduler)), ("web/5", "b"))

    def test_the_least_that_is_left(self):
        scheduler = ready(node("a", 9, 0), node("b", 9, 3), node("c", 9, 9), waiting(0))
        self.assertEqual(chosen(tick(scheduler)), ("web/0", "b"))

    def test_the_name(self):
        scheduler = ready(node("b"), node("a1"), node("a10"), waiting(0))
        self.assertEqual(chosen(tick(scheduler)), ("web/0", "a1"))

    def test_the_zone(self):
        scheduler = ready(node("a", 2, 1), node("b", zone="z"), waiting(0, zone="z"), waiting(1))
        effects = tick(scheduler)
        self.assertEqual(chosen(effects), ("web/0", "b"))
        self.assertEqual(one_asked(effects), bind_of(waiting(0, zone="z"), node("b", zone="z")))
        self.assertEqual(chosen(tell(scheduler, ("s1.1", 1), ("done", 91))), ("web/1", "a"))

    def test_assumed_binds_count(self):
        scheduler = ready(node("a", 9, 0), node("b", 12, 0), *[waiting(at, size=3) for at in range(8)])
        effects = tick(scheduler)
        found = []
        number = 0
        while effects:
            number += 1
            found.append(chosen(effects)[1])
            effects = tell(scheduler, ("s1.1", number), ("done", 90 + number))
        # The nodes take turns, for each task counts at once; then there is no room any more.
        self.assertEqual(found, ["a", "b", "a", "b", "a", "b", "b"])
        self.assertEqual((scheduler.assumed.size_on("a"), scheduler.assumed.size_on("b")), (9, 12))
        self.assertEqual((scheduler.assumed.count_on("a", 5), scheduler.assumed.count_on("b", 5)), (3, 4))

    def test_assumed_binds_of_another_service_take_room_only(self):
        scheduler = ready(node("a", 5, 0), node("b", 9, 0), waiting(0, 2), waiting(1, 3, service_born=6, name="db"),
                          waiting(2, 1, service_born=7, name="c"))
        self.assertEqual(chosen(tick(scheduler)), ("web/0", "a"))
        self.assertEqual(chosen(tell(scheduler, ("s1.1", 1), ("done", 91))), ("db/1", "a"))
        self.assertEqual(chosen(tell(scheduler, ("s1.1", 2), ("done", 92))), ("c/2", "b"))


class TestAssumed(unittest.TestCase):
    def test_until_the_cache_is_as_new_as_the_answer(self):
        for revision, names in ((92, ["web/0"]), (93, []), (95, [])):
            scheduler = ready(node(), waiting(0))
            tick(scheduler)
            tell(scheduler, ("s1.1", 1), ("done", 93))
            self.assertEqual(scheduler.assumed.names(), ["web/0"])
            whole(scheduler, revision, node(), task(0, "bound"))
            self.assertEqual(scheduler.assumed.names(), names)

    def test_a_cache_that_is_newer_than_the_answer(self):
        for revision, names in ((90, ["web/0"]), (91, []), (92, [])):
            scheduler = ready(node(), waiting(0))
            tick(scheduler)
            whole(scheduler, revision, node(), task(0, "bound"))
            self.assertEqual(scheduler.assumed.names(), ["web/0"])
            tell(scheduler, ("s1.1", 1), ("done", 91))
            self.assertEqual(scheduler.assumed.names(), names)

    def test_what_the_cache_shows_already_counts_twice(self):
        # The bind is assumed until it is answered, and the node has it too.
        scheduler = ready(node(used=0), waiting(0, size=4), waiting(1, size=2), node("b", used=1))
        self.assertEqual(chosen(tick(scheduler)), ("web/0", "b"))
        whole(scheduler, 91, node(used=0), node("b", used=5), task(0, "bound", node="b", size=4), waiting(1, size=2))
        self.assertEqual(asked(tick(scheduler)), [])
        effects = tell(scheduler, ("s1.1", 1), ("done", 91))
        self.assertEqual(chosen(effects), ("web/1", "n1"))
        scheduler = ready(node("b", used=1), waiting(0, size=4), waiting(1, size=4, name="db", service_born=6))
        self.assertEqual(chosen(tick(scheduler)), ("web/0", "b"))
        several = (node("b", used=5), task(0, "bound", node="b", size=4), waiting(1, size=4, name="db", service_born=6))
        whole(scheduler, 91, *several)
        # The answer is that of a later revision; so there is only room when the cache has it.
        self.assertEqual(tell(scheduler, ("s1.1", 1), ("done", 92)), [])
        self.assertEqual(asked(tick(scheduler)), [])
        self.assertEqual(whole(scheduler, 92, *several), [])
        self.assertEqual(chosen(tick(scheduler)), ("db/1", "b"))

    def test_an_assumed_task_is_not_pending(self):
        scheduler = ready(node(), waiting(0))
        tick(scheduler)
        self.assertEqual(tell(scheduler, ("s1.1", 1), ("done", 95)), [])
        for revision in range(91, 95):
            whole(scheduler, revision, node(), waiting(0))
            self.assertEqual(asked(tick(scheduler)), [])
        whole(scheduler, 95, node(), waiting(0))
        self.assertEqual(chosen(tick(scheduler)), ("web/0", "n1"))

    def test_a_refused_bind_is_forgotten(self):
        for answer in (("no", 0), ("no", 2), ("old",)):
            scheduler = ready(node(), waiting(0), node("b", 2, 1), waiting(1))
            self.assertEqual(chosen(tick(scheduler)), ("web/0", "b"))
            # The room on the node is free again, and the task counts no longer.
            self.assertEqual(chosen(tell(scheduler, ("s1.1", 1), answer)), ("web/1", "b"))
            self.assertEqual(scheduler.assumed.names(), ["web/1"])


class TestHolds(unittest.TestCase):
    def refused(self, answer=("no", 2), ticks=0):
        """A scheduler whose bind of web/0 was refused, after some ticks."""
        scheduler = ready(node(), waiting(0))
        tick(scheduler)
        for _ in range(ticks):
            tick(scheduler)
        self.assertEqual(tell(scheduler, ("s1.1", 1), answer), [])
        self.assertEqual(scheduler.assumed.names(), [])
        return scheduler

    def test_the_clock(self):
        for answer in (("no", 0), ("no", 2), ("old",)):
            for ticks in (0, 3, 6):
                scheduler = self.refused(answer, ticks)
                found = [chosen(tick(scheduler)) for _ in range(5)]
                self.assertEqual(found, [None] * 3 + [("web/0", "n1"), None])

    def test_the_revision(self):
        scheduler = self.refused()
        self.assertEqual(changes(scheduler, 90), [])
        self.assertEqual(asked(tick(scheduler)), [])
        self.assertEqual(changes(scheduler, 90, ((put(beat()),), ())), [])
        self.assertEqual(chosen(tick(scheduler)), ("web/0", "n1"))

    def test_a_cache_that_was_newer_before_the_answer(self):
        scheduler = ready(node(), waiting(0))
        tick(scheduler)
        whole(scheduler, 91, node(used=3), waiting(0))
        effects = tell(scheduler, ("s1.1", 1), ("no", 1))
        self.assertEqual(effects, [ask("s1.1", 2, bind_of(waiting(0), node(used=3)))])

    def test_the_revision_when_it_was_sent_counts(self):
        scheduler = ready(node(), waiting(0))
        tick(scheduler, 5)
        whole(scheduler, 91, node(used=3), waiting(0))
        # It was sent again, but first of all with the older cache.
        tick(scheduler, 5)
        self.assertEqual(len(tell(scheduler, ("s1.1", 1), ("no", 1))), 1)

    def test_other_tasks_go_on(self):
        scheduler = ready(node(), waiting(0), waiting(1))
        tick(scheduler)
        self.assertEqual(chosen(tell(scheduler, ("s1.1", 1), ("no", 2))), ("web/1", "n1"))
        self.assertEqual(tell(scheduler, ("s1.1", 2), ("no", 2)), [])
        self.assertEqual([chosen(tick(scheduler)) for _ in range(4)], [None] * 3 + [("web/0", "n1")])
        # The clock of the other one has passed too.
        self.assertEqual(chosen(tell(scheduler, ("s1.1", 3), ("no", 2))), ("web/1", "n1"))

    def test_it_is_held_again(self):
        scheduler = self.refused()
        self.assertEqual(chosen(tick(scheduler, 4)), ("web/0", "n1"))
        self.assertEqual(tell(scheduler, ("s1.1", 2), ("old",)), [])
        self.assertEqual([chosen(tick(scheduler)) for _ in range(4)], [None] * 3 + [("web/0", "n1")])
        self.assertEqual(tell(scheduler, ("s1.1", 3), ("no", 0)), [])
        changes(scheduler, 90, ((put(beat()),), ()))
        self.assertEqual(chosen(tick(scheduler)), ("web/0", "n1"))

    def test_it_may_be_assumed_on_another_node(self):
        scheduler = ready(node("a"), node("b", 20, 0), waiting(0))
        self.assertEqual(chosen(tick(scheduler)), ("web/0", "a"))
        whole(scheduler, 91, node("a"), drain("a"), node("b", 20, 0), waiting(0))
        self.assertEqual(chosen(tell(scheduler, ("s1.1", 1), ("no", 0))), ("web/0", "b"))
        self.assertEqual((scheduler.assumed.size_on("a"), scheduler.assumed.size_on("b")), (0, 1))
        # The first bind would have been done at 91, but it was refused; this one is answered later.
        whole(scheduler, 92, node("a"), node("b", 20, 0), waiting(0))
        self.assertEqual(scheduler.assumed.names(), ["web/0"])
        tell(scheduler, ("s1.1", 2), ("done", 93))
        self.assertEqual(scheduler.assumed.names(), ["web/0"])


class TestLetters(unittest.TestCase):
    def test_an_answer_that_ends_the_transaction(self):
        scheduler = ready(node(), waiting(0), waiting(1))
        tick(scheduler)
        effects = tell(scheduler, ("s1.1", 1), ("done", 91), sender="x9")
        self.assertEqual(effects, [ask("s1.1", 2, bind_of(waiting(1), node()))])

    def test_an_answer_that_does_not(self):
        scheduler = ready(node(), waiting(0), waiting(1))
        tick(scheduler)
        for origin, number in (("s1.1", 0), ("s1.1", 2), ("s1", 1), ("s2.1", 1)):
            self.assertEqual(hear(scheduler, "told", origin, number, ("done", 91)), [])
            self.assertEqual(scheduler.assumed.names(), ["web/0"])
        tell(scheduler, ("s1.1", 1), ("done", 91))
        self.assertEqual(tell(scheduler, ("s1.1", 1), ("no", 0)), [])
        self.assertEqual(scheduler.assumed.names(), ["web/0", "web/1"])

    def test_an_answer_when_nothing_is_under_way_sends_nothing(self):
        scheduler = ready(node())
        tick(scheduler)
        changes(scheduler, 90, ((put(waiting(0)),), ()))
        self.assertEqual(hear(scheduler, "told", "s1.1", 0, ("done", 91)), [])
        self.assertEqual(hear(scheduler, "told", "s1.1", 1, ("done", 91)), [])
        self.assertEqual(chosen(tick(scheduler)), ("web/0", "n1"))

    def test_other_letters_send_no_bind(self):
        scheduler = made()
        tick(scheduler)
        self.assertEqual(whole(scheduler, 90, node(), waiting(0)), [])
        self.assertEqual(changes(scheduler, 90, ((put(waiting(1)),), ())), [])
        self.assertEqual(chosen(tick(scheduler)), ("web/0", "n1"))

    def test_one_transaction_is_under_way(self):
        scheduler = ready(node(), waiting(0), waiting(1))
        tick(scheduler)
        for at in range(20):
            self.assertLessEqual(len(asked(tick(scheduler))), 1)
            self.assertEqual(scheduler.assumed.names(), ["web/0"])
            changes(scheduler, 90 + at, ((put(beat(count=at)),), ()))

    def test_the_bind_is_as_the_cache_has_it(self):
        scheduler = ready(node(), waiting(0), waiting(1))
        tick(scheduler)
        changes(scheduler, 90, ((put(node(used=3)),), ()))
        found = one_asked(tell(scheduler, ("s1.1", 1), ("done", 92)))
        self.assertEqual(found[0], (("drain", "n1", 0), ("node", "n1", 91), ("task", "web/1", 31)))
        self.assertEqual(found[1][0], ("node", "n1", (9, 4, 3, 0, "")))

    def test_what_was_returned_may_be_changed(self):
        scheduler = ready(node(), waiting(0))
        tick(scheduler).clear()
        self.assertEqual([tick(scheduler) for _ in range(3)], [[]] * 3)
        self.assertEqual([effect[2][0] for effect in tick(scheduler)], ["since", "ask"])


class Plain:
    """What point 9 says of a scheduler, written once more from the whole history of its events."""

    def __init__(self):
        self.clock = 0
        self.revision = None
        self.objects = {}
        self.binds = []

    def assumed(self):
        """The binds that are assumed now: those without an answer, and done ones that the cache may not have."""
        found = []
        for bind in self.binds:
            answer = bind["answer"]
            if answer is None or answer[0] == "done" and bind["newest"] < answer[1]:
                found.append(bind)
        return found

    def note_revision(self):
        for bind in self.binds:
            bind["newest"] = self.revision

    def is_held(self, name):
        return any(bind["task"] == name and bind["answer"] and bind["answer"][0] != "done"
                   and self.revision <= bind["sent"] and self.clock < bind["clock"] + 4 for bind in self.binds)

    def next_bind(self):
        """The pair (task, node) that is to be bound now, or None."""
        if self.revision is None or any(bind["answer"] is None for bind in self.binds):
            return None
        assumed = self.assumed()
        tasks = sorted((entry[0], name) for (kind, name), entry in self.objects.items()
                       if kind == "task" and entry[2][3:5] == ("new", 0))
        for _, name in tasks:
            if not any(bind["task"] == name for bind in assumed) and not self.is_held(name):
                nodes = self.ranked(self.objects[("task", name)][2], assumed)
                if nodes:
                    return (name, nodes[0][2])
        return None

    def ranked(self, value, assumed):
        found = []
        for name in [name for kind, name in self.objects if kind == "node" and ("drain", name) not in self.objects]:
            size, used, life, lost, zone = self.objects[("node", name)][2]
            if not lost and life > 0:
                here = [bind for bind in assumed if bind["node"] == name]
                left = size - used - sum(bind["size"] for bind in here) - value[2]
                same = sum(bind["born"] == value[0] for bind in here)
                same += sum(key[0] == "task" and entry[2][0] == value[0] and entry[2][3] in ("bound", "running")
                            and entry[2][5] == name for key, entry in self.objects.items())
                if left >= 0 and (value[7] == "" or value[7] == zone):
                    found.append((same, left, name))
        return sorted(found)

    def expected(self, number):
        """The transactions that are asked now."""
        found = self.next_bind()
        if found is None:
            return []
        name, node_name = found
        born, revision, value = self.objects[("task", name)]
        _, node_revision, node_value = self.objects[("node", node_name)]
        size, used, life, lost, zone = node_value
        self.binds.append({"task": name, "node": node_name, "size": value[2], "born": value[0], "answer": None,
                           "sent": self.revision, "newest": self.revision, "clock": None})
        return [("s1.1", number, (
            (("drain", node_name, 0), ("node", node_name, node_revision), ("task", name, revision)),
            (("node", node_name, (size, used + value[2], life, lost, zone)),
             ("task", name, value[:3] + ("bound", 0, node_name, life, value[7]))), ()))]

    def answer(self, answer):
        self.binds[-1]["answer"] = answer
        self.binds[-1]["clock"] = self.clock


def random_put(chance):
    number = chance.randrange(4)
    kind = chance.choice(("task", "task", "task", "node", "drain", "beat"))
    if kind == "task":
        state = chance.choice(("new", "new", "new", "bound", "running", "ended"))
        on = ("", 0) if state == "new" else ("n" + str(chance.randrange(3)), 1)
        return ("task", chance.choice(("a/", "b/")) + str(number),
                (chance.randrange(2), "", chance.randrange(4), state, chance.randrange(6) // 5) + on
                + (chance.choice(("", "", "z")),))
    if kind == "node":
        value = (chance.randrange(9), chance.randrange(4), chance.choice((0, 1, 1, 2)), chance.randrange(6) // 5,
                 chance.choice(("", "z")))
        return ("node", "n" + str(number), value)
    return (kind, "n" + str(number), ("",) if kind == "drain" else (1, 1))


class TestAgainstASecondWriting(unittest.TestCase):
    def test_random_events(self):
        binds = 0
        for seed in range(60):
            with self.subTest(seed):
                binds += self.run_events(random.Random(seed))
        self.assertGreater(binds, 900)

    def run_events(self, chance):
        store = Store()
        for at in range(3):
            store.apply(((), (("node", "n" + str(at), (20, 0, 1, 0, "")),), ()))
        scheduler = made()
        plain = Plain()
        for _ in range(250):
            chosen_event = chance.random()
            if chosen_event < 0.35:
                plain.clock += 1
                commands = [command for command in asked(tick(scheduler)) if command[1] > len(plain.binds)]
                self.assertEqual(commands, plain.expected(len(plain.binds) + 1))
            elif chosen_event < 0.55:
                made_put = random_put(chance)
                deletes = made_put[0] != "node" and chance.random() < 0.3 and store.entry(*made_put[:2])
                store.apply(((), (), (made_put[:2],)) if deletes else ((), (made_put,), ()))
            elif chosen_event < 0.75:
                self.assertEqual(hear(scheduler, *store.since(scheduler.follower.cache.revision,
                                                              limit=chance.choice((1, 2, 100)))), [])
                plain.revision = scheduler.follower.cache.revision
                plain.objects = dict(scheduler.follower.cache.view)
                plain.note_revision()
            elif plain.binds and plain.binds[-1]["answer"] is None:
                answer = ("old",) if chance.random() < 0.1 else ("no", chance.randrange(3))
                if chance.random() < 0.6:
                    answer = store.apply(((), (("beat", "n0", (1, 1)),), ()))
                plain.answer(answer)
                self.assertEqual(asked(tell(scheduler, ("s1.1", len(plain.binds)), answer)),
                                 plain.expected(len(plain.binds) + 1))
            found = {bind["task"]: bind for bind in plain.assumed()}
            self.assertEqual(scheduler.assumed.names(), sorted(found))
            for name in ("n0", "n1", "n2"):
                self.assertEqual(scheduler.assumed.size_on(name),
                                 sum(bind["size"] for bind in found.values() if bind["node"] == name))
        return len(plain.binds)


class TestSchedulersAndAStore(unittest.TestCase):
    def test_several_schedulers_over_one_store(self):
        for count in (1, 2, 3):
            for seed in range(6):
                with self.subTest((count, seed)):
                    self.run_schedulers(count, random.Random(seed))

    def run_schedulers(self, count, chance):
        store = Store()
        for at in range(3):
            store.apply(((), (("node", "n" + str(at), (6, 0, 1, 0, "z" if at == 0 else "")),), ()))
        for at in range(9):
            store.apply(((), (("task", "web/" + str(at), (5, "", 2, "new", 0, "", 0, "")),), ()))
        schedulers = [Scheduler("s" + str(at), ("f1",), 1) for at in range(count)]
        letters = []
        answers = []
        for _ in range(400):
            at = chance.randrange(count)
            effects = tick(schedulers[at]) if chance.random() < 0.4 else []
            if letters and not effects:
                at, letter = letters.pop(chance.randrange(len(letters)))
                if letter[0] == "since":
                    effects = hear(schedulers[at], *store.since(letter[1]))
                else:
                    check_transaction(letter[1][2])
                    # Each command is answered once here, as the sessions of the replicas do.
                    if ("told", letter[1][:2]) not in answers:
                        answers.append(("told", letter[1][:2]))
                        effects = tell(schedulers[at], letter[1], store.apply(letter[1][2]))
            letters += [(at, effect[2]) for effect in effects]
        view = store_view(store)
        tasks = [entry[2] for (kind, _), entry in view.items() if kind == "task"]
        self.assertEqual([value[3] for value in tasks], ["bound"] * 9)
        for name in ("n0", "n1", "n2"):
            self.assertEqual([value[5] for value in tasks].count(name), 3)
            self.assertEqual(view[("node", name)][2][1], 6)


if __name__ == "__main__":
    unittest.main()
