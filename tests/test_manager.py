"""Points 8.12 to 8.18: managers and their work keys."""

import copy
import unittest

from majordomo.manager import Manager, work_keys
from majordomo.objects import check_transaction
from majordomo.services import service_need
from majordomo.store import Store
from tests.clients import ask, asked, changes, hear, one_asked, put, since, tell, tick, whole
from tests.views import beat, drain, node, note, rollout, service, store_view, task, view_of


class TestWorkKeys(unittest.TestCase):
    def check(self, keys, kind, name, *objects):
        view = view_of(*objects)
        before = copy.deepcopy(view)
        found = work_keys(view, kind, name)
        self.assertEqual(found, keys)
        found.append("other")
        self.assertEqual(work_keys(view, kind, name), keys)
        self.assertEqual(view, before)

    def test_each_kind_in_an_empty_view(self):
        self.check(["service web"], "service", "web")
        self.check(["service web"], "rollout", "web")
        self.check(["service web"], "task", "web/0")
        self.check(["note a"], "note", "a")
        self.check(["node n1"], "node", "n1")
        self.check(["node n1"], "beat", "n1")
        self.check([], "drain", "n1")

    def test_an_object_that_is_there(self):
        objects = (service(), rollout(1), task(0), note("a"), node(), beat(), drain())
        self.check(["service web"], "service", "web", *objects)
        self.check(["service web"], "rollout", "web", *objects)
        self.check(["service web"], "task", "web/0", *objects)
        self.check(["note a"], "note", "a", *objects)
        self.check(["node n1"], "node", "n1", *objects)
        self.check(["node n1"], "beat", "n1", *objects)
        self.check(["service web"], "drain", "n1", *objects)

    def test_the_service_of_a_task(self):
        self.check(["service a1"], "task", "a1/9", service(name="a1"))
        self.check(["service a1"], "task", "a1/9", task(9, name="a1"))

    def test_a_drain(self):
        tasks = (task(0), task(1, node="n2"), task(0, name="db"), task(3), task(2, name="api", state="ended"),
                 task(1, name="b", state="bound", life=1), task(5, name="new", state="new"))
        self.check(["service api", "service b", "service db", "service web"], "drain", "n1", *tasks)
        self.check(["service web"], "drain", "n2", *tasks)
        self.check([], "drain", "n3", *tasks)
        self.check([], "drain", "n", *tasks)
        self.check([], "drain", "n11", *tasks)

    def test_a_task_that_is_on_no_node(self):
        self.check([], "drain", "n1", task(0, "new"))

    def test_notes_of_an_owner(self):
        keys = {"beat": "node n1", "drain": None, "node": "node n1", "note": "note n1", "rollout": "service n1",
                "service": "service n1"}
        for kind, key in keys.items():
            notes = (note("b", kind, "n1", 1), note("a", kind, "n1", 9), note("c", kind, "n2"), note("d"),
                     note("e", "task", "n1/0"))
            own = [] if key is None else [key]
            self.check(sorted(["note a", "note b"] + own), kind, "n1", *notes)
        self.check(["note a", "note b", "service web"], "task", "web/1", note("a", "task", "web/1"),
                   note("b", "task", "web/1"), note("c", "task", "web/0"), note("d", "service", "web"))

    def test_the_owner_need_not_be_the_one_that_was_meant(self):
        self.check(["note a", "service web"], "service", "web", service(born=5), note("a", "service", "web", 4))

    def test_notes_and_tasks_together(self):
        self.check(["note a", "note z", "service db", "service web"], "drain", "n1", task(0), task(0, name="db"),
                   note("z", "drain", "n1"), note("a", "drain", "n1"))

    def test_a_note_that_owns_itself(self):
        self.check(["note a"], "note", "a", note("a", "note", "a", 55))
        self.check(["note a", "note b"], "note", "b", note("a", "note", "b", 55))

    def test_a_note_is_no_owner_of_what_has_no_owner(self):
        self.check(["note a"], "note", "a", note("b"), note("c"))

    def test_a_task_under_a_name_that_is_no_slot_name(self):
        odd = ("task", "web", 20, 30, task(0)[4])
        self.check([], "task", "web", odd)
        self.check(["service db"], "drain", "n1", odd, task(0, name="db"))

    def test_the_order_is_that_of_the_characters(self):
        self.check(["note 0", "note a", "note aa", "note b", "service web"], "service", "web",
                   *[note(name, "service", "web") for name in ("b", "aa", "0", "a")])


LONG = (("service", "web", 5, 6, (2, "run", 1, 1, "")),)
FIRST_TASK = ((("service", "web", 6), ("task", "web/0", 0)), (("task", "web/0", (5, "run", 1, "new", 0, "", 0, "")),), ())
SECOND_TASK = ((("service", "web", 6), ("task", "web/1", 0)),
               (("task", "web/1", (5, "run", 1, "new", 0, "", 0, "")),), ())


def made(wait=50, boot=1, fronts=("f1", "f2")):
    return Manager("m1", fronts, wait, boot)


def lost_note(name):
    """A note whose owner is not there, and the transaction that deletes it."""
    made_note = note(name, "service", "gone", 1)
    return made_note, ((("note", name, 60), ("service", "gone", 0)), (), (("note", name),))


class TestQuietManager(unittest.TestCase):
    def test_at_first(self):
        self.assertEqual(made().look(), (0, False, [], ""))

    def test_ticks_without_letters(self):
        manager = made()
        expected = {1: [since(0)], 5: [since(0, "f2")], 9: [since(0)], 13: [since(0, "f2")], 17: [since(0)]}
        for at in range(1, 19):
            self.assertEqual(tick(manager), expected.get(at, []), at)
            self.assertEqual(manager.look(), (0, False, [], ""))

    def test_ticks_with_answers(self):
        manager = made()
        for revision in range(1, 20):
            self.assertEqual(tick(manager), [since(revision - 1)])
            self.assertEqual(changes(manager, revision - 1, ((("drain", "n1", ("",)),), ())), [])
            self.assertEqual(manager.look(), (revision, True, [], ""))

    def test_nothing_to_do(self):
        manager = made()
        self.assertEqual(whole(manager, 90, service(), task(0), task(1), node(), beat(), note("a"), drain("n2")), [])
        self.assertEqual(manager.look(), (90, True, [], ""))

    def test_events_and_letters_that_are_not_known(self):
        manager = made()
        for event in (("stored", 1), ("synced", 2), ("ended", "web/0"), ("tock",), ()):
            self.assertEqual(manager.handle(event), [])
        for letter in (("hello",), ("since", 0), ("ask", ("c1", 1, FIRST_TASK)), ("beat", 3, 0), ("told", "m1.1", 1, ("done", 1)),
                       ("told", "m1", 1, ("done", 1))):
            self.assertEqual(hear(manager, *letter), [])
        self.assertEqual(manager.look(), (0, False, [], ""))
        self.assertEqual(tick(manager), [since(0)])


class TestWork(unittest.TestCase):
    def test_a_transaction_is_asked_at_the_letter(self):
        manager = made(boot=37)
        self.assertEqual(whole(manager, 9, *LONG), [ask("m1.37", 1, FIRST_TASK)])
        self.assertEqual(manager.look(), (9, True, [], "service web"))

    def test_letters_of_strangers_are_taken_too(self):
        manager = made()
        self.assertEqual(whole(manager, 9, *LONG, sender="x9"), [ask("m1.1", 1, FIRST_TASK)])
        self.assertEqual(tell(manager, ("m1.1", 1), ("no", 0), sender="x8"), [])
        self.assertEqual(manager.look(), (9, True, [], ""))

    def test_one_transaction_is_under_way(self):
        manager = made()
        first, deletes_first = lost_note("a")
        second, deletes_second = lost_note("b")
        self.assertEqual(whole(manager, 90, *LONG, first, second), [ask("m1.1", 1, deletes_first)])
        self.assertEqual(manager.look(), (90, True, ["note b", "service web"], "note a"))
        for _ in range(3):
            self.assertEqual(asked(tick(manager)), [])
            self.assertEqual(hear(manager, "changes", 90, (), 90), [])
        self.assertEqual(tell(manager, ("m1.1", 1), ("done", 91)), [ask("m1.1", 2, deletes_second)])
        self.assertEqual(manager.look(), (90, True, ["service web"], "note b"))
        self.assertEqual(tell(manager, ("m1.1", 2), ("done", 92)), [ask("m1.1", 3, FIRST_TASK)])
        self.assertEqual(manager.look(), (90, True, [], "service web"))

    def test_keys_that_need_nothing_are_finished_on_the_way(self):
        manager = made()
        lost, deletes = lost_note("b")
        self.assertEqual(whole(manager, 90, note("a"), lost, note("c"), drain()), [ask("m1.1", 1, deletes)])
        self.assertEqual(manager.look(), (90, True, ["note c"], "note b"))
        self.assertEqual(tell(manager, ("m1.1", 1), ("done", 91)), [])
        self.assertEqual(manager.look(), (90, True, [], ""))

    def test_the_caller_sends_again(self):
        manager = made()
        whole(manager, 9, *LONG)
        expected = [[since(9)], [], [], [ask("m1.1", 1, FIRST_TASK, "f2")], [since(9, "f2")], [], [],
                    [ask("m1.1", 1, FIRST_TASK)], [since(9)]]
        self.assertEqual([tick(manager) for _ in expected], expected)

    def test_the_follower_comes_before_the_caller(self):
        manager = made()
        tick(manager)
        tell(manager, ("m1.1", 1), ("done", 1))
        whole(manager, 9, *LONG)
        for _ in range(3):
            self.assertEqual(tick(manager), [since(9)])
            hear(manager, "changes", 9, (), 9)
        self.assertEqual(tick(manager), [since(9), ask("m1.1", 1, FIRST_TASK, "f2")])

    def test_a_letter_that_the_cache_does_not_take_brings_no_keys(self):
        manager = made()
        whole(manager, 9, service(count=0))
        self.assertEqual(whole(manager, 9, *LONG), [])
        self.assertEqual(whole(manager, 8, *LONG), [])
        self.assertEqual(changes(manager, 8, ((put(LONG[0]),), ())), [])
        self.assertEqual(manager.look(), (9, True, [], ""))
        self.assertEqual(len(asked(changes(manager, 9, ((put(LONG[0]),), ())))), 1)


class TestAnswers(unittest.TestCase):
    def working(self):
        """A manager whose first transaction is under way, and its command."""
        manager = made()
        effects = whole(manager, 9, *LONG)
        return manager, asked(effects)[0]

    def test_done(self):
        manager, command = self.working()
        self.assertEqual(tell(manager, command, ("done", 10)), [])
        self.assertEqual(manager.look(), (9, True, [], ""))
        # Nothing comes again by itself; the next change does.
        self.assertEqual([asked(tick(manager)) for _ in range(10)], [[]] * 10)
        effects = changes(manager, 9, ((put(task(0, "new")),), ()))
        self.assertEqual(effects, [ask("m1.1", 2, SECOND_TASK)])

    def test_answers_that_are_not_heard(self):
        manager, command = self.working()
        for origin, number in (("m1", 1), ("m1.11", 1), ("m1.1", 0), ("m1.1", 2), ("m2.1", 1)):
            self.assertEqual(hear(manager, "told", origin, number, ("no", 0)), [])
            self.assertEqual(manager.look(), (9, True, [], "service web"))
        tell(manager, command, ("done", 10))
        self.assertEqual(tell(manager, command, ("no", 0)), [])
        self.assertEqual(manager.look(), (9, True, [], ""))

    def fails(self, answer):
        """The numbers of ticks after which a key that always fails is asked again."""
        manager, command = self.working()
        found = []
        for _ in range(7):
            self.assertEqual(tell(manager, command, answer), [])
            self.assertEqual(manager.look(), (9, True, [], ""))
            ticks = 0
            commands = []
            while not commands:
                ticks += 1
                effects = tick(manager)
                commands = asked(effects)
                # The question of the follower comes before the transaction.
                self.assertEqual([effect[2][0] for effect in effects], ["since"] + ["ask"] * len(commands))
                hear(manager, "changes", 9, (), 9, sender=effects[0][1])
            self.assertEqual(commands, [("m1.1", command[1] + 1, FIRST_TASK)])
            command = commands[0]
            found.append(ticks)
        return manager, command, found

    def test_failures(self):
        for answer in (("no", 0), ("no", 1), ("old",)):
            manager, command, found = self.fails(answer)
            # The sixteenth tick looks at everything, also at a key that is delayed by 8 ticks.
            self.assertEqual(found, [1, 2, 4, 8, 1, 8, 8])
            # Success makes the next failure the first one again.
            tell(manager, command, ("done", 10))
            effects = changes(manager, 9, ((("service", "web", (3, "run", 1, 1, "")),), ()))
            self.assertEqual(tell(manager, asked(effects)[0], answer), [])
            self.assertEqual(len(asked(tick(manager))), 1)

    def test_a_key_that_comes_again_while_it_is_in_work(self):
        for answer in (("done", 10), ("no", 0)):
            manager, command = self.working()
            self.assertEqual(changes(manager, 9, ((put(task(0, "new")),), ())), [])
            self.assertEqual(manager.look(), (10, True, [], "service web"))
            self.assertEqual(tell(manager, command, answer), [ask("m1.1", 2, SECOND_TASK)])
            self.assertEqual(manager.look(), (10, True, [], "service web"))

    def test_a_key_that_fails_and_waits_does_not_stop_the_others(self):
        manager, command = self.working()
        lost, deletes = lost_note("a")
        self.assertEqual(changes(manager, 9, ((put(lost),), ())), [])
        self.assertEqual(manager.look(), (10, True, ["note a"], "service web"))
        transaction = ((("note", "a", 10), ("service", "gone", 0)), (), (("note", "a"),))
        self.assertEqual(tell(manager, command, ("no", 1)), [ask("m1.1", 2, transaction)])
        self.assertEqual(tick(manager)[:1], [since(10)])
        self.assertEqual(manager.look(), (10, True, ["service web"], "note a"))
        self.assertEqual(deletes[2], transaction[2])

    def test_a_key_that_became_needless(self):
        manager, command = self.working()
        changes(manager, 9, ((put(task(0, "new")), put(task(1, "new"))), ()))
        self.assertEqual(tell(manager, command, ("no", 1)), [])
        self.assertEqual(manager.look(), (10, True, [], ""))


class TestAdditions(unittest.TestCase):
    def test_the_view_after_the_letter_counts(self):
        manager = made()
        # The task and the drain come by one letter, and the keys are looked at in ascending order.
        busy = whole(manager, 90, lost_note("zz")[0])
        self.assertEqual(len(busy), 1)
        several = [(put(drain()), put(task(0)), put(note("b", "drain", "n1"))), ()]
        self.assertEqual(changes(manager, 90, several), [])
        self.assertEqual(manager.look()[2], ["note b", "service web"])
        self.assertEqual(changes(manager, 91, ((), (("task", "web/0"),)), ((), (("drain", "n1"),))), [])
        self.assertEqual(manager.look(), (93, True, ["note b", "service web"], "note zz"))

    def test_key_by_key(self):
        manager = made()
        whole(manager, 90, lost_note("zz")[0])
        changes(manager, 90, ((put(beat("n9")), put(note("c", "service", "b")), put(service(name="b", count=0)),
                               put(service(name="a", count=0)), put(node("n0"))), ()))
        # Keys of objects in ascending order, and for each of them its work keys.
        self.assertEqual(manager.look()[2], ["node n9", "node n0", "note c", "service a", "service b"])

    def test_all_keys_at_each_16th_tick(self):
        manager = made()
        objects = (note("a"), service(name="b", count=0), beat("n1"), drain("n2"), task(4, name="c"))
        whole(manager, 90, lost_note("zz")[0], *objects)
        self.assertEqual(manager.look()[2:], (["service b", "service c"], "note zz"))
        # The task c/4 is not wanted, and so it is stopped.
        tell(manager, ("m1.1", 1), ("done", 91))
        self.assertEqual(manager.look()[2:], ([], "service c"))
        for at in range(1, 16):
            tick(manager)
            self.assertEqual(manager.look()[2:], ([], "service c"), at)
        tick(manager)
        everything = ["node n1", "note a", "note zz", "service b"]
        self.assertEqual(manager.look()[2:], (everything, "service c"))
        tell(manager, ("m1.1", 2), ("done", 92))
        # The note is deleted in the store, but the manager does not know it yet; what came again is looked at last.
        self.assertEqual(manager.look()[2:], (["service b", "service c"], "note zz"))
        tell(manager, ("m1.1", 3), ("no", 0))
        self.assertEqual(manager.look()[2:], ([], "service c"))
        for at in range(17, 32):
            tick(manager)
            self.assertEqual(manager.look()[2:], (["note zz"], "service c"), at)
        tick(manager)
        self.assertEqual(manager.look()[2:], (["note zz", "node n1", "note a", "service b"], "service c"))

    def test_all_keys_in_ascending_order(self):
        manager = made()
        whole(manager, 90, lost_note("zz")[0], service(count=0, name="b"))
        changes(manager, 90, ((put(service(count=0, name="c")),), ()), ((put(service(count=0, name="a")),), ()),
                ((put(beat("n1")),), ()))
        hear(manager, "told", "m1.1", 1, ("no", 0))
        tick(manager)
        self.assertEqual(manager.look()[2:], ([], "note zz"))
        tick(manager, 15)
        self.assertEqual(manager.look()[2:], (["node n1", "service a", "service b", "service c"], "note zz"))

    def test_the_ticks_before_the_first_letter_count(self):
        manager = made()
        tick(manager, 15)
        whole(manager, 90, service(count=0))
        self.assertEqual(manager.look()[2:], ([], ""))
        whole(manager, 91, lost_note("zz")[0], service(count=0))
        tick(manager)
        self.assertEqual(manager.look()[2:], (["service web"], "note zz"))

    def test_what_needs_something_is_found_again(self):
        manager = made()
        whole(manager, 9, *LONG)
        tell(manager, ("m1.1", 1), ("done", 10))
        found = [asked(tick(manager)) for _ in range(32)]
        self.assertEqual(found[:15], [[]] * 15)
        self.assertEqual(found[15], [("m1.1", 2, FIRST_TASK)])


class TestOrderOfATick(unittest.TestCase):
    def test_delayed_keys_come_first(self):
        manager = made(wait=2)
        whole(manager, 90, lost_note("zz")[0], node("a"), beat("a"), node("b"), beat("b"))
        tick(manager, 3)
        tell(manager, ("m1.1", 1), ("no", 0))
        self.assertEqual(manager.look()[2:], ([], ""))
        effects = tick(manager)
        self.assertEqual([command[2][2] for command in asked(effects)], [(("note", "zz"),)])
        self.assertEqual(manager.look()[2:], (["node a", "node b"], "note zz"))

    def test_lost_nodes_come_before_all_keys(self):
        manager = made(wait=14)
        whole(manager, 90, lost_note("zz")[0], node("b"), beat("b"), beat("0"), beat("a"), node("a"))
        self.assertEqual(manager.look()[2:], ([], "note zz"))
        tick(manager, 15)
        self.assertEqual(manager.look()[2:], ([], "note zz"))
        tick(manager)
        # First the nodes that are silent, then all keys in ascending order.
        self.assertEqual(manager.look()[2:], (["node a", "node b", "node 0"], "note zz"))


class TestNodeWatch(unittest.TestCase):
    LOSE = ((("beat", "n1", 80), ("node", "n1", 70)), (("beat", "n1", (3, 4)), ("node", "n1", (9, 2, 3, 1, ""))), ())

    def test_a_silent_node(self):
        for wait in (1, 5, 30):
            manager = made(wait=wait)
            whole(manager, 90, node(), beat())
            for at in range(1, wait + 2):
                self.assertEqual(asked(tick(manager)), [], at)
            self.assertEqual(one_asked(tick(manager)), self.LOSE)
            self.assertEqual(manager.look(), (90, True, [], "node n1"))

    def test_the_effects_of_its_tick(self):
        manager = made(wait=1)
        whole(manager, 90, node(), beat())
        self.assertEqual([tick(manager), tick(manager)], [[since(90)], []])
        hear(manager, "changes", 90, (), 90)
        self.assertEqual(tick(manager), [since(90), ask("m1.1", 1, self.LOSE)])

    def test_the_clock_ticks_before_the_cache_is_ready(self):
        manager = made(wait=3)
        tick(manager, 20)
        self.assertEqual(whole(manager, 90, node(), beat()), [])
        found = [asked(tick(manager)) for _ in range(5)]
        self.assertEqual(found[:4], [[]] * 4)
        self.assertEqual(found[4], [("m1.1", 1, self.LOSE)])

    def test_a_beat_that_comes_in_time(self):
        manager = made(wait=3)
        whole(manager, 90, node(), beat())
        for at in range(90, 100):
            tick(manager, 4)
            changes(manager, at, ((put(beat(count=at)),), ()))
        self.assertEqual(manager.look(), (100, True, [], ""))
        found = [asked(tick(manager)) for _ in range(5)]
        self.assertEqual([len(commands) for commands in found], [0, 0, 0, 0, 1])

    def test_a_key_is_added_again_while_its_node_needs_something(self):
        manager = made(wait=1)
        whole(manager, 90, node(), beat())
        tick(manager, 3)
        tell(manager, ("m1.1", 1), ("done", 91))
        self.assertEqual(manager.look(), (90, True, [], ""))
        self.assertEqual(one_asked(tick(manager)), self.LOSE)
        # Each tick makes the key in work one that is to come again; so a refusal does not delay it.
        tick(manager)
        self.assertEqual(tell(manager, ("m1.1", 2), ("no", 0)), [ask("m1.1", 3, self.LOSE)])

    def test_stranded_tasks(self):
        manager = made()
        effects = whole(manager, 90, node(life=4, used=2), task(2), task(1), service(count=3), task(0))
        first = one_asked(effects)
        self.assertEqual(first, ((("node", "n1", 70), ("task", "web/0", 30)),
                                 (("node", "n1", (9, 1, 4, 0, "")),
                                  ("task", "web/0", (5, "run", 1, "ended", 0, "n1", 3, ""))), ()))
        self.assertEqual(manager.look()[2:], (["service web"], "node n1"))

    def test_a_task_whose_node_comes_later(self):
        manager = made()
        self.assertEqual(whole(manager, 90, task(0), service(count=1)), [])
        effects = changes(manager, 90, ((put(node(life=3, lost=1)),), ()))
        self.assertEqual(one_asked(effects)[1][1][1:], ("web/0", (5, "run", 1, "ended", 0, "n1", 3, "")))


class TestNeeds(unittest.TestCase):
    def test_the_needs_of_each_word(self):
        cases = (
            ([service(count=1)], ("put", "task", "web/0")),
            ([task(0, "ended")], ("delete", "task", "web/0")),
            ([rollout(1)], ("delete", "rollout", "web")),
            ([lost_note("a")[0]], ("delete", "note", "a")),
            ([node(life=4), task(0), service(count=1)], ("put", "node", "n1")),
            ([service(), task(0), task(1), drain()], ("put", "rollout", "web")),
        )
        for objects, (word, kind, name) in cases:
            manager = made()
            _, puts, deletes = one_asked(whole(manager, 90, *objects))
            self.assertEqual((puts if word == "put" else deletes)[0][:2], (kind, name))

    def test_what_is_asked_is_what_the_service_needs(self):
        objects = (service(count=3), task(0, text="old"), task(2, "new", text="old"), rollout(0))
        manager = made()
        self.assertEqual(one_asked(whole(manager, 90, *objects)), service_need(view_of(*objects), "web"))


class TestManagersAndAStore(unittest.TestCase):
    def settle(self, store, managers, rounds=60):
        """Rounds in which each manager asks and is answered at once; returns the answers."""
        answers = []
        for _ in range(rounds):
            for manager in managers:
                effects = tick(manager)
                while effects:
                    _, front, letter = effects.pop(0)
                    if letter[0] == "since":
                        effects += hear(manager, *store.since(letter[1]), sender=front)
                    else:
                        check_transaction(letter[1][2])
                        answer = store.apply(letter[1][2])
                        answers.append(answer[0])
                        effects += tell(manager, letter[1], answer, sender=front)
        return answers

    def test_one_manager(self):
        store = Store()
        store.apply(((), (("service", "web", (3, "run", 1, 1, "")), ("note", "a", ("", "service", "web", 1)),
                          ("note", "b", ("", "service", "web", 2))), ()))
        manager = made()
        self.assertEqual(set(self.settle(store, [manager])), {"done"})
        view = store_view(store)
        self.assertEqual(sorted(view), [("note", "a"), ("service", "web"), ("task", "web/0"), ("task", "web/1"),
                                        ("task", "web/2")])
        store.apply(((), (), (("service", "web"),)))
        self.settle(store, [manager])
        self.assertEqual(store.entries(), [])
        self.assertEqual(manager.look(), (store.revision, True, [], ""))

    def test_another_manager_was_first(self):
        store = Store()
        managers = [Manager(name, ("f1",), 9, 1) for name in ("m1", "m2")]
        store.apply(((), (put(service(count=9)), put(node()), put(beat())), ()))
        commands = []
        for manager in managers:
            tick(manager)
            commands += asked(hear(manager, *store.since(0)))
        self.assertEqual([command[:2] for command in commands], [("m1.1", 1), ("m2.1", 1)])
        self.assertEqual(commands[0][2], commands[1][2])
        self.assertEqual(tell(managers[0], commands[0], store.apply(commands[0][2])), [])
        answer = store.apply(commands[1][2])
        self.assertEqual(answer, ("no", 1))
        self.assertEqual(tell(managers[1], commands[1], answer), [])
        self.assertEqual(managers[1].look(), (1, True, [], ""))
        # The change of the first one comes by a letter, and what is needed next is asked at once.
        found = one_asked(hear(managers[1], *store.since(1)))
        self.assertEqual(found[1][0][1], "web/1")

    def test_several_managers_make_the_same_as_one(self):
        for count in (1, 2, 3):
            store = Store()
            store.apply(((), (put(service(count=5)), put(service(count=4, name="db")), put(note("a", "task", "x/0"))), ()))
            managers = [Manager("m" + str(at), ("f1",), 30, 1) for at in range(count)]
            answers = self.settle(store, managers)
            self.assertEqual(answers.count("done"), 10)
            tasks = [name for kind, name in store_view(store) if kind == "task"]
            self.assertEqual(sorted(tasks), ["db/" + str(at) for at in range(4)] + ["web/" + str(at) for at in range(5)])

    def test_what_was_returned_may_be_changed(self):
        manager = made()
        whole(manager, 90, *LONG, lost_note("a")[0]).clear()
        look = manager.look()
        look[2].append("other")
        self.assertEqual(manager.look(), (90, True, ["service web"], "note a"))
        effects = tick(manager)
        effects.clear()
        self.assertEqual(tick(manager), [])


if __name__ == "__main__":
    unittest.main()
