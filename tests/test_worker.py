"""Points 10.3 to 10.6: the lives of a worker, its beats, and how it feeds its engine."""

import copy
import unittest

from majordomo.objects import check_transaction
from majordomo.store import Store
from majordomo.worker import beat_transaction, end_transaction, enroll_transaction, start_transaction
from tests.clients import ask, asked, changes, hear, one_asked, since, tell, tick, whole
from tests.views import drain, node, service, store_view
from tests.workers import Clerk, enrolled, is_beat, made, own_beat, own_node, own_task, show

NEW = ((("beat", "w1", 0), ("node", "w1", 0)), (("beat", "w1", (1, 0)), ("node", "w1", (9, 0, 1, 0, ""))), ())


class TestTransactions(unittest.TestCase):
    def test_the_first_enrolment(self):
        self.assertEqual(enroll_transaction("w1", 9, "", None, None), NEW)
        self.assertEqual(enroll_transaction("w2", 100, "z", None, None), (
            (("beat", "w2", 0), ("node", "w2", 0)), (("beat", "w2", (1, 0)), ("node", "w2", (100, 0, 1, 0, "z"))), ()))

    def test_a_later_enrolment(self):
        node_entry, beat_entry = (3, 8, (5, 4, 6, 1, "y")), (3, 7, (6, 15))
        before = copy.deepcopy((node_entry, beat_entry))
        # The size and the zone are the worker's own, and what is used stays; the node is not lost any more.
        self.assertEqual(enroll_transaction("w1", 9, "z", node_entry, beat_entry), (
            (("beat", "w1", 7), ("node", "w1", 8)), (("beat", "w1", (7, 0)), ("node", "w1", (9, 4, 7, 0, "z"))), ()))
        self.assertEqual((node_entry, beat_entry), before)
        self.assertEqual(enroll_transaction("w1", 9, "", (3, 8, (5, 0, 0, 0, "")), (3, 9, (4, 15))), (
            (("beat", "w1", 9), ("node", "w1", 8)), (("beat", "w1", (1, 0)), ("node", "w1", (9, 0, 1, 0, ""))), ()))

    def test_beats(self):
        self.assertEqual(beat_transaction("w1", 7, 3, 0), ((("beat", "w1", 7),), (("beat", "w1", (3, 1)),), ()))
        self.assertEqual(beat_transaction("w2", 0, 1, 41), ((("beat", "w2", 0),), (("beat", "w2", (1, 42)),), ()))

    def test_starts(self):
        task_entry = (20, 30, (5, "run", 4, "bound", 0, "w1", 3, "z"))
        self.assertEqual(start_transaction("web/0", task_entry), (
            (("task", "web/0", 30),), (("task", "web/0", (5, "run", 4, "running", 0, "w1", 3, "z")),), ()))
        self.assertEqual(task_entry, (20, 30, (5, "run", 4, "bound", 0, "w1", 3, "z")))

    def test_ends(self):
        task_entry = (20, 30, (5, "run", 4, "running", 1, "w1", 3, "z"))
        for used, left in ((9, 5), (4, 0)):
            node_entry = (65, 70, (10, used, 3, 0, "z"))
            self.assertEqual(end_transaction("web/0", task_entry, "w1", node_entry), (
                (("node", "w1", 70), ("task", "web/0", 30)),
                (("node", "w1", (10, left, 3, 0, "z")), ("task", "web/0", (5, "run", 4, "ended", 1, "w1", 3, "z"))), ()))
            self.assertEqual(node_entry, (65, 70, (10, used, 3, 0, "z")))
        found = end_transaction("a/1", (1, 2, (5, "", 0, "bound", 1, "w2", 1, "")), "w2", (3, 4, (9, 7, 1, 1, "")))
        self.assertEqual(found, ((("node", "w2", 4), ("task", "a/1", 2)),
                                 (("node", "w2", (9, 7, 1, 1, "")), ("task", "a/1", (5, "", 0, "ended", 1, "w2", 1, ""))), ()))
        for transaction in (NEW, found, beat_transaction("w1", 7, 3, 0)):
            check_transaction(transaction)


class TestBegin(unittest.TestCase):
    def test_what_an_earlier_worker_left_running(self):
        self.assertEqual(made().begin(), [])
        self.assertEqual(made(running=("web/0",)).begin(), [("stop", "web/0")])
        running = ("web/0", "a/9", "web/10", "a/10", "0/0")
        self.assertEqual(made(running=running).begin(),
                         [("stop", slot) for slot in ("0/0", "a/10", "a/9", "web/0", "web/10")])

    def test_the_fields(self):
        worker = made(boot=7, running=("web/0",))
        worker.begin().clear()
        self.assertEqual((worker.life, worker.clock, worker.fed_until), (0, 0, 0))
        self.assertEqual((worker.runs.slots(), worker.caller.origin), ([], "w1.7"))
        self.assertEqual((worker.follower.front, worker.caller.front), ("f1", "f1"))
        self.assertEqual(worker.follower.cache.revision, 0)

    def test_nothing_is_sent_before_a_tick(self):
        worker = made()
        self.assertEqual(whole(worker, 90, own_node(), own_beat(), own_task(0)), [])


class TestEnrolment(unittest.TestCase):
    def test_a_cache_that_is_not_ready(self):
        worker = made()
        expected = {1: [since(0)], 5: [since(0, "f2")], 9: [since(0)]}
        for at in range(1, 11):
            self.assertEqual(tick(worker), expected.get(at, []), at)
            self.assertEqual((worker.clock, worker.life), (at, 0))
        self.assertEqual(hear(worker, "changes", 0, (), 0, sender="f1"), [])
        self.assertEqual(tick(worker), [since(0), ask("w1.1", 1, NEW)])

    def test_a_new_node(self):
        worker = made(boot=3)
        whole(worker, 90, node("w2"), own_task(0, life=3))
        self.assertEqual(tick(worker), [since(90), ask("w1.3", 1, NEW)])
        self.assertEqual(worker.life, 0)
        self.assertEqual(tell(worker, ("w1.3", 1), ("done", 95)), [("feed", 12)])
        self.assertEqual((worker.life, worker.clock, worker.fed_until), (1, 1, 13))

    def test_a_node_that_is_there(self):
        worker = made(size=20, zone="z")
        whole(worker, 90, own_node(used=5, life=6, lost=1, revision=80), own_beat(6, 7, 79))
        transaction = ((("beat", "w1", 79), ("node", "w1", 80)), (("beat", "w1", (7, 0)), ("node", "w1", (20, 5, 7, 0, "z"))), ())
        self.assertEqual(one_asked(tick(worker)), transaction)
        tell(worker, ("w1.1", 1), ("done", 95))
        self.assertEqual(worker.life, 7)

    def test_the_cache_when_it_is_sent_counts(self):
        worker = made()
        whole(worker, 90)
        tick(worker)
        whole(worker, 91, own_node(life=5), own_beat(5))
        self.assertEqual(tell(worker, ("w1.1", 1), ("done", 95)), [("feed", 12)])
        self.assertEqual(worker.life, 1)

    def test_one_that_is_refused(self):
        for answer in (("no", 0), ("no", 1), ("old",)):
            for late in (0, 2, 5):
                worker = made()
                whole(worker, 90)
                tick(worker, 1 + late)
                self.assertEqual(tell(worker, ("w1.1", 1), answer), [])
                self.assertEqual((worker.life, worker.fed_until), (0, 0))
                found = [one_asked(tick(worker)) for _ in range(5)]
                self.assertEqual(found, [None] * 3 + [NEW, None], (answer, late))

    def test_one_that_is_refused_and_a_newer_cache(self):
        worker = made()
        whole(worker, 90)
        tick(worker)
        tell(worker, ("w1.1", 1), ("no", 0))
        self.assertEqual(changes(worker, 90), [])
        self.assertEqual(one_asked(tick(worker)), None)
        self.assertEqual(show(worker, own_node(life=4), own_beat(4)), [])
        self.assertEqual(one_asked(tick(worker))[1][0], ("beat", "w1", (5, 0)))

    def test_a_cache_that_was_newer_before_the_answer(self):
        worker = made()
        whole(worker, 90)
        tick(worker)
        show(worker, own_node(life=4), own_beat(4))
        found = one_asked(tell(worker, ("w1.1", 1), ("no", 0)))
        self.assertEqual(found[1][0], ("beat", "w1", (5, 0)))
        # It was sent at a newer revision than the first one.
        self.assertEqual(tell(worker, ("w1.1", 2), ("no", 1)), [])
        self.assertEqual([one_asked(tick(worker)) is None for _ in range(4)], [True, True, True, False])

    def test_nothing_else_is_sent_without_a_life(self):
        worker = made()
        whole(worker, 90, own_node(), own_beat(), own_task(0, "bound"), own_task(1, stop=1), own_task(2), own_task(3, life=0),
              own_task(4, "bound", life=0), own_task(5, "bound", stop=1, life=0))
        tick(worker)
        effects = tell(worker, ("w1.1", 1), ("no", 0))
        for _ in range(3):
            effects += tick(worker)
        self.assertEqual([effect for effect in effects if effect[2][0] != "since"], [])
        self.assertEqual(worker.handle(("ended", "web/2")), [])
        self.assertEqual(worker.runs.slots(), [])

    def test_it_is_sent_again_without_an_answer(self):
        worker = made()
        whole(worker, 90)
        expected = [[since(90), ask("w1.1", 1, NEW)], [], [], [], [since(90, "f2"), ask("w1.1", 1, NEW, "f2")]]
        self.assertEqual([tick(worker) for _ in expected], expected)


class TestBeats(unittest.TestCase):
    def test_when_they_are_due(self):
        for feed in list(range(4, 13)) + [50]:
            period = max(1, feed // 3)
            worker = enrolled(feed)
            due = []
            for _ in range(4 * period):
                effects = tick(worker)
                if asked(effects):
                    self.assertTrue(is_beat(effects[-1]))
                    due.append(worker.clock)
                    Clerk(worker).answer()
                hear(worker, "changes", worker.follower.cache.revision, (), worker.follower.cache.revision)
            self.assertEqual(due, [1 + period, 1 + 2 * period, 1 + 3 * period, 1 + 4 * period], feed)

    def test_what_they_say(self):
        worker = enrolled(6)
        revisions = [91, 117, 103, 200]
        for count in range(3):
            effects = tick(worker, 2)
            self.assertEqual(one_asked(effects), ((("beat", "w1", revisions[count]),), (("beat", "w1", (1, count + 1)),), ()))
            tell(worker, ("w1.1", count + 2), ("done", revisions[count + 1]))

    def test_the_revision_is_that_of_the_answer_and_not_of_the_cache(self):
        worker = enrolled(6)
        show(worker, own_beat(1, 7, 95))
        self.assertEqual(one_asked(tick(worker, 2))[0], (("beat", "w1", 91),))

    def test_one_that_is_due_while_another_one_is_under_way(self):
        worker = enrolled(6)
        self.assertTrue(is_beat(tick(worker, 2)[-1]))
        self.assertEqual([asked(tick(worker)) for _ in range(3)], [[]] * 3)
        # The last beat was sent first three ticks ago, so the next one is due at once.
        self.assertTrue(is_beat(tell(worker, ("w1.1", 2), ("done", 92))[-1]))

    def test_one_that_is_due_at_the_next_tick_only(self):
        worker = enrolled(9)
        tick(worker, 3)
        tick(worker, 2)
        self.assertEqual(tell(worker, ("w1.1", 2), ("done", 92)), [("feed", 7)])
        self.assertTrue(is_beat(tick(worker)[-1]))

    def test_slow_answers_leave_time_for_beats_only(self):
        worker = enrolled(6, own_task(0, "bound"))
        tick(worker, 2)
        for number in range(2, 8):
            tick(worker, 2)
            self.assertTrue(is_beat(tell(worker, ("w1.1", number), ("done", 90 + number))[-1]))

    def test_one_that_is_refused(self):
        for answer in (("no", 0), ("old",)):
            worker = enrolled(12, *[own_task(at) for at in (3, 0, 1)])
            self.assertEqual(worker.runs.slots(), ["web/0", "web/1", "web/3"])
            self.assertTrue(is_beat(tick(worker, 4)[-1]))
            enrol = ((("beat", "w1", 91), ("node", "w1", 91)), (("beat", "w1", (2, 0)), ("node", "w1", (9, 0, 2, 0, ""))), ())
            self.assertEqual(tell(worker, ("w1.1", 2), answer), [
                ("stop", "web/0"), ("stop", "web/1"), ("stop", "web/3"), ask("w1.1", 3, enrol)])
            self.assertEqual((worker.life, worker.runs.slots(), worker.fed_until), (0, [], 13))
            self.assertEqual(tell(worker, ("w1.1", 3), ("done", 99)), [("feed", 12)])
            self.assertEqual((worker.life, worker.fed_until), (2, 17))
            self.assertEqual(worker.runs.slots(), [])

    def test_one_that_is_refused_when_nothing_runs(self):
        worker = enrolled(12)
        tick(worker, 4)
        self.assertEqual(len(tell(worker, ("w1.1", 2), ("no", 0))), 1)
        # An enrolment that is refused then has to wait.
        self.assertEqual(tell(worker, ("w1.1", 3), ("no", 1)), [])
        self.assertEqual([one_asked(tick(worker)) is None for _ in range(4)], [True, True, True, False])

    def test_it_enrols_without_waiting_for_an_earlier_refusal(self):
        worker = made(4)
        whole(worker, 90)
        tick(worker)
        tell(worker, ("w1.1", 1), ("no", 0))
        tick(worker, 4)
        tell(worker, ("w1.1", 2), ("done", 91))
        self.assertTrue(is_beat(tick(worker)[-1]))
        self.assertEqual(len(tell(worker, ("w1.1", 3), ("no", 0))), 1)

    def test_the_counts_of_the_next_life(self):
        worker = enrolled(6)
        clerk = Clerk(worker)
        clerk.pass_ticks(8)
        self.assertTrue(is_beat(tick(worker, 2)[-1]))
        clerk.answer(("no", 0))
        clerk.answer(("done", 2000))
        found = one_asked(tick(worker, 2))
        self.assertEqual(found, ((("beat", "w1", 2000),), (("beat", "w1", (2, 1)),), ()))

    def test_the_first_beat_is_counted_from_the_enrolment(self):
        worker = made(12)
        whole(worker, 90)
        tick(worker, 3)
        tell(worker, ("w1.1", 1), ("done", 91))
        # It was sent first at the first tick.
        self.assertEqual(asked(tick(worker)), [])
        self.assertTrue(is_beat(tick(worker)[-1]))

    def test_beats_come_before_ends_and_starts(self):
        worker = enrolled(12)
        tick(worker, 3)
        show(worker, own_task(0, "bound"), own_task(1, stop=1))
        self.assertTrue(is_beat(tick(worker)[-1]))
        self.assertEqual(one_asked(tell(worker, ("w1.1", 2), ("done", 99)))[1][1][1], "web/1")


class TestFeeding(unittest.TestCase):
    def fed(self, late, feed=6):
        """The effects of the answer to an enrolment some ticks after it was sent."""
        worker = made(feed)
        whole(worker, 90)
        tick(worker, 1 + late)
        return worker, tell(worker, ("w1.1", 1), ("done", 91))

    def test_an_answer_at_the_same_tick_and_later(self):
        for late in range(6):
            worker, effects = self.fed(late)
            self.assertEqual(effects[0], ("feed", 6 - late))
            self.assertEqual((worker.fed_until, worker.clock), (7, 1 + late))

    def test_an_answer_that_is_too_late(self):
        for late in (6, 7, 20):
            worker, effects = self.fed(late)
            self.assertEqual([effect[0] for effect in effects], ["send"])
            self.assertTrue(is_beat(effects[0]))
            self.assertEqual((worker.fed_until, worker.life), (0, 1))

    def test_beats_feed_too(self):
        worker = enrolled(6)
        tick(worker, 2)
        self.assertEqual(tell(worker, ("w1.1", 2), ("done", 92)), [("feed", 6)])
        self.assertEqual(worker.fed_until, 9)
        tick(worker, 2)
        tick(worker)
        self.assertEqual(tell(worker, ("w1.1", 3), ("done", 93)), [("feed", 5)])
        self.assertEqual(worker.fed_until, 11)

    def test_one_that_was_sent_again(self):
        worker = enrolled(12)
        tick(worker, 4)
        self.assertEqual(asked(tick(worker, 4))[0][1], 2)
        self.assertEqual(tell(worker, ("w1.1", 2), ("done", 92))[0], ("feed", 8))
        self.assertEqual(worker.fed_until, 17)

    def test_one_that_feeds_no_longer_than_the_noted_tick(self):
        for noted, effects, fed_until in ((8, [("feed", 6)], 9), (9, [], 9), (10, [], 10), (40, [], 40)):
            worker = enrolled(6)
            tick(worker, 2)
            worker.fed_until = noted
            self.assertEqual(tell(worker, ("w1.1", 2), ("done", 92)), effects)
            self.assertEqual(worker.fed_until, fed_until)

    def test_a_refused_beat_feeds_nothing(self):
        worker = enrolled(6)
        tick(worker, 2)
        self.assertEqual([effect[0] for effect in tell(worker, ("w1.1", 2), ("no", 0))], ["send"])
        self.assertEqual(worker.fed_until, 7)

    def test_other_transactions_feed_nothing(self):
        worker = enrolled(12, own_task(0, "bound"))
        self.assertEqual(len(asked(tick(worker))), 1)
        self.assertEqual([effect[0] for effect in tell(worker, ("w1.1", 2), ("done", 99))], ["run"])
        self.assertEqual(worker.fed_until, 13)

    def test_the_noted_tick(self):
        worker = enrolled(6, own_task(0), own_task(1))
        self.assertEqual((worker.fed_until, worker.runs.slots()), (7, ["web/0", "web/1"]))
        for clock in range(2, 7):
            effects = tick(worker)
            self.assertEqual((worker.clock, worker.runs.slots()), (clock, ["web/0", "web/1"]))
        effects = tick(worker)
        self.assertEqual((worker.clock, worker.runs.slots()), (7, []))
        # The engine has ended them by itself.
        self.assertEqual([effect for effect in effects if effect[0] != "send"], [])
        self.assertEqual(worker.life, 1)
        for _ in range(3):
            self.assertNotIn("run", [effect[0] for effect in tick(worker)])

    def test_it_is_fed_again(self):
        worker = enrolled(6, own_task(0), own_task(1))
        tick(worker, 7)
        self.assertEqual(worker.runs.slots(), [])
        # The beat of the third tick is answered at the eighth one, and one tick of its feed is left.
        self.assertEqual(tell(worker, ("w1.1", 2), ("done", 92))[:3],
                         [("feed", 1), ("run", "web/0", "run", 1), ("run", "web/1", "run", 1)])
        self.assertEqual((worker.clock, worker.fed_until, worker.runs.slots()), (8, 9, ["web/0", "web/1"]))
        tick(worker)
        self.assertEqual(worker.runs.slots(), [])


class TestOrder(unittest.TestCase):
    def test_the_effects_of_a_tick(self):
        worker = enrolled(12, own_task(0))
        clerk = Clerk(worker)
        worker.handle(("ended", "web/0"))
        show(worker, own_task(1, stop=1), own_task(2, "bound"))
        effects = tick(worker)
        self.assertEqual(effects[:2], [since(93), ("run", "web/0", "run", 1)])
        self.assertEqual(one_asked(effects)[1][1][1], "web/1")
        self.assertEqual(len(effects), 3)
        worker.handle(("ended", "web/0"))
        expected = [[], [("run", "web/0", "run", 1)], [], [since(93, "f2"), effects[2][:1] + ("f2",) + effects[2][2:]]]
        self.assertEqual([tick(worker) for _ in expected], expected)
        clerk.answer()

    def test_the_caller_comes_before_the_runs(self):
        worker = enrolled(20, own_task(0))
        show(worker, own_task(1, stop=1))
        first = tick(worker)[1]
        tick(worker, 3)
        worker.handle(("ended", "web/0"))
        self.assertEqual(tick(worker), [since(93, "f2"), first[:1] + ("f2",) + first[2:], ("run", "web/0", "run", 1)])

    def test_the_effects_of_an_answer(self):
        worker = made(6)
        whole(worker, 90, own_task(0), own_task(1, "bound"), own_node(life=0), own_beat(0))
        tick(worker)
        effects = tell(worker, ("w1.1", 1), ("done", 95))
        self.assertEqual(effects[:2], [("feed", 6), ("run", "web/0", "run", 1)])
        self.assertEqual(one_asked(effects[2:])[1][0][1], "web/1")
        self.assertEqual(len(effects), 3)

    def test_other_letters_send_no_transaction(self):
        worker = enrolled(12)
        self.assertEqual(show(worker, own_task(0, "bound"), own_task(1, stop=1), own_task(2)), [("run", "web/2", "run", 1)])
        self.assertEqual(worker.handle(("ended", "web/2")), [])
        self.assertEqual(len(asked(tick(worker))), 1)

    def test_answers_that_do_not_end_the_transaction(self):
        worker = enrolled(6)
        tick(worker, 2)
        for origin, number in (("w1.1", 1), ("w1.1", 3), ("w1", 2), ("w2.1", 2)):
            self.assertEqual(hear(worker, "told", origin, number, ("no", 0)), [])
        self.assertEqual(worker.life, 1)
        tell(worker, ("w1.1", 2), ("done", 92))
        self.assertEqual(tell(worker, ("w1.1", 2), ("no", 0)), [])
        self.assertEqual(worker.life, 1)

    def test_an_answer_when_nothing_is_under_way_sends_nothing(self):
        worker = enrolled(12)
        show(worker, own_task(0, "bound"))
        self.assertEqual(hear(worker, "told", "w1.1", 1, ("done", 91)), [])
        self.assertEqual(len(asked(tick(worker))), 1)

    def test_letters_of_strangers_are_taken(self):
        worker = enrolled(12)
        self.assertEqual(hear(worker, "changes", 91, ((92, ((own_task(0)[0], "web/0", own_task(0)[4]),), ()),), 92, sender="x"),
                         [("run", "web/0", "run", 1)])

    def test_events_and_letters_that_are_not_known(self):
        worker = enrolled(12, own_task(0))
        for event in (("stored", 1), ("synced", 2), ("tock",), (), ("ended",), ("ended", "web/1"), ("ended", "")):
            self.assertEqual(worker.handle(event), [])
        for letter in (("hello",), ("since", 0), ("ask", ("c", 1, ())), ("beat", 1, 2)):
            self.assertEqual(hear(worker, *letter), [])
        self.assertEqual((worker.clock, worker.life, worker.runs.slots()), (1, 1, ["web/0"]))

    def test_what_was_returned_may_be_changed(self):
        worker = made(running=("web/0",))
        worker.begin().clear()
        self.assertEqual(worker.begin(), [("stop", "web/0")])
        whole(worker, 90)
        tick(worker).clear()
        self.assertEqual([tick(worker) for _ in range(3)], [[]] * 3)
        self.assertEqual(len(tick(worker)), 2)


class TestAWorkerAndAStore(unittest.TestCase):
    def test_lives_and_beats(self):
        store = Store()
        store.apply(((), (service()[:2] + service()[4:], drain()[:2] + drain()[4:]), ()))
        for boot in range(1, 5):
            worker = made(6, boot=boot, size=5 + boot)
            for _ in range(20):
                effects = tick(worker)
                while effects:
                    effect = effects.pop(0)
                    if effect[0] == "send" and effect[2][0] == "since":
                        effects += hear(worker, *store.since(effect[2][1]))
                    elif effect[0] == "send":
                        answer = store.apply(effect[2][1][2])
                        self.assertEqual(answer[0], "done")
                        effects += tell(worker, effect[2][1], answer)
            view = store_view(store)
            self.assertEqual(view[("node", "w1")][2], (5 + boot, 0, boot, 0, ""))
            self.assertEqual(view[("beat", "w1")][2], (boot, 9))


if __name__ == "__main__":
    unittest.main()
