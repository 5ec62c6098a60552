"""Points 7.1 to 7.5."""

import unittest

from majordomo.caller import Caller
from majordomo.errors import Busy
from tests.replicas import send, transaction


def asked(front, number, text="", origin="m1"):
    return send(front, "ask", (origin, number, transaction("a", text)))


def state(caller):
    return (caller.origin, caller.number, caller.front, caller.age, caller.busy)


class TestAsking(unittest.TestCase):
    def test_a_new_caller(self):
        caller = Caller("m1", ("f1", "f2"))
        self.assertEqual(state(caller), ("m1", 0, "f1", 0, False))
        self.assertIs(caller.busy, False)

    def test_numbers(self):
        caller = Caller("m1", ("f1",))
        for number in (1, 2, 3):
            self.assertEqual(caller.ask(transaction("a", str(number))), [asked("f1", number, str(number))])
            self.assertEqual((caller.number, caller.busy), (number, True))
            self.assertEqual(caller.hear(("told", "m1", number, ("done", 7))), ("done", 7))
            self.assertIs(caller.busy, False)
        self.assertEqual(caller.number, 3)

    def test_busy(self):
        caller = Caller("m1", ("f1", "f2"), patience=3)
        caller.ask(transaction())
        caller.tick()
        before = state(caller)
        with self.assertRaises(Busy):
            caller.ask(transaction("b"))
        self.assertEqual(state(caller), before)
        self.assertEqual([caller.tick(), caller.tick()], [[], [asked("f2", 1)]])
        with self.assertRaises(Busy):
            caller.ask(transaction("b"))
        caller.hear(("told", "m1", 1, ("no", 0)))
        self.assertEqual(caller.ask(transaction("a", "x")), [asked("f2", 2, "x")])

    def test_the_transaction_is_sent_as_it_is(self):
        caller = Caller("m1", ("f1",))
        self.assertEqual(caller.ask(((), (), ())), [send("f1", "ask", ("m1", 1, ((), (), ())))])


class TestPatience(unittest.TestCase):
    def sent_at(self, caller, ticks):
        """The ticks at which the command is sent again, with the fronts to which it is sent."""
        found = []
        for at in range(1, ticks + 1):
            effects = caller.tick()
            if effects:
                self.assertEqual(effects, [asked(caller.front, caller.number)])
                found.append((at, caller.front))
        return found

    def test_the_fronts_take_turns(self):
        caller = Caller("m1", ("f1", "f2", "f3"), patience=3)
        caller.ask(transaction())
        self.assertEqual(self.sent_at(caller, 14), [(3, "f2"), (6, "f3"), (9, "f1"), (12, "f2")])

    def test_one_front(self):
        caller = Caller("m1", ("f1",), patience=2)
        caller.ask(transaction())
        self.assertEqual(self.sent_at(caller, 5), [(2, "f1"), (4, "f1")])

    def test_the_bounds_of_the_patience(self):
        caller = Caller("m1", ("f1", "f2"), patience=1)
        caller.ask(transaction())
        self.assertEqual(self.sent_at(caller, 3), [(1, "f2"), (2, "f1"), (3, "f2")])
        caller = Caller("m1", ("f1", "f2"), patience=100)
        caller.ask(transaction())
        self.assertEqual(self.sent_at(caller, 250), [(100, "f2"), (200, "f1")])

    def test_the_patience_is_4_if_none_is_given(self):
        caller = Caller("m1", ("f1", "f2"))
        caller.ask(transaction())
        self.assertEqual(self.sent_at(caller, 9), [(4, "f2"), (8, "f1")])

    def test_the_front_at_hand_stays(self):
        caller = Caller("m1", ("f1", "f2"), patience=2)
        caller.ask(transaction())
        self.sent_at(caller, 3)
        caller.hear(("told", "m1", 1, ("done", 1)))
        self.assertEqual(caller.front, "f2")
        self.assertEqual(self.sent_at(caller, 5), [])
        # The ticks before the question do not count.
        self.assertEqual(caller.ask(transaction()), [asked("f2", 2)])
        self.assertEqual(self.sent_at(caller, 4), [(2, "f1"), (4, "f2")])

    def test_a_front_that_is_named_twice(self):
        caller = Caller("m1", ("f1", "f1", "f2"), patience=1)
        caller.ask(transaction())
        self.assertEqual(self.sent_at(caller, 3), [(1, "f1"), (2, "f2"), (3, "f1")])

    def test_the_patience_is_a_keyword(self):
        with self.assertRaises(TypeError):
            Caller("m1", ("f1",), 4)


class TestHearing(unittest.TestCase):
    def test_answers_of_another_origin_or_number(self):
        caller = Caller("m1", ("f1",))
        caller.ask(transaction())
        caller.hear(("told", "m1", 1, ("done", 1)))
        caller.ask(transaction())
        before = state(caller)
        for letter in (("told", "m2", 2, ("done", 1)), ("told", "m1", 1, ("done", 1)), ("told", "m1", 3, ("done", 1)),
                       ("changes", "m1", 2, ("done", 1)), ("whole", 2, ()), ("ask", ("m1", 2, transaction())),
                       ("told", "m1", 2), ("since", 2)):
            self.assertIsNone(caller.hear(letter))
            self.assertEqual(state(caller), before)
        self.assertEqual(caller.hear(("told", "m1", 2, ("no", 3))), ("no", 3))

    def test_an_answer_is_heard_once(self):
        caller = Caller("m1", ("f1",))
        self.assertIsNone(caller.hear(("told", "m1", 0, ("done", 1))))
        caller.ask(transaction())
        self.assertEqual(caller.hear(("told", "m1", 1, ("old",))), ("old",))
        self.assertIsNone(caller.hear(("told", "m1", 1, ("old",))))
        self.assertEqual(caller.tick(), [])


class TestAge(unittest.TestCase):
    def test_before_the_first_transaction(self):
        caller = Caller("m1", ("f1",))
        for _ in range(5):
            self.assertEqual(caller.tick(), [])
            self.assertEqual(caller.age, 0)

    def test_it_goes_on_after_the_answer(self):
        caller = Caller("m1", ("f1",))
        caller.tick()
        caller.ask(transaction())
        self.assertEqual(caller.age, 0)
        for at in range(1, 7):
            caller.tick()
            self.assertEqual(caller.age, at)
        caller.hear(("told", "m1", 1, ("done", 1)))
        self.assertEqual(caller.age, 6)
        for at in range(7, 11):
            caller.tick()
            self.assertEqual(caller.age, at)
        caller.ask(transaction())
        self.assertEqual(caller.age, 0)
        caller.tick()
        self.assertEqual(caller.age, 1)

    def test_sending_again_is_not_asking(self):
        caller = Caller("m1", ("f1",), patience=1)
        caller.ask(transaction())
        for at in range(1, 4):
            self.assertEqual(len(caller.tick()), 1)
            self.assertEqual(caller.age, at)


class TestConventions(unittest.TestCase):
    def test_returned_lists_may_be_changed(self):
        caller = Caller("m1", ("f1",), patience=1)
        caller.ask(transaction()).clear()
        caller.tick().clear()
        self.assertEqual(caller.tick(), [asked("f1", 1)])


if __name__ == "__main__":
    unittest.main()
