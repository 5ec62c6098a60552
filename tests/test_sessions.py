"""Points 5.11 to 5.13."""

import unittest

from majordomo.errors import BadTransaction
from majordomo.sessions import Sessions
from majordomo.store import Store


def put(name, text=""):
    return ((), (("drain", name, (text,)),), ())


class TestRunning(unittest.TestCase):
    def setUp(self):
        self.store = Store()
        self.sessions = Sessions()

    def run_command(self, origin, number, transaction):
        return self.sessions.run(self.store, (origin, number, transaction))

    def test_new_sessions_keep_nothing(self):
        self.assertEqual(self.sessions.last("c1"), 0)
        self.assertIsNone(self.sessions.answer("c1", 1))
        self.assertEqual(self.sessions.image(), ())

    def test_without_a_kept_number_any_number_is_new(self):
        for number in (0, -1, 10 ** 12 + 1):
            self.assertIsNone(self.sessions.answer("c1", number))
            self.assertEqual(Sessions().run(Store(), ("c1", number, put("a"))), ("done", 1))
        self.run_command("c1", 1, put("a"))
        self.assertEqual((self.sessions.answer("c1", 0), self.sessions.answer("c2", 0)), (("old",), None))

    def test_a_new_number_is_run_and_kept(self):
        self.assertEqual(self.run_command("c1", 1, put("a")), ("done", 1))
        self.assertEqual(self.sessions.last("c1"), 1)
        self.assertEqual(self.sessions.answer("c1", 1), ("done", 1))
        self.assertEqual(self.store.entry("drain", "a"), (1, 1, ("",)))

    def test_the_kept_number_returns_the_kept_answer_and_runs_nothing(self):
        self.run_command("c1", 1, put("a"))
        self.run_command("c2", 1, put("b"))
        self.assertEqual(self.run_command("c1", 1, put("c")), ("done", 1))
        self.assertEqual(self.store.revision, 2)
        self.assertIsNone(self.store.entry("drain", "c"))

    def test_a_smaller_number_is_old(self):
        self.run_command("c1", 5, put("a"))
        for number in (1, 4):
            self.assertEqual(self.run_command("c1", number, put("b")), ("old",))
            self.assertEqual(self.sessions.answer("c1", number), ("old",))
        self.assertEqual(self.sessions.answer("c1", 5), ("done", 1))
        self.assertEqual((self.sessions.last("c1"), self.store.revision), (5, 1))

    def test_a_greater_number_is_run_and_numbers_may_be_left_out(self):
        self.run_command("c1", 2, put("a"))
        self.assertIsNone(self.sessions.answer("c1", 3))
        self.assertEqual(self.run_command("c1", 10 ** 12, put("b")), ("done", 2))
        self.assertEqual(self.sessions.last("c1"), 10 ** 12)
        self.assertEqual(self.sessions.answer("c1", 2), ("old",))

    def test_a_refused_transaction_is_an_answer_too(self):
        refused = ((("drain", "a", 7),), (("drain", "a", ("",)),), ())
        self.assertEqual(self.run_command("c1", 1, refused), ("no", 0))
        self.assertEqual(self.run_command("c2", 1, ((), (("drain", "a", ("",)),), ())), ("done", 1))
        self.assertEqual(self.run_command("c1", 1, put("b")), ("no", 0))

    def test_origins_are_independent(self):
        self.run_command("c1", 3, put("a"))
        self.assertIsNone(self.sessions.answer("c2", 3))
        self.assertEqual(self.run_command("c2", 1, put("b")), ("done", 2))
        self.assertEqual((self.sessions.last("c1"), self.sessions.last("c2"), self.sessions.last("c")), (3, 1, 0))

    def test_what_is_no_transaction_changes_nothing(self):
        self.run_command("c1", 1, put("a"))
        for bad in (None, (), ((), ()), ((), (("drain", "A", ("",)),), ()), ((("drain", "a", -1),), (), ())):
            with self.assertRaises(BadTransaction):
                self.run_command("c1", 2, bad)
            with self.assertRaises(BadTransaction):
                self.run_command("c2", 1, bad)
        self.assertEqual(self.sessions.image(), (("c1", 1, ("done", 1)),))
        self.assertEqual((self.sessions.last("c1"), self.sessions.last("c2"), self.store.revision), (1, 0, 1))
        self.assertEqual(self.run_command("c1", 2, put("b")), ("done", 2))

    def test_what_is_no_transaction_is_not_looked_at_if_the_number_was_run(self):
        self.run_command("c1", 2, put("a"))
        self.assertEqual(self.run_command("c1", 2, None), ("done", 1))
        self.assertEqual(self.run_command("c1", 1, None), ("old",))

    def test_asking_runs_nothing(self):
        self.assertIsNone(self.sessions.answer("c1", 1))
        self.assertEqual((self.sessions.last("c1"), self.sessions.image()), (0, ()))


class TestImages(unittest.TestCase):
    def test_the_image_is_in_ascending_order_of_the_origins(self):
        store = Store()
        sessions = Sessions()
        for origin, number in (("b", 4), ("ab", 1), ("a", 2), ("B", 1), (" ", 3), ("a", 7)):
            sessions.run(store, (origin, number, ((), (("drain", "x", (origin,)),), ())))
        self.assertEqual(sessions.image(), (
            (" ", 3, ("done", 5)), ("B", 1, ("done", 4)), ("a", 7, ("done", 6)), ("ab", 1, ("done", 2)),
            ("b", 4, ("done", 1))))
        self.assertIs(type(sessions.image()), tuple)

    def test_sessions_from_an_image_go_on_like_the_first_ones(self):
        stores = [Store(), Store()]
        first = Sessions()
        for store in stores:
            store.apply(put("z"))
        first.run(stores[0], ("c1", 3, put("a")))
        stores[1].apply(put("a"))
        image = first.image()
        second = Sessions.from_image(image)
        self.assertEqual(second.image(), image)
        for origin, number in (("c1", 3), ("c1", 2), ("c1", 4), ("c2", 1), ("c1", 4)):
            answers = [sessions.run(store, (origin, number, put("b")))
                       for sessions, store in ((first, stores[0]), (second, stores[1]))]
            self.assertEqual(answers[0], answers[1])
        self.assertEqual(first.image(), second.image())
        self.assertEqual(stores[0].image(), stores[1].image())
        self.assertEqual(image, (("c1", 3, ("done", 2)),))

    def test_an_empty_image(self):
        self.assertEqual(Sessions.from_image(()).image(), ())

    def test_sessions_from_one_image_are_independent(self):
        image = (("c1", 3, ("done", 2)),)
        first = Sessions.from_image(image)
        second = Sessions.from_image(image)
        first.run(Store(), ("c1", 4, put("a")))
        self.assertEqual((second.last("c1"), second.image()), (3, image))


if __name__ == "__main__":
    unittest.main()
