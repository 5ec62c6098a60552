"""Points 3.6 to 3.10: the acceptor."""

import random
import unittest

from majordomo.acceptor import Acceptor

A, B, C = ("a",), ("b", 1), ("c", ("d",))


def memory(acceptor):
    """What an acceptor promises and remembers; its answer promises the same ballot again."""
    return acceptor.prepare(acceptor.promised, 0)


class TestAnswers(unittest.TestCase):
    def test_a_new_one(self):
        acceptor = Acceptor()
        self.assertEqual((acceptor.promised, acceptor.base), (0, 0))
        self.assertEqual(acceptor.prepare(0, 0), ("promise", 0, 0, ()))

    def test_prepare(self):
        acceptor = Acceptor()
        self.assertEqual(acceptor.prepare(5, 0), ("promise", 5, 0, ()))
        self.assertEqual(acceptor.promised, 5)
        self.assertEqual(acceptor.prepare(4, 0), ("refuse", 5))
        self.assertEqual(acceptor.prepare(0, 9), ("refuse", 5))
        self.assertEqual(acceptor.promised, 5)
        self.assertEqual(acceptor.prepare(5, 0), ("promise", 5, 0, ()))
        self.assertEqual(acceptor.prepare(10 ** 20, 3), ("promise", 10 ** 20, 0, ()))
        self.assertEqual(acceptor.promised, 10 ** 20)

    def test_rows_of_a_promise(self):
        acceptor = Acceptor()
        for slot, value in ((4, A), (0, B), (2, C)):
            acceptor.accept(1, slot, value)
        self.assertEqual(acceptor.prepare(3, 0), ("promise", 3, 0, ((0, 1, B), (2, 1, C), (4, 1, A))))
        self.assertEqual(acceptor.prepare(3, 2), ("promise", 3, 0, ((2, 1, C), (4, 1, A))))
        self.assertEqual(acceptor.prepare(3, 3), ("promise", 3, 0, ((4, 1, A),)))
        self.assertEqual(acceptor.prepare(3, 4), ("promise", 3, 0, ((4, 1, A),)))
        self.assertEqual(acceptor.prepare(3, 5), ("promise", 3, 0, ()))

    def test_accept(self):
        acceptor = Acceptor()
        self.assertEqual(acceptor.accept(0, 0, A), ("accepted", 0, 0))
        self.assertEqual(acceptor.accept(4, 1, B), ("accepted", 4, 1))
        self.assertEqual(acceptor.promised, 4)
        self.assertEqual(acceptor.accept(3, 0, C), ("refuse", 4))
        self.assertEqual(acceptor.accept(4, 0, C), ("accepted", 4, 0))
        self.assertEqual(acceptor.accept(6, 0, A), ("accepted", 6, 0))
        self.assertEqual(acceptor.promised, 6)
        self.assertEqual(memory(acceptor), ("promise", 6, 0, ((0, 6, A), (1, 4, B))))

    def test_what_is_refused_is_not_remembered(self):
        acceptor = Acceptor()
        acceptor.prepare(7, 0)
        self.assertEqual(acceptor.accept(6, 0, A), ("refuse", 7))
        self.assertEqual(memory(acceptor), ("promise", 7, 0, ()))

    def test_the_last_value_of_a_slot_stays(self):
        acceptor = Acceptor()
        acceptor.accept(1, 3, A)
        acceptor.accept(1, 3, B)
        self.assertEqual(memory(acceptor), ("promise", 1, 0, ((3, 1, B),)))
        acceptor.accept(2, 3, C)
        self.assertEqual(memory(acceptor), ("promise", 2, 0, ((3, 2, C),)))

    def test_slots_around_the_base(self):
        acceptor = Acceptor()
        acceptor.cut(3)
        self.assertEqual(acceptor.accept(2, 2, A), ("decided", 3))
        self.assertEqual(acceptor.promised, 2)
        self.assertEqual(acceptor.accept(1, 0, A), ("refuse", 2))
        self.assertEqual(acceptor.accept(5, 0, A), ("decided", 3))
        self.assertEqual(acceptor.promised, 5)
        self.assertEqual(acceptor.accept(5, 3, B), ("accepted", 5, 3))
        self.assertEqual(acceptor.accept(5, 4, C), ("accepted", 5, 4))
        self.assertEqual(acceptor.prepare(5, 0), ("promise", 5, 3, ((3, 5, B), (4, 5, C))))

    def test_a_returned_promise_does_not_change_later(self):
        acceptor = Acceptor()
        acceptor.accept(1, 0, A)
        answer = acceptor.prepare(2, 0)
        acceptor.accept(2, 1, B)
        acceptor.cut(2)
        self.assertEqual(answer, ("promise", 2, 0, ((0, 1, A),)))


class TestCut(unittest.TestCase):
    def filled(self):
        acceptor = Acceptor()
        for slot in range(5):
            acceptor.accept(2, slot, (slot,))
        return acceptor

    def test_forwards(self):
        acceptor = self.filled()
        self.assertIsNone(acceptor.cut(3))
        self.assertEqual(acceptor.base, 3)
        self.assertEqual(memory(acceptor), ("promise", 2, 3, ((3, 2, (3,)), (4, 2, (4,)))))
        acceptor.cut(9)
        self.assertEqual(memory(acceptor), ("promise", 2, 9, ()))

    def test_backwards(self):
        acceptor = self.filled()
        acceptor.cut(3)
        for base in (3, 2, 0):
            self.assertIsNone(acceptor.cut(base))
            self.assertEqual(memory(acceptor), ("promise", 2, 3, ((3, 2, (3,)), (4, 2, (4,)))))

    def test_at_0(self):
        acceptor = self.filled()
        acceptor.cut(0)
        self.assertEqual(len(memory(acceptor)[3]), 5)


class TestReplay(unittest.TestCase):
    def test_promised(self):
        acceptor = Acceptor()
        self.assertIsNone(acceptor.replay(("promised", 4)))
        self.assertEqual(acceptor.promised, 4)
        acceptor.replay(("promised", 3))
        self.assertEqual(acceptor.promised, 4)
        acceptor.replay(("promised", 6))
        self.assertEqual(memory(acceptor), ("promise", 6, 0, ()))

    def test_accepted(self):
        acceptor = Acceptor()
        self.assertIsNone(acceptor.replay(("accepted", 4, 2, A)))
        self.assertEqual(memory(acceptor), ("promise", 4, 0, ((2, 4, A),)))
        acceptor.replay(("promised", 9))
        acceptor.replay(("accepted", 5, 1, B))
        self.assertEqual(memory(acceptor), ("promise", 9, 0, ((1, 5, B), (2, 4, A))))
        acceptor.replay(("accepted", 9, 2, C))
        self.assertEqual(memory(acceptor), ("promise", 9, 0, ((1, 5, B), (2, 9, C))))

    def test_accepted_around_the_base(self):
        acceptor = Acceptor()
        acceptor.cut(3)
        acceptor.replay(("accepted", 4, 2, A))
        self.assertEqual(memory(acceptor), ("promise", 4, 3, ()))
        acceptor.replay(("accepted", 5, 3, A))
        self.assertEqual(memory(acceptor), ("promise", 5, 3, ((3, 5, A),)))

    def test_others_are_ignored(self):
        acceptor = Acceptor()
        acceptor.accept(2, 0, A)
        for record in (("image", 8, ((0, ()), ())), ("promise", 9), ("chosen", 9, B), ("accept", 9, 1, B), ("other",),
                       (), None, 9, "promised", "accepted", True, ("image", 9), ("image", 9, 1, B)):
            with self.subTest(record):
                self.assertIsNone(acceptor.replay(record))
                self.assertEqual((acceptor.promised, acceptor.base), (2, 0))
                self.assertEqual(memory(acceptor), ("promise", 2, 0, ((0, 2, A),)))

    def test_the_records_of_another(self):
        chance = random.Random(11)
        for _ in range(200):
            first, second = Acceptor(), Acceptor()
            for _ in range(chance.randint(0, 40)):
                ballot, slot, value = chance.randint(0, 9), chance.randint(0, 6), (chance.randint(0, 9),)
                action, before = chance.randrange(8), first.promised
                if action == 0:
                    first.cut(slot)
                    second.cut(slot)
                elif action < 4:
                    first.prepare(ballot, slot)
                elif first.accept(ballot, slot, value)[0] == "accepted":
                    second.replay(("accepted", ballot, slot, value))
                    before = first.promised
                if first.promised > before:
                    second.replay(("promised", first.promised))
                self.assertEqual(second.promised, first.promised)
            self.assertEqual(memory(second), memory(first))


if __name__ == "__main__":
    unittest.main()
