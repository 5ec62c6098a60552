"""Points 3.11 to 3.16: the chosen values."""

import itertools
import unittest

from majordomo.slots import Slots


def value(slot):
    return ("v", slot)


def filled(applied, *later):
    """Slots that were applied up to a slot, and that know later ones."""
    slots = Slots()
    for slot in range(applied):
        slots.learn(slot, value(slot))
    slots.take()
    for slot in later:
        slots.learn(slot, value(slot))
    return slots


class TestLearn(unittest.TestCase):
    def test_a_new_one(self):
        slots = Slots()
        self.assertEqual((slots.base, slots.applied), (0, 0))
        self.assertEqual(slots.take(), [])
        self.assertIs(slots.is_behind(), False)
        self.assertIsNone(slots.value_at(0))

    def test_any_order(self):
        for order in itertools.permutations(range(5)):
            slots = Slots()
            taken = []
            for slot in order:
                self.assertIs(slots.learn(slot, value(slot)), True)
                taken += slots.take()
                self.assertEqual(slots.applied, len(taken))
            self.assertEqual(taken, [(slot, value(slot)) for slot in range(5)])

    def test_twice(self):
        slots = Slots()
        self.assertIs(slots.learn(1, ("first",)), True)
        self.assertIs(slots.learn(1, ("second",)), False)
        slots.learn(0, ("zero",))
        self.assertEqual(slots.take(), [(0, ("zero",)), (1, ("first",))])

    def test_below_applied(self):
        slots = filled(3)
        for slot in (0, 2):
            self.assertIs(slots.learn(slot, ("other",)), False)
            self.assertEqual(slots.value_at(slot), value(slot))
        self.assertEqual(slots.applied, 3)
        self.assertIs(slots.learn(3, value(3)), True)

    def test_below_applied_after_a_cut(self):
        slots = filled(3)
        slots.cut(2)
        self.assertIs(slots.learn(1, ("other",)), False)
        self.assertIsNone(slots.value_at(1))


class TestTake(unittest.TestCase):
    def test_up_to_the_first_unknown_slot(self):
        slots = filled(0, 0, 1, 3, 4)
        self.assertEqual(slots.take(), [(0, value(0)), (1, value(1))])
        self.assertEqual(slots.applied, 2)
        self.assertEqual(slots.take(), [])
        slots.learn(2, value(2))
        self.assertEqual(slots.take(), [(2, value(2)), (3, value(3)), (4, value(4))])
        self.assertEqual((slots.applied, slots.base), (5, 0))

    def test_the_list_may_be_changed(self):
        slots = filled(0, 0, 1)
        slots.take().clear()
        self.assertEqual([slots.value_at(slot) for slot in range(2)], [value(0), value(1)])


class TestIsBehind(unittest.TestCase):
    def test_each_case(self):
        self.assertIs(filled(3).is_behind(), False)
        self.assertIs(filled(3, 3).is_behind(), False)
        self.assertIs(filled(3, 4).is_behind(), True)
        self.assertIs(filled(3, 9).is_behind(), True)
        self.assertIs(filled(3, 3, 5).is_behind(), False)
        slots = filled(3, 3, 5)
        slots.take()
        self.assertIs(slots.is_behind(), True)
        self.assertIs(filled(0, 1).is_behind(), True)


class TestValueAt(unittest.TestCase):
    def test_on_both_sides(self):
        slots = filled(5, 5, 7)
        slots.cut(2)
        found = [slots.value_at(slot) for slot in range(9)]
        self.assertEqual(found, [None, None, value(2), value(3), value(4), None, None, None, None])
        self.assertIsNone(slots.value_at(-1))


class TestCut(unittest.TestCase):
    def test_forwards_and_backwards(self):
        slots = filled(5, 6)
        self.assertIsNone(slots.cut(3))
        self.assertEqual((slots.base, slots.applied), (3, 5))
        for base in (3, 2, 0, 6, 7):
            self.assertIsNone(slots.cut(base))
            self.assertEqual((slots.base, slots.applied), (3, 5))
            self.assertEqual([slots.value_at(slot) for slot in range(7)], [None] * 3 + [value(3), value(4), None, None])
        slots.cut(4)
        self.assertEqual((slots.base, slots.value_at(3), slots.value_at(4)), (4, None, value(4)))

    def test_at_applied(self):
        slots = filled(5, 5, 6)
        slots.cut(5)
        self.assertEqual((slots.base, slots.applied), (5, 5))
        self.assertIsNone(slots.value_at(4))
        self.assertEqual(slots.take(), [(5, value(5)), (6, value(6))])
        self.assertEqual(slots.value_at(5), value(5))


class TestJump(unittest.TestCase):
    def test_forwards(self):
        slots = filled(3, 4, 6, 7, 9)
        self.assertIsNone(slots.jump(6))
        self.assertEqual((slots.base, slots.applied), (6, 6))
        self.assertEqual([slots.value_at(slot) for slot in range(10)], [None] * 10)
        self.assertIs(slots.learn(4, ("other",)), False)
        self.assertIs(slots.learn(6, ("other",)), False)
        self.assertEqual(slots.take(), [(6, value(6)), (7, value(7))])
        self.assertEqual([slots.value_at(slot) for slot in range(5, 9)], [None, value(6), value(7), None])
        self.assertIs(slots.is_behind(), True)

    def test_beyond_all(self):
        slots = filled(3, 4)
        slots.jump(20)
        self.assertEqual((slots.base, slots.applied, slots.is_behind()), (20, 20, False))
        self.assertIs(slots.learn(20, value(20)), True)
        self.assertEqual(slots.take(), [(20, value(20))])

    def test_backwards(self):
        slots = filled(5, 6)
        slots.cut(2)
        for base in (5, 4, 2, 1, 0):
            self.assertIsNone(slots.jump(base))
            self.assertEqual((slots.base, slots.applied), (2, 5))
            self.assertEqual([slots.value_at(slot) for slot in range(6)], [None] * 2 + [value(2), value(3), value(4), None])

    def test_of_a_new_one(self):
        slots = Slots()
        slots.jump(0)
        self.assertEqual((slots.base, slots.applied), (0, 0))
        slots.jump(1)
        self.assertEqual((slots.base, slots.applied), (1, 1))


if __name__ == "__main__":
    unittest.main()
