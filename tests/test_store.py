"""Points 5.4 to 5.10, and 5.13 for stores."""

import random
import unittest

from majordomo.errors import BadTransaction, TooNew
from majordomo.store import Store


def drain(name, text="x"):
    return ("drain", name, (text,))


def done(store, conditions=(), puts=(), deletes=()):
    """Apply a transaction that must be done, and return the revision."""
    word, revision = store.apply((tuple(conditions), tuple(puts), tuple(deletes)))
    assert word == "done", word
    return revision


def state(store):
    return (store.revision, store.oldest, store.entries(), [store.since(revision) for revision in range(store.revision + 2)])


def filled(revisions):
    """A store with so many revisions, each of which puts two drains or deletes one."""
    store = Store()
    for revision in range(1, revisions + 1):
        if revision % 3:
            done(store, puts=[drain("z", str(revision)), drain("a" + str(revision))])
        else:
            done(store, deletes=[("drain", "z")])
    return store


class TestApply(unittest.TestCase):
    def test_a_new_one(self):
        store = Store()
        self.assertEqual((store.revision, store.oldest, store.entries()), (0, 0, []))
        self.assertIsNone(store.entry("drain", "a"))

    def test_puts(self):
        store = Store()
        self.assertEqual(store.apply(((), (drain("a"), ("node", "a", (1, 0, 1, 0, ""))), ())), ("done", 1))
        self.assertEqual(store.revision, 1)
        self.assertEqual(store.entry("drain", "a"), (1, 1, ("x",)))
        self.assertEqual(store.entry("node", "a"), (1, 1, (1, 0, 1, 0, "")))
        self.assertIsNone(store.entry("drain", "b"))
        self.assertIsNone(store.entry("beat", "a"))
        self.assertEqual(store.apply(((), (drain("b"), drain("a", "y")), ())), ("done", 2))
        self.assertEqual(store.entry("drain", "a"), (1, 2, ("y",)))
        self.assertEqual(store.entry("drain", "b"), (2, 2, ("x",)))
        self.assertEqual(store.entry("node", "a"), (1, 1, (1, 0, 1, 0, "")))

    def test_a_put_of_the_same_value(self):
        store = Store()
        done(store, puts=[drain("a")])
        self.assertEqual(done(store, puts=[drain("a")]), 2)
        self.assertEqual(store.entry("drain", "a"), (1, 2, ("x",)))
        self.assertEqual(store.since(1), ("changes", 1, ((2, (drain("a"),), ()),), 2))

    def test_born_after_a_delete_and_a_new_put(self):
        store = Store()
        done(store, puts=[drain("a")])
        self.assertEqual(done(store, deletes=[("drain", "a")]), 2)
        self.assertIsNone(store.entry("drain", "a"))
        done(store, puts=[drain("b")])
        self.assertEqual(done(store, puts=[drain("a")]), 4)
        self.assertEqual(store.entry("drain", "a"), (4, 4, ("x",)))

    def test_without_puts_and_deletes(self):
        store = Store()
        self.assertEqual(store.apply(((), (), ())), ("done", 0))
        done(store, puts=[drain("a")])
        self.assertEqual(store.apply(((), (), ())), ("done", 1))
        self.assertEqual(store.apply(((("drain", "a", 1),), (), ())), ("done", 1))
        self.assertEqual(store.apply(((("drain", "a", 2),), (), ())), ("no", 0))
        self.assertEqual(store.revision, 1)
        self.assertEqual(store.since(0), ("changes", 0, ((1, (drain("a"),), ()),), 1))

    def test_conditions(self):
        store = Store()
        done(store, puts=[drain("a"), drain("b")])
        done(store, puts=[drain("b", "y")])
        before = state(store)
        for conditions, index in (
                ([("drain", "a", 0)], 0), ([("drain", "a", 2)], 0), ([("drain", "b", 1)], 0), ([("drain", "b", 3)], 0),
                ([("drain", "c", 1)], 0), ([("node", "a", 1)], 0), ([("drain", "a", 1), ("drain", "c", 2)], 1),
                ([("drain", "a", 1), ("drain", "b", 2), ("drain", "c", 0), ("drain", "a", 2), ("drain", "b", 9)], 3)):
            with self.subTest(conditions):
                self.assertEqual(store.apply((tuple(conditions), (drain("n"),), ())), ("no", index))
                self.assertEqual(state(store), before)
        conditions = [("drain", "a", 1), ("drain", "b", 2), ("drain", "c", 0), ("node", "a", 0), ("drain", "a", 1)]
        self.assertEqual(done(store, conditions, [drain("a", "z")]), 3)
        self.assertEqual(store.entry("drain", "a"), (1, 3, ("z",)))

    def test_revision_0_after_a_delete(self):
        store = Store()
        done(store, puts=[drain("a")])
        done(store, deletes=[("drain", "a")])
        self.assertEqual(store.apply(((("drain", "a", 1),), (), ())), ("no", 0))
        self.assertEqual(done(store, [("drain", "a", 0)], [drain("a")]), 3)

    def test_deletes(self):
        store = Store()
        done(store, puts=[drain("a"), drain("b"), drain("c")])
        before = state(store)
        self.assertEqual(store.apply(((), (), (("drain", "d"),))), ("no", 0))
        self.assertEqual(store.apply(((), (drain("n"),), (("drain", "a"), ("node", "a"), ("drain", "d")))), ("no", 1))
        held = (("drain", "a", 1), ("drain", "d", 0))
        self.assertEqual(store.apply((held, (drain("n"),), (("drain", "a"), ("drain", "b"), ("drain", "d")))), ("no", 4))
        self.assertEqual(store.apply((held[::-1] + (("drain", "b", 0),), (), (("drain", "d"),))), ("no", 2))
        self.assertEqual(state(store), before)
        self.assertEqual(done(store, held, deletes=[("drain", "b"), ("drain", "a")]), 2)
        self.assertEqual(store.entries(), [("drain", "c", 1, 1, ("x",))])

    def test_a_delete_that_does_not_hold_in_an_empty_store(self):
        store = Store()
        self.assertEqual(store.apply(((), (drain("a"),), (("drain", "b"),))), ("no", 0))
        self.assertEqual((store.revision, store.entries()), (0, []))

    def test_bad_transactions(self):
        store = filled(4)
        before = state(store)
        for bad in (None, 5, "abc", (), ((), ()), ((), (), (), ()), ((), (("drain", "a", "x"),), ()), ((), (), (("drain",),)),
                    ((), (drain("n"), drain("n")), ()), ((), (drain("n"),), (("drain", "n"),)), ((("drain", "a", -1),), (), ()),
                    ((), (drain("n"), ("drain", "m", (True,))), ()), ((("drain", "a1", 0),), (("other", "a", ()),), ())):
            with self.subTest(bad), self.assertRaises(BadTransaction):
                store.apply(bad)
            self.assertEqual(state(store), before)
        self.assertEqual(done(store, puts=[drain("n")]), 5)


class TestEntries(unittest.TestCase):
    def test_order(self):
        store = Store()
        done(store, puts=[("task", "web/1", (1, "", 1, "new", 0, "", 0, "")), drain("b"), ("node", "a", (1, 0, 1, 0, ""))])
        done(store, puts=[drain("a"), drain("ab"), drain("0"), ("beat", "z", (1, 0)),
                          ("task", "web/0", (1, "", 1, "new", 0, "", 0, ""))])
        self.assertEqual([entry[:3] for entry in store.entries()],
                         [("beat", "z", 2), ("drain", "0", 2), ("drain", "a", 2), ("drain", "ab", 2), ("drain", "b", 1),
                          ("node", "a", 1), ("task", "web/0", 2), ("task", "web/1", 1)])
        self.assertEqual(store.entries()[5], ("node", "a", 1, 1, (1, 0, 1, 0, "")))

    def test_the_list_may_be_changed(self):
        store = filled(2)
        before = state(store)
        store.entries().clear()
        self.assertEqual(state(store), before)


class TestSince(unittest.TestCase):
    def test_the_order_within_a_change(self):
        store = Store()
        puts = [("node", "a", (1, 0, 1, 0, "")), drain("b"), drain("ab"), drain("a"), ("beat", "c", (1, 1))]
        done(store, puts=puts)
        self.assertEqual(store.since(0), ("changes", 0, ((1, (puts[4], puts[3], puts[2], puts[1], puts[0]), ()),), 1))
        done(store, puts=[drain("d"), drain("c")], deletes=[("node", "a"), ("drain", "b"), ("drain", "ab"), ("beat", "c")])
        self.assertEqual(store.since(1), ("changes", 1, ((
            2, (drain("c"), drain("d")), (("beat", "c"), ("drain", "ab"), ("drain", "b"), ("node", "a"))),), 2))

    def test_changes(self):
        store = filled(4)
        changes = (
            (1, (drain("a1"), drain("z", "1")), ()),
            (2, (drain("a2"), drain("z", "2")), ()),
            (3, (), (("drain", "z"),)),
            (4, (drain("a4"), drain("z", "4")), ()),
        )
        for revision in range(5):
            self.assertEqual(store.since(revision), ("changes", revision, changes[revision:], 4))

    def test_beyond_the_revision(self):
        store = filled(3)
        for revision in (4, 5, 10 ** 12):
            self.assertEqual(store.since(revision), ("changes", revision, (), revision))
        store.forget(3)
        for revision in (3, 4, 5, 10 ** 12):
            self.assertEqual(store.since(revision), ("changes", revision, (), revision))
        self.assertEqual(Store().since(0), ("changes", 0, (), 0))
        self.assertEqual(Store().since(1), ("changes", 1, (), 1))

    def test_below_the_oldest(self):
        store = filled(5)
        whole = ("whole", 5, tuple(store.entries()))
        store.forget(3)
        for revision in (0, 1, 2):
            self.assertEqual(store.since(revision), whole)
            self.assertEqual(store.since(revision, limit=1), whole)
        self.assertEqual(store.since(3)[:2], ("changes", 3))
        self.assertEqual([change[0] for change in store.since(3)[2]], [4, 5])
        self.assertEqual([change[0] for change in store.since(4)[2]], [5])

    def test_limits(self):
        store = filled(250)
        for revision in (0, 1, 149, 150, 151, 249, 250):
            for limit in (1, 2, 99, 100, 101, 1000):
                word, since, changes, upto = store.since(revision, limit=limit)
                count = min(limit, 250 - revision)
                self.assertEqual((word, since, upto), ("changes", revision, revision + count))
                self.assertEqual([change[0] for change in changes], list(range(revision + 1, revision + count + 1)))
            self.assertEqual(store.since(revision), store.since(revision, limit=100))
        store.forget(50)
        self.assertEqual([change[0] for change in store.since(60, limit=3)[2]], [61, 62, 63])
        self.assertEqual(store.since(60, limit=3)[3], 63)


class TestForget(unittest.TestCase):
    def test_forwards(self):
        store = filled(6)
        self.assertIsNone(store.forget(2))
        self.assertEqual((store.oldest, store.revision), (2, 6))
        self.assertEqual(store.since(1)[0], "whole")
        self.assertEqual([change[0] for change in store.since(2)[2]], [3, 4, 5, 6])
        store.forget(3)
        self.assertEqual(store.oldest, 3)
        self.assertEqual([change[0] for change in store.since(3)[2]], [4, 5, 6])
        store.forget(6)
        self.assertEqual((store.oldest, store.since(6)), (6, ("changes", 6, (), 6)))
        self.assertEqual(store.since(5)[0], "whole")
        self.assertEqual(done(store, puts=[drain("n")]), 7)
        self.assertEqual(store.since(6), ("changes", 6, ((7, (drain("n"),), ()),), 7))

    def test_backwards(self):
        store = filled(6)
        store.forget(3)
        before = state(store)
        for revision in (3, 2, 0):
            self.assertIsNone(store.forget(revision))
            self.assertEqual(state(store), before)

    def test_at_0(self):
        store = filled(2)
        before = state(store)
        store.forget(0)
        self.assertEqual(state(store), before)
        new = Store()
        self.assertIsNone(new.forget(0))
        self.assertEqual(new.oldest, 0)

    def test_beyond(self):
        store = filled(4)
        store.forget(1)
        before = state(store)
        for revision in (5, 6, 10 ** 12):
            with self.assertRaises(TooNew):
                store.forget(revision)
            self.assertEqual(state(store), before)
        with self.assertRaises(TooNew):
            Store().forget(1)


class TestImage(unittest.TestCase):
    def test_image(self):
        self.assertEqual(Store().image(), (0, ()))
        store = filled(4)
        self.assertEqual(store.image(), (4, (
            ("drain", "a1", 1, 1, ("x",)), ("drain", "a2", 2, 2, ("x",)), ("drain", "a4", 4, 4, ("x",)),
            ("drain", "z", 4, 4, ("4",)))))
        self.assertEqual(store.image(), (4, tuple(store.entries())))

    def test_a_store_from_an_image(self):
        store = filled(5)
        copy = Store.from_image(store.image())
        self.assertIsInstance(copy, Store)
        self.assertEqual((copy.revision, copy.oldest), (5, 5))
        self.assertEqual(copy.entries(), store.entries())
        self.assertEqual(copy.image(), store.image())
        self.assertEqual(copy.entry("drain", "z"), store.entry("drain", "z"))
        self.assertEqual(copy.since(5), ("changes", 5, (), 5))
        self.assertEqual(copy.since(4), ("whole", 5, tuple(store.entries())))
        self.assertEqual(Store.from_image((0, ())).image(), (0, ()))
        self.assertEqual(Store.from_image((0, ())).oldest, 0)

    def test_it_goes_on_like_the_first_one(self):
        chance = random.Random(41)
        names = ["a", "b", "c", "d"]
        for _ in range(60):
            store = Store()
            copy = store
            for step in range(30):
                if step == 15:
                    copy = Store.from_image(store.image())
                conditions = tuple(("drain", name, chance.randint(0, store.revision)) for name in chance.sample(names, 1)
                                   if chance.randrange(3) == 0)
                chance.shuffle(names)
                puts = tuple(drain(name, str(step)) for name in names[:chance.randint(0, 2)])
                deletes = tuple(("drain", name) for name in names[2:2 + chance.choice((0, 0, 1, 2))])
                answer = store.apply((conditions, puts, deletes))
                if copy is not store:
                    self.assertEqual(copy.apply((conditions, puts, deletes)), answer)
                    self.assertEqual(copy.image(), store.image())
                    self.assertEqual(copy.since(copy.oldest), store.since(copy.oldest))

    def test_neither_changes_the_other(self):
        store = filled(4)
        image = store.image()
        copy = Store.from_image(image)
        done(copy, puts=[drain("z", "new"), drain("n")], deletes=[("drain", "a1")])
        self.assertEqual((store.image(), store.since(3)[3]), (image, 4))
        done(store, deletes=[("drain", "z")])
        copy.forget(5)
        self.assertEqual(copy.entry("drain", "z"), (4, 5, ("new",)))
        self.assertEqual(store.oldest, 0)
        self.assertEqual(image, filled(4).image())


class TestWholeRuns(unittest.TestCase):
    def test_a_follower_that_does_the_changes_has_the_same_objects(self):
        chance = random.Random(42)
        for _ in range(40):
            store, revision, table = Store(), 0, {}
            names = ["a", "b", "c", "d", "e"]
            for step in range(60):
                chance.shuffle(names)
                puts = tuple(drain(name, str(step)) for name in names[:chance.randint(0, 3)])
                deletes = tuple(("drain", name) for name in names[3:] if store.entry("drain", name) is not None)
                done(store, puts=puts, deletes=deletes)
                if chance.randrange(4) == 0:
                    store.forget(chance.randint(store.oldest, store.revision))
                if chance.randrange(3) == 0:
                    letter = store.since(revision, limit=chance.randint(1, 4))
                    if letter[0] == "whole":
                        revision = letter[1]
                        table = {entry[:2]: entry[2:] for entry in letter[2]}
                    else:
                        for number, put, deleted in letter[2]:
                            for kind, name, value in put:
                                born = table.get((kind, name), (number,))[0]
                                table[kind, name] = (born, number, value)
                            for key in deleted:
                                del table[key]
                        revision = letter[3]
                    if revision == store.revision:
                        self.assertEqual(store.entries(), [key + table[key] for key in sorted(table)])


if __name__ == "__main__":
    unittest.main()
