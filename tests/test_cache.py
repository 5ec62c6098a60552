"""Points 6.1 to 6.6."""

import copy
import random
import unittest

from majordomo.cache import Cache
from majordomo.store import Store


def drain(name, text=""):
    return ("drain", name, (text,))


def change(revision, puts=(), deletes=()):
    """A change that puts and deletes drains of these names."""
    return (revision, tuple(drain(name, str(revision)) for name in puts), tuple(("drain", name) for name in deletes))


def changes(since, *made):
    return ("changes", since, tuple(made), since + len(made))


def whole(revision, *entries):
    """A letter with drains; each is given as (name, born, revision)."""
    return ("whole", revision, tuple(("drain", name, born, put, ("w",)) for name, born, put in entries))


def keys(*names):
    return [("drain", name) for name in names]


def state(cache):
    return (cache.revision, cache.oldest, cache.ready, copy.deepcopy(cache.view), cache.entries(), cache.since(0),
            cache.since(cache.oldest))


class TestNewCaches(unittest.TestCase):
    def test_a_new_cache(self):
        for cache in (Cache(), Cache(0), Cache(ring=7)):
            self.assertEqual((cache.revision, cache.oldest, cache.ready, cache.view, cache.entries()),
                             (0, 0, False, {}, []))
            self.assertIs(cache.ready, False)
            self.assertEqual(cache.since(0), ("changes", 0, (), 0))
            self.assertEqual(cache.since(5), ("changes", 5, (), 5))

    def test_any_first_letter_makes_it_ready(self):
        for letter in (changes(0), changes(0, change(1, ["a"])), whole(0), whole(4, ("a", 1, 2))):
            cache = Cache()
            self.assertIsInstance(cache.take(letter), list)
            self.assertIs(cache.ready, True)

    def test_a_letter_that_is_not_taken_does_not(self):
        cache = Cache()
        self.assertIsNone(cache.take(changes(1, change(2, ["a"]))))
        self.assertIs(cache.ready, False)


class TestChanges(unittest.TestCase):
    def test_they_are_done_in_order(self):
        cache = Cache()
        letter = changes(0, change(1, ["b", "c"]), change(2, ["a"], ["c"]), change(3, ["b"]))
        self.assertEqual(cache.take(letter), keys("a", "b"))
        self.assertEqual(cache.view, {("drain", "b"): (1, 3, ("3",)), ("drain", "a"): (2, 2, ("2",))})
        self.assertEqual((cache.revision, cache.oldest), (3, 0))
        self.assertEqual(cache.entries(), [("drain", "a", 2, 2, ("2",)), ("drain", "b", 1, 3, ("3",))])

    def test_the_revision_must_fit(self):
        cache = Cache()
        cache.take(changes(0, change(1, ["a"]), change(2, ["b"])))
        before = state(cache)
        for since in (0, 1, 3, 100):
            self.assertIsNone(cache.take(("changes", since, (change(since + 1, ["c"]),), since + 1)))
            self.assertEqual(state(cache), before)
        self.assertEqual(cache.take(changes(2)), [])
        self.assertEqual(state(cache), before)
        self.assertEqual(cache.take(changes(2, change(3, [], ["a"]))), keys("a"))

    def test_the_keys_that_are_returned(self):
        for made, names in (
            ([change(3, ["a"])], ["a"]),
            ([change(3, ["x"])], ["x"]),
            ([change(3, [], ["a"])], ["a"]),
            ([change(3, ["x"]), change(4, [], ["x"])], []),
            ([change(3, ["x", "b"]), change(4, ["y"], ["x"])], ["b", "y"]),
            ([change(3, [], ["a"]), change(4, ["a"])], ["a"]),
            ([change(3, ["a"]), change(4, [], ["a"])], ["a"]),
            ([change(3, ["x"]), change(4, [], ["x"]), change(5, ["x"])], ["x"]),
            ([change(3, ["a"]), change(4, ["a"]), change(5, ["a", "0"])], ["0", "a"]),
            ([change(3, [], ["a"]), change(4, ["a"]), change(5, [], ["a"])], ["a"]),
        ):
            cache = Cache()
            cache.take(changes(0, change(1, ["a"]), change(2, ["b"])))
            self.assertEqual(cache.take(changes(2, *made)), keys(*names), made)

    def test_a_put_with_the_same_value_is_different(self):
        cache = Cache()
        cache.take(("changes", 0, ((1, (drain("a"),), ()),), 1))
        self.assertEqual(cache.take(("changes", 1, ((2, (drain("a"),), ()),), 2)), keys("a"))
        self.assertEqual(cache.view[("drain", "a")], (1, 2, ("",)))

    def test_an_object_that_is_made_again_is_born_again(self):
        cache = Cache()
        cache.take(changes(0, change(1, ["a"]), change(2, [], ["a"]), change(3, ["a"]), change(4, ["a"])))
        self.assertEqual(cache.view, {("drain", "a"): (3, 4, ("4",))})

    def test_keys_of_several_kinds_are_in_ascending_order(self):
        cache = Cache()
        puts = (("beat", "z", (1, 1)), ("drain", "a", ("",)), ("node", "b", (1, 0, 0, 0, "")))
        self.assertEqual(cache.take(("changes", 0, ((1, puts, ()),), 1)), [put[:2] for put in puts])


class TestWhole(unittest.TestCase):
    def test_a_cache_that_is_not_ready_takes_any(self):
        for revision in (0, 1, 9):
            cache = Cache()
            self.assertEqual(cache.take(whole(revision, ("b", 1, 2), ("a", 2, 2))), keys("a", "b"))
            self.assertEqual((cache.revision, cache.oldest), (revision, revision))
            self.assertEqual(cache.view, {("drain", "b"): (1, 2, ("w",)), ("drain", "a"): (2, 2, ("w",))})

    def test_a_ready_cache_takes_a_greater_revision(self):
        cache = Cache()
        cache.take(whole(5, ("a", 1, 2)))
        before = state(cache)
        for revision in (0, 4, 5):
            self.assertIsNone(cache.take(whole(revision, ("b", 1, 2))))
            self.assertEqual(state(cache), before)
        self.assertEqual(cache.take(whole(6, ("b", 6, 6))), keys("a", "b"))
        self.assertEqual((cache.revision, cache.view), (6, {("drain", "b"): (6, 6, ("w",))}))

    def test_a_cache_that_is_ready_at_revision_0(self):
        cache = Cache()
        cache.take(changes(0))
        self.assertIsNone(cache.take(whole(0)))
        self.assertEqual(cache.take(whole(1)), [])

    def test_the_keys_that_are_returned(self):
        cache = Cache()
        cache.take(whole(9, ("a", 1, 2), ("b", 3, 4), ("c", 5, 6), ("d", 7, 8), ("e", 9, 9)))
        # c has another revision, d another born; e is gone, and f is new.
        self.assertEqual(cache.take(whole(12, ("f", 12, 12), ("d", 10, 10), ("a", 1, 2), ("b", 3, 4), ("c", 5, 11))),
                         keys("c", "d", "e", "f"))

    def test_another_born_alone_is_different(self):
        cache = Cache()
        cache.take(whole(9, ("a", 1, 5), ("b", 1, 5)))
        self.assertEqual(cache.take(whole(10, ("a", 2, 5), ("b", 1, 6))), keys("a", "b"))

    def test_changes_follow(self):
        cache = Cache()
        cache.take(whole(9, ("a", 1, 2)))
        self.assertEqual(cache.take(changes(9, change(10, ["a", "b"]))), keys("a", "b"))
        self.assertEqual(cache.view, {("drain", "a"): (1, 10, ("10",)), ("drain", "b"): (10, 10, ("10",))})
        self.assertEqual((cache.revision, cache.oldest), (10, 9))


class TestRing(unittest.TestCase):
    def filled(self, ring, count, first=0):
        cache = Cache(ring)
        if first:
            cache.take(whole(first))
        for revision in range(first + 1, first + count + 1):
            cache.take(changes(revision - 1, change(revision, ["a"])))
        return cache

    def test_the_oldest_revision(self):
        for ring, count, oldest in ((0, 0, 0), (0, 3, 3), (1, 0, 0), (1, 1, 0), (1, 2, 1), (2, 2, 0), (2, 5, 3),
                                    (100, 100, 0), (100, 101, 1), (1000, 300, 0)):
            self.assertEqual(self.filled(ring, count).oldest, oldest, (ring, count))
            self.assertEqual(self.filled(ring, count, 7).oldest, 7 + oldest, (ring, count))
        self.assertEqual(self.filled(100, 150).oldest, 50)
        self.assertEqual((Cache().oldest, self.default_ring(150).oldest), (0, 50))

    def default_ring(self, count):
        cache = Cache()
        cache.take(changes(0, *[change(at + 1, ["a"]) for at in range(count)]))
        return cache

    def test_since_at_each_edge(self):
        cache = self.filled(3, 5)
        entries = (("drain", "a", 1, 5, ("5",)),)
        last = tuple(change(revision, ["a"]) for revision in (3, 4, 5))
        for revision in (0, 1):
            self.assertEqual(cache.since(revision), ("whole", 5, entries))
        for at in range(4):
            self.assertEqual(cache.since(2 + at), ("changes", 2 + at, last[at:], 5))
        for revision in (6, 100):
            self.assertEqual(cache.since(revision), ("changes", revision, (), revision))

    def test_since_without_room(self):
        cache = self.filled(0, 5)
        self.assertEqual(cache.since(4), ("whole", 5, (("drain", "a", 1, 5, ("5",)),)))
        self.assertEqual(cache.since(5), ("changes", 5, (), 5))

    def test_one_letter_with_more_changes_than_room(self):
        cache = Cache(2)
        cache.take(changes(0, *[change(revision, ["a"]) for revision in (1, 2, 3)]))
        self.assertEqual((cache.revision, cache.oldest), (3, 1))
        self.assertEqual(cache.since(1), ("changes", 1, (change(2, ["a"]), change(3, ["a"])), 3))

    def test_whole_empties_the_ring(self):
        cache = self.filled(5, 3)
        cache.take(whole(9, ("b", 9, 9)))
        self.assertEqual(cache.oldest, 9)
        for revision in (0, 2, 3, 8):
            self.assertEqual(cache.since(revision), ("whole", 9, (("drain", "b", 9, 9, ("w",)),)))

    def test_at_most_100_changes(self):
        cache = self.filled(250, 202)
        for since, upto in ((0, 100), (1, 101), (102, 202), (103, 202)):
            letter = cache.since(since)
            self.assertEqual((letter[:2], letter[3]), (("changes", since), upto))
            self.assertEqual([made[0] for made in letter[2]], list(range(since + 1, upto + 1)))
            self.assertIs(type(letter[2]), tuple)

    def test_the_entries_of_a_whole_letter_are_in_ascending_order(self):
        cache = Cache(0)
        cache.take(changes(0, change(1, ["b"]), change(2, ["ab"]), change(3, ["a"])))
        self.assertEqual([entry[1] for entry in cache.since(0)[2]], ["a", "ab", "b"])


class TestConventions(unittest.TestCase):
    def test_letters_are_not_changed_and_lists_may_be(self):
        cache = Cache()
        letter = changes(0, change(1, ["a", "b"]))
        before = copy.deepcopy(letter)
        cache.take(letter).clear()
        self.assertEqual(letter, before)
        cache.entries().clear()
        self.assertEqual(cache.take(changes(1, change(2, ["a"]))), keys("a"))
        self.assertEqual(len(cache.entries()), 2)
        self.assertEqual(cache.since(0), ("changes", 0, letter[2] + (change(2, ["a"]),), 2))


class TestCopies(unittest.TestCase):
    """Caches behind a store, and caches behind caches, whose letters are lost, repeated and reordered."""

    def test_random_runs(self):
        for seed in range(30):
            self.run_caches(random.Random(seed))

    def run_caches(self, chance):
        store = Store()
        images = [store.entries()]
        ring = chance.choice((0, 1, 5, 100))
        caches = [Cache(ring), Cache(chance.choice((0, 3, 1000)))]
        letters = [[], []]
        for _ in range(300):
            chosen = chance.randrange(5)
            if chosen == 0:
                for _ in range(chance.randrange(4)):
                    self.change_store(store, chance)
                    images.append(store.entries())
                if chance.random() < 0.2:
                    store.forget(chance.randrange(store.revision + 1))
            elif chosen == 1:
                letters[0].append(store.since(caches[0].revision, limit=chance.randrange(1, 9)))
            elif chosen == 2 and caches[0].ready:
                letters[1].append(caches[0].since(caches[1].revision))
            else:
                at = chosen % 2
                if letters[at]:
                    self.check_taking(caches[at], chance.choice(letters[at]))
            for cache in caches:
                self.assertEqual(cache.entries(), images[cache.revision] if cache.ready else [])

    def check_taking(self, cache, letter):
        before = dict(cache.view)
        revision = cache.revision
        different = cache.take(letter)
        self.assertGreaterEqual(cache.revision, revision)
        expected = [key for key in sorted(set(before) | set(cache.view)) if before.get(key) != cache.view.get(key)]
        self.assertEqual(different or [], expected)

    def change_store(self, store, chance):
        name = chance.choice("abcdef")
        if store.entry("drain", name) and chance.random() < 0.4:
            store.apply(((), (), (("drain", name),)))
        else:
            store.apply(((), (drain(name),), ()))


if __name__ == "__main__":
    unittest.main()
