"""Points 8.10 and 8.11: notes and their owners."""

import copy
import unittest

from majordomo.collector import lost_notes, note_need, owner_present
from tests.views import drain, note, service, task, view_of


class TestOwners(unittest.TestCase):
    def test_notes_without_an_owner(self):
        for born in (0, 5, 10 ** 12):
            self.assertIs(owner_present({}, ("text", "", "", born)), True)
            self.assertIs(owner_present(view_of(service()), ("text", "", "", born)), True)

    def test_an_owner_that_is_there(self):
        view = view_of(service(), task(1), drain())
        for kind, name, born in (("service", "web", 5), ("task", "web/1", 21), ("drain", "n1", 40)):
            self.assertIs(owner_present(view, ("", kind, name, born)), True)

    def test_an_owner_that_is_gone_or_was_made_again(self):
        view = view_of(service(), task(1), drain())
        for kind, name, born in (("service", "web", 4), ("service", "web", 6), ("service", "web", 0),
                                 ("service", "we", 5), ("drain", "web", 5), ("task", "web/0", 21), ("note", "a", 55)):
            self.assertIs(owner_present(view, ("", kind, name, born)), False)
        self.assertIs(owner_present({}, ("", "service", "web", 0)), False)


class TestNeed(unittest.TestCase):
    def need(self, name, *objects):
        view = view_of(*objects)
        before = copy.deepcopy(view)
        found = note_need(view, name)
        self.assertEqual(view, before)
        return found

    def test_names_that_are_no_notes(self):
        self.assertIsNone(self.need("a"))
        self.assertIsNone(self.need("web", service()))
        self.assertIsNone(self.need("a", note("aa", "service", "web", 5), note("b", "service", "web", 5)))

    def test_notes_that_stay(self):
        self.assertIsNone(self.need("a", note("a")))
        self.assertIsNone(self.need("a", note("a", born=9)))
        self.assertIsNone(self.need("a", note("a", "service", "web", 5), service()))

    def test_an_owner_that_is_gone(self):
        self.assertEqual(self.need("a", note("a", "service", "web", 5)),
                         ((("note", "a", 60), ("service", "web", 0)), (), (("note", "a"),)))
        self.assertEqual(self.need("a", note("a", "beat", "n1", 5)),
                         ((("beat", "n1", 0), ("note", "a", 60)), (), (("note", "a"),)))

    def test_an_owner_that_was_made_again(self):
        for born in (4, 6):
            self.assertEqual(self.need("a", note("a", "service", "web", born), service()),
                             ((("note", "a", 60), ("service", "web", 6)), (), (("note", "a"),)))

    def test_a_note_that_owns_itself(self):
        self.assertIsNone(self.need("a", note("a", "note", "a", 55)))
        self.assertEqual(self.need("a", note("a", "note", "a", 54)), ((("note", "a", 60),), (), (("note", "a"),)))

    def test_a_note_that_owns_another_one(self):
        self.assertIsNone(self.need("a", note("a", "note", "b", 55), note("b", "note", "a", 55)))
        self.assertEqual(self.need("a", note("a", "note", "b", 56), note("b", revision=61)),
                         ((("note", "a", 60), ("note", "b", 61)), (), (("note", "a"),)))
        # The owner is there, although it is lost itself.
        self.assertIsNone(self.need("a", note("a", "note", "b", 55), note("b", "service", "web", 5)))


class TestLostNotes(unittest.TestCase):
    def test_the_names_in_ascending_order(self):
        view = view_of(note("d", "service", "web", 5), note("b", "service", "web", 6), note("c"),
                       note("ab", "service", "x", 5), note("a", "note", "c", 1), note("e", "note", "b", 55), service(),
                       drain("b"))
        before = copy.deepcopy(view)
        self.assertEqual(lost_notes(view), ["a", "ab", "b"])
        lost_notes(view).clear()
        self.assertEqual(view, before)

    def test_none(self):
        self.assertEqual(lost_notes({}), [])
        self.assertEqual(lost_notes(view_of(service(), note("a"), drain())), [])

    def test_each_of_them_needs_to_be_deleted(self):
        view = view_of(note("d", "service", "web", 5), note("b", "service", "web", 6), note("c"), service())
        self.assertEqual([name for name in "abcd" if note_need(view, name)], lost_notes(view))


if __name__ == "__main__":
    unittest.main()
