"""Point 11.9: the transactions of commands."""

import copy
import random
import unittest

from majordomo.commands import parse_command
from majordomo.desk import command_transaction
from majordomo.errors import DeskError, NotThere
from majordomo.objects import check_transaction
from majordomo.store import Store
from tests.clients import put
from tests.test_commands import random_command
from tests.views import beat, drain, node, note, rollout, service, store_view, task, view_of


class TestDesk(unittest.TestCase):
    def check(self, line, conditions, puts, deletes, *objects):
        command = parse_command(line)
        view = view_of(*objects)
        before = copy.deepcopy(view)
        found = command_transaction(view, command)
        self.assertEqual(found, (conditions, puts, deletes))
        self.assertEqual(view, before)
        check_transaction(found)

    def check_missing(self, line, kind, name, *objects):
        with self.assertRaises(NotThere) as caught:
            command_transaction(view_of(*objects), parse_command(line))
        self.assertEqual((caught.exception.kind, caught.exception.name), (kind, name))
        self.assertIsInstance(caught.exception, DeskError)


class TestServices(TestDesk):
    def check_declared(self, line, value, *objects):
        revision = objects[0][3] if objects else 0
        self.check(line, (("service", "web", revision),), (("service", "web", value),), (), *objects)

    def test_a_new_service(self):
        self.check_declared("declare web", (1, "", 1, 1, ""))
        self.check_declared("declare web count 3", (3, "", 1, 1, ""))
        self.check_declared("declare web text run", (1, "run", 1, 1, ""))
        self.check_declared("declare web size 0", (1, "", 0, 1, ""))
        self.check_declared("declare web gone 4", (1, "", 1, 4, ""))
        self.check_declared("declare web zone z", (1, "", 1, 1, "z"))
        self.check_declared("declare web zone z gone 4 size 7 text a count 0", (0, "a", 7, 4, "z"))

    def test_one_that_is_there(self):
        there = service(5, "run", 7, 2, "y")
        self.check_declared("declare web", (5, "run", 7, 2, "y"), there)
        self.check_declared("declare web count 0", (0, "run", 7, 2, "y"), there)
        self.check_declared('declare web text ""', (5, "", 7, 2, "y"), there)
        self.check_declared("declare web size 1", (5, "run", 1, 2, "y"), there)
        self.check_declared("declare web gone 1", (5, "run", 7, 1, "y"), there)
        self.check_declared('declare web zone ""', (5, "run", 7, 2, ""), there)
        self.check_declared("declare web zone z gone 4 size 8 text a count 1", (1, "a", 8, 4, "z"), there, service(name="db"))

    def test_others_do_not_count(self):
        objects = (service(name="we"), service(name="web1"), note("web"), rollout(1), task(0), node("web"))
        self.check("declare web", (("service", "web", 0),), (("service", "web", (1, "", 1, 1, "")),), (), *objects)

    def test_scale(self):
        for count in (0, 5, 9):
            self.check_declared("scale web " + str(count), (count, "run", 7, 2, "y"), service(5, "run", 7, 2, "y"))
        self.check_missing("scale web 3", "service", "web")
        self.check_missing("scale web 3", "service", "web", service(name="db"), rollout(), task(0))

    def test_remove(self):
        self.check("remove web", (("service", "web", 6),), (), (("service", "web"),), service(), task(0), rollout())
        self.check_missing("remove web", "service", "web")
        self.check_missing("remove web", "service", "web", service(name="we"), drain("web"), note("web"))


class TestDrains(TestDesk):
    def test_drain(self):
        self.check("drain n1", (("drain", "n1", 0),), (("drain", "n1", ("",)),), (), node())
        self.check("drain n1 because repair", (("drain", "n1", 0),), (("drain", "n1", ("repair",)),), ())
        self.check("drain n1 because repair", (("drain", "n1", 50),), (("drain", "n1", ("repair",)),), (), drain())
        self.check("drain n1", (("drain", "n1", 50),), (("drain", "n1", ("",)),), (), drain(), beat())

    def test_undrain(self):
        self.check("undrain n1", (("drain", "n1", 50),), (), (("drain", "n1"),), drain())
        self.check_missing("undrain n1", "drain", "n1")
        self.check_missing("undrain n1", "drain", "n1", drain("n2"), node(), beat())


class TestNotes(TestDesk):
    def check_note(self, line, conditions, value, *objects):
        self.check(line, conditions, (("note", "a", value),), (), *objects)

    def test_a_new_note(self):
        self.check_note("note a", (("note", "a", 0),), ("", "", "", 0))
        self.check_note("note a text b", (("note", "a", 0),), ("b", "", "", 0), note("b"))

    def test_a_new_note_with_an_owner(self):
        self.check_note("note a owner service web", (("note", "a", 0), ("service", "web", 6)), ("", "service", "web", 5),
                        service())
        self.check_note("note a text b owner beat n1", (("beat", "n1", 80), ("note", "a", 0)), ("b", "beat", "n1", 65), beat())
        self.check_note("note a owner task web/3", (("note", "a", 0), ("task", "web/3", 33)), ("", "task", "web/3", 23), task(3))

    def test_one_that_is_there(self):
        there = note("a", "service", "web", 4)
        self.check_note("note a", (("note", "a", 60),), ("text", "service", "web", 4), there)
        self.check_note("note a text b", (("note", "a", 60),), ("b", "service", "web", 4), there, service())
        self.check_note('note a text ""', (("note", "a", 60),), ("", "", "", 9), note("a", born=9))

    def test_an_owner_in_place_of_another_one(self):
        there = note("a", "service", "web", 4)
        self.check_note("note a owner node n1", (("node", "n1", 70), ("note", "a", 60)), ("text", "node", "n1", 65), there, node())
        self.check_note("note a owner service web text b", (("note", "a", 60), ("service", "web", 6)),
                        ("b", "service", "web", 5), there, service())
        self.check_note("note a owner service web", (("note", "a", 60), ("service", "web", 6)), ("text", "service", "web", 5),
                        note("a"), service())

    def test_a_note_as_its_own_owner(self):
        self.check_note("note a owner note a", (("note", "a", 60),), ("text", "note", "a", 55), note("a"))
        self.check_note("note a owner note b", (("note", "a", 0), ("note", "b", 60)), ("", "note", "b", 55), note("b"))
        self.check_missing("note a owner note a", "note", "a")

    def test_an_owner_that_is_not_there(self):
        self.check_missing("note a owner service web", "service", "web")
        self.check_missing("note a text b owner task web/1", "task", "web/1", task(0), service(), note("a"))
        # The owner in the view need not be there.
        self.check_missing("note a owner node n1", "node", "n1", note("a", "service", "web", 5), service(), beat())

    def test_forget(self):
        self.check("forget a", (("note", "a", 60),), (), (("note", "a"),), note("a", "service", "web", 5))
        self.check_missing("forget a", "note", "a")
        self.check_missing("forget a", "note", "a", note("b"), service(name="a"))


class TestCommandsAndAStore(unittest.TestCase):
    def test_a_command_is_refused_if_what_it_relies_on_has_changed(self):
        cases = (
            ("declare web count 2", service(count=3), ("no", 0)),
            ("scale web 2", service(count=3), ("no", 0)),
            ("remove web", service(count=3), ("no", 0)),
            ("drain n1", drain(), ("no", 0)),
            ("undrain n1", drain(), ("no", 0)),
            ("note a owner service web", service(count=3), ("no", 1)),
            ("note a owner service web", note("a"), ("no", 0)),
            ("forget a", note("a"), ("no", 0)),
            ("declare web", note("a"), ("done", 3)),
            ("note a text b", service(count=3), ("done", 3)),
        )
        for line, changed, answer in cases:
            store = Store()
            store.apply(((), (put(service()), put(drain()), put(note("a"))), ()))
            transaction = command_transaction(store_view(store), parse_command(line))
            store.apply(((), (put(changed),), ()))
            self.assertEqual(store.apply(transaction), answer, line)

    def test_random_commands(self):
        chance = random.Random(1)
        store = Store()
        done = 0
        for _ in range(600):
            command = random_command(chance)
            if chance.random() < 0.9:
                command = (command[0], chance.choice(("a", "b"))) + command[2:]
            try:
                transaction = command_transaction(store_view(store), command)
            except NotThere as error:
                self.assertIsNone(store.entry(error.kind, error.name))
                self.assertIn(command[0], ("scale", "remove", "undrain", "forget", "note"))
                continue
            self.assertEqual(store.apply(transaction), ("done", store.revision))
            done += 1
            kind = {"declare": "service", "scale": "service", "drain": "drain", "note": "note"}.get(command[0])
            if kind is None:
                self.assertEqual(len(transaction[2]), 1)
            else:
                self.assertEqual(store.entry(kind, command[1])[1], store.revision)
        self.assertGreater(done, 300)


if __name__ == "__main__":
    unittest.main()
