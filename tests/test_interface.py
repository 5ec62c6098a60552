"""The interface of the document: names, arguments, where each one is defined, and the examples."""

import importlib
import inspect
import unittest

# For each module: its functions with their parameters, its classes with those of their methods, and its constants.
FUNCTIONS = {
    "varint": {"put_number": "(number)", "take_number": "(row, index)"},
    "checksum": {"checksum": "(row, start=(1, 1))", "check_bytes": "(pair)"},
    "packing": {"is_value": "(value)", "pack": "(value)", "unpack": "(row)"},
    "sectors": {"make_sector": "(kind, payload)", "read_sector": "(sector)"},
    "journal": {"parts_needed": "(record)"},
    "ballots": {"majority": "(count)", "next_ballot": "(above, index, count)", "owner": "(ballot, count)"},
    "quorum": {"value_to_propose": "(pairs)"},
    "objects": {
        "is_plain_name": "(name)", "is_slot_name": "(name)", "is_text": "(text)", "is_count": "(number)",
        "is_zone": "(zone)", "slot_name": "(name, number)", "split_slot": "(slot)", "is_key": "(kind, name)",
        "is_object": "(kind, name, value)", "check_transaction": "(transaction)",
    },
    "replica": {"is_command": "(command)"},
    "durable": {"compacted": "(records)"},
    "conditions": {"conditions": "(view, keys)"},
    "services": {"service_need": "(view, name)"},
    "wanted": {
        "is_wanted": "(view, slot)", "is_current": "(view, slot)", "is_available": "(view, slot)",
        "is_drained": "(view, slot)",
    },
    "rollout": {"open_numbers": "(view, name)", "next_open": "(view, name)", "rollout_need": "(view, name)"},
    "collector": {"owner_present": "(view, value)", "note_need": "(view, name)", "lost_notes": "(view)"},
    "manager": {"work_keys": "(view, kind, name)"},
    "nodes": {"stranded": "(view, name)"},
    "fit": {
        "free_size": "(node_value, assumed)", "is_open": "(node_value)",
        "fits": "(task_value, node_value, drained, assumed)", "pending_tasks": "(entries)",
    },
    "ranking": {"same_service": "(entries, node, service_born)", "choose_node": "(task_value, nodes)"},
    "scheduler": {"bind_transaction": "(task, task_entry, node, node_entry)"},
    "lease": {"feed_left": "(feed, asked, now)", "beat_due": "(feed, asked, now)", "safe_wait": "(feed)"},
    "runs": {
        "tasks_of": "(entries, node, life)", "to_run": "(tasks, runs, confirmed)", "next_start": "(tasks, held)",
        "next_end": "(tasks, held)",
    },
    "worker": {
        "enroll_transaction": "(name, size, zone, node_entry, beat_entry)",
        "beat_transaction": "(name, beat_rev, life, count)", "start_transaction": "(slot, task_entry)",
        "end_transaction": "(slot, task_entry, node, node_entry)",
    },
    "words": {"split_words": "(line)", "write_word": "(word)"},
    "commands": {"parse_command": "(line)", "format_command": "(command)"},
    "desk": {"command_transaction": "(view, command)"},
    "report": {"report_rows": "(view)", "write_report": "(rows)", "read_report": "(text)"},
}
CLASSES = {
    "journal": {"Journal": {
        "__init__": "(self, sectors, boot)", "records": "(self)", "append": "(self, records)",
        "rewrite": "(self, records)", "sectors_used": "(self)",
    }},
    "acceptor": {"Acceptor": {
        "__init__": "(self)", "prepare": "(self, ballot, first)", "accept": "(self, ballot, slot, value)",
        "cut": "(self, base)", "replay": "(self, record)",
    }},
    "slots": {"Slots": {
        "__init__": "(self)", "learn": "(self, slot, value)", "take": "(self)", "is_behind": "(self)",
        "value_at": "(self, slot)", "cut": "(self, base)", "jump": "(self, base)",
    }},
    "proposer": {"Proposer": {
        "__init__": "(self, index, count)", "saw": "(self, ballot)", "begin": "(self, first)",
        "hear_promise": "(self, index, ballot, base, rows)", "propose": "(self, value)",
        "hear_accepted": "(self, index, ballot, slot)", "open_proposals": "(self)", "stop": "(self)",
    }},
    "store": {"Store": {
        "__init__": "(self)", "entry": "(self, kind, name)", "entries": "(self)", "apply": "(self, transaction)",
        "since": "(self, revision, *, limit=100)", "forget": "(self, revision)", "image": "(self)",
    }},
    "sessions": {"Sessions": {
        "__init__": "(self)", "run": "(self, store, command)", "answer": "(self, origin, number)",
        "last": "(self, origin)", "image": "(self)",
    }},
    "replica": {"Replica": {
        "__init__": "(self, name, replicas, records, boot)", "handle": "(self, event)", "look": "(self)",
        "dump": "(self)", "value_at": "(self, slot)",
    }},
    "durable": {"DurableReplica": {
        "__init__": "(self, name, replicas, sectors, boot)", "handle": "(self, event)", "look": "(self)",
        "dump": "(self)",
    }},
    "cache": {"Cache": {
        "__init__": "(self, ring=100)", "take": "(self, letter)", "entries": "(self)", "since": "(self, revision)",
    }},
    "front": {"Front": {
        "__init__": "(self, name, replicas, ring, boot)", "handle": "(self, event)", "asking": "(self)",
    }},
    "caller": {"Caller": {
        "__init__": "(self, origin, fronts, *, patience=4)", "ask": "(self, transaction)", "tick": "(self)",
        "hear": "(self, letter)",
    }},
    "follower": {"Follower": {
        "__init__": "(self, fronts, *, patience=4)", "tick": "(self)", "hear": "(self, sender, letter)",
    }},
    "workqueue": {"WorkQueue": {
        "__init__": "(self, *, most=8)", "add": "(self, key)", "add_later": "(self, key, ticks)", "tick": "(self)",
        "take": "(self)", "finish": "(self, key)", "fail": "(self, key)", "waiting": "(self)", "in_work": "(self)",
        "delayed": "(self)", "failures": "(self, key)",
    }},
    "manager": {"Manager": {
        "__init__": "(self, name, fronts, wait, boot)", "handle": "(self, event)", "look": "(self)",
    }},
    "nodes": {"NodeWatch": {
        "__init__": "(self, wait)", "tick": "(self, view)", "silent": "(self, view, name)", "need": "(self, view, name)",
    }},
    "assumed": {"Assumed": {
        "__init__": "(self)", "add": "(self, task, node, size, service_born)", "done": "(self, task, revision)",
        "drop": "(self, task)", "settle": "(self, revision)", "has": "(self, task)", "size_on": "(self, node)",
        "count_on": "(self, node, service_born)", "names": "(self)",
    }},
    "scheduler": {"Scheduler": {"__init__": "(self, name, fronts, boot)", "handle": "(self, event)"}},
    "runs": {"Runs": {
        "__init__": "(self)", "begin": "(self, slot, born)", "end": "(self, slot)", "end_all": "(self)",
        "born_of": "(self, slot)", "slots": "(self)",
    }},
    "restarts": {"Restarts": {
        "__init__": "(self)", "begun": "(self, slot, now)", "failed": "(self, slot, now)",
        "is_due": "(self, slot, now)", "forget": "(self, slot)",
    }},
    "worker": {"Worker": {
        "__init__": "(self, name, fronts, size, zone, feed, boot, running)", "begin": "(self)",
        "handle": "(self, event)",
    }},
}
CONSTANTS = {
    "sectors": {"SECTOR": 64, "PAYLOAD": 58, "BLANK": (0,) * 64},
    "quorum": {"NOTHING": ("nothing",)},
    "objects": {"KINDS": ("beat", "drain", "node", "note", "rollout", "service", "task")},
    "replica": {"IMAGE_EVERY": 8, "SENT_AT_ONCE": 8},
}
FIELDS = {
    "acceptor": {"Acceptor": ((), {"promised": 0, "base": 0})},
    "slots": {"Slots": ((), {"base": 0, "applied": 0})},
    "proposer": {"Proposer": ((1, 3), {"ballot": 0, "state": "idle"})},
    "store": {"Store": ((), {"revision": 0, "oldest": 0})},
    "replica": {"Replica": (("r1", ("r1",), [], 1), {"name": "r1"})},
    "durable": {"DurableReplica": (("r1", ("r1",), [], 1), {"name": "r1"})},
    "cache": {"Cache": ((), {"revision": 0, "oldest": 0, "ready": False, "view": {}})},
    "caller": {"Caller": (("m1", ("f1",)), {"origin": "m1", "number": 0, "front": "f1", "age": 0})},
    "follower": {"Follower": ((("f1",),), {"front": "f1"})},
    "nodes": {"NodeWatch": ((7,), {"wait": 7, "clock": 0})},
    "worker": {"Worker": (("w1", ("f1",), 9, "", 12, 1, ()), {"life": 0, "clock": 0, "fed_until": 0})},
}
# The fields that hold objects of other classes.
PARTS = {
    "durable": {"DurableReplica": (("r1", ("r1",), [], 1), {"journal": ("journal", "Journal"),
                                                            "replica": ("replica", "Replica")})},
    "front": {"Front": (("f1", ["r1"], 9, 1), {"cache": ("cache", "Cache")})},
    "follower": {"Follower": ((("f1",),), {"cache": ("cache", "Cache")})},
    "scheduler": {"Scheduler": (("s1", ("f1",), 1), {
        "follower": ("follower", "Follower"), "caller": ("caller", "Caller"), "assumed": ("assumed", "Assumed"),
    })},
    "worker": {"Worker": (("w1", ("f1",), 9, "", 12, 1, ()), {
        "runs": ("runs", "Runs"), "follower": ("follower", "Follower"), "caller": ("caller", "Caller"),
    })},
}


def module(name):
    return importlib.import_module("majordomo." + name)


class TestNames(unittest.TestCase):
    def check_defined(self, found, name, signature):
        self.assertTrue(inspect.isfunction(found))
        self.assertEqual(found.__module__, "majordomo." + name)
        self.assertEqual(str(inspect.signature(found)), signature)

    def test_functions(self):
        for name, functions in FUNCTIONS.items():
            for function, signature in functions.items():
                with self.subTest((name, function)):
                    self.check_defined(vars(module(name))[function], name, signature)

    def test_methods_stand_in_their_classes(self):
        for name, classes in CLASSES.items():
            for word, methods in classes.items():
                found = vars(module(name))[word]
                self.assertEqual(found.__module__, "majordomo." + name)
                for method, signature in methods.items():
                    with self.subTest((word, method)):
                        self.check_defined(vars(found)[method], name, signature)

    def test_static_methods_and_properties(self):
        for found in (vars(module("store").Store)["from_image"], vars(module("sessions").Sessions)["from_image"]):
            self.assertIsInstance(found, staticmethod)
            self.assertEqual(str(inspect.signature(found.__func__)), "(image)")
        self.assertIsInstance(vars(module("caller").Caller)["busy"], property)

    def test_constants(self):
        for name, constants in CONSTANTS.items():
            for constant, value in constants.items():
                self.assertEqual(vars(module(name))[constant], value)
                self.assertIs(type(vars(module(name))[constant]), type(value))

    def test_fields_are_set_when_an_object_is_created(self):
        for name, classes in FIELDS.items():
            for word, (arguments, fields) in classes.items():
                made = vars(module(name))[word](*arguments)
                for field, value in fields.items():
                    self.assertEqual(vars(made)[field], value)

    def test_fields_that_hold_objects(self):
        for name, classes in PARTS.items():
            for word, (arguments, fields) in classes.items():
                made = vars(module(name))[word](*arguments)
                for field, (source, kind) in fields.items():
                    self.assertIs(type(vars(made)[field]), vars(module(source))[kind])


class TestExamples(unittest.TestCase):
    def test_ballots_and_quorum(self):
        self.assertEqual(module("ballots").next_ballot(4, 1, 3), 7)
        self.assertEqual(module("quorum").value_to_propose([(4, ("a",)), (7, ("b",)), (0, ("c",))]), ("b",))

    def test_acceptor(self):
        acceptor = module("acceptor").Acceptor()
        self.assertEqual(acceptor.accept(4, 0, ("x",)), ("accepted", 4, 0))
        self.assertEqual(acceptor.prepare(7, 0), ("promise", 7, 0, ((0, 4, ("x",)),)))
        self.assertEqual(acceptor.accept(4, 1, ("y",)), ("refuse", 7))

    def test_slots(self):
        slots = module("slots").Slots()
        self.assertEqual((slots.learn(1, ("b",)), slots.take(), slots.is_behind()), (True, [], True))
        self.assertEqual((slots.learn(0, ("a",)), slots.take()), (True, [(0, ("a",)), (1, ("b",))]))

    def test_proposer(self):
        proposer = module("proposer").Proposer(1, 3)
        self.assertEqual(proposer.begin(0), 1)
        self.assertEqual(proposer.hear_promise(1, 1, 0, ()), [])
        self.assertEqual(proposer.hear_promise(2, 1, 0, ((1, 0, ("x",)),)), [(0, ("nothing",)), (1, ("x",))])
        self.assertEqual(proposer.propose(("y",)), 2)


class TestConventions(unittest.TestCase):
    """Point 0.7: tuples and strings are compared member by member, and keywords are written with their names."""

    def test_keywords(self):
        self.assertEqual(module("checksum").checksum([], start=(4, 5)), (4, 5))
        self.assertEqual(module("store").Store().since(0, limit=1), ("changes", 0, (), 0))
        with self.assertRaises(TypeError):
            module("store").Store().since(0, 1)

    def test_a_prefix_is_less_than_a_longer_string(self):
        store = module("store").Store()
        names = ["b", "ab", "a", "abc", "0", "aa"]
        store.apply(((), tuple(("drain", name, ("",)) for name in names), ()))
        self.assertEqual([entry[1] for entry in store.entries()], ["0", "a", "aa", "ab", "abc", "b"])

    def test_an_integer_is_never_a_boolean(self):
        objects = module("objects")
        self.assertIs(objects.is_count(True), False)
        self.assertIs(objects.is_object("beat", "a", (False, 0)), False)
        self.assertEqual(module("packing").pack(True), [2])
        self.assertIs(module("packing").unpack([2]), True)
        self.assertIs(type(module("packing").unpack([3, 1])), int)


if __name__ == "__main__":
    unittest.main()
