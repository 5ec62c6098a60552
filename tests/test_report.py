"""Points 11.10 to 11.12: the report."""

import copy
import random
import unittest

from majordomo.errors import BadReport, DeskError
from majordomo.report import read_report, report_rows, write_report
from majordomo.words import split_words
from tests.views import beat, drain, node, note, rollout, service, task, view_of


class TestRows(unittest.TestCase):
    def rows(self, *objects):
        view = view_of(*objects)
        before = copy.deepcopy(view)
        found = report_rows(view)
        self.assertEqual(view, before)
        self.assertTrue(all(type(row) is tuple for row in found))
        kept = list(found)
        found.clear()
        self.assertEqual(report_rows(view), kept)
        return kept

    def row(self, *objects):
        """The row of the last of some objects."""
        rows = [row for row in self.rows(*objects) if row[:2] == objects[-1][:2]]
        self.assertEqual(len(rows), 1)
        return rows[0]

    def test_none(self):
        self.assertEqual(self.rows(), [])
        self.assertEqual(self.rows(beat(), rollout()), [])

    def test_drains(self):
        self.assertEqual(self.row(("drain", "n1", 1, 2, ("why not",))), ("drain", "n1", "why not"))
        self.assertEqual(self.row(drain()), ("drain", "n1", ""))

    def test_nodes(self):
        self.assertEqual(self.row(node(zone="z")), ("node", "n1", 9, 2, 3, 0, "z", 0))
        self.assertEqual(self.row(drain(), node(lost=1, used=0, life=0)),
                         ("node", "n1", 9, 0, 0, 1, "", 1))
        self.assertEqual(self.row(drain("n2"), node()), ("node", "n1", 9, 2, 3, 0, "", 0))

    def test_notes(self):
        self.assertEqual(self.row(note("a")), ("note", "a", "", "", 1, "text"))
        self.assertEqual(self.row(note("a", born=7)), ("note", "a", "", "", 1, "text"))
        self.assertEqual(self.row(note("a", "service", "web", 5)), ("note", "a", "service", "web", 0, "text"))
        for born, present in ((4, 0), (5, 1), (6, 0)):
            self.assertEqual(self.row(service(), note("a", "service", "web", born)),
                             ("note", "a", "service", "web", present, "text"))
        self.assertEqual(self.row(note("a", "note", "a", 55)), ("note", "a", "note", "a", 1, "text"))

    def test_services(self):
        self.assertEqual(self.row(service()), ("service", "web", 2, 0, 0, ()))
        self.assertEqual(self.row(service(count=0)), ("service", "web", 0, 0, 0, ()))
        self.assertEqual(self.row(*[task(at) for at in range(10)], service(count=9)), ("service", "web", 9, 9, 9, ()))
        # A current task counts in any state, also if it is to stop; an available one also if it is not current.
        tasks = [task(0, "new"), task(1, "bound"), task(2, "running"), task(3, "ended"), task(4, "running", stop=1),
                 task(5, "running", text="old"), task(6, "running", service_born=4)]
        self.assertEqual(self.row(*tasks, service(count=8)), ("service", "web", 8, 2, 5, ()))
        self.assertEqual(self.row(*tasks, service(count=5)), ("service", "web", 5, 1, 5, ()))
        self.assertEqual(self.row(*tasks, service(count=2)), ("service", "web", 2, 0, 2, ()))
        self.assertEqual(self.row(*[task(0, name="we"), task(1, name="web1")], service()), ("service", "web", 2, 0, 0, ()))

    def test_open_numbers(self):
        self.assertEqual(self.row(rollout(), service()), ("service", "web", 2, 0, 0, ()))
        self.assertEqual(self.row(rollout(0, 3), service()), ("service", "web", 2, 0, 0, (0, 3)))
        self.assertEqual(self.row(rollout(0, 3, service_born=4), service()), ("service", "web", 2, 0, 0, ()))
        self.assertEqual(self.row(rollout(*range(10)), service()), ("service", "web", 2, 0, 0, tuple(range(10))))

    def test_tasks(self):
        self.assertEqual(self.row(task(0)), ("task", "web/0", "running", 0, "n1", 0))
        for state in ("new", "bound", "running", "ended"):
            self.assertEqual(self.row(service(), task(1, state)),
                             ("task", "web/1", state, 0, "" if state == "new" else "n1", 1))
        self.assertEqual(self.row(service(), task(1, stop=1)), ("task", "web/1", "running", 1, "n1", 1))
        self.assertEqual(self.row(service(), task(2)), ("task", "web/2", "running", 0, "n1", 0))
        self.assertEqual(self.row(service(), task(1, service_born=4)), ("task", "web/1", "running", 0, "n1", 0))
        self.assertEqual(self.row(service(), task(1, text="old")), ("task", "web/1", "running", 0, "n1", 1))

    def test_the_order(self):
        rows = self.rows(task(1), task(0), service(), service(name="we"), note("b"), note("a"), node("n10"), node("n1"),
                         drain("n2"), beat(), rollout(), task(0, name="a"))
        self.assertEqual([row[:2] for row in rows], [
            ("drain", "n2"), ("node", "n1"), ("node", "n10"), ("note", "a"), ("note", "b"), ("service", "we"),
            ("service", "web"), ("task", "a/0"), ("task", "web/0"), ("task", "web/1")])


# Rows, and the lines that are written for them.
LINES = (
    (("drain", "n1", ""), 'drain n1 ""'),
    (("drain", "n1", "repair"), "drain n1 repair"),
    (("drain", "n1", 'a "b" \\'), 'drain n1 "a \\"b\\" \\\\"'),
    (("node", "n1", 9, 2, 3, 0, "", 0), 'node n1 9 2 3 0 "" 0'),
    (("node", "n1", 10 ** 12, 0, 10 ** 12, 1, "z", 1), "node n1 1000000000000 0 1000000000000 1 z 1"),
    (("note", "a", "", "", 1, "b c"), 'note a "" "" 1 "b c"'),
    (("note", "a", "", "", 0, ""), 'note a "" "" 0 ""'),
    (("note", "a", "task", "web/0", 0, "-"), "note a task web/0 0 -"),
    (("service", "web", 2, 0, 1, ()), "service web 2 0 1 -"),
    (("service", "web", 10 ** 12, 10 ** 12, 10, (4,)), "service web 1000000000000 1000000000000 10 4"),
    (("service", "web", 9, 9, 9, tuple(range(10))), "service web 9 9 9 0,1,2,3,4,5,6,7,8,9"),
    (("task", "web/0", "running", 0, "n1", 1), "task web/0 running 0 n1 1"),
    (("task", "a/9", "new", 1, "", 0), 'task a/9 new 1 "" 0'),
    (("task", "a/9", "bound", 1, "n1", 0), "task a/9 bound 1 n1 0"),
    (("task", "a/9", "ended", 1, "n1", 0), "task a/9 ended 1 n1 0"),
)
GOOD = LINES[0][1]
# Lines that are no lines of rows, by the cause.
BAD_LINES = {
    "no word": ("", " "),
    "no line of words": ("drain  n1 a", " drain n1 a", "drain n1 a ", 'drain n1 "a', "drain n1 a%", "drain n1 a\t",
                         "drain n1 a\r", "drain n1 a\x0b", "drain n1 \u00e4"),
    "no kind": ("beat n1 1 1", "rollout web 1 0", "drains n1 a", "Drain n1 a", '"" n1 a', "n1 a"),
    "too few or too many": ("drain", "drain n1", "drain n1 a b", "node n1 9 2 3 0 z", "node n1 9 2 3 0 z 0 0",
                            "note a service web 1", "note a service web 1 a b", "service web 1 1 1", "service web 1 1 1 0 1",
                            "task web/0 new 0 n1", "task web/0 new 0 n1 1 1", "service web 1 1 1 0 ,1"),
    "names": ("drain N1 a", 'drain "" a', "drain web/0 a", "drain abcdefghijklm a", "node a-b 9 2 3 0 z 0",
              "note A service web 1 a", "service web/0 1 1 1 -", "task web new 0 n1 1", "task web/10 new 0 n1 1",
              'task "" new 0 n1 1', "task /1 new 0 n1 1"),
    "numbers": ("node n1 01 2 3 0 z 0", "node n1 -1 2 3 0 z 0", "node n1 9 +2 3 0 z 0", "node n1 9 2 1000000000001 0 z 0",
                "node n1 9 2 a 0 z 0", 'node n1 "" 2 3 0 z 0', "node n1 9 2 3 2 z 0", "node n1 9 2 3 0 z 2",
                "node n1 9 2 3 00 z 0", "note a service web 2 a", "note a service web -1 a", "service web 1000000000001 1 1 -",
                "service web 1 01 1 -", "service web 1 1 a -", "task web/0 new 2 n1 1", "task web/0 new 0 n1 2",
                "task web/0 new 0 n1 True", "node n1 9 2 " + "1" * 5000 + " 0 z 0", "node n1 1.0 2 3 0 z 0",
                "node n1 1_0 2 3 0 z 0"),
    "zones and nodes": ("node n1 9 2 3 0 Z 0", "node n1 9 2 3 0 a/0 0", "task web/0 new 0 N1 1",
                        "task web/0 new 0 abcdefghijklm 1"),
    "texts": ("drain n1 " + "x" * 41, 'drain n1 "' + " " * 41 + '"', "note a service web 1 " + "x" * 41),
    "owners": ('note a service "" 1 a', 'note a "" web 1 a', "note a services web 1 a", "note a task web 1 a",
               "note a service web/0 1 a", "note a service WEB 1 a", 'note a "" "" 2 a'),
    "states": ("task web/0 News 0 n1 1", 'task web/0 "" 0 n1 1', "task web/0 done 0 n1 1", "task web/0 Running 0 n1 1"),
    "open numbers": ('service web 1 1 1 ""', "service web 1 1 1 10", "service web 1 1 1 1,0", "service web 1 1 1 0,0",
                     "service web 1 1 1 0,1,", "service web 1 1 1 ,1", "service web 1 1 1 0,,1", "service web 1 1 1 --",
                     "service web 1 1 1 a", "service web 1 1 1 -1", "service web 1 1 1 01", "service web 1 1 1 0,-",
                     'service web 1 1 1 "0, 1"', "service web 1 1 1 0,1,2,3,4,5,6,7,8,9,9", "service web 1 1 1 0;1"),
    "words of nothing": ("drain None a", "node n1 None 2 3 0 z 0", "service web 1 1 1 None", "task web/0 None 0 n1 1",
                         "task None new 0 n1 1", "node n1 9 2 3 0 None 0"),
    "another writing": ('"drain" n1 a', 'drain "n1" a', 'drain n1 "a"', 'note a "service" web 1 a', 'node n1 "9" 2 3 0 z 0',
                        'service web 1 1 1 "-"', 'service web 1 1 1 "0"', 'task web/0 "new" 0 n1 1', 'task "web/0" new 0 n1 1',
                        'task web/0 new 0 "n1" 1'),
}


class TestWrite(unittest.TestCase):
    def test_each_line(self):
        for row, line in LINES:
            self.assertEqual(write_report([row]), line + "\n")

    def test_several(self):
        rows = [row for row, _ in LINES]
        before = list(rows)
        self.assertEqual(write_report(rows), "".join(line + "\n" for _, line in LINES))
        self.assertEqual(rows, before)
        self.assertEqual(write_report([]), "")


class TestRead(unittest.TestCase):
    def line_of_error(self, text):
        with self.assertRaises(BadReport) as caught:
            read_report(text)
        self.assertIsInstance(caught.exception, DeskError)
        return caught.exception.line

    def test_each_line(self):
        for row, line in LINES:
            found = read_report(line + "\n")
            self.assertEqual(found, [row])
            self.assertEqual([type(member) for member in found[0]], [type(member) for member in row])

    def test_rows_in_any_order(self):
        chance = random.Random(1)
        for _ in range(30):
            rows = [chance.choice(LINES)[0] for _ in range(chance.randrange(20))]
            self.assertEqual(read_report(write_report(rows)), rows)

    def test_the_empty_report(self):
        self.assertEqual(read_report(""), [])

    def test_each_cause_in_the_first_a_middle_and_the_last_line(self):
        for cause, lines in BAD_LINES.items():
            for line in lines:
                with self.subTest((cause, line)):
                    self.assertEqual(self.line_of_error(line + "\n"), 1)
                    self.assertEqual(self.line_of_error(line + "\n" + GOOD + "\n"), 1)
                    self.assertEqual(self.line_of_error(GOOD + "\n" + line + "\n" + GOOD + "\n"), 2)
                    self.assertEqual(self.line_of_error((GOOD + "\n") * 4 + line + "\n"), 5)

    def test_the_first_of_several_errors(self):
        self.assertEqual(self.line_of_error(GOOD + "\nx\n" + GOOD + "\ny\n"), 2)
        self.assertEqual(self.line_of_error("x\ny"), 1)

    def test_what_follows_the_last_newline_character(self):
        self.assertEqual(self.line_of_error(GOOD), 1)
        self.assertEqual(self.line_of_error("x"), 1)
        self.assertEqual(self.line_of_error(" "), 1)
        self.assertEqual(self.line_of_error(GOOD + "\n" + GOOD), 2)
        self.assertEqual(self.line_of_error((GOOD + "\n") * 7 + "x"), 8)

    def test_empty_lines(self):
        self.assertEqual(self.line_of_error("\n"), 1)
        self.assertEqual(self.line_of_error(GOOD + "\n\n"), 2)
        self.assertEqual(self.line_of_error("\n" + GOOD + "\n"), 1)

    def test_rows_need_not_agree(self):
        rows = [("service", "web", 2, 9, 0, (7,)), ("service", "web", 0, 0, 0, ()), ("note", "a", "", "", 0, ""),
                ("node", "n1", 0, 5, 0, 0, "", 1), ("node", "n1", 0, 5, 0, 0, "", 0)]
        self.assertEqual(read_report(write_report(rows)), rows)

    def test_changed_lines_are_written_in_no_other_way(self):
        """Whatever is read is written as it stood there."""
        chance = random.Random(2)
        good = 0
        for _ in range(4000):
            line = list(chance.choice(LINES)[1])
            for _ in range(chance.randrange(1, 3)):
                at = chance.randrange(len(line))
                line[at:at + chance.randrange(2)] = chance.choice(["", *'a1 "\\,-/0z'])
            text = "".join(line) + "\n"
            try:
                rows = read_report(text)
            except BadReport:
                continue
            good += 1
            self.assertEqual(write_report(rows), text)
            self.assertEqual(len(rows[0]), len(split_words(text[:-1])))
        self.assertGreater(good, 200)


class TestReportOfAView(unittest.TestCase):
    def test_rows_are_read_as_they_were_written(self):
        view = view_of(service(), rollout(1), task(0), task(1, "new"), node(), drain(), beat(), note("a", "service", "web", 5),
                       note("b", "task", "web/7", 1))
        rows = report_rows(view)
        self.assertEqual(read_report(write_report(rows)), rows)
        self.assertEqual(write_report(rows), (
            'drain n1 ""\n'
            'node n1 9 2 3 0 "" 1\n'
            "note a service web 1 text\n"
            "note b task web/7 0 text\n"
            "service web 2 1 2 1\n"
            "task web/0 running 0 n1 1\n"
            'task web/1 new 0 "" 1\n'))


if __name__ == "__main__":
    unittest.main()
