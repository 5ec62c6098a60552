"""The classes of errors: their bases and their fields."""

import unittest

from majordomo import errors

BASES = {
    "MajordomoError": ValueError,
    "CodecError": errors.MajordomoError,
    "Truncated": errors.CodecError,
    "Malformed": errors.CodecError,
    "Damaged": errors.CodecError,
    "NotAValue": errors.CodecError,
    "StoreError": errors.MajordomoError,
    "BadTransaction": errors.StoreError,
    "TooNew": errors.StoreError,
    "CallerError": errors.MajordomoError,
    "Busy": errors.CallerError,
    "NotTaken": errors.CallerError,
    "DeskError": errors.MajordomoError,
    "CommandError": errors.DeskError,
    "BadWord": errors.CommandError,
    "UnknownCommand": errors.CommandError,
    "BadArgument": errors.CommandError,
    "MissingArgument": errors.CommandError,
    "ExtraArgument": errors.CommandError,
    "NotThere": errors.DeskError,
    "BadReport": errors.DeskError,
}


class TestErrors(unittest.TestCase):
    def test_each_class_stands_in_errors_with_its_base(self):
        for name, base in BASES.items():
            with self.subTest(name):
                found = vars(errors)[name]
                self.assertEqual(found.__bases__, (base,))
                self.assertEqual(found.__module__, "majordomo.errors")

    def test_there_are_no_others(self):
        classes = [name for name, found in vars(errors).items() if isinstance(found, type)]
        self.assertEqual(sorted(classes), sorted(BASES))

    def test_fields_of_command_errors(self):
        for name in ("CommandError", "BadWord", "UnknownCommand", "BadArgument", "MissingArgument", "ExtraArgument"):
            with self.subTest(name):
                self.assertEqual(vars(errors)[name](17).column, 17)
                self.assertEqual(vars(errors)[name](column=1).column, 1)

    def test_fields_of_the_others(self):
        self.assertEqual(errors.NotTaken("web").key, "web")
        error = errors.NotThere("service", "web")
        self.assertEqual((error.kind, error.name), ("service", "web"))
        self.assertEqual(errors.BadReport(3).line, 3)

    def test_they_are_caught_by_their_bases(self):
        for name, arguments in (("NotTaken", ("a",)), ("BadWord", (1,)), ("NotThere", ("a", "b")), ("BadReport", (2,))):
            with self.subTest(name), self.assertRaises(errors.MajordomoError):
                raise vars(errors)[name](*arguments)


if __name__ == "__main__":
    unittest.main()
