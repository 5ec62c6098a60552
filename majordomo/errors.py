"""The errors of the program."""


class MajordomoError(ValueError):
    """The base class of all errors of the program."""


class CodecError(MajordomoError):
    """Bytes or values that do not have the form that they must have."""


class Truncated(CodecError):
    """A byte row ends where another byte is needed."""


class Malformed(CodecError):
    """A byte row is not the packed form of a value."""


class Damaged(CodecError):
    """A sector was not left as it was written."""


class NotAValue(CodecError):
    """The argument is not a value."""


class StoreError(MajordomoError):
    """The store cannot do what it was asked."""


class BadTransaction(StoreError):
    """The argument is not a transaction."""


class TooNew(StoreError):
    """A revision is greater than that of the store."""


class CallerError(MajordomoError):
    """A part of a controller was used in the wrong order."""


class Busy(CallerError):
    """Another transaction is under way."""


class NotTaken(CallerError):
    """A key that is reported is not in work."""

    def __init__(self, key):
        self.key = key


class DeskError(MajordomoError):
    """A line, a command or a report cannot be worked with."""


class CommandError(DeskError):
    """A line is not a command; the column is that of the first error, from 1."""

    def __init__(self, column):
        self.column = column


class BadWord(CommandError):
    """A line cannot be split into words."""


class UnknownCommand(CommandError):
    """The first word is no command."""


class BadArgument(CommandError):
    """A word is not what must stand at its place."""


class MissingArgument(CommandError):
    """The line ends before a word that must follow."""


class ExtraArgument(CommandError):
    """A word follows a command that takes no more words."""


class NotThere(DeskError):
    """A command relies on an object that the view does not have."""

    def __init__(self, kind, name):
        self.kind = kind
        self.name = name


class BadReport(DeskError):
    """A line, counted from 1, is not the line of a row."""

    def __init__(self, line):
        self.line = line
