"""The commands that people give as lines of text."""

from majordomo.errors import BadArgument, ExtraArgument, MissingArgument, UnknownCommand
from majordomo.forms import number_within
from majordomo.objects import KINDS, MOST_COUNT, MOST_NUMBER, is_key, is_plain_name, is_text, is_zone
from majordomo.words import split_words, write_word


class WordReader:
    """The words of a line that were not taken yet."""

    def __init__(self, line):
        self._words = split_words(line)
        self._taken = 0
        self._end = len(line) + 1

    def take(self):
        """Return the next word and its column."""
        if self.is_at_end():
            raise MissingArgument(self._end)
        self._taken += 1
        return self._words[self._taken - 1]

    def is_at_end(self):
        """Return True if all words were taken."""
        return self._taken == len(self._words)


def _take_name(words):
    word, column = words.take()
    if not is_plain_name(word):
        raise BadArgument(column)
    return word


def _take_zone(words):
    word, column = words.take()
    if not is_zone(word):
        raise BadArgument(column)
    return word


def _take_text(words):
    word, column = words.take()
    if not is_text(word):
        raise BadArgument(column)
    return word


def _take_number(words, low, high):
    word, column = words.take()
    number = number_within(word, low, high)
    if number is None:
        raise BadArgument(column)
    return number


def _take_count(words):
    return _take_number(words, 0, MOST_NUMBER)


def _take_gone(words):
    return _take_number(words, 1, MOST_NUMBER)


def _take_size(words):
    return _take_number(words, 0, MOST_COUNT)


def _take_owner(words):
    kind, column = words.take()
    if kind not in KINDS:
        raise BadArgument(column)
    name, column = words.take()
    if not is_key(kind, name):
        raise BadArgument(column)
    return (kind, name)


# For each command and each of its options, what takes the words of the value.
OPTIONS = {
    ("declare", "count"): _take_count,
    ("declare", "gone"): _take_gone,
    ("declare", "size"): _take_size,
    ("declare", "text"): _take_text,
    ("declare", "zone"): _take_zone,
    ("note", "owner"): _take_owner,
    ("note", "text"): _take_text,
}


def _take_options(words, command):
    """Return the tuple of the pairs (option, value) in ascending order."""
    options = {}
    while not words.is_at_end():
        option, column = words.take()
        if (command, option) not in OPTIONS or option in options:
            raise BadArgument(column)
        take_value = OPTIONS[(command, option)]
        options[option] = take_value(words)
    return tuple([(option, options[option]) for option in sorted(options)])


def _take_reason(words):
    """Return the text of a drain, which may be left out."""
    if words.is_at_end():
        return ""
    word, column = words.take()
    if word != "because":
        raise BadArgument(column)
    return _take_text(words)


def _take_command(words):
    word, column = words.take()
    match word:
        case "declare" | "note":
            return (word, _take_name(words), _take_options(words, word))
        case "scale":
            return (word, _take_name(words), _take_count(words))
        case "drain":
            return (word, _take_name(words), _take_reason(words))
        case "remove" | "undrain" | "forget":
            return (word, _take_name(words))
    raise UnknownCommand(column)


def parse_command(line):
    """Return the parsed form of a command."""
    words = WordReader(line)
    if words.is_at_end():
        raise UnknownCommand(1)
    command = _take_command(words)
    if not words.is_at_end():
        _, column = words.take()
        raise ExtraArgument(column)
    return command


def format_command(command):
    """Return the line of a parsed command."""
    return " ".join([write_word(word) for word in _words_of(command)])


def _words_of(command):
    """Return the list of the words of a parsed command."""
    match command:
        case ("scale", name, number):
            return ["scale", name, str(number)]
        case ("drain", name, ""):
            return ["drain", name]
        case ("drain", name, text):
            return ["drain", name, "because", text]
        case (word, name, options):
            return [word, name] + _option_words(options)
    return list(command)


def _option_words(options):
    words = []
    for option, value in sorted(options):
        words.append(option)
        if isinstance(value, tuple):
            words.extend(value)
        else:
            words.append(str(value))
    return words
