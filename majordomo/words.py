"""The words of a line: plain ones, and quoted ones for what cannot be written plain."""

from majordomo.errors import BadWord
from majordomo.forms import has_plain_characters

SPACE = " "
QUOTE = '"'
BACKSLASH = "\\"


def split_words(line):
    """Return the list of pairs (word, column) of a line."""
    words = []
    at = 0
    while at < len(line):
        word, end = _read_word(line, at)
        words.append((word, at + 1))
        if end == len(line) - 1:
            # The space at the end has no word behind it.
            raise BadWord(end + 1)
        at = end + 1
    return words


def _read_word(line, at):
    """Return the word that begins at an index, and the index behind it: that of a space, or the end of the line."""
    if line[at] == QUOTE:
        return _read_quoted(line, at)
    return _read_plain(line, at)


def _read_plain(line, at):
    end = at
    while end < len(line) and line[end] != SPACE:
        if not has_plain_characters(line[end]) or line[end] in (QUOTE, BACKSLASH):
            raise BadWord(end + 1)
        end += 1
    if end == at:
        # A space stands where a word must begin.
        raise BadWord(at + 1)
    return (line[at:end], end)


def _read_quoted(line, at):
    characters = []
    end = at + 1
    while end < len(line) and line[end] != QUOTE:
        if not has_plain_characters(line[end]):
            raise BadWord(end + 1)
        if line[end] == BACKSLASH:
            if line[end + 1:end + 2] not in (QUOTE, BACKSLASH):
                raise BadWord(end + 1)
            end += 1
        characters.append(line[end])
        end += 1
    if end == len(line):
        raise BadWord(at + 1)
    if line[end + 1:end + 2] not in ("", SPACE):
        raise BadWord(end + 2)
    return ("".join(characters), end + 1)


def write_word(word):
    """Return the written form of a word: the plain one if it has one."""
    special = [character for character in word if character in (SPACE, QUOTE, BACKSLASH)]
    if word != "" and not special:
        return word
    escaped = word.replace(BACKSLASH, BACKSLASH + BACKSLASH).replace(QUOTE, BACKSLASH + QUOTE)
    return QUOTE + escaped + QUOTE
