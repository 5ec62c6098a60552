"""Values and their packed forms, which are lists of bytes."""

from majordomo.errors import Malformed, NotAValue, Truncated
from majordomo.forms import SPACE, has_plain_characters
from majordomo.varint import put_number, take_number

MOST_BITS = 3000
MOST_LENGTH = 60000
MOST_DEPTH = 20

FALSE_TAG = 1
TRUE_TAG = 2
NATURAL_TAG = 3
NEGATIVE_TAG = 4
TEXT_TAG = 5
TUPLE_TAG = 6

# The values of the first tags, which stand alone.
CONSTANTS = (None, False, True)

# A character byte is an index of this string; the space at PERCENT_BYTE only fills a place that is never read.
CHARACTERS = " !\"#$ &'()*+,-./0123456789:;<=>?@ABCDEFGHIJKLMNOPQRSTUVWXYZ[\\]^_`abcdefghijklmnopqrstuvwxyz{|}~"
PERCENT_BYTE = 5


def is_value(value):
    """Return True if the argument, anything, is a value."""
    return _is_value_within(value, 0)


def _is_value_within(value, depth):
    """Return True if the argument is a value where it stands within so many tuples."""
    if value is None or isinstance(value, bool):
        return True
    if isinstance(value, int):
        return value.bit_length() <= MOST_BITS
    if isinstance(value, str):
        return len(value) <= MOST_LENGTH and has_plain_characters(value)
    if not isinstance(value, tuple) or depth == MOST_DEPTH or len(value) > MOST_LENGTH:
        return False
    for member in value:
        if not _is_value_within(member, depth + 1):
            return False
    return True


def pack(value):
    """Return the packed form of a value."""
    if not is_value(value):
        raise NotAValue("the argument is not a value")
    return _packed(value)


def _packed(value):
    if value is None:
        return [0]
    if isinstance(value, bool):
        return [TRUE_TAG if value else FALSE_TAG]
    if isinstance(value, int):
        if value < 0:
            return [NEGATIVE_TAG] + put_number(-1 - value)
        return [NATURAL_TAG] + put_number(value)
    if isinstance(value, str):
        return [TEXT_TAG] + put_number(len(value)) + [ord(character) - SPACE for character in value]
    row = [TUPLE_TAG] + put_number(len(value))
    for member in value:
        row.extend(_packed(member))
    return row


def unpack(row):
    """Return the value whose packed form is the row."""
    value, index = _take_value(row, 0, 0)
    if index < len(row):
        raise Malformed("bytes follow the value")
    return value


def _take_value(row, index, depth):
    """Return the value that is packed from the index on, within so many tuples, and the index after it."""
    if index >= len(row):
        raise Truncated("the row ends before a tag")
    tag = row[index]
    if tag > TUPLE_TAG:
        raise Malformed("there is no such tag")
    if tag <= TRUE_TAG:
        return (CONSTANTS[tag], index + 1)
    # The tag alone decides here: what follows it is not read any more.
    if tag == TUPLE_TAG and depth == MOST_DEPTH:
        raise Malformed("tuples are nested too deep")
    number, after = take_number(row, index + 1)
    if tag == NATURAL_TAG:
        return (_checked_integer(number), after)
    if tag == NEGATIVE_TAG:
        return (_checked_integer(-1 - number), after)
    if number > MOST_LENGTH:
        raise Malformed("a length is too great")
    if tag == TEXT_TAG:
        return _take_text(row, after, number)
    return _take_members(row, after, number, depth + 1)


def _checked_integer(number):
    if number.bit_length() > MOST_BITS:
        raise Malformed("an integer is beyond the bounds")
    return number


def _take_text(row, index, length):
    characters = []
    for at in range(index, index + length):
        if at >= len(row):
            raise Truncated("the row ends within a string")
        byte = row[at]
        if byte >= len(CHARACTERS) or byte == PERCENT_BYTE:
            raise Malformed("there is no such character")
        characters.append(CHARACTERS[byte])
    return ("".join(characters), index + length)


def _take_members(row, index, length, depth):
    members = []
    for _ in range(length):
        member, index = _take_value(row, index, depth)
        members.append(member)
    return (tuple(members), index)
