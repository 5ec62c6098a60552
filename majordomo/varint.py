"""Numbers from 0 on as rows of bytes, seven bits in each byte."""

from majordomo.errors import Malformed, Truncated

MOST_BYTES = 500


def put_number(number):
    """Return the shortest row of bytes for a number from 0 on."""
    row = []
    while number > 127:
        row.append(128 + (number & 127))
        number >>= 7
    row.append(number)
    return row


def take_number(row, index):
    """Return the number that is written from the index on, and the index after it."""
    number = 0
    shift = 0
    for at in range(index, min(len(row), index + MOST_BYTES)):
        byte = row[at]
        number |= (byte & 127) << shift
        shift += 7
        if byte < 128:
            # A last byte 0 adds nothing, so a shorter form exists and only that one is allowed.
            if byte == 0 and at > index:
                raise Malformed("a number is not in its shortest form")
            return (number, at + 1)
    if len(row) - index >= MOST_BYTES:
        raise Malformed("a number has too many bytes")
    raise Truncated("the row ends within a number")
