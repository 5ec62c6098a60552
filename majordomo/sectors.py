"""Sectors: the tuples of 64 bytes of which a disk consists."""

from majordomo.checksum import check_bytes, checksum
from majordomo.errors import Damaged

SECTOR = 64
PAYLOAD = 58
BLANK = (0,) * 64

CHECK_BYTES = 4
MOST_KIND = 9


def make_sector(kind, payload):
    """Return the written sector of a kind with a payload of at most 58 bytes."""
    body = [kind, len(payload)] + list(payload) + [0] * (PAYLOAD - len(payload))
    return tuple(check_bytes(checksum(body)) + body)


def read_sector(sector):
    """Return the kind and the payload of a written sector, or None for the blank one."""
    if sector == BLANK:
        return None
    body = sector[CHECK_BYTES:]
    if list(sector[:CHECK_BYTES]) != check_bytes(checksum(body)):
        raise Damaged("the check bytes are wrong")
    kind, length = body[:2]
    if kind < 1 or kind > MOST_KIND:
        raise Damaged("there is no such kind of sector")
    if length > PAYLOAD:
        raise Damaged("the payload is too long")
    filling = body[2 + length:]
    if filling != BLANK[:len(filling)]:
        raise Damaged("a filling byte is not 0")
    return (kind, list(body[2:2 + length]))
