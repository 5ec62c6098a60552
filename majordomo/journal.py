"""A list of records that is kept on a disk and survives a failure at any step."""

from majordomo.errors import Damaged
from majordomo.packing import pack, unpack
from majordomo.sectors import BLANK, make_sector, read_sector
from majordomo.varint import put_number, take_number

HEAD_KIND = 1
PART_KIND = 2
PIECE = 40
FIRST_START = 2


def parts_needed(record):
    """Return the number of sectors that a record needs."""
    return _piece_count(pack(record))


def _piece_count(packed):
    return (len(packed) + PIECE - 1) // PIECE


def _sector_at(sectors, index):
    """Return a sector of a disk; those beyond its end are blank."""
    if index < len(sectors):
        return sectors[index]
    return BLANK


def _newest_head(sectors):
    """Return the tuple (generation, start, boot) of the newest generation."""
    newest = (0, FIRST_START, 0)
    for index in range(FIRST_START):
        found = read_sector(_sector_at(sectors, index))
        if found is not None:
            kind, payload = found
            if kind != HEAD_KIND:
                raise Damaged("the sector of a head has another kind")
            head = unpack(payload)
            if head[0] > newest[0]:
                newest = head
    return newest


def _read_part(sector):
    """Return the five numbers of a part, a tuple, and its bytes, or None if the sector is no part."""
    found = read_sector(sector)
    if found is None or found[0] != PART_KIND:
        return None
    payload = found[1]
    numbers = []
    index = 0
    for _ in range(5):
        number, index = take_number(payload, index)
        numbers.append(number)
    return (tuple(numbers), payload[index:])


def _read_record(sectors, at, generation, record, least_boot):
    """Return the boot and the packed form of the record whose parts begin at a sector, or None."""
    found = _read_part(_sector_at(sectors, at))
    if found is None:
        return None
    boot = found[0][1]
    count = found[0][4]
    # A smaller boot is that of parts which an interrupted append or rewrite left here.
    if found[0] != (generation, boot, record, 0, count) or boot < least_boot:
        return None
    packed = found[1]
    for part in range(1, count):
        found = _read_part(_sector_at(sectors, at + part))
        if found is None or found[0] != (generation, boot, record, part, count):
            return None
        packed = packed + found[1]
    return (boot, packed)


def _part_sector(generation, boot, record, part, packed):
    payload = []
    for number in (generation, boot, record, part, _piece_count(packed)):
        payload.extend(put_number(number))
    return make_sector(PART_KIND, payload + packed[PIECE * part:PIECE * (part + 1)])


def _part_writes(rows, at, generation, boot, record):
    """Return the writes of packed records from a sector on; record is the index of the first of them."""
    steps = []
    for packed in rows:
        for part in range(_piece_count(packed)):
            steps.append(("write", at, _part_sector(generation, boot, record, part, packed)))
            at += 1
        record += 1
    return steps


class Journal:
    """The records of a disk. What changes them returns the steps that the caller carries out."""

    def __init__(self, sectors, boot):
        generation, start, head_boot = _newest_head(sectors)
        self._boot = boot
        self._generation = generation
        self._start = start
        self._used = 0
        self._records = []
        self._read_records(sectors, head_boot)

    def _read_records(self, sectors, least_boot):
        found = _read_record(sectors, self._start, self._generation, 0, least_boot)
        while found is not None:
            least_boot, packed = found
            self._records.append(unpack(packed))
            self._used += _piece_count(packed)
            after = self._start + self._used
            found = _read_record(sectors, after, self._generation, len(self._records), least_boot)

    def records(self):
        """Return a new list of all records, in order."""
        return list(self._records)

    def sectors_used(self):
        """Return the number of sectors that the parts of the records need."""
        return self._used

    def append(self, records):
        """Append the records of a list and return the steps."""
        rows = [pack(record) for record in records]
        if not rows:
            return []
        after = self._start + self._used
        steps = _part_writes(rows, after, self._generation, self._boot, len(self._records))
        self._records.extend(list(records))
        self._used += len(steps)
        return steps + [("sync",)]

    def rewrite(self, records):
        """Replace all records by those of a list, in a new generation, and return the steps."""
        rows = [pack(record) for record in records]
        needed = sum([_piece_count(packed) for packed in rows])
        # The old records must stay whole until the new head is safe, so the new ones go before or behind them.
        start = self._start + self._used
        if needed <= self._start - FIRST_START:
            start = FIRST_START
        generation = self._generation + 1
        steps = _part_writes(rows, start, generation, self._boot, 0)
        head = make_sector(HEAD_KIND, pack((generation, start, self._boot)))
        self._generation = generation
        self._start = start
        self._used = needed
        self._records = list(records)
        return steps + [("sync",), ("write", generation % 2, head), ("sync",)]
