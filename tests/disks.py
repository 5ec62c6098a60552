"""Disks for tests: they carry out steps, and fail as the document says (points 2.2 and 2.3)."""

import itertools

from majordomo.sectors import BLANK


class Disk:
    """What is safe, and what was written to each sector since the last sync."""

    def __init__(self, sectors=()):
        self.safe = list(sectors)
        self.unsafe = {}
        self.indexes = []

    def do(self, steps):
        for step in steps:
            if step == ("sync",):
                self.safe = self.sectors()
                self.unsafe = {}
            else:
                word, index, sector = step
                assert word == "write" and type(sector) is tuple and len(sector) == 64, step
                self.unsafe.setdefault(index, []).append(sector)
                self.indexes.append(index)
        return self

    def with_contents(self, contents):
        """The safe sectors with other contents at some indexes."""
        size = max([len(self.safe)] + [index + 1 for index in contents])
        sectors = self.safe + [BLANK] * (size - len(self.safe))
        for index, sector in contents.items():
            sectors[index] = sector
        return sectors

    def sectors(self):
        """What the disk holds as long as the machine does not fail."""
        return self.with_contents({index: written[-1] for index, written in self.unsafe.items()})

    def choices(self, index):
        """All contents that the sector may hold after a failure."""
        before = self.safe[index] if index < len(self.safe) else BLANK
        return [before] + self.unsafe[index]

    def after_failure(self, chance):
        """The disk after a failure; chance, a random.Random, decides for each sector by itself."""
        rate = chance.choice((0, 1, 2, 2, 2, 3, 4))
        contents = {}
        for index in self.unsafe:
            choices = self.choices(index)
            contents[index] = choices[0] if chance.randrange(4) >= rate else chance.choice(choices[1:])
        return Disk(self.with_contents(contents))

    def all_after_failure(self):
        """All disks that a failure may leave."""
        indexes = sorted(self.unsafe)
        for contents in itertools.product(*[self.choices(index) for index in indexes]):
            yield Disk(self.with_contents(dict(zip(indexes, contents))))
