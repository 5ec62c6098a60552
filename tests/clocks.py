"""Clocks of tests that drift apart as far as point 8.26 allows."""

MOST_AHEAD = 6


class Fair:
    """Two clocks, 0 and 1: in every period in which one ticks a times, the other ticks at most 2 * a + 6 times."""

    def __init__(self):
        # For each clock the greatest value, over all periods that end now, of its ticks minus twice those of the other.
        self.ahead = [0, 0]

    def may_tick(self, clock):
        return self.ahead[clock] < MOST_AHEAD

    def tick(self, clock):
        assert self.may_tick(clock)
        self.ahead[clock] += 1
        self.ahead[1 - clock] = max(0, self.ahead[1 - clock] - 2)
