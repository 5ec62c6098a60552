"""The answers that make each command run once, however often it is sent."""


class Sessions:
    """For each origin the greatest number that was run, and its answer."""

    def __init__(self):
        self._kept = {}

    def run(self, store, command):
        """Run the command on the store, unless its number was run or passed over; return the answer."""
        origin, number, transaction = command
        answer = self.answer(origin, number)
        if answer is None:
            answer = store.apply(transaction)
            self._kept[origin] = (number, answer)
        return answer

    def answer(self, origin, number):
        """Return the answer to a number that was run or passed over, otherwise None."""
        if origin not in self._kept or number > self._kept[origin][0]:
            return None
        if number < self._kept[origin][0]:
            return ("old",)
        return self._kept[origin][1]

    def last(self, origin):
        """Return the greatest number that was run for the origin, or 0."""
        if origin not in self._kept:
            return 0
        return self._kept[origin][0]

    def image(self):
        """Return the tuple of all (origin, number, answer), in ascending order of the origins."""
        return tuple([(origin,) + self._kept[origin] for origin in sorted(self._kept)])

    @staticmethod
    def from_image(image):
        """Return the sessions that an image describes."""
        sessions = Sessions()
        for origin, number, answer in image:
            sessions._kept[origin] = (number, answer)
        return sessions
