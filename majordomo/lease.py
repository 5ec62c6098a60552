"""How long an engine is fed, and how long a manager waits before it declares a node lost."""

BEATS_IN_FEED = 3


def feed_left(feed, asked, now):
    """Return how many ticks are left of what was asked for at an earlier tick."""
    return max(0, feed - (now - asked))


def beat_due(feed, asked, now):
    """Return True if the next beat is due, after the last one was asked for at an earlier tick."""
    return now - asked >= max(1, feed // BEATS_IN_FEED)


def safe_wait(feed):
    """Return the least number of ticks that a manager waits."""
    return 2 * feed + 12
