"""Ballots: to which replica one belongs, and how many replicas are a majority."""


def majority(count):
    """Return the least number of replicas that is a majority of so many."""
    return count // 2 + 1


def next_ballot(above, index, count):
    """Return the least ballot that is greater than another one and belongs to a replica."""
    ballot = above - above % count + index
    if ballot <= above:
        ballot += count
    return ballot


def owner(ballot, count):
    """Return the index of the replica to which the ballot belongs, -1 for the ballot 0."""
    if ballot == 0:
        return -1
    return ballot % count
