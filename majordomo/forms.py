"""Forms of strings and integers that several modules ask for."""

SPACE = 32
PERCENT = 37
TILDE = 126


def has_plain_characters(text):
    """Return True if each character is one from the space to the tilde except the percent sign."""
    for character in text:
        code = ord(character)
        if code < SPACE or code > TILDE or code == PERCENT:
            return False
    return True


def is_integer_within(number, low, high):
    """Return True if the argument, anything, is an integer from low to high and no boolean."""
    if isinstance(number, bool) or not isinstance(number, int):
        return False
    return low <= number <= high
