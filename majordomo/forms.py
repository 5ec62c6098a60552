"""Forms of strings and integers that several modules ask for."""

SPACE = 32
PERCENT = 37
TILDE = 126
DIGITS = "0123456789"


def has_plain_characters(text):
    """Return True if each character is one from the space to the tilde except the percent sign."""
    for character in text:
        code = ord(character)
        if code < SPACE or code > TILDE or code == PERCENT:
            return False
    return True


def is_integer_within(number, low, high):
    """Return True if the argument, anything, is an integer from low to high and no boolean."""
    if isinstance(number, bool) or not isinstance(number, int):
        return False
    return low <= number <= high


def number_within(word, low, high):
    """Return the number from low to high whose decimal form the word is, or None."""
    # The length is checked first, for a word may be much longer than any number.
    if not 1 <= len(word) <= len(str(high)) or not all([character in DIGITS for character in word]):
        return None
    number = int(word)
    if str(number) != word or not low <= number <= high:
        return None
    return number
