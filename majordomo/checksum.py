"""The checksum that tells whether a sector is as it was written."""

MODULUS = 65521


def checksum(row, start=(1, 1)):
    """Return the two sums over the row; start is where they begin, so that a row can be summed in parts."""
    first, second = start
    for byte in row:
        # The 1 makes zeros count, so that rows of zeros of different lengths differ.
        first = (first + byte + 1) % MODULUS
        second = (second + first) % MODULUS
    return (first, second)


def check_bytes(pair):
    """Return the four bytes of a checksum, the low byte of each sum first."""
    first, second = pair
    return [first % 256, first // 256, second % 256, second // 256]
