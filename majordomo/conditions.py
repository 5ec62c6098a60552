"""The conditions of the transactions of controllers, and transactions with one put or one delete."""


def conditions(view, keys):
    """Return the tuple of the conditions that the objects of the keys are as the view has them."""
    distinct = {key: True for key in keys}
    return tuple([key + (_revision(view, key),) for key in sorted(distinct)])


def _revision(view, key):
    if key in view:
        return view[key][1]
    return 0


def putting(view, keys, key, value):
    """Return the transaction that puts the value under the key, with the conditions of the keys."""
    return (conditions(view, keys), (key + (value,),), ())


def deleting(view, keys, key):
    """Return the transaction that deletes the object of the key, with the conditions of the keys."""
    return (conditions(view, keys), (), (key,))
