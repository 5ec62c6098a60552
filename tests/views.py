"""Views for tests, made from the values of their objects."""

from majordomo.store import Store


def view_of(*objects):
    """A view of objects, each given as (kind, name, born, revision, value)."""
    return {(kind, name): (born, revision, value) for kind, name, born, revision, value in objects}


def service(count=2, text="run", size=1, gone=1, zone="", name="web", born=5, revision=6):
    return ("service", name, born, revision, (count, text, size, gone, zone))


def rollout(*numbers, service_born=5, name="web", born=7, revision=8):
    return ("rollout", name, born, revision, (service_born, numbers))


def task(number, state="running", stop=0, node="n1", text="run", size=1, zone="", service_born=5, life=3, name="web"):
    """The task of a number, with a revision that tells it from the others."""
    if state == "new":
        node, life = "", 0
    value = (service_born, text, size, state, stop, node, life, zone)
    return ("task", name + "/" + str(number), 20 + number, 30 + number, value)


def drain(node="n1", revision=50):
    return ("drain", node, 40, revision, ("",))


def node(name="n1", size=9, used=2, life=3, lost=0, zone="", revision=70):
    return ("node", name, 65, revision, (size, used, life, lost, zone))


def beat(name="n1", life=3, count=4, revision=80):
    return ("beat", name, 65, revision, (life, count))


def note(name, kind="", owner="", born=0, revision=60, own_born=55):
    return ("note", name, own_born, revision, ("text", kind, owner, born))


def store_view(store):
    """The view of a cache that has what the store has."""
    return view_of(*store.entries())


def store_with(*puts):
    """A store in which each object was put by a transaction of its own."""
    store = Store()
    for put in puts:
        assert store.apply(((), (put,), ()))[0] == "done"
    return store
