"""What the slots of a replica change: its store and its sessions, with their newest image."""

from majordomo.sessions import Sessions
from majordomo.store import Store


class Machine:
    """The store and the sessions after the slots that were applied."""

    def __init__(self):
        self.store = Store()
        self.sessions = Sessions()
        # Without an image, what came before the first slot stands for one: a store with revision 0.
        self.newest = ("image", 0, self.dump())

    def dump(self):
        """Return the tuple (image of the store, image of the sessions)."""
        return (self.store.image(), self.sessions.image())

    def load(self, image):
        """Become what the image, ("image", base, dump), describes; it is the newest one."""
        store_image, sessions_image = image[2]
        self.store = Store.from_image(store_image)
        self.sessions = Sessions.from_image(sessions_image)
        self.newest = image

    def make_image(self, base):
        """Make the newest image, of all slots below the base, and forget the changes up to the one before it."""
        store_image = self.newest[2][0]
        self.newest = ("image", base, self.dump())
        self.store.forget(store_image[0])
        return self.newest
