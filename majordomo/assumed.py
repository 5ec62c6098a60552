"""The binds that a scheduler sent and that its cache may not show yet."""

NODE = 0
SIZE = 1
SERVICE_BORN = 2


class Assumed:
    """The assumed binds by their tasks, and the revisions at which those that are answered were done."""

    def __init__(self):
        self._binds = {}
        self._revisions = {}

    def add(self, task, node, size, service_born):
        """Assume a bind, in place of an earlier one of the same task."""
        self.drop(task)
        self._binds[task] = (node, size, service_born)

    def done(self, task, revision):
        """Note that the bind of a task was done at a revision."""
        if self.has(task):
            self._revisions[task] = revision

    def drop(self, task):
        """Forget the bind of a task."""
        self._binds.pop(task, None)
        self._revisions.pop(task, None)

    def settle(self, revision):
        """Forget each bind that was done at the revision or before."""
        for task in self.names():
            if task in self._revisions and self._revisions[task] <= revision:
                self.drop(task)

    def has(self, task):
        """Return True if the task has an assumed bind."""
        return task in self._binds

    def size_on(self, node):
        """Return the sum of the sizes that are assumed on a node."""
        return sum([self._binds[task][SIZE] for task in self._binds if self._binds[task][NODE] == node])

    def count_on(self, node, service_born):
        """Return how many tasks of a service are assumed on a node."""
        binds = [self._binds[task] for task in self._binds]
        return len([bind for bind in binds if bind[NODE] == node and bind[SERVICE_BORN] == service_born])

    def names(self):
        """Return the list of the assumed tasks, in ascending order."""
        return sorted(self._binds)
