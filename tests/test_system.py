"""Callers and followers behind fronts and replicas, whose letters are lost, repeated, delayed and reordered."""

import random
import unittest

from majordomo.caller import Caller
from majordomo.follower import Follower
from majordomo.front import Front
from tests.groups import Group, PlainHost

FRONTS = ("f1", "f2")


class Network(Group):
    """A group of replicas with fronts, callers c1 and c2, and followers w1 and w2."""

    def __init__(self, test, chance):
        Group.__init__(self, test, chance, 3, PlainHost)
        self.boots = 0
        self.fronts = {name: self.front(name) for name in FRONTS}
        self.callers = {name: Caller(name, FRONTS, patience=chance.randrange(1, 6)) for name in ("c1", "c2")}
        self.followers = {name: Follower(FRONTS, patience=chance.randrange(1, 6)) for name in ("w1", "w2")}
        self.entries = {0: ()}
        self.heard = {}
        self.views = {name: {} for name in self.followers}

    def front(self, name):
        self.boots += 1
        return Front(name, list(self.names), self.chance.choice((0, 2, 100)), self.boots)

    def send(self, sender, effects):
        for word, receiver, letter in effects:
            self.test.assertEqual(word, "send")
            self.test.assertNotEqual(receiver, sender)
            self.letters.append((sender, receiver, letter))

    def run(self, name, event):
        if name in self.hosts:
            sent, _ = self.hosts[name].do(event)
            self.send(name, [("send",) + effect for effect in sent])
            self.check(self.hosts[name])
            revision, entries = self.hosts[name].replica.dump()[0]
            self.test.assertEqual(self.entries.setdefault(revision, entries), entries)
        elif name in self.fronts:
            self.send(name, self.fronts[name].handle(event))
            self.check_cache(self.fronts[name].cache)
        elif name in self.callers:
            self.run_caller(name, event)
        else:
            self.run_follower(name, event)

    def run_caller(self, name, event):
        caller = self.callers[name]
        if event == ("tick",):
            self.send(name, caller.tick())
        else:
            number = caller.number
            answer = caller.hear(event[2])
            if answer is not None:
                self.test.assertNotIn((name, number), self.heard)
                self.heard[(name, number)] = answer
        if not caller.busy and self.chance.random() < 0.3:
            put = ("beat", self.chance.choice("ab"), (caller.number + 1, self.chance.randrange(9)))
            self.send(name, caller.ask(((), (put,), ())))

    def run_follower(self, name, event):
        follower = self.followers[name]
        if event == ("tick",):
            self.send(name, follower.tick())
            return
        revision = follower.cache.revision
        different = follower.hear(event[1], event[2])
        self.test.assertGreaterEqual(follower.cache.revision, revision)
        view = self.views[name]
        for key in different:
            view.pop(key, None)
            if key in follower.cache.view:
                view[key] = follower.cache.view[key]
        # Whoever follows the keys that are returned has the whole view.
        self.test.assertEqual(view, follower.cache.view)
        self.check_cache(follower.cache)

    def check_cache(self, cache):
        """A cache is at each moment a state that the store had."""
        if cache.ready:
            self.test.assertEqual(tuple(cache.entries()), self.entries[cache.revision])

    def actors(self):
        return list(self.names) + list(self.fronts) + list(self.callers) + list(self.followers)

    def step(self):
        chosen = self.chance.random()
        name = self.chance.choice(self.actors())
        if chosen < 0.15:
            self.run(name, ("tick",))
        elif chosen < 0.25:
            name = self.chance.choice(self.names)
            self.run(name, self.hosts[name].settle(self.chance))
        elif chosen < 0.254:
            if name in self.hosts:
                self.hosts[name].fail(self.chance)
            elif name in self.fronts:
                self.fronts[name] = self.front(name)
        elif self.letters:
            self.deliver()


class TestSystem(unittest.TestCase):
    def test_random_runs(self):
        for seed in range(12):
            with self.subTest(seed):
                self.run_network(random.Random(seed))

    def run_network(self, chance):
        network = Network(self, chance)
        for _ in range(2000):
            network.step()
        before = {name: caller.number for name, caller in network.callers.items()}
        for _ in range(80):
            network.round()
        for name, caller in network.callers.items():
            self.assertGreater(caller.number, before[name] + 3)
            # Each transaction but the one under way was told, and done once.
            numbers = [number for origin, number in network.heard if origin == name]
            self.assertEqual(sorted(numbers), list(range(1, caller.number + (not caller.busy))))
        revisions = [answer[1] for answer in network.heard.values()]
        self.assertEqual(len(revisions), len(set(revisions)))
        for follower in network.followers.values():
            self.assertGreater(follower.cache.revision, max(revisions) - 12)


if __name__ == "__main__":
    unittest.main()
