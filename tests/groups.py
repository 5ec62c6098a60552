"""Groups of replicas for tests: letters and machines that fail, and what must hold in every run (point 4.25)."""

from majordomo.durable import DurableReplica
from majordomo.replica import Replica
from majordomo.sessions import Sessions
from majordomo.store import Store
from tests.disks import Disk

NAMES = ("r1", "r2", "r3", "r4", "r5")


class PlainHost:
    """A machine whose disk keeps the records of a replica, of which only the first ones are safe."""

    def __init__(self, name, names):
        self.name = name
        self.names = names
        self.boot = 0
        self.records = []
        self.begin()

    def begin(self):
        self.boot += 1
        self.start = len(self.records)
        self.safe = 0
        self.replica = Replica(self.name, self.names, list(self.records), self.boot)

    def do(self, event):
        """Handle an event; return the letters that are sent and the records that are stored."""
        sent = []
        stored = []
        for effect in self.replica.handle(event):
            if effect[0] == "send":
                sent.append(effect[1:])
            else:
                assert effect[0] == "store" and len(effect) == 2, effect
                stored.append(effect[1])
        self.records += stored
        return sent, stored

    def settle(self, chance):
        """The event that reports some more records as safe; all of them if there is no chance."""
        stored = len(self.records) - self.start
        self.safe = stored if chance is None else chance.randint(self.safe, stored)
        return ("stored", self.safe)

    def fail(self, chance):
        del self.records[self.start + chance.randint(self.safe, len(self.records) - self.start):]
        self.begin()

    def value_at(self, slot):
        return self.replica.value_at(slot)


class DurableHost:
    """A machine with a disk that carries out the steps of a durable replica later."""

    def __init__(self, name, names):
        self.name = name
        self.names = names
        self.boot = 0
        self.disk = Disk()
        self.begin()

    def begin(self):
        self.boot += 1
        self.steps = []
        self.asked = 0
        self.replica = DurableReplica(self.name, self.names, self.disk.sectors(), self.boot)

    def do(self, event):
        sent = []
        for effect in self.replica.handle(event):
            if effect[0] == "send":
                sent.append(effect[1:])
            else:
                self.steps.append(effect)
                self.asked += effect == ("sync",)
        assert self.steps.count(("sync",)) <= 1 and self.steps[-1:] in ([], [("sync",)]), self.steps
        return sent, self.replica.journal.records()

    def settle(self, chance):
        if chance is None or chance.random() < 0.6:
            self.disk.do(self.steps)
            self.steps = []
        return ("synced", self.asked - self.steps.count(("sync",)))

    def fail(self, chance):
        self.disk.do(self.steps[:chance.randint(0, len(self.steps))])
        self.disk = self.disk.after_failure(chance)
        self.begin()

    def value_at(self, slot):
        return self.replica.replica.value_at(slot)


class Group:
    """The machines, the letters on the way, callers that ask through two names, and what was seen."""

    def __init__(self, test, chance, count, host):
        self.test = test
        self.chance = chance
        self.names = NAMES[:count]
        self.hosts = {name: host(name, self.names) for name in self.names}
        self.letters = []
        self.sequence = {}
        self.accepted = {}
        self.states = {}
        self.answers = {}
        self.numbers = {"c" + str(at): 0 for at in range(4)}
        self.asked = {}

    def run(self, name, event):
        host = self.hosts[name]
        sent, stored = host.do(event)
        for record in stored:
            if record[0] == "accepted":
                self.accepted[record[2]] = record[3]
        for receiver, letter in sent:
            self.test.assertNotEqual(receiver, name)
            if receiver in self.hosts:
                self.letters.append((name, receiver, letter))
                if letter[0] == "chosen":
                    self.see_value(letter[1], letter[2])
            else:
                self.see_answer(receiver, letter)
        self.check(host)

    def see_value(self, slot, value):
        self.test.assertEqual(self.sequence.setdefault(slot, value), value)

    def see_answer(self, receiver, letter):
        word, origin, number, answer = letter
        self.test.assertEqual(word, "told")
        self.test.assertEqual(receiver, "front of " + origin)
        if answer == ("old",):
            self.test.assertLess(number, self.numbers[origin])
        else:
            self.test.assertEqual(self.answers.setdefault((origin, number), answer), answer)

    def check(self, host):
        applied, revision, _ = host.replica.look()
        for slot in range(max(0, applied - 20), applied):
            value = host.value_at(slot)
            if value is not None:
                self.see_value(slot, value)
        state = (revision, host.replica.dump())
        self.test.assertEqual(self.states.setdefault(applied, state), state)

    def ask(self, origin):
        """The command of an origin that is not told yet, or a new one, sent to any replica."""
        number = self.numbers[origin]
        if number == 0 or (origin, number) in self.answers:
            number += 1
            self.numbers[origin] = number
            name = self.chance.choice(("a", "b", "c"))
            value = (self.chance.randrange(10), number)
            conditions = (("beat", name, self.chance.randrange(3)),) if self.chance.random() < 0.3 else ()
            self.asked[(origin, number)] = (origin, number, (conditions, (("beat", name, value),), ()))
        command = self.asked[(origin, self.chance.choice((number, number, max(1, number - 1))))]
        self.run(self.chance.choice(self.names), ("letter", "front of " + origin, ("ask", command)))

    def deliver(self):
        at = self.chance.randrange(len(self.letters))
        sender, receiver, letter = self.letters[at]
        chosen = self.chance.random()
        if chosen < 0.85:
            self.letters[at] = self.letters[-1]
            self.letters.pop()
        if chosen >= 0.1:
            self.run(receiver, ("letter", sender, letter))

    def step(self):
        chosen = self.chance.random()
        name = self.chance.choice(self.names)
        if chosen < 0.12:
            self.run(name, ("tick",))
        elif chosen < 0.3:
            self.run(name, self.hosts[name].settle(self.chance))
        elif chosen < 0.304:
            self.hosts[name].fail(self.chance)
            self.check(self.hosts[name])
        elif chosen < 0.36:
            self.ask(self.chance.choice(list(self.numbers)))
        elif self.letters:
            self.deliver()

    def settle_all(self):
        for name in self.names:
            # A durable replica may need two syncs for one rewrite, and more for what is stored meanwhile.
            for _ in range(6):
                self.run(name, self.hosts[name].settle(None))

    def actors(self):
        return list(self.names)

    def round(self):
        """Each actor has one tick; then all letters on the way are delivered six times."""
        for name in self.actors():
            self.run(name, ("tick",))
        self.settle_all()
        for _ in range(6):
            letters = self.letters
            self.letters = []
            for sender, receiver, letter in letters:
                self.run(receiver, ("letter", sender, letter))
            self.settle_all()

    def finish(self):
        """Whole rounds in which the callers ask again for what they were not told; returns how many leaders."""
        for at in range(60):
            for origin in self.numbers:
                number = self.numbers[origin]
                if at < 50 and number > 0 and (origin, number) not in self.answers:
                    command = self.asked[(origin, number)]
                    self.run(self.names[at // 3 % len(self.names)], ("letter", "front of " + origin, ("ask", command)))
            self.round()
        return [host.name for host in self.hosts.values() if host.replica.look()[2]]

    def check_end(self, leaders):
        self.test.assertEqual(len(leaders), 1)
        applied = {host.replica.look()[0] for host in self.hosts.values()}
        self.test.assertEqual(len(applied), 1, applied)
        for origin, number in self.numbers.items():
            self.test.assertTrue(number == 0 or (origin, number) in self.answers, (origin, number))
        self.check_whole_sequence(applied.pop())

    def check_whole_sequence(self, applied):
        """The states and the answers are those of the store and the sessions that run the whole sequence."""
        store = Store()
        sessions = Sessions()
        first = {}
        for slot in range(applied):
            value = self.sequence.get(slot, self.accepted.get(slot))
            if value != ("nothing",):
                answer = sessions.run(store, value)
                first.setdefault(value[:2], answer)
            dump = (store.image(), sessions.image())
            self.test.assertEqual(self.states.get(slot + 1, (store.revision, dump)), (store.revision, dump))
        for key, answer in self.answers.items():
            self.test.assertEqual(first[key], answer)
