"""A whole cluster for tests: replicas, fronts, managers, schedulers, workers with engines, and a person at the desk.

Letters are lost, repeated, delayed and reordered, actors fall and start again, and clocks drift. After each event it is
checked what the document promises at each moment; History has what must hold from one revision to the next.
"""

from majordomo.caller import Caller
from majordomo.commands import format_command, parse_command
from majordomo.desk import command_transaction
from majordomo.errors import NotThere
from majordomo.fit import fits
from majordomo.follower import Follower
from majordomo.front import Front
from majordomo.lease import safe_wait
from majordomo.manager import Manager
from majordomo.report import read_report, report_rows, write_report
from majordomo.scheduler import Scheduler
from majordomo.sessions import Sessions
from majordomo.store import Store
from majordomo.worker import Worker
from tests.clocks import Fair

FRONTS = ("f1", "f2")
MOST_LETTERS = 150


class StoreHost:
    """One store that answers like a group of replicas that never fail."""

    def __init__(self, name, names):
        self.name = name
        self.replica = self
        self.store = Store()
        self.sessions = Sessions()
        self.values = []

    def do(self, event):
        if event[0] != "letter":
            return [], []
        _, sender, letter = event
        if letter[0] == "since":
            return [(sender, self.store.since(letter[1]))], []
        origin, number, _ = letter[1]
        if self.sessions.answer(origin, number) is None:
            self.values.append(letter[1])
        return [(sender, ("told", origin, number, self.sessions.run(self.store, letter[1])))], []

    def settle(self, chance):
        return ("stored", 0)

    def fail(self, chance):
        pass

    def look(self):
        return (len(self.values), self.store.revision, True)

    def value_at(self, slot):
        return self.values[slot]

    def dump(self):
        return (self.store.image(), self.sessions.image())


class Engine:
    """What runs tasks, as point 10.2 says."""

    def __init__(self):
        self.runs = {}
        self.watchdog = 0

    def tick(self):
        if self.watchdog > 0:
            self.watchdog -= 1
            if self.watchdog == 0:
                self.runs = {}

    def do(self, effect):
        if effect[0] == "feed":
            self.watchdog = effect[1]
        elif effect[0] == "stop":
            self.runs.pop(effect[1], None)
        else:
            word, slot, text, size = effect
            assert word == "run", effect
            if self.watchdog > 0:
                self.runs.setdefault(slot, (text, size))


class Person:
    """Somebody who gives commands at the desk, and gives one again that was refused."""

    def __init__(self, name, boot):
        self.follower = Follower(FRONTS)
        self.caller = Caller(name + "." + str(boot), FRONTS)
        self.commands = []
        self.line = ""

    def handle(self, event):
        if event != ("tick",):
            self.follower.hear(event[1], event[2])
            answer = self.caller.hear(event[2])
            if answer is not None and answer[0] != "done":
                self.commands.insert(0, self.line)
            return []
        return self.follower.tick() + self.caller.tick() + self.give_command()

    def give_command(self):
        if self.caller.busy or not self.commands or not self.follower.cache.ready:
            return []
        self.line = self.commands.pop(0)
        command = parse_command(self.line)
        assert parse_command(format_command(command)) == command
        try:
            return self.caller.ask(command_transaction(self.follower.cache.view, command))
        except NotThere:
            return []


def is_placed(value):
    return value[3] in ("bound", "running")


def wanted_tasks(view, name):
    """The dict from numbers to the values of the wanted tasks of a service."""
    born, _, service = view[("service", name)]
    tasks = {number: view.get(("task", name + "/" + str(number))) for number in range(service[0])}
    return {number: entry[2] for number, entry in tasks.items() if entry is not None and entry[2][0] == born}


def available_numbers(view, name):
    return [number for number, value in wanted_tasks(view, name).items() if value[3] == "running" and value[4] == 0]


class History:
    """All states of the store, one for each revision, and what must hold from one to the next."""

    def __init__(self, test):
        self.test = test
        self.store = Store()
        self.sessions = Sessions()
        self.views = [{}]
        self.ran = {}
        # For a service the least number of available tasks that it has to have, if there is one.
        self.floors = {}
        self.stopped_by_rollouts = 0
        self.deleted_notes = 0
        self.lost = 0

    def apply(self, value):
        if value == ("nothing",):
            return
        revision = self.store.revision
        self.sessions.run(self.store, value)
        if self.store.revision == revision:
            return
        before = self.views[-1]
        view = dict(before)
        _, _, ((_, puts, deletes),), _ = self.store.since(revision)
        for kind, name, _ in puts:
            view[(kind, name)] = self.store.entry(kind, name)
        for key in deletes:
            del view[key]
        self.views.append(view)
        keys = [found[:2] for found in puts] + list(deletes)
        self.check_nodes(view)
        for key in keys:
            if key[0] == "task":
                self.check_task(before, view, key)
            elif key[0] == "rollout":
                self.check_rollout(before, view, key[1])
            elif key[0] == "note" and key not in view:
                self.check_deleted_note(before, key)
            elif key[0] == "node" and before.get(key, (0, 0, (0, 0, 0, 1)))[2][3] < view[key][2][3]:
                self.lost += 1
        for name, floor in self.floors.items():
            self.test.assertGreaterEqual(len(available_numbers(view, name)), floor)

    def check_nodes(self, view):
        """A node has in use what its bound and running tasks have, and carries no more than its size."""
        sums = {}
        for (kind, _), (_, _, value) in view.items():
            if kind == "task" and is_placed(value):
                sums[value[5]] = sums.get(value[5], 0) + value[2]
        for (kind, name), (_, _, value) in view.items():
            if kind == "node":
                self.test.assertEqual(value[1], sums.pop(name, 0))
                self.test.assertLessEqual(value[1], value[0])
        self.test.assertEqual(sums, {})

    def check_task(self, before, view, key):
        old = before.get(key)
        new = view.get(key)
        if new is None:
            self.test.assertIn(old[2][3], ("new", "ended"))
            return
        if old is None:
            self.test.assertEqual(new[2][3:7], ("new", 0, "", 0))
            return
        states = ("new", "bound", "running", "ended")
        self.test.assertLessEqual(states.index(old[2][3]), states.index(new[2][3]))
        value = new[2]
        if (old[2][3], value[3]) == ("new", "bound"):
            node = before[("node", value[5])][2]
            self.test.assertEqual((node[3], node[2]), (0, value[6]))
            self.test.assertNotIn(("drain", value[5]), before)
            self.test.assertTrue(fits(old[2], node, False, 0))
        if value[3] == "running":
            self.ran[(key[1], value[5], value[6])] = True
        self.check_stop(before, key, old[2], value)

    def check_stop(self, before, key, old, value):
        """A wanted task is stopped for a rollout only while its number is open."""
        name, number = key[1].split("/")
        if old[4] == value[4] or ("service", name) not in before or int(number) not in wanted_tasks(before, name):
            return
        self.test.assertEqual((old[4], value[4]), (0, 1))
        self.test.assertEqual(before[("rollout", name)][2][0], before[("service", name)][0])
        self.test.assertIn(int(number), before[("rollout", name)][2][1])
        self.stopped_by_rollouts += 1

    def check_rollout(self, before, view, name):
        """A number whose task is available is opened only if so few others are open or down."""
        if ("rollout", name) not in view:
            return
        born, _, service = before[("service", name)]
        self.test.assertEqual(view[("rollout", name)][2][0], born)
        old = before.get(("rollout", name), (0, 0, (0, ())))[2]
        known = old[1] if old[0] == born else ()
        numbers = view[("rollout", name)][2][1]
        available = available_numbers(before, name)
        down = [number for number in range(service[0]) if number not in available]
        opened = [number for number in numbers if number not in known]
        if opened:
            self.test.assertLessEqual(len(numbers), service[3])
        if [number for number in opened if number in available]:
            self.test.assertLessEqual(len(set(numbers) | set(down)), service[3])

    def check_deleted_note(self, before, key):
        """A note is kept as long as its owner; those that a person may forget have names that begin with f."""
        _, _, (_, kind, name, born) = before[key]
        if key[1][0] != "f":
            self.test.assertNotEqual(kind, "")
            self.test.assertNotEqual(before.get((kind, name), (None,))[0], born)
            self.deleted_notes += 1


class Cluster:
    """All actors with their clocks, and the letters that are on the way."""

    def __init__(self, test, chance, host, count, *, feed=12, wait=None, sizes=(6, 6, 6), schedulers=2):
        self.test = test
        self.chance = chance
        self.feed = feed
        self.wait = wait or safe_wait(feed)
        self.boots = 0
        self.letters = []
        self.history = History(test)
        self.sequence = {}
        self.accepted = {}
        self.seen = {}
        replicas = tuple("r" + str(at + 1) for at in range(count))
        self.hosts = {name: host(name, replicas) for name in replicas}
        self.engines = {}
        self.properties = {}
        for at, size in enumerate(sizes):
            self.engines["w" + str(at + 1)] = Engine()
            self.properties["w" + str(at + 1)] = (size, ("", "", "z")[at])
        self.watching = ["m1", "m2"]
        self.actors = {name: None for name in list(FRONTS) + self.watching + ["p1"] + list(self.engines)}
        self.actors.update({"s" + str(at + 1): None for at in range(schedulers)})
        self.dead = []
        # Those who hear nothing and are not heard.
        self.alone = []
        self.failures = chance.choice((0, 0.0005, 0.001, 0.003))
        self.fair = {(manager, worker): Fair() for manager in self.watching for worker in self.engines}
        # The clocks of the replicas are slower, so that these do not always look for another leader.
        self.clocks = list(self.hosts) + [name for name in self.actors for _ in range(chance.choice((2, 2, 3, 5)))]
        for name in self.actors:
            self.start(name)

    def names(self):
        return list(self.hosts) + list(self.actors)

    def start(self, name):
        self.boots += 1
        boot = self.boots
        self.seen.pop(name, None)
        if name in FRONTS:
            self.actors[name] = Front(name, list(self.hosts), self.chance.choice((0, 3, 100)), boot)
        elif name[0] == "m":
            self.actors[name] = Manager(name, FRONTS, self.wait, boot)
        elif name[0] == "s":
            self.actors[name] = Scheduler(name, FRONTS, boot)
        elif name[0] == "p":
            commands = self.actors[name].commands if self.actors[name] else []
            self.actors[name] = Person(name, boot)
            self.actors[name].commands = commands
        else:
            size, zone = self.properties[name]
            running = list(self.engines[name].runs)
            self.chance.shuffle(running)
            self.actors[name] = Worker(name, FRONTS, size, zone, self.feed, boot, tuple(running))
            self.do(name, self.actors[name].begin())
            self.test.assertEqual(self.engines[name].runs, {})

    def fall(self, name):
        """An actor fails; whatever it knew is gone. A worker may be down for a while, its engine goes on."""
        if name in self.hosts:
            self.hosts[name].fail(self.chance)
        elif name in self.engines and self.actors[name] is not None:
            self.actors[name] = None
        else:
            self.start(name)

    def may_tick(self, name):
        places = [(pair, pair.index(name)) for pair in self.fair if name in pair]
        return all(self.fair[pair].may_tick(place) for pair, place in places)

    def tick(self, name):
        for pair, fair in self.fair.items():
            if name in pair:
                fair.tick(pair.index(name))
        if name in self.engines:
            self.engines[name].tick()
        self.run(name, ("tick",))

    def run(self, name, event):
        """Give an event to an actor, unless it is down, and do its effects."""
        if name in self.hosts:
            sent, stored = self.hosts[name].do(event)
            for record in stored:
                if record[0] == "accepted":
                    self.accepted[record[2]] = record[3]
            self.do(name, [("send",) + letter for letter in sent])
            self.see(self.hosts[name])
        elif self.actors[name] is not None:
            self.do(name, self.actors[name].handle(event))
            self.check_cache(name)

    def do(self, name, effects):
        for effect in effects:
            if effect[0] == "send":
                self.test.assertNotEqual(effect[1], name)
                self.letters.append((name, effect[1], effect[2]))
                if effect[2][0] == "chosen":
                    self.test.assertEqual(self.sequence.setdefault(effect[2][1], effect[2][2]), effect[2][2])
            else:
                self.engines[name].do(effect)
                if effect[0] == "run":
                    self.check_run(name, effect)
        if name in self.engines:
            self.check_engine(name)

    def check_run(self, name, effect):
        """It began, and was bound to this life of its node by a transaction that the store did."""
        self.test.assertIn(effect[1], self.engines[name].runs)
        self.test.assertIn((effect[1], name, self.actors[name].life), self.history.ran)

    def check_engine(self, name):
        engine = self.engines[name]
        slots = [slot for other in self.engines.values() for slot in other.runs]
        self.test.assertEqual(len(slots), len(set(slots)), slots)
        self.test.assertLessEqual(sum(size for _, size in engine.runs.values()), self.properties[name][0])
        worker = self.actors[name]
        # The worker knows what its engine runs, and for how long it is fed.
        self.test.assertEqual(sorted(engine.runs), worker.runs.slots())
        if worker.fed_until:
            self.test.assertEqual(engine.watchdog, max(0, worker.fed_until - worker.clock))

    def see(self, host):
        """A replica's state is that of the store at its place in the one sequence of all values."""
        applied, revision, _ = host.replica.look()
        if self.seen.get(host.name) == applied:
            return
        self.seen[host.name] = applied
        while len(self.history_slots()) < applied:
            self.next_value(host)
        entries = self.states[applied][1]
        self.test.assertEqual((revision, host.replica.dump()[0][1]), (self.states[applied][0], entries))

    states = None

    def history_slots(self):
        """The slots that the history has applied; the state before the first one is that of an empty store."""
        if self.states is None:
            self.states = [(0, ())]
        return self.states[1:]

    def next_value(self, host):
        slot = len(self.states) - 1
        value = self.sequence.get(slot, self.accepted.get(slot, host.value_at(slot)))
        self.history.apply(value)
        self.states.append((self.history.store.revision, tuple(self.history.store.entries())))

    def check_cache(self, name):
        actor = self.actors[name]
        if name[0] == "m":
            cache = actor._follower.cache
        elif name in FRONTS:
            cache = actor.cache
        else:
            cache = actor.follower.cache
        # A cache is a state that the store had, and its revision never decreases.
        known = self.seen.get(name, (0, False))
        if (cache.revision, cache.ready) != known:
            self.test.assertGreaterEqual(cache.revision, known[0])
            self.test.assertEqual(cache.view, self.history.views[cache.revision])
            self.seen[name] = (cache.revision, cache.ready)

    def step(self):
        chance = self.chance
        chosen = chance.random()
        if chosen < 0.2:
            self.tick_one()
        elif chosen < 0.35:
            name = chance.choice(list(self.hosts))
            self.run(name, self.hosts[name].settle(chance))
        elif chosen < 0.35 + self.failures:
            self.fall(chance.choice([name for name in self.names() if name not in self.dead]))
        elif chosen < 0.357:
            self.end_a_run()
        elif chosen < 0.36:
            if len(self.actors["p1"].commands) < 5:
                self.command(self.random_command())
        elif self.letters:
            self.deliver()

    def tick_one(self):
        """Some clock ticks; some are slower than others, as far as they may be."""
        name = self.chance.choice(self.clocks)
        while not self.may_tick(name):
            name = self.chance.choice(self.clocks)
        self.tick(name)

    def end_a_run(self):
        """A run ends by itself; a worker that is down does not hear of it."""
        name = self.chance.choice(list(self.engines))
        if self.engines[name].runs:
            slot = self.chance.choice(sorted(self.engines[name].runs))
            del self.engines[name].runs[slot]
            if self.actors[name] is not None:
                self.run(name, ("ended", slot))

    def deliver(self):
        at = self.chance.randrange(len(self.letters))
        sender, receiver, letter = self.letters[at]
        chosen = self.chance.random()
        if chosen < 0.93 or len(self.letters) > MOST_LETTERS:
            self.letters[at] = self.letters[-1]
            self.letters.pop()
        if chosen >= 0.04:
            self.receive(sender, receiver, letter)

    def receive(self, sender, receiver, letter):
        if sender not in self.alone and receiver not in self.alone:
            self.run(receiver, ("letter", sender, letter))

    def rage(self, steps):
        """Steps in which letters are lost, actors fail and clocks drift."""
        for _ in range(steps):
            self.step()

    def drift(self, slow, steps):
        """Steps in which nothing fails, but the clock of one engine is as slow as it may be."""
        self.failures = 0
        self.clocks = [name for name in self.names() for _ in range(1 if name == slow else 20 if name[0] == "m" else 5)]
        for _ in range(steps):
            self.tick_one()
            # What is sent arrives soon.
            for _ in range(12):
                if self.letters:
                    self.receive(*self.letters.pop(self.chance.randrange(len(self.letters))))
                self.run("r1", self.hosts["r1"].settle(None))

    def kill(self, name):
        """A worker is down for good; its engine goes on by itself."""
        self.actors[name] = None
        self.dead.append(name)

    def round(self):
        """Each actor that is not dead has one tick, and all letters on the way arrive."""
        for name in self.names():
            if name in self.actors and self.actors[name] is None and name not in self.dead:
                self.start(name)
            if not self.may_tick(name):
                continue
            self.tick(name)
        for _ in range(8):
            letters = self.letters
            self.letters = []
            for sender, receiver, letter in letters:
                self.receive(sender, receiver, letter)
            for name in self.hosts:
                for _ in range(3):
                    self.run(name, self.hosts[name].settle(None))

    def calm(self, most=400):
        """Rounds in which nothing is lost until all is as it has to be; returns the last view."""
        # What happened before may come to light late: a node is declared lost only after a while.
        for _ in range(self.wait + 10):
            self.round()
        for _ in range(most // 5):
            if not self.missing():
                break
            for _ in range(5):
                self.round()
        # It stays so.
        for _ in range(3):
            self.round()
        self.test.assertEqual(self.missing(), [])
        self.check_report()
        return self.history.views[-1]

    def missing(self):
        """What is not yet as it has to be, as a list of reasons."""
        view = self.history.views[-1]
        reasons = ["to do: " + command for command in self.actors["p1"].commands]
        if self.actors["p1"].caller.busy:
            reasons.append("a command is under way")
        reasons += self.missing_runs(view)
        services = [name for kind, name in view if kind == "service"]
        for name in services:
            reasons += self.missing_tasks(view, name)
        for kind, name in view:
            if kind == "task" and (name[:-2] not in services or int(name[-1]) not in wanted_tasks(view, name[:-2])):
                reasons.append("not wanted: " + name)
            if kind == "note":
                _, owner_kind, owner, born = view[(kind, name)][2]
                if owner_kind and view.get((owner_kind, owner), (None,))[0] != born:
                    reasons.append("a lost note: " + name)
            if kind == "rollout" and (name not in services or view[("service", name)][0] != view[(kind, name)][2][0]):
                reasons.append("a rollout of nothing: " + name)
        return reasons

    def missing_runs(self, view):
        """The engines run the tasks that run in the store, and those only."""
        tasks = {name: entry[2] for (kind, name), entry in view.items() if kind == "task"}
        declared = {(value[5], name): (value[1], value[2]) for name, value in tasks.items()
                    if value[3:5] == ("running", 0) and value[5] not in self.dead}
        running = {(name, slot): run for name, engine in self.engines.items() for slot, run in engine.runs.items()}
        reasons = [] if declared == running else ["other runs than declared"]
        for name, value in tasks.items():
            if value[3] == "bound" or value[4] == 1 and value[3] != "new" or value[5] in self.dead:
                reasons.append("on its way: " + name)
        return reasons

    def missing_tasks(self, view, name):
        """Each number has a task, and what is not on a node fits on none; only then a rollout may wait."""
        _, _, (count, text, size, _, zone) = view[("service", name)]
        tasks = wanted_tasks(view, name)
        reasons = ["no task: " + name] if sorted(tasks) != list(range(count)) else []
        nodes = [(value[2], ("drain", key[1]) in view) for key, value in view.items() if key[0] == "node"]
        homeless = [value for value in tasks.values() if value[3] == "new"]
        for value in homeless:
            if any(fits(value, node, drained, 0) for node, drained in nodes):
                reasons.append("it would fit: " + name)
        for value in tasks.values():
            is_old = (value[1], value[2], value[7]) != (text, size, zone) or ("drain", value[5]) in view
            if is_old and (not homeless or value[3] == "new"):
                reasons.append("not replaced: " + name)
        return reasons

    def check_report(self):
        rows = report_rows(self.history.views[-1])
        self.test.assertEqual(read_report(write_report(rows)), rows)

    def command(self, *lines):
        self.actors["p1"].commands += lines

    def random_command(self):
        """A line that declares, scales, drains or notes something."""
        chance = self.chance
        name = chance.choice("abc")
        node = chance.choice(list(self.engines))
        note = chance.choice(("k1", "k2", "k3", "f1", "f2"))
        chosen = chance.randrange(13)
        if chosen < 4:
            return " ".join(["declare", name, "count", str(chance.randrange(5)), "text", chance.choice(("x", '"y z"')),
                             "size", str(chance.randrange(4)), "gone", str(chance.randrange(1, 4)),
                             "zone", chance.choice(('""', '""', '""', "z"))])
        owners = ("service " + name, "task " + name + "/0", "drain " + node, "node " + node, "note " + note)
        owner = chance.choice(owners)
        return ("scale " + name + " " + str(chance.randrange(5)),
                "declare " + name + " text v" + str(chance.randrange(9)),
                "remove " + name, "drain " + node + " because repair", "undrain " + node, "undrain " + node,
                "note " + note + " owner " + owner + " text why", "note " + note + " owner " + owner,
                "forget " + chance.choice(("f1", "f2")))[chosen - 4]
