"""The form of the package's code, as far as it can be checked simply; some rules are checked more narrowly."""

import ast
import builtins
import io
import pathlib
import re
import tokenize
import unittest

PACKAGE = pathlib.Path(__file__).resolve().parent.parent / "majordomo"

ALLOWED_BUILTINS = set("""
    len range enumerate zip min max sum abs sorted reversed int str bool list tuple dict isinstance ord repr any all
    divmod property staticmethod classmethod super Exception ValueError TypeError KeyError IndexError LookupError
    ZeroDivisionError
""".split())
ALLOWED_METHODS = set("""
    append clear copy count endswith extend find get index insert isalnum isalpha isdigit islower isspace isupper items
    join keys ljust lower lstrip partition pop remove replace reverse rfind rjust rpartition rsplit rstrip setdefault
    split splitlines startswith strip update upper values zfill bit_length
""".split())
ALLOWED_SPECIAL = {"__init__", "__eq__", "__repr__", "__str__", "__len__"}
BARRED_NAMES = set("""
    register mro elements open input law version_info with_traceback add_note attrgetter breakpoint builtins compile
    copyright credits delattr dir eval exec exit gc globals help id importlib license locals methodcaller os quit vars
    sys
""".split())
BARRED_WORDS = set("""
    type typing typing_extensions enum Enum IntEnum StrEnum Flag IntFlag Generic Protocol ABC ABCMeta namedtuple
    NamedTuple TypedDict TYPE_CHECKING abstractmethod dataclass overload contextmanager
""".split())
BARRED_NODES = (
    ast.Global, ast.AsyncFunctionDef, ast.Await, ast.Set, ast.SetComp, ast.GeneratorExp, ast.Yield, ast.YieldFrom,
    ast.With, ast.AnnAssign, ast.NamedExpr, ast.Div, ast.MatMult, ast.Import,
)


def files():
    return sorted(PACKAGE.glob("*.py"))


def tree_of(path):
    return ast.parse(path.read_text())


def strings_of(tree):
    return [node for node in ast.walk(tree) if isinstance(node, ast.Constant) and isinstance(node.value, str)]


def plain_names(tree):
    """The names of all parameters, and of all variables that are assigned."""
    names = [node.arg for node in ast.walk(tree) if isinstance(node, ast.arg)]
    return names + [node.id for node in ast.walk(tree)
                    if isinstance(node, ast.Name) and not isinstance(node.ctx, ast.Load)]


def captured_names(tree):
    """The names that the patterns of cases bind."""
    return [node.name for node in ast.walk(tree) if isinstance(node, ast.MatchAs) and node.name]


def bound_names(tree):
    """The names of all parameters and variables of functions and modules."""
    return plain_names(tree) + captured_names(tree)


def defined_names(tree):
    names = [node.name for node in tree.body if isinstance(node, (ast.FunctionDef, ast.ClassDef))]
    return names + [node.targets[0].id for node in tree.body if isinstance(node, ast.Assign)]


def imports_of(tree):
    return [node for node in ast.walk(tree) if isinstance(node, ast.ImportFrom)]


class TestFiles(unittest.TestCase):
    def test_the_package_holds_only_python_files_with_plain_names(self):
        for path in PACKAGE.iterdir():
            if path.name != "__pycache__":
                self.assertTrue(path.is_file() and re.fullmatch("[a-z0-9_]+[.]py", path.name), path.name)
        self.assertTrue((PACKAGE / "__init__.py").is_file())

    def test_characters_and_sizes(self):
        for path in files():
            text = path.read_bytes().decode("ascii")
            self.assertTrue(all(character == "\n" or " " <= character <= "~" for character in text), path.name)
            self.assertTrue(text.endswith("\n"))
            lines = text.splitlines()
            self.assertLessEqual(len(lines), 399, path.name)
            self.assertLessEqual(max(len(line) for line in lines), 120, path.name)

    def test_functions_have_at_most_40_lines(self):
        for path in files():
            for node in ast.walk(tree_of(path)):
                if isinstance(node, ast.FunctionDef):
                    self.assertLessEqual(node.end_lineno - node.lineno + 1, 40, (path.name, node.name))


class TestModules(unittest.TestCase):
    def test_module_level(self):
        for path in files():
            seen = []
            for at, node in enumerate(tree_of(path).body):
                if isinstance(node, ast.Expr):
                    self.assertTrue(at == 0 and isinstance(node.value, ast.Constant), path.name)
                elif isinstance(node, ast.Assign):
                    self.assertEqual(len(node.targets), 1, path.name)
                    self.assertIsInstance(node.targets[0], ast.Name, path.name)
                    calls = [part for part in ast.walk(node.value) if isinstance(part, (ast.Call, ast.Lambda))]
                    self.assertEqual(calls, [], path.name)
                else:
                    self.assertIsInstance(node, (ast.ImportFrom, ast.FunctionDef, ast.ClassDef), path.name)
            names = defined_names(tree_of(path))
            for node in imports_of(tree_of(path)):
                names += [alias.name for alias in node.names]
            self.assertEqual(len(names), len(set(names)), (path.name, seen))

    def test_imports(self):
        for path in files():
            for node in imports_of(tree_of(path)):
                self.assertEqual((node.level, node.module.split(".")[0], node.col_offset), (0, "majordomo", 0))
                source = PACKAGE / (node.module.split(".")[1] + ".py")
                defined = defined_names(tree_of(source))
                for alias in node.names:
                    self.assertIsNone(alias.asname)
                    self.assertIn(alias.name, defined, (path.name, node.module))

    def test_no_two_files_import_each_other(self):
        wanted = {path.stem: {node.module.split(".")[1] for node in imports_of(tree_of(path))} for path in files()}
        while wanted:
            free = [name for name, others in wanted.items() if not others & set(wanted)]
            self.assertTrue(free, wanted)
            for name in free:
                del wanted[name]

    def test_imports_are_used(self):
        for path in files():
            tree = tree_of(path)
            used = {node.id for node in ast.walk(tree) if isinstance(node, ast.Name)}
            for node in imports_of(tree):
                for alias in node.names:
                    self.assertIn(alias.name, used, path.name)


class TestStatements(unittest.TestCase):
    def test_barred_statements_and_expressions(self):
        for path in files():
            for node in ast.walk(tree_of(path)):
                self.assertNotIsInstance(node, BARRED_NODES, (path.name, getattr(node, "lineno", 0)))
                if isinstance(node, ast.Constant):
                    self.assertNotIsInstance(node.value, (float, complex, bytes), path.name)
                if isinstance(node, ast.BinOp) and isinstance(node.op, ast.Pow):
                    self.assertTrue(isinstance(node.right, ast.Constant) and 0 <= node.right.value <= 64, path.name)

    def test_patterns(self):
        allowed = (ast.MatchSequence, ast.MatchValue, ast.MatchAs, ast.MatchSingleton, ast.MatchOr)
        for path in files():
            for node in ast.walk(tree_of(path)):
                if isinstance(node, ast.pattern):
                    self.assertIsInstance(node, allowed, path.name)
                if isinstance(node, ast.MatchOr):
                    self.assertTrue(all(isinstance(part, ast.MatchValue) for part in node.patterns), path.name)
                if isinstance(node, ast.Match):
                    catching = [isinstance(case.pattern, ast.MatchAs) for case in node.cases]
                    self.assertNotIn(True, catching[:-1], path.name)
                if isinstance(node, ast.FunctionDef):
                    captured = set(captured_names(node))
                    # A captured name has no other meaning in its function.
                    self.assertEqual(captured & set(plain_names(node)), set(), (path.name, node.name))

    def test_decorators(self):
        for path in files():
            for node in ast.walk(tree_of(path)):
                if isinstance(node, (ast.FunctionDef, ast.ClassDef)):
                    for decorator in node.decorator_list:
                        name = getattr(decorator, "id", getattr(decorator, "attr", ""))
                        self.assertIn(name, ("staticmethod", "classmethod", "property", "setter"), path.name)

    def test_identity(self):
        for path in files():
            for node in ast.walk(tree_of(path)):
                if isinstance(node, ast.Compare):
                    for operator, right in zip(node.ops, node.comparators):
                        if isinstance(operator, (ast.Is, ast.IsNot)):
                            self.assertIn(getattr(right, "value", 1), (None, True, False), path.name)

    def test_errors(self):
        own = defined_names(tree_of(PACKAGE / "errors.py"))
        for path in files():
            for node in ast.walk(tree_of(path)):
                if isinstance(node, ast.Raise) and node.exc is not None:
                    self.assertIsInstance(node.exc, ast.Call, path.name)
                    self.assertIn(node.exc.func.id, own, path.name)
                if isinstance(node, ast.ExceptHandler):
                    self.assertIn(node.type.id, own + ["KeyError", "ZeroDivisionError"], path.name)


class TestNames(unittest.TestCase):
    def test_builtins(self):
        for path in files():
            tree = tree_of(path)
            for node in ast.walk(tree):
                if isinstance(node, ast.Name) and hasattr(builtins, node.id):
                    self.assertIn(node.id, ALLOWED_BUILTINS, path.name)
            for name in bound_names(tree) + defined_names(tree):
                self.assertFalse(hasattr(builtins, name), (path.name, name))

    def test_methods_of_builtin_values(self):
        own = {node.name for path in files() for node in ast.walk(tree_of(path)) if isinstance(node, ast.FunctionDef)}
        for path in files():
            for node in ast.walk(tree_of(path)):
                if isinstance(node, ast.Call) and isinstance(node.func, ast.Attribute):
                    self.assertIn(node.func.attr, ALLOWED_METHODS | own, path.name)

    def test_names_do_not_hide_classes_and_imports(self):
        for path in files():
            tree = tree_of(path)
            taken = {alias.name for node in imports_of(tree) for alias in node.names}
            taken |= {node.name for node in tree.body if isinstance(node, (ast.ClassDef, ast.FunctionDef))}
            self.assertEqual(taken & set(bound_names(tree)), set(), path.name)

    def test_plain_names(self):
        for path in files():
            tree = tree_of(path)
            names = bound_names(tree) + [node.attr for node in ast.walk(tree) if isinstance(node, ast.Attribute)]
            names += [node.name for node in ast.walk(tree) if isinstance(node, (ast.FunctionDef, ast.ClassDef))]
            for name in names:
                if name not in ALLOWED_SPECIAL and name != "_":
                    self.assertTrue(re.fullmatch("_?[A-Za-z][A-Za-z0-9_]*", name), (path.name, name))
                self.assertNotIn(name, BARRED_NAMES, path.name)

    def test_underscore_is_not_read(self):
        for path in files():
            for node in ast.walk(tree_of(path)):
                if isinstance(node, ast.Name) and node.id == "_":
                    self.assertIsInstance(node.ctx, ast.Store, path.name)

    def test_a_name_is_not_both_a_method_and_an_attribute(self):
        for path in files():
            for node in tree_of(path).body:
                if isinstance(node, ast.ClassDef):
                    methods = [part.name for part in node.body if isinstance(part, ast.FunctionDef)]
                    self.assertEqual(len(methods), len(set(methods)), path.name)
                    stored = {part.attr for part in ast.walk(node)
                              if isinstance(part, ast.Attribute) and isinstance(part.ctx, ast.Store)}
                    self.assertEqual(stored & set(methods), set(), path.name)


class TestStrings(unittest.TestCase):
    def test_contents(self):
        for path in files():
            for node in strings_of(tree_of(path)):
                self.assertNotIn("%", node.value, path.name)
                self.assertFalse(node.value.endswith(("._", ".__")), path.name)
                self.assertFalse(node.value.startswith("__"), path.name)

    def test_escapes(self):
        for path in files():
            for token in tokenize.generate_tokens(io.StringIO(path.read_text()).readline):
                if token.type == tokenize.STRING:
                    for escape in re.findall(r"\\(.)", token.string):
                        self.assertIn(escape, "nt\\\"'", path.name)

    def test_barred_words(self):
        for path in files():
            for token in tokenize.generate_tokens(io.StringIO(path.read_text()).readline):
                is_docstring = token.type == tokenize.STRING and token.string.startswith('"""')
                if token.type in (tokenize.NAME, tokenize.STRING) and not is_docstring:
                    words = set(re.findall("[A-Za-z_]+", token.string))
                    self.assertEqual(words & BARRED_WORDS, set(), path.name)


if __name__ == "__main__":
    unittest.main()
