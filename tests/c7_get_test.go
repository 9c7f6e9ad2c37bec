package tests

import (
	"math/rand"
	"slices"
	"strings"
	"testing"

	"loop.example/slowworm/impl"
)

// stmt returns a statement of a kind with a Name and expressions that are told by trees.
func stmt(kind int, name string, trees ...string) impl.Stmt {
	s := impl.Stmt{Kind: kind, Name: name}
	for _, one := range trees {
		s.Exprs = append(s.Exprs, tree(one))
	}
	return s
}

// with returns a statement with a Body and an Else.
func with(s impl.Stmt, body []impl.Stmt, orElse []impl.Stmt) impl.Stmt {
	s.Body, s.Else = body, orElse
	return s
}

// named returns a statement with Names, told by a text with spaces between them.
func named(s impl.Stmt, names string) impl.Stmt {
	s.Names = strings.Fields(names)
	return s
}

// block returns statements.
func block(list ...impl.Stmt) []impl.Stmt {
	return list
}

// hand returns a handler with a test that is told by a tree, or without one.
func hand(test string, name string, body ...impl.Stmt) impl.Hand {
	h := impl.Hand{Name: name, Body: body}
	if test != "" {
		h.Exprs = []impl.Expr{tree(test)}
	}
	return h
}

// tried returns a try with handlers and a Last.
func tried(s impl.Stmt, last []impl.Stmt, hands ...impl.Hand) impl.Stmt {
	s.Hands, s.Last = hands, last
	return s
}

// checkUnread checks that texts tell no valid program.
func checkUnread(t *testing.T, texts ...string) {
	t.Helper()
	for _, text := range texts {
		if list, ok := impl.ProgGet(text); ok || len(list) > 0 {
			t.Errorf("ProgGet(%.200q) = %s, %t", text, shownProg(list), ok)
		}
	}
}

// toldProg is a text and what it must be read as.
type toldProg struct {
	text string
	list []impl.Stmt
}

// checkTold holds what texts are read as against programs.
func checkTold(t *testing.T, cases []toldProg) {
	t.Helper()
	for _, c := range cases {
		if list, ok := impl.ProgGet(c.text); !ok || !equalProgs(list, c.list) {
			t.Errorf("ProgGet(%q) = %s, %t, want %s", c.text, shownProg(list), ok, shownProg(c.list))
		}
	}
}

func TestProgGetOfLines(t *testing.T) {
	pass := block(stmt(12, ""))
	checkTold(t, []toldProg{
		{"", nil}, {"\n", nil}, {"  \n\n", nil}, {"# a", nil}, {"  # if a:\n\n", nil}, {"a", block(stmt(1, "", "a"))}, {"a\n", block(stmt(1, "", "a"))}, {"a\nb\n1", block(stmt(1, "", "a"), stmt(1, "", "b"), stmt(1, "", "1"))}, {"\n\na # b\n\n# c\nb", block(stmt(1, "", "a"), stmt(1, "", "b"))},
		{"f(a, x=1)", block(stmt(1, "", "(call f a x= 1)"))}, {"a if b else c", block(stmt(1, "", "(if a b c)"))}, {"lambda x, y: x", block(stmt(1, "", "(lambda:x,y x)"))}, {"not a", block(stmt(1, "", "(not a)"))}, {"[\n]", block(stmt(1, "", "(list)"))}, {"f(\n  a\n)\nb", block(stmt(1, "", "(call f a)"), stmt(1, "", "b"))},
		{"a = b", block(stmt(2, "", "a", "b"))}, {"a=1", block(stmt(2, "", "a", "1"))}, {"a[0] = b", block(stmt(2, "", "(index a 0)", "b"))}, {"a.x = b.y", block(stmt(2, "", "(attr.x a)", "(attr.y b)"))}, {"(a) = (b)", block(stmt(2, "", "a", "b"))}, {"((a.x)) = b", block(stmt(2, "", "(attr.x a)", "b"))}, {"a = b == c", block(stmt(2, "", "a", "(== b c)"))},
		{"a = lambda: b", block(stmt(2, "", "a", "(lambda: b)"))}, {"a = f(x=1)", block(stmt(2, "", "a", "(call f x= 1)"))}, {"f(x=1).y = 2", block(stmt(2, "", "(attr.y (call f x= 1))", "2"))}, {"(a + b)[c] = d", block(stmt(2, "", "(index (+ a b) c)", "d"))}, {"a[b if c else d] = e", block(stmt(2, "", "(index a (if b c d))", "e"))},
		{"a += b", block(stmt(3, "+", "a", "b"))}, {"a-=b", block(stmt(3, "-", "a", "b"))}, {"a *= b", block(stmt(3, "*", "a", "b"))}, {"a.x += 1", block(stmt(3, "+", "(attr.x a)", "1"))}, {"a[0]-=-1", block(stmt(3, "-", "(index a 0)", "(- 1)"))}, {"(a) *= lambda: b", block(stmt(3, "*", "a", "(lambda: b)"))},
		{"raise", block(stmt(10, ""))}, {"raise a", block(stmt(10, "", "a"))}, {"raise (a)", block(stmt(10, "", "a"))}, {"raise a if b else c", block(stmt(10, "", "(if a b c)"))}, {"raise(a)(b)", block(stmt(10, "", "(call a b)"))}, {"pass", pass}, {"pass # a", pass},
		{"del a", block(stmt(17, "", "a"))}, {"del (a)", block(stmt(17, "", "a"))}, {"del a[0]", block(stmt(17, "", "(index a 0)"))}, {"del a.b.c", block(stmt(17, "", "(attr.c (attr.b a))"))}, {"del(a)[b]", block(stmt(17, "", "(index a b)"))}, {"import a", block(stmt(18, "a"))}, {"import twelve_bytes", block(stmt(18, "twelve_bytes"))},
		{"assert a", block(stmt(19, "", "a"))}, {"assert a, b", block(stmt(19, "", "a", "b"))}, {"assert(a),(b)", block(stmt(19, "", "a", "b"))}, {"assert a == b, 'c'", block(stmt(19, "", "(== a b)", "'c'"))}, {"assert f(a, b)", block(stmt(19, "", "(call f a b)"))},
	})
	inDef := func(s ...impl.Stmt) []impl.Stmt { return block(with(stmt(7, "f"), s, nil)) }
	checkTold(t, []toldProg{
		{"def f():\n return", inDef(stmt(9, ""))}, {"def f():\n return a", inDef(stmt(9, "", "a"))}, {"def f():\n return not a", inDef(stmt(9, "", "(not a)"))}, {"def f():\n return(a)", inDef(stmt(9, "", "a"))}, {"def f():\n return (yield a)", inDef(stmt(9, "", "(yield a)"))}, {"def f():\n yield a", inDef(stmt(1, "", "(yield a)"))},
		{"def f():\n x = yield a", inDef(stmt(2, "", "x", "(yield a)"))}, {"def f():\n x -= yield a", inDef(stmt(3, "-", "x", "(yield a)"))}, {"def f():\n (yield a).x = b", inDef(stmt(2, "", "(attr.x (yield a))", "b"))},
		{"def f():\n global a", inDef(named(stmt(15, ""), "a"))}, {"def f():\n global a, b,c", inDef(named(stmt(15, ""), "a b c"))}, {"def f():\n nonlocal a", inDef(named(stmt(16, ""), "a"))}, {"def f():\n nonlocal b , a , b", inDef(named(stmt(16, ""), "b a b"))},
	})
}

func TestProgGetOfBlocks(t *testing.T) {
	a, b, c, d := block(stmt(1, "", "a")), block(stmt(1, "", "b")), block(stmt(1, "", "c")), block(stmt(1, "", "d"))
	pass := block(stmt(12, ""))
	checkTold(t, []toldProg{
		{"if a:\n b", block(with(stmt(4, "", "a"), b, nil))}, {"if a :\n    b\n    c\n", block(with(stmt(4, "", "a"), slices.Concat(b, c), nil))}, {"if (a):\n  b\nc", append(block(with(stmt(4, "", "a"), b, nil)), c...)}, {"if a:\n b\nelse:\n c", block(with(stmt(4, "", "a"), b, c))},
		{"if a:\n b\nelif c:\n d", block(with(stmt(4, "", "a"), b, block(with(stmt(4, "", "c"), d, nil))))}, {"if a:\n b\nelse:\n if c:\n  d", block(with(stmt(4, "", "a"), b, block(with(stmt(4, "", "c"), d, nil))))}, {"if a:\n b\nelif c:\n d\nelse:\n pass", block(with(stmt(4, "", "a"), b, block(with(stmt(4, "", "c"), d, pass))))},
		{"if a:\n b\nelse:\n if c:\n  d\n else:\n  pass", block(with(stmt(4, "", "a"), b, block(with(stmt(4, "", "c"), d, pass))))}, {"if a:\n b\nelse:\n if c:\n  d\n pass", block(with(stmt(4, "", "a"), b, append(block(with(stmt(4, "", "c"), d, nil)), pass...)))},
		{"if a:\n b\nelif c:\n d\nelif x:\n pass\nelse:\n a", block(with(stmt(4, "", "a"), b, block(with(stmt(4, "", "c"), d, block(with(stmt(4, "", "x"), pass, a))))))}, {"if a:\n if b:\n  c\n else:\n  d", block(with(stmt(4, "", "a"), block(with(stmt(4, "", "b"), c, d)), nil))}, {"if a:\n if b:\n  c\nelse:\n d", block(with(stmt(4, "", "a"), block(with(stmt(4, "", "b"), c, nil)), d))},
		{"if a:\n if b:\n  c\nelif x:\n d", block(with(stmt(4, "", "a"), block(with(stmt(4, "", "b"), c, nil)), block(with(stmt(4, "", "x"), d, nil))))}, {"if a if b else c:\n d", block(with(stmt(4, "", "(if a b c)"), d, nil))}, {"if (lambda: a):\n b", block(with(stmt(4, "", "(lambda: a)"), b, nil))}, {"if {a: b}:\n c", block(with(stmt(4, "", "(dict a b)"), c, nil))},
		{"while a:\n b", block(with(stmt(5, "", "a"), b, nil))}, {"while a:\n break\nelse:\n c", block(with(stmt(5, "", "a"), block(stmt(13, "")), c))}, {"while not a:\n continue", block(with(stmt(5, "", "(not a)"), block(stmt(14, "")), nil))},
		{"for x in a:\n b", block(with(stmt(6, "x", "a"), b, nil))}, {"for x in [a, b]:\n c\nelse:\n d", block(with(stmt(6, "x", "(list a b)"), c, d))}, {"for x in a in b:\n c", block(with(stmt(6, "x", "(in a b)"), c, nil))}, {"for x in a if b else c:\n d", block(with(stmt(6, "x", "(if a b c)"), d, nil))}, {"for x in(a):\n b", block(with(stmt(6, "x", "a"), b, nil))},
		{"def f():\n a", block(with(stmt(7, "f"), a, nil))}, {"def f ( ) :\n a", block(with(stmt(7, "f"), a, nil))}, {"def f(x):\n a", block(named(with(stmt(7, "f"), a, nil), "x"))}, {"def f(x,y):\n a", block(named(with(stmt(7, "f"), a, nil), "x y"))}, {"def f(x=1):\n a", block(named(with(stmt(7, "f", "1"), a, nil), "x"))},
		{"def f(x, y=1, z = a if b else c):\n a", block(named(with(stmt(7, "f", "1", "(if a b c)"), a, nil), "x y z"))}, {"def f(x=a==b):\n a", block(named(with(stmt(7, "f", "(== a b)"), a, nil), "x"))}, {"def f(\nx,\n\n  # c\ny=(lambda: a)\n):\n a", block(named(with(stmt(7, "f", "(lambda: a)"), a, nil), "x y"))},
		{"class A:\n a", block(with(stmt(8, "A"), a, nil))}, {"class A(b):\n a", block(with(stmt(8, "A", "b"), a, nil))}, {"class A( b,c.d , f() ):\n a", block(with(stmt(8, "A", "b", "(attr.d c)", "(call f)"), a, nil))}, {"class A((b)):\n a", block(with(stmt(8, "A", "b"), a, nil))}, {"class A(not b):\n a", block(with(stmt(8, "A", "(not b)"), a, nil))},
		{"try:\n a\nfinally:\n b", block(tried(with(stmt(11, ""), a, nil), b))}, {"try:\n a\nexcept:\n b", block(tried(with(stmt(11, ""), a, nil), nil, hand("", "", b...)))}, {"try:\n a\nexcept c:\n b", block(tried(with(stmt(11, ""), a, nil), nil, hand("c", "", b...)))},
		{"try:\n a\nexcept c as e:\n b", block(tried(with(stmt(11, ""), a, nil), nil, hand("c", "e", b...)))}, {"try:\n a\nexcept (c) as e:\n b", block(tried(with(stmt(11, ""), a, nil), nil, hand("c", "e", b...)))}, {"try:\n a\nexcept c if a else b as e:\n d", block(tried(with(stmt(11, ""), a, nil), nil, hand("(if c a b)", "e", d...)))},
		{"try :\n a\nexcept x . y as e :\n b\nexcept :\n c\nelse :\n d\nfinally :\n pass", block(tried(with(stmt(11, ""), a, d), pass, hand("(attr.y x)", "e", b...), hand("", "", c...)))}, {"try:\n a\nexcept x:\n b\nexcept y as e:\n c\nexcept z:\n d", block(tried(with(stmt(11, ""), a, nil), nil, hand("x", "", b...), hand("y", "e", c...), hand("z", "", d...)))},
		{"try:\n try:\n  a\n except:\n  b\nexcept:\n c\nelse:\n d", block(tried(with(stmt(11, ""), block(tried(with(stmt(11, ""), a, nil), nil, hand("", "", b...))), d), nil, hand("", "", c...)))},
		{"if a:\n b\n\n\n  # c\nelse:\n\n c\n   \n", block(with(stmt(4, "", "a"), b, c))}, {"if a: # b\n# c\n       # d\n b # e\n", block(with(stmt(4, "", "a"), b, nil))}, {"if f(a,\n   b):\n      c\n", block(with(stmt(4, "", "(call f a b)"), c, nil))}, {"while a:\n  if b:\n       c\n  d", block(with(stmt(5, "", "a"), append(block(with(stmt(4, "", "b"), c, nil)), d...), nil))},
		{"if a:\n    b\nif b:\n c", block(with(stmt(4, "", "a"), b, nil), with(stmt(4, "", "b"), c, nil))}, {"if a:\n   b\nelse:\n c", block(with(stmt(4, "", "a"), b, c))},
	})
}

func TestProgGetOfNoProgram(t *testing.T) {
	for _, text := range []string{
		"=", "= a", "a =", "a = = b", "a = b = c", "a += ", "a += b += c", "a = b += c", "a + = b", "a ** = b", "a **= b", "a //= b", "a %= b", "a == ", "a b", "a, b", "a, b = c", "a: b", "a := b", "a;b", "-a = b", "a + b = c", "not a = b", "lambda: a = b", "a if b else c = d", "a and b += c", "a ** b = c", "a < b -= c",
		"pass a", "pass pass", "pass()", "pass:", "break a", "continue 1", "a pass", "(pass)", "raise a, b", "raise a b", "raise =", "raise lambda: a", "raise from a", "raise a as b", "del", "del a, b", "del a b", "del -a", "del a + b", "del not a", "del lambda: a", "del a = b", "del ()", "import", "import a, b", "import a.b", "import (a)", "import 'a'", "import 1", "import if", "import a as b", "import a b", "from a import b",
		"assert", "assert a,", "assert a, b, c", "assert , a", "assert a b", "assert lambda: a", "assert a, lambda: b", "assert a = b", "as", "as a", "in a", "is", "and b", "or", "else", "elif a", "except", "finally", "None = a", "a is not b", "a not in b", "yield", "lambda", "if", "while", "for", "def", "class", "try", "(a", "a)", "*a", "@a", "a.b.", "a.1", "1a", ".a", ",", ":", "a:",
	} {
		checkUnread(t, text, text+"\n", "a\n"+text, text+"\na", inserted("if a:\n ?", text), inserted("def f():\n a\n ?\n b", text))
	}
	for _, text := range []string{
		"return a, b", "return a b", "return lambda: a", "return yield a", "return = a", "return return", "global", "global a,", "global a b", "global , a", "global a, 1", "global (a)", "global a.b", "global a = b", "global 'a'", "global if", "global a,, b", "nonlocal", "nonlocal a,", "nonlocal a b", "nonlocal 1", "nonlocal a[0]", "nonlocal None",
		"yield", "yield a, b", "yield yield a", "yield lambda: a", "x = yield", "yield a = b", "x = y = yield a",
	} {
		checkUnread(t, text, inserted("def f():\n ?", text), inserted("def f():\n ?\n a", text), inserted("def f():\n while a:\n  ?", text))
	}
}

func TestProgGetOfNoBlocks(t *testing.T) {
	for _, head := range []string{"if a:", "while a:", "for x in a:", "def f():", "class A:", "if a:\n b\nelse:", "if a:\n b\nelif c:", "while a:\n b\nelse:", "for x in a:\n b\nelse:", "try:\n a\nexcept:", "try:\n a\nexcept A:", "try:\n a\nexcept A as e:", "try:\n a\nfinally:", "try:\n a\nexcept:\n b\nelse:", "try:\n a\nexcept:\n b\nfinally:"} {
		bare := strings.TrimSuffix(head, ":")
		checkFine(t, head+"\n b", head+"\n b\n", head+"\n\n  # c\n    b\n\n", head+" # c\n b", head+"\n b\nc", head+"\n b\n c\n\n\nd", head+"\n if b:\n  c", bare+"  :\n b")
		// A block has a line, at a depth of its own, and stands below its line.
		checkUnread(t, head, head+"\n", head+"\nb", head+"\nb\n", head+" b", head+" b\n", head+" pass", head+" b\n c", head+"\n# c\n", head+"\n  # c\n\nb", head+"\n b\n  c", head+"\n  b\n c", head+"\n b\n  c\n d", head+"\n  b\n c\nd", bare, bare+"\n b", bare+"\n b\n", bare+":\n:\n b", bare+"::\n b", bare+" =\n b", bare+", a:\n b", head+"\n :\n", head+"\n b:\n", "  "+head+"\n   b", head+"\n\tb", head+";\n b")
	}
	checkUnread(t, "a\n b", "a\n b\n", " a", "  a\n", " a\nb", "a\n  b\nc", "pass\n pass", "import a\n b", "a = b\n c", "def f():\n return\n  a", "if a:\n b\n  c", "if a:\n  b\n   c\n", "\n\n a", "# c\n  a", "a\n\n  b", "f(a\n)\n b", "if a:\n b\n    if c:\n  d", "if a:\n   b\n  c\nd", "while a:\n    b\n  else:\n    c", "if a:\n b\n else:\n  c", "if a:\n b\n elif c:\n  d", "try:\n a\n except:\n  b", "try:\n  a\n finally:\n  b")
}

func TestProgGetOfHeads(t *testing.T) {
	for _, head := range []string{
		"if", "if a b", "if a, b", "if a = b", "if lambda: a", "if yield a", "if not", "if a:b", "if ()", "if a else b", "while", "while a b", "while a, b", "while lambda: a", "while a = b", "for", "for x", "for x in", "for x a", "for in a", "for x, y in a", "for (x) in a", "for x.y in a", "for x[0] in a", "for 1 in a", "for 'x' in a", "for if in a", "for x in a, b", "for x in lambda: a", "for x in a b", "for x = a",
		"for x of a", "for x not in a", "for x in in a", "def", "def f", "def ()", "def f(", "def f)", "def f(:", "def f(x", "def f x", "def f(x y)", "def f(x,)", "def f(,x)", "def f(,)", "def f(x,,y)", "def f(x=1, y)", "def f(x, y=1, z)", "def f(x=)", "def f(=1)", "def f(1)", "def f('x')", "def f((x))", "def f(x.y)", "def f(x[0])", "def f(if)", "def f(x=lambda: a)", "def f(x=yield a)", "def f(x==1)", "def f(x+=1)", "def f(*x)", "def f(**x)", "def f(x:a)", "def f(x=1 y=2)", "def 1()", "def 'f'()",
		"def if()", "def f.g()", "def f()()", "def f() a", "def f[x]", "def f{}", "def (f)()", "def f(x=1, y=2, 3)", "def f(x = 1 = 2)", "class", "class A()", "class A(", "class A)", "class A(a", "class A a", "class A(a b)", "class A(a,)", "class A(,a)", "class A(,)", "class A(a,,b)", "class A(a=b)", "class A(lambda: a)", "class A(yield a)", "class A(a)(b)", "class A(a) b", "class 1", "class 'A'", "class if", "class A.B", "class (A)", "class A[a]", "class A, B", "class A(*a)",
		"try a", "try a as b", "try()", "elif a", "else", "except", "except a", "finally", "else a", "pass", "a", "return", "break", "lambda", "lambda x", "import a", "raise", "del a", "assert a", "global a", "a = b", "with a", "match a",
	} {
		checkUnread(t, head+":\n a", head+":\n a\n", "b\n"+head+":\n a\nc", head+"\n a", inserted("def f():\n ?", head+":\n a"), head+":")
	}
	for _, head := range []string{"except a, b", "except a b", "except as e", "except a as", "except a as 1", "except a as 'e'", "except a as if", "except a as e, b", "except a as e b", "except a as (e)", "except a as e.f", "except a as e as f", "except lambda: a", "except yield a", "except (a, b)", "except ()", "except a = b", "except a: b", "except *a", "excepta", "except(", "else a", "else if a", "elif a", "finally a", "finally()", "else()", "else(a)"} {
		checkUnread(t, "try:\n a\n"+head+":\n b", "try:\n a\nexcept:\n b\n"+head+":\n c", "try:\n a\n"+head+":\n b\nfinally:\n c")
	}
	for _, head := range []string{"elif", "elif a b", "elif a, b", "elif lambda: a", "elif yield a", "elif a = b", "else a", "else if a", "elseif a", "else if", "elif a: b", "else:", "else()", "except", "except A", "finally", "elif()"} {
		checkUnread(t, "if a:\n b\n"+head+":\n c", "if a:\n b\nelif c:\n d\n"+head+":\n e", "if a:\n b\n"+head+":\n c\nelse:\n d")
	}
}

func TestProgGetOfFollowers(t *testing.T) {
	for _, text := range []string{"elif a:\n b", "else:\n a", "except:\n a", "except A:\n b", "except A as e:\n b", "finally:\n a"} {
		checkUnread(t, text, "a\n"+text, "pass\n"+text+"\n", "def f():\n a\n"+text, "class A:\n a\n"+text, "if a:\n b\nc\n"+text, "if a:\n b\nelse:\n c\n"+text, "try:\n a\nfinally:\n b\n"+text, "try:\n a\nexcept:\n b\nc\n"+text, inserted("if a:\n b\n ?", text), inserted("try:\n ?\nfinally:\n b", text), inserted("def f():\n ?", text))
	}
	checkUnread(t, "while a:\n b\nelif c:\n d", "for x in a:\n b\nelif c:\n d", "try:\n a\nelif c:\n d", "try:\n a\nexcept:\n b\nelif c:\n d", "while a:\n b\nelse:\n c\nelse:\n d", "for x in a:\n b\nelse:\n c\nelse:\n d", "if a:\n b\nelse:\n c\nelse:\n d", "if a:\n b\nelse:\n c\nelif d:\n e", "while a:\n b\nelse:\n c\nelif d:\n e",
		"while a:\n b\nfinally:\n c", "while a:\n b\nexcept:\n c", "if a:\n b\nfinally:\n c", "for x in a:\n b\nexcept:\n c", "try:\n a\nfinally:\n b\nexcept:\n c", "try:\n a\nfinally:\n b\nelse:\n c", "try:\n a\nfinally:\n b\nfinally:\n c", "try:\n a\nelse:\n b\nexcept:\n c", "try:\n a\nexcept:\n b\nelse:\n c\nexcept:\n d", "try:\n a\nexcept:\n b\nelse:\n c\nelse:\n d",
		"try:\n a\nexcept:\n b\nfinally:\n c\nelse:\n d", "try:\n a\nexcept:\n b\nfinally:\n c\nfinally:\n d", "try:\n a", "try:\n a\nb", "try:\n a\nelse:\n b", "try:\n a\nelse:\n b\nfinally:\n c", "if a:\n b\nelif c:\n d\nexcept:\n e", "if a:\n if b:\n  c\n else:\n  d\n else:\n  e", "if a:\n if b:\n  c\n else:\n  d\n elif e:\n  f")
	checkFine(t, "if a:\n if b:\n  c\n else:\n  d\nelse:\n e", "if a:\n if b:\n  c\n else:\n  d\nelif e:\n f", "while a:\n if b:\n  c\nelse:\n d", "try:\n if a:\n  b\nexcept:\n c\nelse:\n d", "for x in a:\n while b:\n  c\n else:\n  d\nelse:\n e", "try:\n try:\n  a\n finally:\n  b\nfinally:\n c", "if a:\n b\nif c:\n d\nelse:\n e")
}

func TestProgGetOfFaults(t *testing.T) {
	for _, text := range []string{"$", "a $", "(", "a)", "[a)", "01", "a = 01", "'a", "a = 'b", "thirteen_byte", "a / b", "a !b", "\"a\"", "a\tb", "f(\n", "a\n)", "if a:\n  b\n c", "a ? b", "\x00", "\u00e9", "if a:\n  b\n c\n", "a\n$", "pass;", "a\r\n", "if a:\n\tb", "def f(:\n a", "x = 'a\nb'"} {
		if _, f := impl.Lex(text); f == (impl.Fault{}) {
			t.Errorf("%q has no fault", text)
		}
		checkUnread(t, text, text+"\n", "a\n"+text, "a = 1\n\n"+text+"\nb")
	}
}

func TestProgGetOfProgramsThatAreNotValid(t *testing.T) {
	checkUnfit(t, "break", "continue", "return", "return 1", "def f():\n a\nreturn", "global a", "nonlocal a", "yield a", "1 = a", "f() += a", "del 1", "try:\n a", "try:\n a\nfinally:\n return", "while a:\n try:\n  b\n finally:\n  break", "def f(a, a):\n b", "lambda: (yield a)", "class A:\n return",
		"a and b and c and d and e and f and g and h", "[[[[[[[a]]]]]]]", "x = [1, 2, 3, 4, 5, 6, 7]", "f(a=1, a=2)", "if a:\n lambda x, x: a", "try:\n a\nexcept:\n b\nexcept:\n c", strings.Repeat("a\n", 81), nestedText("while a:\n ?\n", 6), nestedText("while a:\n ?\n", 60))
	// What lacks ahead of a handler is seen at its end.
	checkUnread(t, "except A as e:\n b", "try:\n a\nexcept as e:\n b")
}

// TestProgGetOfMaxLengths has texts of as many bytes and tokens as there may be, and of one more.
func TestProgGetOfMaxLengths(t *testing.T) {
	long := strings.Repeat("a\n", 79) + "a #"
	checkFine(t, "", long+strings.Repeat("b", 4000-len(long)), strings.Repeat("\n", 3999)+"a", strings.Repeat("# c\n", 999)+"a\n", strings.Repeat("a = "+strings.Repeat("(", 7)+"b"+strings.Repeat(")", 7)+"\n", 80))
	checkUnread(t, long+strings.Repeat("b", 4001-len(long)), strings.Repeat("\n", 4000)+"a", strings.Repeat(" ", 4001), "#"+strings.Repeat("b", 4000))
	full := strings.Repeat("a\n", 78) + "b = " + strings.Repeat("(", 670) + "c" + strings.Repeat(")", 670) + "\n"
	if toks, _ := impl.Lex(full); len(toks) != 1500 {
		t.Errorf("there are %d tokens", len(toks))
	}
	if list, ok := impl.ProgGet(full); !ok || impl.ProgPut(list) != strings.Repeat("a\n", 78)+"b = c\n" {
		t.Errorf("ProgGet of 1500 tokens = %s, %t", shownProg(list), ok)
	}
	checkUnread(t, full+"d", full+"d\n", "if a:\n"+inserted(" ?", full))
	deep, chain := "", ""
	for i := range 80 {
		deep += strings.Repeat(" ", i) + "if a:\n"
		chain += "if a:b\n"
	}
	checkUnread(t, deep, deep+strings.Repeat(" ", 80)+"a", chain, strings.Repeat("else:\n", 600), strings.Repeat("if ", 1400), strings.Repeat("try:\n", 700), strings.Repeat("(", 1400), strings.Repeat("lambda: ", 400)+"a", "del "+strings.Repeat("(", 1400), "global "+strings.Repeat("a, ", 700))
}

func TestProgGetOfLooseTexts(t *testing.T) {
	texts, told := looseProgs()
	for i, text := range texts {
		if list, ok := impl.ProgGet(text); !ok || !equalProgs(list, told[i]) {
			t.Errorf("ProgGet(%q) = %s, %t, want %s", text, shownProg(list), ok, shownProg(told[i]))
		}
	}
}

// TestProgGetOfChangedTexts has texts with a word or line less, more, or another one, which mostly tell nothing.
func TestProgGetOfChangedTexts(t *testing.T) {
	r := rand.New(rand.NewSource(75))
	pieces := slices.Concat(signs, keywords, []string{"a", "b", "x", "1", "'a'", "a:", "\n", "\n ", "\n  "})
	rows := []string{"a", "pass", "break", "return", "if a:", "elif a:", "else:", "while a:", "for x in a:", "try:", "except:", "except A:", "except A as e:", "finally:", "def f():", "class A:", "global a", "x = yield a"}
	read := 0
	for i, text := range stmtTexts {
		for n := range 60 {
			if n%2 == 0 {
				text = inserted(stmtFrames[r.Intn(len(stmtFrames))], stmtTexts[(i+n)%len(stmtTexts)])
			}
			lines := strings.SplitAfter(strings.TrimSuffix(text, "\n")+"\n", "\n")
			lines = lines[:len(lines)-1]
			at := r.Intn(len(lines))
			line := lines[at]
			words := strings.Split(strings.TrimSuffix(line, "\n"), " ")
			k := r.Intn(len(words))
			switch r.Intn(7) {
			case 0:
				words = slices.Delete(words, k, k+1)
			case 1:
				words = slices.Insert(words, k, pieces[r.Intn(len(pieces))])
			case 2:
				words[k] = pieces[r.Intn(len(pieces))]
			case 3:
				words = append([]string{strings.Repeat(" ", r.Intn(3)) + rows[r.Intn(len(rows))]}, "")
			case 4:
				words = append(words, "\n"+strings.Repeat(" ", r.Intn(3))+rows[r.Intn(len(rows))])
			case 5:
				words = []string{""}
			default:
				words = append([]string{""}, words...)
			}
			lines[at] = strings.Join(words, " ") + "\n"
			changed := strings.Join(lines, "")
			checkProgGet(t, changed)
			if _, ok := impl.ProgGet(changed); ok {
				read++
			}
		}
	}
	if read < 500 {
		t.Errorf("%d changed texts are read", read)
	}
}

// TestProgGetOfAllShortLines has a statement of all texts of a few words of interest.
func TestProgGetOfAllShortLines(t *testing.T) {
	for _, c := range []struct {
		frame string
		words string
		most  int
	}{
		{"def f():\n while a:\n  ?", "a = + += , . ( ) [ ] del not return yield pass : lambda", 3}, {"def f():\n ?", "return raise yield a , ( ) =", 4}, {"?", "a b = += *= -= ( )", 5}, {"def f():\n ?", "global nonlocal a , ( b", 5}, {"?", "assert a , ( ) not", 5}, {"?", "import del a . [ ] as ,", 4},
		{"for ?:\n a", "x in a , ( ) not", 5}, {"def f(?:\n a", "a = 1 , b )", 6}, {"class A ?:\n a", "( ) a , b =", 5}, {"try:\n a\nexcept ?:\n b", "a as e , ( )", 5}, {"if ? \n a", "a b : if else not (", 4}, {"if a:\n b\n? \n c", "elif else a : if", 4}, {"try:\n a\n? \n b\nfinally:\n c", "except else finally : A as", 4},
	} {
		for _, text := range allTexts(strings.Fields(c.words), c.most, " ") {
			checkProgGet(t, strings.Replace(c.frame, "?", text, 1))
		}
	}
}

// TestProgGetOfAllFewLines has all texts of a few lines of interest.
func TestProgGetOfAllFewLines(t *testing.T) {
	heads := strings.Split("a|if a:|elif a:|else:|while a:|try:|except:|except A:|finally:|def f():", "|")
	var bodies []string
	for _, head := range heads {
		bodies = append(bodies, head+strings.Repeat("\n b", strings.Count(head, ":")))
	}
	indented := func(lines string, most int) []string {
		var all []string
		for line := range strings.SplitSeq(lines, "|") {
			for spaces := range most {
				all = append(all, strings.Repeat(" ", spaces)+line)
			}
		}
		return all
	}
	for _, c := range []struct {
		lines []string
		most  int
	}{
		{bodies, 4}, {indented("a|if a:|else:", 3), 5}, {indented("a|if a:|elif b:|else:", 2), 5}, {indented("a|try:|except:|finally:", 2), 5}, {indented("while a:|break|else:|def f():", 3), 4},
	} {
		read := 0
		for _, text := range allTexts(c.lines, c.most, "\n") {
			checkProgGet(t, text)
			if _, ok := impl.ProgGet(text); ok {
				read++
			}
		}
		if read < 10 {
			t.Errorf("%d texts of %q are read", read, c.lines)
		}
	}
}
