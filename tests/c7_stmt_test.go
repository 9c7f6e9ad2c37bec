package tests

import (
	"cmp"
	"math"
	"math/rand"
	"slices"
	"strings"
	"testing"

	"loop.example/slowworm/impl"
)

// checkProg holds all that is told of a program against what it must be.
func checkProg(t *testing.T, list []impl.Stmt) {
	t.Helper()
	valid, text, size := validProgWanted(list), "", -1
	if valid {
		text, size = textWanted(list), sizeWanted(list)
	}
	checkAnswers(t, list, valid, size, text)
}

func checkAnswers(t *testing.T, list []impl.Stmt, valid bool, size int, text string) {
	t.Helper()
	if impl.ProgOk(list) != valid || impl.ProgSame(list, list) != valid {
		t.Errorf("%s: ProgOk is %t, ProgSame of it and it %t", shownProg(list), impl.ProgOk(list), impl.ProgSame(list, list))
	}
	if n := impl.ProgSize(list); n != size {
		t.Errorf("%s: ProgSize is %d, want %d", shownProg(list), n, size)
	}
	if s := impl.ProgPut(list); s != text {
		t.Errorf("%s: ProgPut is %q, want %q", shownProg(list), s, text)
	}
}

// checkFine checks that texts tell valid programs.
func checkFine(t *testing.T, texts ...string) {
	t.Helper()
	for _, text := range texts {
		list := program(text)
		if again, ok := impl.ProgGet(text); !impl.ProgOk(list) || !ok || !equalProgs(again, list) {
			t.Errorf("%q: ProgOk is %t, ProgGet %s, %t", text, impl.ProgOk(list), shownProg(again), ok)
		}
		checkProg(t, list)
	}
}

// checkUnfit checks that texts tell programs that are not valid.
func checkUnfit(t *testing.T, texts ...string) {
	t.Helper()
	for _, text := range texts {
		list := program(text)
		if again, ok := impl.ProgGet(text); ok || len(again) > 0 {
			t.Errorf("ProgGet(%q) = %s, %t", text, shownProg(again), ok)
		}
		checkAnswers(t, list, false, -1, "")
	}
}

// placed returns a program in which a statement stands where all may stand: in a loop in a def.
func placed(s impl.Stmt) []impl.Stmt {
	list := program("def f():\n while a:\n  pass\n")
	list[0].Body[0].Body = []impl.Stmt{s}
	return list
}

// stmtOfKind returns a valid statement of a kind, with as little as it may have.
func stmtOfKind(kind int) impl.Stmt {
	text := []string{
		"", "a", "a = b", "a += b", "if a:\n b", "while a:\n b", "for x in a:\n b", "def f():\n a", "class A:\n a", "def f():\n return", "raise", "try:\n a\nfinally:\n b", "pass",
		"while a:\n break", "while a:\n continue", "def f():\n global a", "def f():\n nonlocal a", "del a", "import a", "assert a",
	}[kind]
	list := program(text)
	if list[0].Kind == kind {
		return list[0]
	}
	return list[0].Body[0]
}

func TestLimitsOfStatements(t *testing.T) {
	if impl.MaxStmts != 80 || impl.MaxBlocks != 6 || impl.SynBad != 7 || impl.SynForm != 8 {
		t.Errorf("MaxStmts = %d, MaxBlocks = %d, SynBad = %d, SynForm = %d", impl.MaxStmts, impl.MaxBlocks, impl.SynBad, impl.SynForm)
	}
	kinds := []int{
		impl.StmtExpr, impl.StmtSet, impl.StmtAug, impl.StmtIf, impl.StmtWhile, impl.StmtFor, impl.StmtDef, impl.StmtClass, impl.StmtReturn, impl.StmtRaise,
		impl.StmtTry, impl.StmtPass, impl.StmtBreak, impl.StmtContinue, impl.StmtGlobal, impl.StmtNonlocal, impl.StmtDel, impl.StmtImport, impl.StmtAssert,
	}
	if !slices.Equal(kinds, upTo(1, 20)) {
		t.Errorf("the kinds of statements are %v", kinds)
	}
}

func TestProgOkOfKinds(t *testing.T) {
	for kind := 1; kind <= 19; kind++ {
		s := stmtOfKind(kind)
		if !impl.ProgOk(placed(s)) || s.Kind != kind {
			t.Errorf("ProgOk(%v) = false", s)
		}
		checkProg(t, placed(s))
		for _, other := range []int{0, 20, 21, 100, -1, -2, -19, -kind, 256 + kind, 1<<32 + kind, math.MinInt, math.MaxInt} {
			s.Kind = other
			checkAnswers(t, placed(s), false, -1, "")
			checkAnswers(t, []impl.Stmt{s}, false, -1, "")
		}
	}
	checkAnswers(t, placed(impl.Stmt{}), false, -1, "")
	checkAnswers(t, []impl.Stmt{{}}, false, -1, "")
}

func TestProgOkOfNoStatements(t *testing.T) {
	checkAnswers(t, nil, true, 0, "")
	checkAnswers(t, []impl.Stmt{}, true, 0, "")
	if !impl.ProgSame(nil, []impl.Stmt{}) || impl.ProgSame(nil, program("a")) || impl.ProgSame(program("a"), nil) {
		t.Error("ProgSame of the empty program is wrong")
	}
}

// TestProgOkOfFields has each kind with each number of elements in each field.
func TestProgOkOfFields(t *testing.T) {
	for kind := 1; kind <= 19; kind++ {
		name, fine := cmp.Or(stmtOfKind(kind).Name, "a"), 0
		for code := range 2 * 2 * 2 * 2 * 8 * 8 * 4 {
			digit := func(base int) int {
				n := code % base
				code /= base
				return n
			}
			blocks := [][]impl.Stmt{nil, program("pass")}
			s := impl.Stmt{Kind: kind, Body: blocks[digit(2)], Else: blocks[digit(2)], Last: blocks[digit(2)]}
			s.Name = []string{"", name}[digit(2)]
			s.Names = append(s.Names, sevenNames[:digit(8)]...)
			s.Exprs = slices.Repeat([]impl.Expr{leaf("a")}, digit(8))
			s.Hands = slices.Repeat([]impl.Hand{{Exprs: []impl.Expr{leaf("a")}, Body: blocks[1]}}, []int{0, 1, 6, 7}[digit(4)])
			want := fieldForms[kind].MatchString(fieldsWanted(s))
			if impl.ProgOk(placed(s)) != want {
				t.Errorf("ProgOk(%v) = %t", s, !want)
			}
			if want {
				fine++
				checkProg(t, placed(s))
			}
		}
		if fine == 0 || fine > 40 {
			t.Errorf("%d statements of the kind %d are valid", fine, kind)
		}
	}
}

// TestProgOkOfEachField has each kind with each field that it does not have, one at a time, and without each that it has.
func TestProgOkOfEachField(t *testing.T) {
	change := map[string]func(s *impl.Stmt){
		"Name": func(s *impl.Stmt) { s.Name = "a" }, "Names": func(s *impl.Stmt) { s.Names = []string{"a"} }, "Body": func(s *impl.Stmt) { s.Body = program("pass") },
		"Else": func(s *impl.Stmt) { s.Else = program("pass") }, "Last": func(s *impl.Stmt) { s.Last = program("pass") },
		"Hands": func(s *impl.Stmt) { s.Hands = []impl.Hand{{Body: program("pass")}} }, "Exprs": func(s *impl.Stmt) { s.Exprs = append(slices.Clone(s.Exprs), leaf("a")) },
		"no Name": func(s *impl.Stmt) { s.Name = "" }, "no Names": func(s *impl.Stmt) { s.Names = nil }, "no Body": func(s *impl.Stmt) { s.Body = nil },
		"no Exprs": func(s *impl.Stmt) { s.Exprs = nil }, "one of Exprs": func(s *impl.Stmt) { s.Exprs = append(s.Exprs, leaf("b"))[:1] }, "no Last": func(s *impl.Stmt) { s.Last = nil },
	}
	fits := []string{
		1: "", 2: "", 3: "", 4: "Body Else", 5: "Body Else", 6: "Name Body Else", 7: "Name Names Body", 8: "Name Body Exprs one_of_Exprs", 9: "Exprs one_of_Exprs", 10: "Exprs one_of_Exprs",
		11: "Body Last Hands", 12: "", 13: "", 14: "", 15: "Names", 16: "Names", 17: "", 18: "Name", 19: "Exprs",
	}
	for kind := 1; kind <= 19; kind++ {
		for field, apply := range change {
			s := stmtOfKind(kind)
			apply(&s)
			isSame := equalProgs([]impl.Stmt{s}, []impl.Stmt{stmtOfKind(kind)})
			want := isSame || slices.Contains(strings.Fields(fits[kind]), strings.ReplaceAll(field, " ", "_"))
			if impl.ProgOk(placed(s)) != want {
				t.Errorf("ProgOk of the kind %d with %s: %t", kind, field, !want)
			}
		}
	}
}

func TestProgOkOfNames(t *testing.T) {
	fine := []string{"a", "_", "x1", "self", "print", "twelve_bytes", "none"}
	wrong := append([]string{"", "1", "1a", "a b", "a.b", "a,b", " a", "a=", "thirteen_byte", "\xff", "a\n", "+", "*", strings.Repeat("a", 100000)}, keywords...)
	for _, kind := range []int{6, 7, 8, 18} {
		s := stmtOfKind(kind)
		for _, s.Name = range fine {
			checkAnswers(t, []impl.Stmt{s}, true, sizeWanted([]impl.Stmt{s}), textWanted([]impl.Stmt{s}))
		}
		for _, s.Name = range wrong {
			checkAnswers(t, []impl.Stmt{s}, false, -1, "")
		}
	}
	h := program("try:\n a\nexcept A as e:\n b\n")
	for _, h[0].Hands[0].Name = range append(fine, "") {
		checkProg(t, h)
		if !impl.ProgOk(h) {
			t.Errorf("a handler's Name %q is not valid", h[0].Hands[0].Name)
		}
	}
	for _, h[0].Hands[0].Name = range wrong[1:] {
		checkAnswers(t, h, false, -1, "")
	}
	for _, kind := range []int{7, 15, 16} {
		s := stmtOfKind(kind)
		for _, name := range fine {
			for _, s.Names = range [][]string{{name}, {"b", name}, {name, "b"}, {"b", name, "c", "d"}} {
				checkProg(t, placed(s))
				if !impl.ProgOk(placed(s)) {
					t.Errorf("ProgOk of the kind %d with %q is false", kind, s.Names)
				}
			}
		}
		for _, name := range wrong {
			for _, s.Names = range [][]string{{name}, {"b", name}, {name, "b"}, {"b", name, "c", "d"}, {"a", "b", "c", "d", "e", name}} {
				checkAnswers(t, placed(s), false, -1, "")
			}
		}
	}
	op := program("a += b")
	for _, op[0].Name = range []string{"+", "-", "*"} {
		checkAnswers(t, op, true, 1, "a "+op[0].Name+"= b\n")
	}
	for _, op[0].Name = range slices.Concat(wrong[:5], fine, keywords, []string{"/", "//", "%", "**", "+=", "=", "==", "<", "+ ", " +", "++", "and", "&"}) {
		checkAnswers(t, op, false, -1, "")
	}
}

func TestProgOkOfParameters(t *testing.T) {
	checkFine(t, "def f(a, b, c, d, e, f):\n a", "def f(a=1, b=2, c=3, d=4, e=5, f=6):\n a", "def f(a, b, c, d, e, f=1):\n a", "def f(f):\n a", "def f(a=a, b=a):\n a", "def f(A, a):\n a")
	checkUnfit(t, "def f(a, a):\n a", "def f(a, b, a):\n a", "def f(a, b, b):\n a", "def f(a, b, c, d, e, a):\n a", "def f(a, b, c, d, e, e=1):\n a", "def f(a=1, a=2):\n a", "def f(a, b, c, d, e, f, g):\n a",
		"def f(a=1, b=2, c=3, d=4, e=5, f=6, g=7):\n a", "def f(a, b, c, d, e, f, g=1):\n a", "def f(a, b, c, d, e, f, a):\n a")
	for names := range 9 {
		for defaults := range 9 {
			s := program("def f():\n a")
			s[0].Names, s[0].Exprs = append(slices.Clone(sevenNames), "h")[:names], slices.Repeat([]impl.Expr{leaf("a")}, defaults)
			if want := names <= 6 && defaults <= names; impl.ProgOk(s) != want {
				t.Errorf("ProgOk of a def of %d parameters with %d defaults: %t", names, defaults, !want)
			}
			checkProg(t, s)
		}
	}
	// Names that are global or nonlocal have no bound, and may come twice.
	many := impl.Stmt{Kind: 15, Names: slices.Repeat([]string{"a", "b"}, 5000)}
	checkAnswers(t, placed(many), true, 3, "def f():\n    while a:\n        global "+strings.Repeat("a, b, ", 4999)+"a, b\n")
	checkFine(t, "def f():\n global a, a", "def f():\n nonlocal a, b, a", "def f():\n global a, b, c, d, e, f, g", "def f():\n nonlocal a, b, c, d, e, f, g, h", "def f(a):\n global a\n nonlocal a")
}

func TestProgOkOfTargets(t *testing.T) {
	for _, text := range []string{"a = b", "a += b", "del a"} {
		for _, s := range smallTrees {
			list := program(text)
			list[0].Exprs[0] = tree(s)
			want := slices.Contains([]int{6, 14, 15}, tree(s).Kind) && !strings.Contains(s, "yield")
			if impl.ProgOk(list) != want {
				t.Errorf("ProgOk of %q with the target %s: %t", text, s, !want)
			}
			checkProg(t, list)
			checkProg(t, placed(list[0]))
		}
	}
	// The value may be anything, and so may what is deleted or set an element or attribute of.
	checkFine(t, "a = 1", "a = []", "a = f()", "a = a", "1[2] = 3", "f().x = 1", "[][0] = 1", "{}.x = a", "'a'[0] += 1", "(a + b)[0] = 1", "(-a).x -= 1", "del (a + b).x", "del f()[0]", "(lambda: a)[0] = 1", "None.x = 1", "(a) = 1", "((a.b)) += 1", "del (a[0])")
	checkUnfit(t, "1 = a", "'a' = a", "None = a", "f() = a", "[a] = b", "[] = a", "{} = a", "{a: b} = c", "1 += a", "f() -= a", "[a] *= b", "del 1", "del f()", "del []", "del None", "(a + b) = c", "(-a) = b", "(not a) = b", "(a if b else c) = d", "(lambda: a) = b",
		"(a and b) += c", "del (a + b)", "del (-a)", "del (lambda: a)", "True = False", "def f():\n (yield a) = b", "def f():\n del (yield a)")
}

// exprsToChange returns the lists of expressions of a program, each to be changed in its place.
func exprsToChange(list []impl.Stmt) [][]impl.Expr {
	var all [][]impl.Expr
	for _, s := range stmtsToChange(list) {
		all = append(all, s.Exprs)
		for _, h := range s.Hands {
			all = append(all, h.Exprs)
		}
	}
	return all
}

// TestProgOkOfWrongExpressions has an expression that is not valid at each place.
func TestProgOkOfWrongExpressions(t *testing.T) {
	deep := tree("(list (list (list (list (list (list (list a)))))))")
	for _, text := range slices.Concat(stmtTexts, []string{"def f():\n return a\n", "if a:\n if b:\n  c\n elif d:\n  e\nelse:\n f = 1\n", "try:\n a\nexcept A as e:\n b\nexcept B:\n c\nelse:\n d\nfinally:\n g\n"}) {
		for i, exprs := range exprsToChange(program(text)) {
			for k := range exprs {
				list := program(text)
				place := &exprsToChange(list)[i][k]
				if *place = (impl.Expr{Kind: 14, Kids: []impl.Expr{leaf("a"), tree("(list (list (list (list (list a)))))")}}); !impl.ProgOk(list) {
					t.Errorf("%s is not valid", shownProg(list))
				}
				for _, wrong := range []impl.Expr{{}, {Kind: 6}, leaf("if"), {Kind: 6, Text: "a", Names: []string{"a"}}, {Kind: 14, Kids: []impl.Expr{leaf("a")}}, {Kind: 14, Kids: []impl.Expr{leaf("a"), deep.Kids[0]}}, {Kind: 15, Text: "1", Kids: []impl.Expr{leaf("a")}}, {Kind: 18}, {Kind: -1}} {
					*place = wrong
					checkAnswers(t, list, false, -1, "")
				}
			}
		}
	}
}

func TestProgOkOfSizes(t *testing.T) {
	for _, frame := range stmtFrames {
		around := sizeWanted(program(inserted(frame, "pass"))) - 1
		for _, size := range []int{78, 79, 80, 81, 82} {
			list := program(inserted(frame, strings.Repeat("pass\n", size-around)))
			if impl.ProgOk(list) != (size <= 80) {
				t.Errorf("ProgOk of %q with %d statements: %t", frame, size, size > 80)
			}
			checkProg(t, list)
			// Those in two blocks are counted together.
			both := program(inserted(frame, strings.Repeat("pass\n", 40-around)) + inserted(frame, strings.Repeat("pass\n", size-40-around)))
			if impl.ProgOk(both) != (size <= 80) || impl.ProgSize(both) != map[bool]int{true: size, false: -1}[size <= 80] {
				t.Errorf("ProgOk of %q twice with %d statements: %t", frame, size, size > 80)
			}
		}
	}
	for _, size := range []int{79, 80, 81, 82, 100} {
		for _, text := range []string{strings.Repeat("a\n", size), elifs(size)} {
			list := program(text)
			if impl.ProgOk(list) != (size <= 80) || sizeWanted(list) != size {
				t.Errorf("ProgOk of %d statements: %t", size, size > 80)
			}
			checkProg(t, list)
		}
	}
}

func TestProgOkOfBlocks(t *testing.T) {
	for i, frame := range stmtFrames {
		for times := range 10 {
			list := program(nestedText(frame, times))
			if impl.ProgOk(list) != (times <= 5) {
				t.Errorf("ProgOk of %q within itself %d times: %t", frame, times, times > 5)
			}
			checkProg(t, list)
		}
		// All other blocks are counted as well.
		for k, other := range stmtFrames {
			third := stmtFrames[(i+k)%len(stmtFrames)]
			text := inserted(third, inserted(other, inserted(frame, inserted(other, inserted(frame, "pass")))))
			if list := program(text); !impl.ProgOk(list) || impl.ProgOk(program(inserted(third, text))) {
				t.Errorf("ProgOk(%q) = %t, within one more block it is %t", text, impl.ProgOk(list), !impl.ProgOk(list))
			}
			checkProg(t, program(text))
			checkProg(t, program(inserted(third, text)))
		}
	}
}

// TestProgOkOfElifs has elifs, which open no block, within as many blocks as there may be.
func TestProgOkOfElifs(t *testing.T) {
	within := func(times int, text string) string {
		for range times {
			text = inserted("if a:\n ?\n", text)
		}
		return text
	}
	one := "if a:\n b\nelif c:\n d\nelse:\n e\n"
	checkFine(t, elifs(78), elifs(79), elifs(80), within(4, elifs(76)), within(4, one), within(4, "if a:\n b\nelse:\n if c:\n  d\n"), within(3, "if a:\n b\nelse:\n if c:\n  d\n else:\n  e\n  f\n"),
		"if a:\n b\nelif c:\n"+inserted(" ?", within(4, "d")))
	checkUnfit(t, within(5, one), within(5, elifs(20)), "if a:\n b\nelif c:\n"+inserted(" ?", within(5, "d")), elifs(40)+"elif x:\n"+inserted(" ?", within(5, "d"))+"else:\n e\n")
	// An Else with more than an if, and that of a loop or try, is a block.
	for _, frame := range []string{
		"if a:\n b\nelse:\n ?\n c\n", "if a:\n b\nelse:\n c\n ?\n", "while a:\n b\nelse:\n ?\n", "for x in a:\n b\nelse:\n ?\n", "try:\n a\nexcept:\n b\nelse:\n ?\n",
	} {
		checkFine(t, within(3, inserted(frame, "if d:\n e\n")), within(4, inserted(frame, "f")))
		checkUnfit(t, within(4, inserted(frame, "if d:\n e\n")), within(5, inserted(frame, "f")))
	}
	// One of them goes on behind an elif as ahead of it.
	chain := "if a:\n b\n"
	for range 20 {
		chain = "if a:\n b\nelse:\n" + inserted(" ?", chain)
	}
	checkFine(t, chain)
	if list, ok := impl.ProgGet(chain); !ok || impl.ProgPut(list) != strings.Repeat("if a:\n    b\nel", 20)+"if a:\n    b\n" {
		t.Errorf("ProgPut of a chain is %q", impl.ProgPut(list))
	}
}

func TestProgOkOfEmptyBlocks(t *testing.T) {
	for _, text := range stmtTexts {
		for i, s := range stmtsToChange(program(text)) {
			if len(s.Body) == 0 {
				continue
			}
			list := program(text)
			stmtsToChange(list)[i].Body = []impl.Stmt{}
			checkAnswers(t, list, false, -1, "")
			for k := range s.Hands {
				list = program(text)
				stmtsToChange(list)[i].Hands[k].Body = nil
				checkAnswers(t, list, false, -1, "")
			}
			list = program(text)
			stmtsToChange(list)[i].Else = nil
			checkProg(t, list)
			if !impl.ProgOk(list) {
				t.Errorf("%q without Else is not valid", text)
			}
			list = program(text)
			stmtsToChange(list)[i].Last = nil
			if want := s.Kind != 11 || len(s.Hands) > 0; impl.ProgOk(list) != want {
				t.Errorf("%q without Last: %t", text, !want)
			}
			checkProg(t, list)
		}
	}
}

func TestProgOkOfBreaks(t *testing.T) {
	for _, word := range []string{"break", "continue"} {
		fine := []string{
			"while a:\n ?", "for x in a:\n ?", "while a:\n b\n ?\n c", "while a:\n if b:\n  ?", "while a:\n if b:\n  c\n elif d:\n  ?\n else:\n  ?", "while a:\n while b:\n  ?\n ?", "while a:\n try:\n  ?\n finally:\n  b", "while a:\n try:\n  b\n except:\n  ?",
			"while a:\n try:\n  b\n except A as e:\n  c\n else:\n  ?\n finally:\n  d", "while a:\n while b:\n  c\n else:\n  ?", "for x in a:\n for y in b:\n  c\n else:\n  ?", "while a:\n b\nelse:\n while c:\n  ?", "def f():\n while a:\n  ?", "class A:\n for x in a:\n  ?",
			"while a:\n def f():\n  while b:\n   ?", "while a:\n class A:\n  while b:\n   ?", "try:\n a\nfinally:\n while b:\n  ?", "while a:\n try:\n  b\n finally:\n  while c:\n   ?", "try:\n a\nfinally:\n while b:\n  if c:\n   ?", "try:\n a\nfinally:\n while b:\n  c\n  for x in d:\n   e\n  else:\n   ?",
			"try:\n a\nfinally:\n class A:\n  while b:\n   ?", "try:\n a\nfinally:\n def f():\n  while b:\n   ?", "try:\n a\nfinally:\n for x in a:\n  try:\n   ?\n  finally:\n   b", "def f():\n try:\n  a\n finally:\n  for x in b:\n   ?", "try:\n a\nfinally:\n while a:\n  try:\n   b\n  except:\n   ?",
		}
		wrong := []string{
			"?", "if a:\n ?", "a\n?", "while a:\n b\nelse:\n ?", "for x in a:\n b\nelse:\n ?", "for x in a:\n b\nelse:\n if c:\n  ?", "def f():\n ?", "class A:\n ?", "while a:\n def f():\n  ?", "while a:\n class A:\n  ?", "for x in a:\n def f():\n  if b:\n   ?", "for x in a:\n class A:\n  try:\n   ?\n  finally:\n   b",
			"while a:\n def f():\n  while b:\n   c\n  else:\n   ?", "while a:\n class A:\n  while b:\n   c\n  else:\n   ?", "try:\n ?\nfinally:\n a", "try:\n a\nexcept:\n ?", "try:\n a\nfinally:\n ?", "while a:\n try:\n  b\n finally:\n  ?", "for x in a:\n try:\n  b\n except:\n  c\n finally:\n  if d:\n   ?", "try:\n a\nfinally:\n while b:\n  c\n else:\n  ?",
			"while a:\n try:\n  b\n finally:\n  while c:\n   d\n  else:\n   ?", "while a:\n try:\n  b\n finally:\n  class A:\n   ?", "while a:\n try:\n  b\n finally:\n  def f():\n   ?", "try:\n a\nfinally:\n while b:\n  try:\n   c\n  finally:\n   ?", "while a:\n b\n?", "while a:\n try:\n  b\n finally:\n  try:\n   ?\n  finally:\n   c",
			"try:\n a\nfinally:\n while b:\n  def f():\n   ?", "try:\n a\nfinally:\n while b:\n  class A:\n   ?", "while a:\n try:\n  b\n finally:\n  try:\n   c\n  except:\n   ?",
		}
		checkFrames(t, word, fine, wrong)
	}
}

// checkFrames checks that a statement may stand in some frames, and may not in others.
func checkFrames(t *testing.T, stmt string, fine []string, wrong []string) {
	t.Helper()
	for _, frame := range fine {
		checkFine(t, inserted(frame, stmt), inserted(frame, stmt+"\na\n"), inserted(frame, "a\n"+stmt))
	}
	for _, frame := range wrong {
		checkUnfit(t, inserted(frame, stmt), inserted(frame, stmt+"\na\n"), inserted(frame, "a\n"+stmt))
	}
}

func TestProgOkOfReturns(t *testing.T) {
	fine := []string{
		"def f():\n ?", "def f():\n if a:\n  ?", "def f():\n while a:\n  b\n else:\n  ?", "def f():\n for x in a:\n  ?", "def f():\n def g():\n  ?", "class A:\n def f():\n  ?", "class A:\n class B:\n  def f():\n   ?", "def f():\n class A:\n  def g():\n   ?",
		"def f():\n try:\n  ?\n finally:\n  a", "def f():\n try:\n  a\n except:\n  ?", "def f():\n try:\n  a\n except:\n  b\n else:\n  ?", "try:\n a\nfinally:\n def f():\n  ?", "def f():\n try:\n  a\n finally:\n  def g():\n   ?", "try:\n a\nfinally:\n if a:\n  def f():\n   ?", "try:\n a\nfinally:\n class A:\n  def f():\n   ?",
		"try:\n a\nfinally:\n def f():\n  try:\n   ?\n  finally:\n   b", "while a:\n def f():\n  ?", "try:\n def f():\n  ?\nfinally:\n a", "if a:\n b\nelif c:\n def f():\n  ?",
	}
	wrong := []string{
		"?", "if a:\n ?", "while a:\n ?", "for x in a:\n b\nelse:\n ?", "class A:\n ?", "def f():\n class A:\n  ?", "def f():\n class A:\n  if b:\n   ?", "def f():\n class A:\n  class B:\n   ?", "def f():\n a\n?", "try:\n ?\nfinally:\n a", "try:\n a\nexcept:\n ?", "try:\n a\nfinally:\n ?",
		"def f():\n try:\n  a\n finally:\n  ?", "def f():\n try:\n  a\n except:\n  b\n finally:\n  ?", "def f():\n try:\n  a\n finally:\n  if b:\n   ?", "def f():\n try:\n  a\n finally:\n  while b:\n   ?", "def f():\n try:\n  a\n finally:\n  class A:\n   ?", "try:\n a\nfinally:\n def f():\n  class A:\n   ?", "try:\n a\nfinally:\n def f():\n  try:\n   b\n  finally:\n   ?",
		"def f():\n try:\n  a\n finally:\n  try:\n   ?\n  finally:\n   b", "class A:\n def f():\n  a\n ?", "def f():\n try:\n  a\n finally:\n  try:\n   b\n  except:\n   ?", "def f():\n while a:\n  try:\n   b\n  finally:\n   ?",
	}
	for _, stmt := range []string{
		"return", "return a", "global a", "nonlocal a", "global a, b", "yield a", "yield a if b else c", "x = yield a", "x += yield a", "x = [a, (yield b)]", "f(x=(yield a))", "x[(yield a)] = b", "(yield a).x = b", "del x[(yield a)]", "del (yield a).x",
		"raise (yield a)", "assert (yield a)", "assert a, (yield b)", "return (yield a)", "not (yield a)", "yield (yield a)", "if (yield a):\n b", "if a:\n b\nelif (yield c):\n d", "while (yield a):\n b", "for x in (yield a):\n b", "def g(x=(yield a)):\n b", "def g(x, y=1, z=(yield a)):\n b",
		"class A((yield a)):\n b", "class A(a, (yield b)):\n c", "{a: (yield b)}", "(lambda: a)((yield b))",
	} {
		// Those with a block do not fit into so many frames.
		if strings.Contains(stmt, ":\n") {
			checkFrames(t, stmt, []string{"def f():\n ?", "class A:\n def f():\n  ?", "def f():\n try:\n  ?\n finally:\n  a", "try:\n a\nfinally:\n def f():\n  ?"}, []string{"?", "class A:\n ?", "def f():\n class A:\n  ?", "def f():\n try:\n  a\n finally:\n  ?", "def f():\n a\n?"})
			continue
		}
		checkFrames(t, stmt, fine, wrong)
	}
	// A def or class has its expressions outside of it.
	checkFine(t, "def f():\n def g(x=(yield a)):\n  b", "def f():\n class A((yield a)):\n  b")
	checkUnfit(t, "def f(x=(yield a)):\n b", "class A:\n def f(x=(yield a)):\n  b", "def f():\n class A:\n  def g(x=(yield a)):\n   b", "def f():\n try:\n  a\n finally:\n  def g(x=(yield a)):\n   b", "try:\n a\nfinally:\n def g(x=(yield a)):\n  b")
}

func TestProgOkOfYieldsInLambdas(t *testing.T) {
	for _, e := range []string{"lambda: yield a", "lambda: (yield a)", "lambda x: [x, (yield x)]", "lambda: lambda: yield a", "lambda: not (yield a)", "lambda x: f(x, y=(yield x))", "f(lambda_, (lambda: yield a))", "[(lambda: yield a)]", "yield (lambda: yield a)", "yield [(lambda: yield a)]", "-(lambda: a + (yield b))", "(lambda: (lambda: a)((yield b)))()"} {
		e = "(" + e + ")"
		for _, frame := range []string{"?", "x = ?", "x += ?", "?[0] = a", "?.x -= a", "raise ?", "del ?.x", "assert ?", "assert a, ?", "if ?:\n a", "while ?:\n a", "for x in ?:\n a", "class A(?):\n a", "def f(x=?):\n a", "try:\n a\nexcept ?:\n b", "try:\n a\nexcept ? as e:\n b"} {
			text := strings.Replace(frame, "?", e, 1)
			checkUnfit(t, text, inserted("def f():\n ?", text), inserted("try:\n a\nfinally:\n ?", text), inserted("class A:\n def f():\n  ?", text))
		}
		checkUnfit(t, "def f():\n return "+e)
	}
	checkFine(t, "lambda: a", "lambda: lambda: a", "def f():\n yield (lambda: a)", "def f():\n yield (lambda: a)((yield b))", "def f():\n [(lambda: a), (yield b)]", "def f():\n (lambda: a)((yield b))", "def f():\n (yield (lambda: a)) + (lambda: b)", "def f():\n x = lambda: a")
}

func TestProgOkOfHandlers(t *testing.T) {
	checkFine(t, "try:\n a\nexcept:\n b", "try:\n a\nexcept A:\n b", "try:\n a\nexcept A as e:\n b", "try:\n a\nexcept A:\n b\nexcept:\n c", "try:\n a\nexcept A as e:\n b\nexcept A as e:\n c", "try:\n a\nexcept A:\n b\nexcept B as e:\n c\nexcept:\n d", "try:\n a\nfinally:\n b",
		"try:\n a\nexcept:\n b\nfinally:\n c", "try:\n a\nexcept:\n b\nelse:\n c", "try:\n a\nexcept A:\n b\nelse:\n c\nfinally:\n d", "try:\n a\n"+strings.Repeat("except A:\n b\n", 6), "try:\n a\n"+strings.Repeat("except A:\n b\n", 5)+"except:\n c", "try:\n a\nexcept lambda_:\n b", "try:\n a\nexcept (lambda: a):\n b",
		"try:\n a\nexcept None:\n b", "try:\n a\nexcept a if b else c as e:\n b", "def f():\n try:\n  yield a\n except A:\n  yield b\n else:\n  yield c\n finally:\n  d")
	checkUnfit(t, "try:\n a", "try:\n a\nelse:\n b", "try:\n a\nelse:\n b\nfinally:\n c", "try:\n a\nexcept:\n b\nexcept:\n c", "try:\n a\nexcept:\n b\nexcept A:\n c", "try:\n a\nexcept A:\n b\nexcept:\n c\nexcept B:\n d", "try:\n a\nexcept:\n b\nexcept:\n c\nfinally:\n d", "try:\n a\n"+strings.Repeat("except A:\n b\n", 7),
		"try:\n a\n"+strings.Repeat("except A:\n b\n", 6)+"except:\n c", "try:\n a\n"+strings.Repeat("except:\n b\n", 2), "try:\n a\nexcept (yield b):\n c", "def f():\n try:\n  a\n except (yield b):\n  c", "def f():\n try:\n  a\n except [(yield b)] as e:\n  c", "def f():\n try:\n  a\n except A:\n  b\n except f((yield b)):\n  c",
		"def f():\n try:\n  a\n except (lambda: yield b):\n  c", "class A:\n try:\n  a\n except (yield b):\n  c")
	a, pass := []impl.Expr{leaf("a")}, program("pass")
	for _, c := range []struct {
		hands []impl.Hand
		want  bool
	}{
		{[]impl.Hand{{Body: pass}}, true}, {[]impl.Hand{{Exprs: a, Body: pass}}, true}, {[]impl.Hand{{Exprs: a, Name: "e", Body: pass}}, true}, {[]impl.Hand{{Exprs: []impl.Expr{}, Body: pass}}, true},
		{[]impl.Hand{{Name: "e", Body: pass}}, false}, {[]impl.Hand{{Exprs: []impl.Expr{leaf("a"), leaf("b")}, Body: pass}}, false}, {[]impl.Hand{{}}, false}, {[]impl.Hand{{Exprs: a}}, false}, {[]impl.Hand{{Exprs: a, Name: "e"}}, false},
		{[]impl.Hand{{Exprs: a, Body: pass}, {Body: pass}}, true}, {[]impl.Hand{{Exprs: a, Body: pass}, {Name: "e", Body: pass}}, false}, {[]impl.Hand{{Body: pass}, {Exprs: a, Body: pass}}, false}, {[]impl.Hand{{Body: pass}, {Body: pass}}, false},
		{[]impl.Hand{{Exprs: a, Body: pass}, {Exprs: a}}, false}, {[]impl.Hand{{Exprs: a}, {Exprs: a, Body: pass}}, false}, {[]impl.Hand{{Exprs: slices.Repeat(a, 1000000), Body: pass}}, false}, {[]impl.Hand{{Exprs: a, Body: program("break")}}, false},
	} {
		for _, last := range [][]impl.Stmt{nil, pass} {
			list := program("try:\n a\nexcept:\n b")
			list[0].Hands, list[0].Last = c.hands, last
			if impl.ProgOk(list) != c.want {
				t.Errorf("ProgOk of a try with %.200v: %t", c.hands, !c.want)
			}
			checkProg(t, list)
		}
	}
}

func TestProgOkOfClasses(t *testing.T) {
	checkFine(t, "class A:\n a", "class A(a):\n a", "class A(a, b, c, d, e, f):\n a", "class A(a, a):\n a", "class A(1, None):\n a", "class A(f(x=1), (lambda: a)):\n a")
	checkUnfit(t, "class A(a, b, c, d, e, f, g):\n a", "class A(a, b, c, d, e, f, g, a, b):\n a")
	for n := range 10 {
		s := program("class A:\n a")
		s[0].Exprs = slices.Repeat([]impl.Expr{leaf("a")}, n)
		checkProg(t, s)
		if impl.ProgOk(s) != (n <= 6) {
			t.Errorf("ProgOk of a class with %d bases: %t", n, n > 6)
		}
	}
}

// TestProgOkOfAllPlaces has each statement that may not stand everywhere in all that three statements around it may be.
func TestProgOkOfAllPlaces(t *testing.T) {
	fine, all := 0, 0
	for _, outer := range append(stmtFrames, "?\n") {
		for _, middle := range append(stmtFrames, "?\n") {
			for _, inner := range append(stmtFrames, "?\n") {
				for _, stmt := range []string{"break", "return", "yield a", "nonlocal a", "class A((yield a)):\n b"} {
					list := program(inserted(outer, inserted(middle, inserted(inner, stmt))))
					want := validProgWanted(list)
					if impl.ProgOk(list) != want {
						t.Errorf("ProgOk(%s) = %t", shownProg(list), !want)
					}
					all++
					if want {
						fine++
					}
				}
			}
		}
	}
	if fine < all/10 || fine > all/2 {
		t.Errorf("%d of %d are valid", fine, all)
	}
}

func TestProgramsOfStrangeShapes(t *testing.T) {
	a, one := []impl.Expr{leaf("a")}, program("pass")
	var circles [][]impl.Stmt
	for field := range 6 {
		circle := make([]impl.Stmt, 3)
		for i := range circle {
			circle[i] = impl.Stmt{Kind: 4, Exprs: a, Body: one}
			switch s := &circle[i]; field {
			case 0:
				s.Body = circle
			case 1:
				s.Else = circle
			case 2:
				s.Else = circle[:1]
			case 3:
				*s = impl.Stmt{Kind: 11, Body: one, Last: circle}
			case 4:
				*s = impl.Stmt{Kind: 11, Body: one, Hands: []impl.Hand{{Body: circle}}}
			default:
				*s = impl.Stmt{Kind: 7, Name: "f", Body: circle}
			}
		}
		circles = append(circles, circle)
	}
	wide := make([]impl.Stmt, 80)
	for i := range wide {
		wide[i] = impl.Stmt{Kind: 5, Exprs: a, Body: wide, Else: wide}
	}
	deep := one
	for range 100000 {
		deep = []impl.Stmt{{Kind: 4, Exprs: a, Body: one, Else: deep}}
	}
	below := one
	for range 100000 {
		below = []impl.Stmt{{Kind: 5, Exprs: a, Body: below}}
	}
	circle := make([]impl.Expr, 1)
	circle[0] = impl.Expr{Kind: 9, Text: "-", Kids: circle}
	many := slices.Repeat([]string{"a"}, 1000000)
	for i, list := range slices.Concat(circles, [][]impl.Stmt{
		wide, deep, below, slices.Repeat(program("a"), 1000000), {{Kind: 1, Exprs: circle}}, {{Kind: 1, Exprs: slices.Repeat(a, 1000000)}}, {{Kind: 7, Name: "f", Names: many, Body: one}}, {{Kind: 12, Names: many}},
		{{Kind: 8, Name: "A", Exprs: slices.Repeat(a, 1000000), Body: one}}, {{Kind: 11, Body: one, Hands: slices.Repeat([]impl.Hand{{Exprs: a, Body: one}}, 1000000)}}, {{Kind: 18, Name: strings.Repeat("a", 1000000)}}, {{Kind: 15, Names: many}},
	}) {
		if impl.ProgOk(list) || impl.ProgSame(list, list) || impl.ProgSame(list, program("a")) || impl.ProgSame(program("a"), list) || impl.ProgSize(list) != -1 || impl.ProgPut(list) != "" {
			t.Errorf("strange program %d is valid", i)
		}
	}
	// The same memory may stand at many places.
	pass := program("pass\nx = a")
	checkProg(t, []impl.Stmt{{Kind: 4, Exprs: a, Body: pass, Else: pass}, {Kind: 11, Body: pass, Hands: []impl.Hand{{Exprs: a, Body: pass}, {Body: pass}}, Else: pass, Last: pass}})
	if list := []impl.Stmt{{Kind: 5, Exprs: a, Body: pass, Else: pass}, {Kind: 19, Exprs: append(a, a...)}}; impl.ProgSize(list) != 6 {
		t.Errorf("ProgSize(%s) = %d", shownProg(list), impl.ProgSize(list))
	}
}

func TestProgramsOfManyKinds(t *testing.T) {
	r := rand.New(rand.NewSource(74))
	for _, list := range progs() {
		checkProg(t, list)
		changed := changedProg(r, list)
		checkProg(t, changed)
		checkProg(t, changedProg(r, changed))
		same := validProgWanted(changed) && equalProgs(list, changed)
		if impl.ProgSame(list, changed) != same || impl.ProgSame(changed, list) != same {
			t.Errorf("%s and %s: ProgSame is %t and %t", shownProg(list), shownProg(changed), impl.ProgSame(list, changed), impl.ProgSame(changed, list))
		}
	}
	m := progMaker{Rand: r}
	for range 4000 {
		m.left = 1 + r.Intn(8)
		checkProg(t, m.block(nil))
	}
}

func TestProgSame(t *testing.T) {
	for i, first := range stmtTexts {
		for k, second := range stmtTexts {
			if same := impl.ProgSame(program(first), program(second)); same != (i == k) {
				t.Errorf("ProgSame(%q, %q) is %t", first, second, same)
			}
		}
		// What differs may be within others, at each depth.
		second := stmtTexts[(i+1)%len(stmtTexts)]
		for k, frame := range stmtFrames {
			a, b := inserted(frame, first), inserted(frame, second)
			for range k % 4 {
				a, b = inserted(frame, a), inserted(frame, b)
			}
			x, y := program(a), program(b)
			if impl.ProgSame(x, y) || impl.ProgSame(y, x) || impl.ProgSame(x, program(a)) != validProgWanted(x) {
				t.Errorf("ProgSame of %q and %q is %t, of the first and it %t", a, b, impl.ProgSame(x, y), impl.ProgSame(x, program(a)))
			}
		}
	}
}

// fieldChanges returns functions that change one field of a statement each, if it has something there.
func fieldChanges() []func(s *impl.Stmt) {
	pass := program("pass")
	return []func(s *impl.Stmt){
		func(s *impl.Stmt) { s.Kind++ },
		func(s *impl.Stmt) { s.Name += "x" },
		func(s *impl.Stmt) { s.Names = append(s.Names, "x") },
		func(s *impl.Stmt) { s.Names = shorter(s.Names) },
		func(s *impl.Stmt) { fill(shorter(s.Names), "other") },
		func(s *impl.Stmt) { s.Exprs = append(s.Exprs, leaf("x")) },
		func(s *impl.Stmt) { s.Exprs = shorter(s.Exprs) },
		func(s *impl.Stmt) { fill(shorter(s.Exprs), leaf("other")) },
		func(s *impl.Stmt) { s.Body = append(s.Body, pass...) },
		func(s *impl.Stmt) { s.Body = shorter(s.Body) },
		func(s *impl.Stmt) { s.Else = append(s.Else, pass...) },
		func(s *impl.Stmt) { s.Else = shorter(s.Else) },
		func(s *impl.Stmt) { s.Last = append(s.Last, pass...) },
		func(s *impl.Stmt) { s.Last = shorter(s.Last) },
		func(s *impl.Stmt) { s.Hands = append(s.Hands, impl.Hand{Body: pass}) },
		func(s *impl.Stmt) { s.Hands = shorter(s.Hands) },
		func(s *impl.Stmt) { fill(shorter(s.Hands), impl.Hand{Body: pass}) },
		func(s *impl.Stmt) { changeFirstHand(s, func(h *impl.Hand) { h.Name = "other" }) },
		func(s *impl.Stmt) { changeFirstHand(s, func(h *impl.Hand) { h.Exprs[0] = leaf("other") }) },
		func(s *impl.Stmt) { changeFirstHand(s, func(h *impl.Hand) { h.Body = pass }) },
	}
}

// TestProgSameOfOneField has programs that differ in one field alone, at each depth.
func TestProgSameOfOneField(t *testing.T) {
	text := "if a:\n for x in b:\n  def f(y, z=1):\n   class A(c):\n    try:\n     d = 1\n    except B as e:\n     global_ += 2\n    except:\n     raise g\n    else:\n     del h\n    finally:\n     assert i, j\n   return\n else:\n  import k\nelse:\n while l:\n  break\n pass\n"
	list := program(text)
	if !impl.ProgOk(list) || !impl.ProgSame(list, program(text)) {
		t.Fatalf("%q is not valid", text)
	}
	stillValid := 0
	for i := range stmtsToChange(list) {
		for k, change := range fieldChanges() {
			other := program(text)
			change(stmtsToChange(other)[i])
			if equalProgs(list, other) {
				continue
			}
			if impl.ProgOk(other) {
				stillValid++
			}
			if impl.ProgSame(list, other) || impl.ProgSame(other, list) {
				t.Errorf("ProgSame is true with statement %d changed by %d", i, k)
			}
			if impl.ProgSame(other, copiedProg(other)) != impl.ProgOk(other) {
				t.Errorf("ProgSame of %s and it is %t", shownProg(other), !impl.ProgOk(other))
			}
		}
	}
	if stillValid < 40 {
		t.Errorf("%d changed programs are valid", stillValid)
	}
}

// TestProgSameOfNoElements has no elements and empty lists of them, which are the same.
func TestProgSameOfNoElements(t *testing.T) {
	for _, text := range stmtTexts {
		list, full := program(text), program(text)
		for _, s := range stmtsToChange(full) {
			s.Names, s.Exprs, s.Body = append([]string{}, s.Names...), append([]impl.Expr{}, s.Exprs...), append([]impl.Stmt{}, s.Body...)
			s.Else, s.Hands, s.Last = append([]impl.Stmt{}, s.Else...), append([]impl.Hand{}, s.Hands...), append([]impl.Stmt{}, s.Last...)
		}
		if !impl.ProgSame(list, full) || !impl.ProgSame(full, list) {
			t.Errorf("ProgSame of %q with empty lists is false", text)
		}
		checkProg(t, full)
	}
}

// shorter returns a list without its last element, if it has one.
func shorter[E any](list []E) []E {
	return list[:max(len(list)-1, 0)]
}

func changeFirstHand(s *impl.Stmt, change func(h *impl.Hand)) {
	if len(s.Hands) > 0 {
		change(&s.Hands[0])
	}
}

func TestProgSize(t *testing.T) {
	for _, c := range []struct {
		text string
		size int
	}{
		{"", 0}, {"a", 1}, {"a\nb\nc", 3}, {"if a:\n b", 2}, {"if a:\n b\nelse:\n c", 3}, {"if a:\n b\nelif c:\n pass\nelse:\n d = 1", 5}, {"if a:\n b\nelif c:\n d\nelif e:\n f", 6}, {"while a:\n b\n c\nelse:\n d\n e\n f", 6}, {"for x in a:\n b\nelse:\n c", 3},
		{"def f(x=1):\n a\n b", 3}, {"class A(a):\n def f():\n  pass", 3}, {"try:\n a\nfinally:\n b\n c", 4}, {"try:\n a\nexcept A:\n b\nexcept:\n c\n d\nelse:\n e\nfinally:\n f\n g", 8}, {"a = lambda: b", 1},
	} {
		if n := impl.ProgSize(program(c.text)); n != c.size {
			t.Errorf("ProgSize of %q is %d, want %d", c.text, n, c.size)
		}
	}
	for _, list := range [][]impl.Stmt{program("break"), program("a\nreturn"), {{}}, {{Kind: 20}}, {{Kind: 4, Exprs: []impl.Expr{leaf("a")}}}, program(strings.Repeat("a\n", 81))} {
		if n := impl.ProgSize(list); n != -1 {
			t.Errorf("ProgSize(%s) = %d", shownProg(list), n)
		}
	}
}

func TestProgPut(t *testing.T) {
	for _, c := range [][2]string{
		{"a", "a\n"}, {"a\nb", "a\nb\n"}, {"a=1", "a = 1\n"}, {"a[0]=b.c=='='", "a[0] = b.c == '='\n"}, {"a+=1", "a += 1\n"}, {"a.b-=1", "a.b -= 1\n"}, {"a*=-1", "a *= -1\n"}, {"if a:\n b", "if a:\n    b\n"}, {"if a:\n b\nelse:\n c", "if a:\n    b\nelse:\n    c\n"},
		{"if a:\n b\nelif c:\n d", "if a:\n    b\nelif c:\n    d\n"}, {"if a:\n b\nelse:\n if c:\n  d", "if a:\n    b\nelif c:\n    d\n"}, {"if a:\n b\nelif c:\n d\nelse:\n e\n f", "if a:\n    b\nelif c:\n    d\nelse:\n    e\n    f\n"},
		{"if a:\n b\nelse:\n if c:\n  d\n e", "if a:\n    b\nelse:\n    if c:\n        d\n    e\n"}, {"if a:\n b\nelse:\n e\n if c:\n  d", "if a:\n    b\nelse:\n    e\n    if c:\n        d\n"}, {"if a:\n b\nelse:\n if c:\n  d\n if e:\n  f", "if a:\n    b\nelse:\n    if c:\n        d\n    if e:\n        f\n"},
		{"if a:\n b\nelif c:\n d\nelif e:\n f\nelse:\n g", "if a:\n    b\nelif c:\n    d\nelif e:\n    f\nelse:\n    g\n"}, {"if a:\n if b:\n  c\n elif d:\n  e\n else:\n  f\nelif g:\n h", "if a:\n    if b:\n        c\n    elif d:\n        e\n    else:\n        f\nelif g:\n    h\n"},
		{"if a:\n b\nelse:\n while c:\n  d", "if a:\n    b\nelse:\n    while c:\n        d\n"}, {"while a:\n b\nelse:\n if c:\n  d\n elif e:\n  f", "while a:\n    b\nelse:\n    if c:\n        d\n    elif e:\n        f\n"}, {"while a:\n b\n continue", "while a:\n    b\n    continue\n"},
		{"for x in [1,2]:\n break\nelse:\n pass", "for x in [1, 2]:\n    break\nelse:\n    pass\n"}, {"def f():\n return", "def f():\n    return\n"}, {"def f(x,y=1,z=-x):\n return x", "def f(x, y=1, z=-x):\n    return x\n"}, {"def f(x=a==b):\n a", "def f(x=a == b):\n    a\n"},
		{"class A:\n pass", "class A:\n    pass\n"}, {"class A(B,C):\n x=1\n def f(self):\n  pass", "class A(B, C):\n    x = 1\n    def f(self):\n        pass\n"}, {"raise", "raise\n"}, {"raise E('a')", "raise E('a')\n"}, {"pass", "pass\n"},
		{"try:\n a\nfinally:\n b", "try:\n    a\nfinally:\n    b\n"}, {"try:\n a\nexcept:\n b", "try:\n    a\nexcept:\n    b\n"}, {"try:\n a\nexcept A as e:\n b\nexcept B:\n c\nexcept:\n d\nelse:\n e\nfinally:\n f", "try:\n    a\nexcept A as e:\n    b\nexcept B:\n    c\nexcept:\n    d\nelse:\n    e\nfinally:\n    f\n"},
		{"def f():\n global a,b\n nonlocal c", "def f():\n    global a, b\n    nonlocal c\n"}, {"del a[0]", "del a[0]\n"}, {"del (a).b", "del a.b\n"}, {"import a", "import a\n"}, {"assert a", "assert a\n"}, {"assert a==b,'c'", "assert a == b, 'c'\n"},
		{"while a:\n while b:\n  while c:\n   while d:\n    while e:\n     break\n    else:\n     continue\n f", "while a:\n    while b:\n        while c:\n            while d:\n                while e:\n                    break\n                else:\n                    continue\n    f\n"},
	} {
		list := program(c[0])
		if s := impl.ProgPut(list); s != c[1] {
			t.Errorf("ProgPut of %q is %q, want %q", c[0], s, c[1])
		}
		for _, text := range c {
			if again, ok := impl.ProgGet(text); !ok || !equalProgs(again, list) {
				t.Errorf("ProgGet(%q) = %s, %t", text, shownProg(again), ok)
			}
		}
	}
	for _, text := range []string{"break", "a\nreturn", "try:\n a", "1 = a", strings.Repeat("a\n", 81)} {
		if s := impl.ProgPut(program(text)); s != "" {
			t.Errorf("ProgPut of %q is %q", text, s)
		}
	}
}

// exprPlaces are the places of expressions in statements, at the ?, with the levels that they demand. Those at level 10 are within targets.
var exprPlaces = []struct {
	text  string
	level int
}{
	{"?", 0}, {"a = ?", 0}, {"a += ?", 0}, {"a -= ?", 0}, {"a *= ?", 0}, {"a.b[0] = ?", 0}, {"?[0] = a", 10}, {"?.x = a", 10}, {"?[0] += a", 10}, {"?.x -= a", 10}, {"del ?[0]", 10}, {"del ?.x", 10}, {"a[?] = b", 1}, {"del a[?]", 1},
	{"if ?:\n    a", 1}, {"if a:\n    b\nelif ?:\n    c", 1}, {"while ?:\n    a", 1}, {"for x in ?:\n    a", 1}, {"def g(x=?):\n    a", 1}, {"def g(x, y=1, z=?):\n    a", 1}, {"class A(?):\n    a", 1}, {"class A(a, ?, b):\n    a", 1}, {"return ?", 1}, {"raise ?", 1},
	{"try:\n    a\nexcept ?:\n    b", 1}, {"try:\n    a\nexcept ? as e:\n    b", 1}, {"assert ?", 1}, {"assert ?, a", 1}, {"assert a, ?", 1},
}

// TestProgPutOfEachPlace has operands of each level at each place of a statement: in parentheses just where these are needed.
func TestProgPutOfEachPlace(t *testing.T) {
	for _, p := range exprPlaces {
		for _, o := range operands() {
			if o.level == 0 && strings.Contains(o.text, "yield") && strings.Contains(p.text, "except ?") {
				continue
			}
			within := func(s string) string { return inserted("def f():\n    ?\n", strings.Replace(p.text, "?", s, 1)) }
			bare, inParens := within(o.text), within("("+o.text+")")
			want := bare
			if o.level < p.level {
				want = inParens
			}
			list, ok := impl.ProgGet(inParens)
			if s := impl.ProgPut(list); !ok || s != want || !equalProgs(list, program(inParens)) {
				t.Errorf("ProgGet(%q) = %s, %t, written as %q", inParens, shownProg(list), ok, s)
			}
			again, ok := impl.ProgGet(bare)
			if (ok && equalProgs(again, list)) != (o.level >= p.level) {
				t.Errorf("ProgGet(%q) = %s, %t", bare, shownProg(again), ok)
			}
			// No more than one pair of parentheses is ever written.
			if list, ok := impl.ProgGet(within("(((" + o.text + ")))")); !ok || impl.ProgPut(list) != want {
				t.Errorf("%q in more parentheses is written as %q", inParens, impl.ProgPut(list))
			}
		}
	}
}

func TestStatementsShareNoMemory(t *testing.T) {
	for _, list := range progs() {
		// What the functions are given has room behind its elements that must stay as it is.
		mine, want := roomyProg(list), copiedProg(list)
		text := impl.ProgPut(mine)
		impl.ProgOk(mine)
		impl.ProgSize(mine)
		impl.ProgSame(mine, copiedProg(mine))
		impl.ProgSame(copiedProg(mine), mine)
		if !equalProgs(mine, want) || !equalProgs(roomOf(mine), program("room")) {
			t.Fatalf("%s was changed: %s", shownProg(want), shownProg(mine))
		}
		for _, s := range wordsOf(mine) {
			if sharesMemory(text, s) {
				t.Errorf("%q is a part of the argument", text)
			}
		}
		if !isTooLong(text) {
			checkProgMemory(t, text)
		}
	}
}

// wordsOf returns all texts that are in a program.
func wordsOf(list []impl.Stmt) []string {
	var words []string
	for _, s := range stmtsToChange(list) {
		words = append(append(words, s.Name), s.Names...)
		for _, h := range s.Hands {
			words = append(words, h.Name)
		}
	}
	for _, exprs := range exprsToChange(list) {
		for _, e := range exprs {
			for _, part := range partsOf(e) {
				words = append(append(words, part.Text), part.Names...)
			}
		}
	}
	return words
}

// roomyProg returns a copy of a program, with texts of its own, and with room behind its elements that is marked.
func roomyProg(list []impl.Stmt) []impl.Stmt {
	var copied []impl.Stmt
	for _, s := range list {
		s.Name = strings.Clone(s.Name)
		s.Names = append(slices.Clone(s.Names), "room")[:len(s.Names)]
		s.Exprs = roomyExprs(s.Exprs)
		s.Body, s.Else, s.Last = roomyProg(s.Body), roomyProg(s.Else), roomyProg(s.Last)
		var hands []impl.Hand
		for _, h := range s.Hands {
			hands = append(hands, impl.Hand{Exprs: roomyExprs(h.Exprs), Name: strings.Clone(h.Name), Body: roomyProg(h.Body)})
		}
		s.Hands = append(hands, impl.Hand{Name: "room"})[:len(hands)]
		copied = append(copied, s)
	}
	return append(copied, program("room")...)[:len(list)]
}

func roomyExprs(list []impl.Expr) []impl.Expr {
	var copied []impl.Expr
	for _, e := range list {
		copied = append(copied, roomyExpr(e))
	}
	return append(copied, leaf("room"))[:len(list)]
}

// roomOf returns what is in the room behind a program that roomyProg made: the statement room, if all its room is as it was.
func roomOf(list []impl.Stmt) []impl.Stmt {
	for _, s := range stmtsToChange(list) {
		if n := len(s.Names); s.Names[:n+1][n] != "room" {
			return nil
		}
		if n := len(s.Hands); s.Hands[:n+1][n].Name != "room" {
			return nil
		}
		for _, block := range [][]impl.Stmt{s.Body, s.Else, s.Last} {
			if n := len(block); !equalProgs(block[:n+1][n:], program("room")) {
				return nil
			}
		}
	}
	for _, exprs := range exprsToChange(list) {
		if n := len(exprs); exprs[:n+1][n].Text != "room" || slices.ContainsFunc(exprs, func(e impl.Expr) bool { return !hasItsRoom(e) }) {
			return nil
		}
	}
	return list[:len(list)+1][len(list):]
}

// checkProgMemory checks that what a text is read as shares no memory with it, nor one slice with another.
func checkProgMemory(t *testing.T, text string) {
	t.Helper()
	list, _ := impl.ProgGet(text)
	want := copiedProg(list)
	for _, s := range wordsOf(list) {
		if sharesMemory(s, text) {
			t.Errorf("%q is a part of %q", s, text)
		}
	}
	// Whatever is put behind the elements of one slice is seen in no other.
	strange := impl.Stmt{Kind: -1, Name: "x"}
	fill(list, strange)
	for _, s := range stmtsToChange(list) {
		fill(s.Names, "x")
		fill(s.Body, strange)
		fill(s.Else, strange)
		fill(s.Last, strange)
		fill(s.Hands, impl.Hand{Name: "x"})
	}
	for _, exprs := range exprsToChange(list) {
		fill(exprs, impl.Expr{Kind: -1})
	}
	if !equalProgs(list, want) {
		t.Errorf("%q is read as %s, which shares memory", text, shownProg(list))
	}
	for _, s := range stmtsToChange(list) {
		fill(s.Names[:0], "x")
		fill(s.Exprs[:0], impl.Expr{Kind: -1})
		s.Kind, s.Name = -1, "x"
	}
	if again, ok := impl.ProgGet(text); !ok || !equalProgs(again, want) {
		t.Errorf("%q is read as %s the second time", text, shownProg(again))
	}
}
