package tests

import (
	"fmt"
	"math/rand"
	"regexp"
	"slices"
	"strings"
	"testing"

	"loop.example/slowworm/impl"
)

// step is a statement around another one, and the field of it in which that stands.
type step struct {
	stmt  impl.Stmt
	field string
}

// fieldForms are the fields that a kind has, each by a letter as often as it has elements: of Name, names in Names, Exprs, Body, Else, Hands and Last.
var fieldForms = []*regexp.Regexp{
	1: form("e"), 2: form("ee"), 3: form("Nee"), 4: form("eBE?"), 5: form("eBE?"), 6: form("NeBE?"),
	7: form("N(n{0,6}B|n{1,6}eB|n{2,6}eeB|n{3,6}eeeB|n{4,6}eeeeB|n{5,6}eeeeeB|n{6}e{6}B)"),
	8: form("Ne{0,6}B"), 9: form("e?"), 10: form("e?"), 11: form("B(E?h{1,6}L?|L)"), 12: form(""), 13: form(""), 14: form(""),
	15: form("n+"), 16: form("n+"), 17: form("e"), 18: form("N"), 19: form("ee?"),
}

func form(s string) *regexp.Regexp {
	return regexp.MustCompile("^(?:" + s + ")$")
}

// fieldsWanted returns the letters of the fields of a statement.
func fieldsWanted(s impl.Stmt) string {
	all := []string{"", "N", "", "B", "", "E", "", "L"}
	return all[min(len(s.Name), 1)] + strings.Repeat("n", len(s.Names)) + strings.Repeat("e", len(s.Exprs)) + all[2+min(len(s.Body), 1)] +
		all[4+min(len(s.Else), 1)] + strings.Repeat("h", len(s.Hands)) + all[6+min(len(s.Last), 1)]
}

// visit calls a function with each statement and with what is around it, the outermost first.
func visit(list []impl.Stmt, around []step, see func(s impl.Stmt, around []step)) {
	for _, s := range list {
		see(s, around)
		in := func(field string) []step { return append(slices.Clone(around), step{s, field}) }
		visit(s.Body, in("Body"), see)
		for _, h := range s.Hands {
			visit(h.Body, in("Hands"), see)
		}
		visit(s.Else, in("Else"), see)
		visit(s.Last, in("Last"), see)
	}
}

// sizeWanted returns the number of statements, with all in them.
func sizeWanted(list []impl.Stmt) int {
	n := 0
	visit(list, nil, func(impl.Stmt, []step) { n++ })
	return n
}

// isElif reports whether a statement is written as if its only Else were an elif.
func isElif(s impl.Stmt) bool {
	return s.Kind == 4 && len(s.Else) == 1 && s.Else[0].Kind == 4
}

// blocksAround returns in how many blocks a statement stands.
func blocksAround(around []step) int {
	n := 1
	for _, one := range around {
		if one.field != "Else" || !isElif(one.stmt) {
			n++
		}
	}
	return n
}

// mayLeaveLoop reports whether a break may stand there: the nearest of what matters around it is the Body of a loop.
func mayLeaveLoop(around []step) bool {
	for _, one := range slices.Backward(around) {
		isLoop := one.stmt.Kind == 5 || one.stmt.Kind == 6
		if one.field == "Body" && isLoop {
			return true
		}
		if one.field == "Last" || one.stmt.Kind == 7 || one.stmt.Kind == 8 {
			return false
		}
	}
	return false
}

// mayReturn reports whether a return may stand there: the nearest of what matters around it is a def.
func mayReturn(around []step) bool {
	for _, one := range slices.Backward(around) {
		if one.field == "Last" || one.stmt.Kind == 8 {
			return false
		}
		if one.stmt.Kind == 7 {
			return true
		}
	}
	return false
}

// fitsExprs reports whether expressions are valid, and yield only where they may.
func fitsExprs(list []impl.Expr, mayYield bool) bool {
	for _, e := range list {
		if !validWanted(e) {
			return false
		}
		for _, part := range partsOf(e) {
			if part.Kind == 17 && !mayYield {
				return false
			}
			if part.Kind == 16 && slices.ContainsFunc(partsOf(part), func(e impl.Expr) bool { return e.Kind == 17 }) {
				return false
			}
		}
	}
	return true
}

func fitsHands(hands []impl.Hand) bool {
	for i, h := range hands {
		if len(h.Body) == 0 || len(h.Exprs) > 1 || !fitsExprs(h.Exprs, false) || h.Name != "" && !isNameWanted(h.Name) {
			return false
		}
		if len(h.Exprs) == 0 && (i < len(hands)-1 || h.Name != "") {
			return false
		}
	}
	return true
}

// fitsStmt reports whether a statement is what its kind is, and may stand where it does.
func fitsStmt(s impl.Stmt, around []step) bool {
	if s.Kind < 1 || s.Kind > 19 || !fieldForms[s.Kind].MatchString(fieldsWanted(s)) {
		return false
	}
	if !fitsExprs(s.Exprs, mayReturn(around)) || !fitsHands(s.Hands) || blocksAround(around) > 6 {
		return false
	}
	switch s.Kind {
	case 2, 17:
		return slices.Contains([]int{6, 14, 15}, s.Exprs[0].Kind)
	case 3:
		return slices.Contains([]int{6, 14, 15}, s.Exprs[0].Kind) && oneOf("+", "-", "*")(s.Name)
	case 6, 8, 18:
		return isNameWanted(s.Name)
	case 7:
		return isNameWanted(s.Name) && fitsNames(16, s.Names, 1)
	case 9:
		return mayReturn(around)
	case 15, 16:
		return mayReturn(around) && !slices.ContainsFunc(s.Names, func(name string) bool { return !isNameWanted(name) })
	case 13, 14:
		return mayLeaveLoop(around)
	}
	return true
}

// validProgWanted reports whether a program is valid, sentence by sentence.
func validProgWanted(list []impl.Stmt) bool {
	fits := sizeWanted(list) <= 80
	visit(list, nil, func(s impl.Stmt, around []step) { fits = fits && fitsStmt(s, around) })
	return fits
}

func equalProgs(a []impl.Stmt, b []impl.Stmt) bool {
	return slices.EqualFunc(a, b, func(a impl.Stmt, b impl.Stmt) bool {
		return a.Kind == b.Kind && a.Name == b.Name && slices.Equal(a.Names, b.Names) && slices.EqualFunc(a.Exprs, b.Exprs, equalExprs) &&
			equalProgs(a.Body, b.Body) && equalProgs(a.Else, b.Else) && equalProgs(a.Last, b.Last) &&
			slices.EqualFunc(a.Hands, b.Hands, func(a impl.Hand, b impl.Hand) bool {
				return a.Name == b.Name && slices.EqualFunc(a.Exprs, b.Exprs, equalExprs) && equalProgs(a.Body, b.Body)
			})
	})
}

// copiedProg returns a copy of a program that shares nothing with it, but texts.
func copiedProg(list []impl.Stmt) []impl.Stmt {
	return mappedProg(list, func(names []string) []string { return slices.Clone(names) }, copiedExpr)
}

// mappedProg returns a program with other names in Names, and other expressions.
func mappedProg(list []impl.Stmt, names func([]string) []string, expr func(impl.Expr) impl.Expr) []impl.Stmt {
	exprs := func(list []impl.Expr) []impl.Expr {
		list = slices.Clone(list)
		for i, e := range list {
			list[i] = expr(e)
		}
		return list
	}
	list = slices.Clone(list)
	for i, s := range list {
		s.Names, s.Exprs, s.Hands = names(s.Names), exprs(s.Exprs), slices.Clone(s.Hands)
		s.Body, s.Else, s.Last = mappedProg(s.Body, names, expr), mappedProg(s.Else, names, expr), mappedProg(s.Last, names, expr)
		for k, h := range s.Hands {
			s.Hands[k] = impl.Hand{Exprs: exprs(h.Exprs), Name: h.Name, Body: mappedProg(h.Body, names, expr)}
		}
		list[i] = s
	}
	return list
}

// shownProg returns a program for a message.
func shownProg(list []impl.Stmt) string {
	s := fmt.Sprint(list)
	return s[:min(len(s), 500)]
}

// textWanted returns a valid program as a text.
func textWanted(list []impl.Stmt) string {
	return textWith(list, func() string { return "" })
}

// textWith returns a valid program as a text with more parentheses, as many as more tells for each expression.
func textWith(list []impl.Stmt, more func() string) string {
	return strings.Join(linesWith(list, more), "")
}

// exprAt returns a valid expression as a text at a place that demands a level.
func exprAt(e impl.Expr, level int, more func() string) string {
	parens := more()
	if levelWanted(e) < level {
		parens += "("
	}
	return parens + exprWith(e, more) + strings.Repeat(")", len(parens))
}

// linesWith returns the lines of a program, each with its newline.
func linesWith(list []impl.Stmt, more func() string) []string {
	var lines []string
	block := func(head string, list []impl.Stmt) {
		lines = append(lines, head+":\n")
		for _, line := range linesWith(list, more) {
			lines = append(lines, "    "+line)
		}
	}
	for _, s := range list {
		head := headWith(s, more)
		if len(s.Body) == 0 {
			lines = append(lines, head+"\n")
			continue
		}
		block(head, s.Body)
		for isElif(s) {
			s = s.Else[0]
			block("el"+headWith(s, more), s.Body)
		}
		for _, h := range s.Hands {
			head := "except"
			for _, e := range h.Exprs {
				head += " " + exprAt(e, 1, more)
			}
			if h.Name != "" {
				head += " as " + h.Name
			}
			block(head, h.Body)
		}
		if len(s.Else) > 0 {
			block("else", s.Else)
		}
		if len(s.Last) > 0 {
			block("finally", s.Last)
		}
	}
	return lines
}

// stmtForms are how the kinds are written: < is a target, > an expression at level 0, ? one at level 1, $ the Name, & all Names, and ! all other Exprs.
var stmtForms = []string{
	1: ">", 2: "< = >", 3: "< $= >", 4: "if ?", 5: "while ?", 6: "for $ in ?", 7: "def $(&)", 8: "class $(!)", 9: "return !", 10: "raise !", 11: "try", 12: "pass",
	13: "break", 14: "continue", 15: "global &", 16: "nonlocal &", 17: "del <", 18: "import $", 19: "assert !",
}

// headWith returns the line of a statement, or the first one, without a colon.
func headWith(s impl.Stmt, more func() string) string {
	text, exprs := "", s.Exprs
	next := func(level int) string {
		e := exprs[0]
		exprs = exprs[1:]
		return exprAt(e, level, more)
	}
	for _, c := range stmtForms[s.Kind] {
		switch c {
		case '<':
			text += next(10)
		case '>':
			text += next(0)
		case '?':
			text += next(1)
		case '$':
			text += s.Name
		case '&':
			var list []string
			for i, name := range s.Names {
				if s.Kind == 7 && len(s.Names)-i == len(exprs) {
					name += "=" + next(1)
				}
				list = append(list, name)
			}
			text += strings.Join(list, ", ")
		case '!':
			var list []string
			for len(exprs) > 0 {
				list = append(list, next(1))
			}
			text += strings.Join(list, ", ")
		default:
			text += string(c)
		}
	}
	return strings.TrimSuffix(strings.TrimSuffix(text, " "), map[int]string{8: "()"}[s.Kind])
}

// inserted returns a text with another one in place of each line that is a question mark, behind the same spaces.
func inserted(frame string, text string) string {
	var lines []string
	for line := range strings.SplitSeq(strings.TrimSuffix(frame, "\n"), "\n") {
		spaces, isHole := strings.CutSuffix(line, "?")
		if !isHole {
			lines = append(lines, line+"\n")
			continue
		}
		for line := range strings.SplitAfterSeq(strings.TrimSuffix(text, "\n")+"\n", "\n") {
			if line != "" {
				lines = append(lines, spaces+line)
			}
		}
	}
	return strings.Join(lines, "")
}

// stmtTexts tell a valid statement each, of which no two are the same, that may stand in the program.
var stmtTexts = []string{
	"a\n", "b\n", "1\n", "''\n", "f(a, x=1)\n", "lambda: a\n", "lambda x, y: x\n", "not a\n", "a if b else c\n", "None\n", "[a, b]\n", "{}\n", "-1\n", "a == b\n", "a[0].b\n",
	"a = b\n", "b = a\n", "a = 1\n", "a[0] = b\n", "a[b] = b\n", "a.x = b\n", "a.y = b\n", "f(a).b = 1\n", "[a][0] = 1\n", "a = lambda: b\n", "a = b if c else d\n", "a = b == c\n", "{}[a] = b\n", "1.a = b\n", "'a'[b] = c\n",
	"a += b\n", "a -= b\n", "a *= b\n", "b += a\n", "a[0] += 1\n", "a.x -= 1\n", "a *= lambda: b\n",
	"if a:\n b\n", "if b:\n a\n", "if a:\n pass\n", "if a:\n b\n b\n", "if a:\n b\nelse:\n c\n", "if a:\n b\nelif c:\n d\n", "if a:\n b\nelif c:\n d\nelse:\n e\n", "if a:\n b\nelse:\n if c:\n  d\n e\n", "if a:\n b\nelse:\n e\n if c:\n  d\n",
	"if a:\n b\nelif c:\n d\nelif e:\n f\n", "if a:\n b\nelif c:\n d\nelif e:\n f\nelse:\n g\n", "if a:\n b\nelse:\n while c:\n  d\n", "if a:\n if b:\n  c\n else:\n  d\n", "if a:\n if b:\n  c\nelse:\n d\n",
	"while a:\n b\n", "while b:\n a\n", "while a:\n break\n", "while a:\n continue\n", "while a:\n b\nelse:\n c\n", "while a:\n b\nelse:\n if c:\n  d\n", "while a:\n b\nelse:\n if c:\n  d\n else:\n  e\n",
	"for x in a:\n b\n", "for y in a:\n b\n", "for x in b:\n b\n", "for x in a:\n break\n", "for x in a:\n b\nelse:\n c\n", "for x in a:\n b\nelse:\n if c:\n  d\n",
	"def f():\n a\n", "def g():\n a\n", "def f():\n b\n", "def f(x):\n a\n", "def f(y):\n a\n", "def f(x, y):\n a\n", "def f(y, x):\n a\n", "def f(x=1):\n a\n", "def f(x, y=1):\n a\n", "def f(x=1, y=2):\n a\n", "def f(x=2, y=1):\n a\n",
	"def f(a, b, c, d, e, f):\n a\n", "def f(a=1, b=2, c=3, d=4, e=5, f=6):\n a\n", "def f(a, b, c, d=1, e=2, f=3):\n a\n", "def f(f):\n f\n", "def f(x=x):\n x\n", "def f(x=a == b):\n a\n",
	"def f():\n return\n", "def f():\n return a\n", "def f():\n return b\n", "def f():\n yield a\n", "def f():\n x = yield a\n", "def f():\n return (yield a)\n", "def f():\n global a\n", "def f():\n global b\n", "def f():\n global a, b\n", "def f():\n global b, a\n", "def f():\n global a, a\n", "def f():\n nonlocal a\n", "def f():\n nonlocal a, b, c, d, e, f, g\n",
	"class A:\n a\n", "class B:\n a\n", "class A:\n b\n", "class A(a):\n a\n", "class A(B):\n a\n", "class A(a, b):\n a\n", "class A(b, a):\n a\n", "class A(a, b, c, d, e, f):\n a\n", "class A(a, a):\n a\n", "class A(A):\n def f(x):\n  return x\n",
	"raise\n", "raise a\n", "raise b\n", "raise E('a')\n", "pass\n", "del a\n", "del b\n", "del a[0]\n", "del a.x\n", "del a[0].x\n", "import a\n", "import b\n", "assert a\n", "assert b\n", "assert a, b\n", "assert b, a\n",
	"try:\n a\nfinally:\n b\n", "try:\n a\nfinally:\n c\n", "try:\n a\nexcept:\n b\n", "try:\n a\nexcept:\n c\n", "try:\n a\nexcept A:\n b\n", "try:\n a\nexcept B:\n b\n", "try:\n a\nexcept A as e:\n b\n", "try:\n a\nexcept A as f:\n b\n", "try:\n a\nexcept B as e:\n b\n",
	"try:\n a\nexcept A:\n b\nexcept:\n c\n", "try:\n a\nexcept A:\n b\nexcept B:\n c\n", "try:\n a\nexcept A:\n b\nexcept A:\n b\n", "try:\n a\nexcept A as e:\n b\nexcept B as f:\n c\nexcept:\n d\nelse:\n g\nfinally:\n h\n", "try:\n a\nexcept:\n b\nelse:\n c\n", "try:\n a\nexcept:\n b\nfinally:\n c\n",
	"try:\n a\nexcept A:\n b\nexcept B:\n b\nexcept C:\n b\nexcept D:\n b\nexcept E:\n b\nexcept:\n b\n", "try:\n a\nexcept a[0]:\n b\n", "try:\n a\nexcept a if b else c:\n d\n", "try:\n raise\nexcept:\n raise\n", "try:\n try:\n  a\n finally:\n  b\nexcept:\n c\n",
}

// stmtFrames are statements with a block that may be filled with more, of each field that may have one.
var stmtFrames = []string{
	"if a:\n ?\n", "if a:\n b\n ?\n", "if a:\n b\nelse:\n c\n ?\n", "if a:\n b\nelif c:\n ?\n", "while a:\n ?\n", "while a:\n b\nelse:\n ?\n", "for x in a:\n ?\n", "for x in a:\n b\nelse:\n ?\n", "def f(x):\n ?\n", "class A(a):\n ?\n",
	"try:\n ?\nfinally:\n a\n", "try:\n a\nexcept:\n ?\n", "try:\n a\nexcept A:\n ?\nexcept:\n b\n", "try:\n a\nexcept:\n b\nelse:\n ?\n", "try:\n a\nfinally:\n ?\n",
}

// progMaker makes programs by chance.
type progMaker struct {
	*rand.Rand
	// left is how many statements there may be, yet.
	left int
	// careful tells whether they are to be valid.
	careful bool
}

// randomProg returns a valid program by chance.
func randomProg(r *rand.Rand) []impl.Stmt {
	m := progMaker{r, 1 + r.Intn(80), true}
	if r.Intn(2) == 0 {
		m.left = 1 + r.Intn(10)
	}
	var list []impl.Stmt
	for len(list) < 4 && m.left > 0 {
		list = append(list, m.block(nil)...)
	}
	return list
}

// block returns some statements, at least one if there is at least one left.
func (m *progMaker) block(around []step) []impl.Stmt {
	var list []impl.Stmt
	for range 1 + m.Intn(1+m.Intn(4)) {
		if m.left <= 0 {
			break
		}
		m.left--
		list = append(list, m.stmt(around))
	}
	return list
}

func (m *progMaker) name() string {
	return []string{"a", "b", "c", "x", "_", "A", "twelve_bytes", "print"}[m.Intn(8)]
}

func (m *progMaker) names(most int) []string {
	names := append(slices.Clone(sixNames), "_", "twelve_bytes")
	m.Shuffle(len(names), func(i int, j int) { names[i], names[j] = names[j], names[i] })
	return names[:m.Intn(most+1)]
}

// exprs returns expressions that yield only where they may, and never in a lambda.
func (m *progMaker) exprs(n int, mayYield bool) []impl.Expr {
	var list []impl.Expr
	for range n {
		e := leaf(m.name())
		if m.Intn(2) == 0 {
			e = randomExpr(m.Rand, 1+m.Intn(3))
		}
		if m.careful {
			e = withoutYields(e, mayYield)
		}
		list = append(list, e)
	}
	return list
}

// withoutYields returns an expression without yields where they may not be.
func withoutYields(e impl.Expr, mayYield bool) impl.Expr {
	for e.Kind == 17 && !mayYield {
		e = e.Kids[0]
	}
	e.Kids = slices.Clone(e.Kids)
	for i, kid := range e.Kids {
		e.Kids[i] = withoutYields(kid, mayYield && e.Kind != 16)
	}
	return e
}

// kind returns a kind of statements that may stand in a place.
func (m *progMaker) kind(around []step) int {
	for {
		kind := 1 + m.Intn(19)
		switch {
		case !m.careful:
			return kind
		case (kind == 9 || kind == 15 || kind == 16) && !mayReturn(around), (kind == 13 || kind == 14) && !mayLeaveLoop(around):
		// With no room for a block in it there is none.
		case (kind >= 4 && kind <= 8 || kind == 11) && (len(around) > 4 || m.left < 3):
		default:
			return kind
		}
	}
}

func (m *progMaker) stmt(around []step) impl.Stmt {
	mayYield := mayReturn(around)
	s := impl.Stmt{Kind: m.kind(around)}
	in := func(field string) []step { return append(slices.Clone(around), step{s, field}) }
	switch s.Kind {
	case 1:
		s.Exprs = m.exprs(1, mayYield)
	case 2, 3:
		s.Exprs = append([]impl.Expr{m.target(mayYield)}, m.exprs(1, mayYield)...)
		s.Name = []string{"", "", "", "+", "-", "*"}[3*(s.Kind-2)+m.Intn(3)]
	case 4, 5, 6:
		s.Exprs = m.exprs(1, mayYield)
		s.Name = []string{"", m.name()}[s.Kind/6]
		s.Body = m.block(in("Body"))
		if m.Intn(2) == 0 {
			s.Else = m.block(in("Else"))
		} else if s.Kind == 4 && m.left > 2 && m.Intn(2) == 0 {
			m.left -= 2
			s.Else = []impl.Stmt{{Kind: 4, Exprs: m.exprs(1, mayYield), Body: program("pass"), Else: m.block(in("Else"))}}
		}
	case 7:
		s.Name, s.Names = m.name(), m.names(6)
		s.Exprs = m.exprs(m.Intn(len(s.Names)+1), mayYield)
		s.Body = m.block(in("Body"))
	case 8:
		s.Name, s.Exprs = m.name(), m.exprs(m.Intn(1+m.Intn(7)), mayYield)
		s.Body = m.block(in("Body"))
	case 9, 10:
		s.Exprs = m.exprs(m.Intn(2), mayYield)
	case 11:
		m.fillTry(&s, in)
	case 15, 16:
		s.Names = append([]string{m.name()}, m.names(8)...)
	case 17:
		s.Exprs = []impl.Expr{m.target(mayYield)}
	case 18:
		s.Name = m.name()
	case 19:
		s.Exprs = m.exprs(1+m.Intn(2), mayYield)
	}
	return s
}

func (m *progMaker) target(mayYield bool) impl.Expr {
	switch m.Intn(3) {
	case 0:
		return leaf(m.name())
	case 1:
		return impl.Expr{Kind: 14, Kids: m.exprs(2, mayYield)}
	}
	return impl.Expr{Kind: 15, Text: m.name(), Kids: m.exprs(1, mayYield)}
}

func (m *progMaker) fillTry(s *impl.Stmt, in func(field string) []step) {
	// One statement is kept for Last, which there must be without handlers.
	m.left--
	s.Body = m.block(in("Body"))
	for range m.Intn(1 + m.Intn(7)) {
		if m.left <= 0 {
			break
		}
		h := impl.Hand{Exprs: m.exprs(1, false), Name: []string{"", "e", "twelve_bytes"}[m.Intn(3)]}
		h.Body = m.block(in("Hands"))
		s.Hands = append(s.Hands, h)
	}
	last := len(s.Hands) - 1
	if last >= 0 && m.Intn(2) == 0 {
		s.Hands[last].Exprs, s.Hands[last].Name = nil, ""
	}
	if last >= 0 && m.Intn(2) == 0 {
		s.Else = m.block(in("Else"))
	}
	m.left++
	if last < 0 || m.Intn(2) == 0 {
		s.Last = m.block(in("Last"))
	}
}

// progs returns valid programs: none, small ones, these in larger ones, and ones that are made by chance.
func progs() [][]impl.Stmt {
	all := [][]impl.Stmt{nil, {}}
	for i, text := range stmtTexts {
		frame, outer := stmtFrames[i%len(stmtFrames)], stmtFrames[(i/7)%len(stmtFrames)]
		for _, s := range []string{text, text + text, "a\n" + text + "b = 1\n", inserted(frame, text), inserted(outer, inserted(frame, text+"a\n"))} {
			if list := program(s); validProgWanted(list) {
				all = append(all, list)
			}
		}
	}
	full := impl.Stmt{Kind: 1, Exprs: []impl.Expr{{Kind: 5, Text: strings.Repeat("a", 400)}}}
	all = append(all, program(elifs(79)), program(strings.Repeat("a\n", 80)), program(nestedText("if a:\n ?\n", 5)), slices.Repeat([]impl.Stmt{full}, 9), slices.Repeat([]impl.Stmt{full}, 10))
	r := rand.New(rand.NewSource(71))
	for range 1500 {
		if list := randomProg(r); validProgWanted(list) {
			all = append(all, list)
		}
	}
	return all
}

// elifs returns an if with so many more behind it that its size is the given one, half of which are statements in them.
func elifs(size int) string {
	text := "if a:\n b\n"
	for range size/2 - 1 {
		text += "elif a:\n b\n"
	}
	return text + strings.Repeat("else:\n c\n", size%2)
}

// nestedText returns a frame within itself, so many times, around a pass.
func nestedText(frame string, times int) string {
	text := "pass\n"
	for range times {
		text = inserted(frame, text)
	}
	return text
}

// stmtsToChange returns all statements of a program, each to be changed in its place.
func stmtsToChange(list []impl.Stmt) []*impl.Stmt {
	var all []*impl.Stmt
	for i := range list {
		s := &list[i]
		all = append(all, s)
		all = slices.Concat(all, stmtsToChange(s.Body), stmtsToChange(s.Else), stmtsToChange(s.Last))
		for _, h := range s.Hands {
			all = append(all, stmtsToChange(h.Body)...)
		}
	}
	return all
}

// changedProg returns a program with something in it changed, so that it may not be valid.
func changedProg(r *rand.Rand, list []impl.Stmt) []impl.Stmt {
	list = copiedProg(list)
	all := stmtsToChange(list)
	if len(all) == 0 {
		return program("pass")
	}
	m := progMaker{r, 3, false}
	s := all[r.Intn(len(all))]
	blocks := []*[]impl.Stmt{&s.Body, &s.Else, &s.Last}
	for i := range s.Hands {
		blocks = append(blocks, &s.Hands[i].Body)
	}
	switch block := blocks[r.Intn(len(blocks))]; r.Intn(12) {
	case 0:
		s.Kind += r.Intn(5) - 2
	case 1:
		s.Name = []string{"", "a", "+", "-", "*", "/", "if", "twelve_bytes", "thirteen_byte", "1"}[r.Intn(10)]
	case 2:
		s.Names = append(s.Names, []string{"a", "b", "g", "if", "", "1a"}[r.Intn(6)])
	case 3:
		s.Names = s.Names[:r.Intn(len(s.Names)+1)]
	case 4:
		s.Exprs = append(s.Exprs, m.exprs(1, true)...)
	case 5:
		s.Exprs = s.Exprs[:r.Intn(len(s.Exprs)+1)]
	case 6:
		for i, e := range s.Exprs {
			s.Exprs[i] = changedExpr(r, e)
		}
	case 7:
		*block = append(*block, m.block(nil)...)
	case 8:
		*block = nil
	case 9:
		*s = copiedProg([]impl.Stmt{*all[r.Intn(len(all))]})[0]
	case 10:
		*block = append(*block, copiedProg([]impl.Stmt{*all[r.Intn(len(all))]})...)
	default:
		changeHands(m, s)
	}
	return list
}

// changeHands changes the handlers of a statement, which may have none.
func changeHands(m progMaker, s *impl.Stmt) {
	h := impl.Hand{Exprs: m.exprs(m.Intn(3), true), Name: []string{"", "", "e", "if"}[m.Intn(4)], Body: m.block(nil)}
	n := len(s.Hands)
	switch k := m.Intn(3); {
	case k == 0 && n > 0:
		s.Hands = s.Hands[:m.Intn(n)]
	case k == 1 && n > 0:
		s.Hands[m.Intn(n)] = h
	default:
		s.Hands = slices.Insert(s.Hands, m.Intn(n+1), h)
	}
}

// looseProgs returns texts that tell valid programs, with more parentheses, other spaces, blank lines and comments, and these programs.
func looseProgs() ([]string, [][]impl.Stmt) {
	r := rand.New(rand.NewSource(72))
	var texts []string
	var told [][]impl.Stmt
	for _, list := range progs() {
		text := loosenedProg(r, textWith(list, func() string { return strings.Repeat("(", max(r.Intn(9)-6, 0)) }))
		if !isTooLong(text) {
			texts, told = append(texts, text), append(told, list)
		}
	}
	return texts, told
}

// loosenedProg returns a text with other spaces, and more lines.
func loosenedProg(r *rand.Rand, text string) string {
	nothing := []string{"", "", "", "\n", "   \n", "# c\n", "      # if a:\n"}
	width := 1 + r.Intn(5)
	loose := ""
	for line := range strings.Lines(text) {
		bare := strings.TrimLeft(line, " ")
		// What loosened leaves open at the end of a line is ended here.
		end := []string{"\n", " \n", " # c\n"}[r.Intn(3)]
		loose += nothing[r.Intn(7)] + strings.Repeat(" ", (len(line)-len(bare))/4*width) + strings.TrimRight(loosened(r, bare), " \n") + end
	}
	return strings.TrimSuffix(loose, []string{"", "\n"}[r.Intn(2)])
}

// TestHelpersOfStatements checks that the programs of the tests have what the tests are for.
func TestHelpersOfStatements(t *testing.T) {
	var kinds, depths [21]int
	elifCount, largest, long := 0, 0, 0
	all := progs()
	for _, list := range all {
		largest = max(largest, sizeWanted(list))
		if isTooLong(textWanted(list)) {
			long++
		}
		visit(list, nil, func(s impl.Stmt, around []step) {
			kinds[s.Kind]++
			depths[blocksAround(around)]++
			if isElif(s) {
				elifCount++
			}
		})
	}
	checkMany(t, "statements of the kind", kinds[1:20], 100)
	checkMany(t, "statements at the depth", depths[1:7], 100)
	if len(all) < 1700 || elifCount < 100 || largest != 80 || long == 0 || long > len(all)/4 {
		t.Errorf("%d programs, %d elifs, the largest size is %d, %d texts are too long", len(all), elifCount, largest, long)
	}
	valid, broken := 0, 0
	r := rand.New(rand.NewSource(73))
	for _, list := range all {
		if validProgWanted(changedProg(r, list)) {
			valid++
		} else {
			broken++
		}
	}
	if valid < 200 || broken < 800 {
		t.Errorf("of the changed programs %d are valid, and %d are not", valid, broken)
	}
	if texts, _ := looseProgs(); len(texts) < 1300 {
		t.Errorf("%d texts", len(texts))
	}
}
