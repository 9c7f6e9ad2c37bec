package tests

import (
	"fmt"
	"math"
	"math/rand"
	"slices"
	"strings"
	"testing"

	"loop.example/slowworm/impl"
)

// place is where an operand may stand, at the ?: what is around it, as a tree and as a text, and the level that the place demands.
type place struct {
	tree, text string
	demand     int
}

// operand is an expression that may stand at a place, as a tree and as a text, and its level.
type operand struct {
	tree, text string
	level      int
}

// places returns a place for each of the Kids that the kinds may have.
func places() []place {
	list := []place{
		{"(list ?)", "[?]", 1}, {"(list ? b c)", "[?, b, c]", 1}, {"(list a ? c)", "[a, ?, c]", 1}, {"(list a b ?)", "[a, b, ?]", 1},
		{"(dict ? b)", "{?: b}", 1}, {"(dict a ?)", "{a: ?}", 1}, {"(dict a b ? c d e)", "{a: b, ?: c, d: e}", 1}, {"(dict a b c ? d e)", "{a: b, c: ?, d: e}", 1},
		{"(dict a b c d e ?)", "{a: b, c: d, e: ?}", 1}, {"(- ?)", "-?", 8}, {"(not ?)", "not ?", 4},
		{"(or ? b)", "? or b", 2}, {"(or a ?)", "a or ?", 3}, {"(and ? b)", "? and b", 3}, {"(and a ?)", "a and ?", 4},
		{"(+ ? b)", "? + b", 6}, {"(+ a ?)", "a + ?", 7}, {"(- ? b)", "? - b", 6}, {"(- a ?)", "a - ?", 7},
		{"(* ? b)", "? * b", 7}, {"(* a ?)", "a * ?", 8}, {"(// ? b)", "? // b", 7}, {"(// a ?)", "a // ?", 8}, {"(% ? b)", "? % b", 7}, {"(% a ?)", "a % ?", 8},
		{"(** ? b)", "? ** b", 10}, {"(** a ?)", "a ** ?", 8},
		{"(if ? b c)", "? if b else c", 2}, {"(if a ? c)", "a if ? else c", 2}, {"(if a b ?)", "a if b else ?", 1},
		{"(call ?)", "?()", 10}, {"(call ? a)", "?(a)", 10}, {"(call ? a x= b)", "?(a, x=b)", 10}, {"(call a ?)", "a(?)", 1}, {"(call a b ? c)", "a(b, ?, c)", 1},
		{"(call a b ?)", "a(b, ?)", 1}, {"(call a x= ?)", "a(x=?)", 1}, {"(call a b x= ? y= c)", "a(b, x=?, y=c)", 1}, {"(call a b x= c y= ?)", "a(b, x=c, y=?)", 1},
		{"(index ? b)", "?[b]", 10}, {"(index a ?)", "a[?]", 1}, {"(attr.x ?)", "?.x", 10},
		{"(lambda: ?)", "lambda: ?", 0}, {"(lambda:x,y ?)", "lambda x, y: ?", 0}, {"(yield ?)", "yield ?", 1},
	}
	for _, sign := range strings.Fields("< <= > >= == != in is") {
		list = append(list, place{"(" + sign + " ? b)", "? " + sign + " b", 6}, place{"(" + sign + " a ?)", "a " + sign + " ?", 6})
	}
	return list
}

// operands returns expressions of each level.
func operands() []operand {
	list := []operand{
		{"(lambda: x)", "lambda: x", 0}, {"(lambda:x,y z)", "lambda x, y: z", 0}, {"(yield x)", "yield x", 0}, {"(if x y z)", "x if y else z", 1},
		{"(or x y)", "x or y", 2}, {"(and x y)", "x and y", 3}, {"(not x)", "not x", 4}, {"(+ x y)", "x + y", 6}, {"(- x y)", "x - y", 6},
		{"(* x y)", "x * y", 7}, {"(// x y)", "x // y", 7}, {"(% x y)", "x % y", 7}, {"(- x)", "-x", 8}, {"(- 1)", "-1", 8}, {"(** x y)", "x ** y", 9},
		{"(call x)", "x()", 10}, {"(call x y z= 1)", "x(y, z=1)", 10}, {"(index x y)", "x[y]", 10}, {"(attr.y x)", "x.y", 10},
		{"x", "x", 11}, {"1", "1", 11}, {nines, nines, 11}, {"'t'", "'t'", 11}, {"''", "''", 11}, {"None", "None", 11}, {"True", "True", 11}, {"False", "False", 11},
		{"(list)", "[]", 11}, {"(list x y)", "[x, y]", 11}, {"(dict)", "{}", 11}, {"(dict x y)", "{x: y}", 11},
	}
	for _, sign := range strings.Fields("< <= > >= == != in is") {
		list = append(list, operand{"(" + sign + " x y)", "x " + sign + " y", 5})
	}
	return list
}

// within returns an operand at the place, as a tree.
func (p place) within(tree string) string {
	return strings.Replace(p.tree, "?", tree, 1)
}

// nested returns a leaf within as many of the same places.
func (p place) nested(times int) string {
	s := "a"
	for range times {
		s = p.within(s)
	}
	return s
}

// shown returns an expression for a message.
func shown(e impl.Expr) string {
	s := fmt.Sprint(e)
	return s[:min(len(s), 300)]
}

// checkExpr holds all that is told of an expression against what it must be.
func checkExpr(t *testing.T, e impl.Expr) {
	t.Helper()
	valid, text, size := validWanted(e), "", 0
	var names []string
	if valid {
		text, size, names = exprWanted(e), len(partsOf(e)), onceEach(namesWanted(e))
	}
	if impl.ExprOk(e) != valid || impl.ExprSame(e, e) != valid || impl.ExprSame(e, copiedExpr(e)) != valid {
		t.Errorf("%s: ExprOk is %t, ExprSame of it and it %t", shown(e), impl.ExprOk(e), impl.ExprSame(e, e))
	}
	if n := impl.ExprSize(e); n != size {
		t.Errorf("%s: ExprSize is %d, want %d", shown(e), n, size)
	}
	if list := impl.ExprNames(e); !slices.Equal(list, names) {
		t.Errorf("%s: ExprNames is %q, want %q", shown(e), list, names)
	}
	if s := impl.ExprPut(e); s != text {
		t.Errorf("%s: ExprPut is %q, want %q", shown(e), s, text)
	}
}

func TestLimitsOfExpressions(t *testing.T) {
	if impl.MaxDepth != 7 || impl.MaxKids != 6 {
		t.Errorf("MaxDepth = %d, MaxKids = %d", impl.MaxDepth, impl.MaxKids)
	}
	kinds := []int{
		impl.ExprNone, impl.ExprTrue, impl.ExprFalse, impl.ExprInt, impl.ExprText, impl.ExprName, impl.ExprList, impl.ExprDict, impl.ExprUnary,
		impl.ExprBinary, impl.ExprLogic, impl.ExprIf, impl.ExprCall, impl.ExprIndex, impl.ExprAttr, impl.ExprLambda, impl.ExprYield,
	}
	if !slices.Equal(kinds, upTo(1, 18)) {
		t.Errorf("the kinds of expressions are %v", kinds)
	}
}

func TestExprOkOfKinds(t *testing.T) {
	known := map[int]bool{}
	for _, s := range smallTrees {
		e := tree(s)
		known[e.Kind] = true
		if !impl.ExprOk(e) {
			t.Errorf("ExprOk(%s) = false", s)
		}
		for _, kind := range []int{0, 18, 19, 20, 100, 256 + e.Kind, -1, -2, -17, -e.Kind, math.MinInt, math.MaxInt, 1<<32 + e.Kind} {
			e.Kind = kind
			checkExpr(t, e)
			if impl.ExprOk(e) {
				t.Errorf("ExprOk(%s) of the kind %d = true", s, kind)
			}
		}
	}
	if len(known) != 17 {
		t.Errorf("the kinds of the trees are %v", known)
	}
	checkExpr(t, impl.Expr{})
}

// textOfKind returns a Text that a kind has.
func textOfKind(kind int) string {
	return map[int]string{4: "1", 5: "a b", 6: "a", 9: "-", 10: "-", 11: "and", 15: "a"}[kind]
}

// kindAndKids returns an expression of a kind with as many leaves as Kids.
func kindAndKids(kind int, kids int) impl.Expr {
	return impl.Expr{Kind: kind, Text: textOfKind(kind), Kids: slices.Repeat([]impl.Expr{leaf("a")}, kids)}
}

func TestExprOkOfKids(t *testing.T) {
	for kind := 1; kind <= 17; kind++ {
		for _, n := range append(upTo(0, 16), 100, 1000000) {
			e := kindAndKids(kind, n)
			if want := slices.Contains(kindRules[kind].kids, n); impl.ExprOk(e) != want {
				t.Errorf("ExprOk of the kind %d with %d Kids = %t", kind, n, !want)
			}
			if n > 15 {
				continue
			}
			checkExpr(t, e)
			// A kid that is not valid makes its parent invalid, wherever it is.
			for i := range n {
				e.Kids[i].Kind = 0
				checkExpr(t, e)
				e.Kids[i] = impl.Expr{Kind: 6, Text: "if"}
				if impl.ExprOk(e) {
					t.Errorf("ExprOk(%s) = true", shown(e))
				}
				e.Kids[i] = leaf("a")
			}
		}
	}
}

func TestExprOkOfTexts(t *testing.T) {
	list := slices.Concat(textPool, signs, notNumbers, []string{
		"-1", "-0", "-" + nines, nines[1:], "1" + nines, "thirteen_byte", "and ", " or", "not in", "is not", "+ ", "**", "***", "/", "&", "<>", "=", "no", "None", "True",
		strings.Repeat("x", 12), strings.Repeat("x", 13), strings.Repeat("\xff", 400), strings.Repeat("x", 400), strings.Repeat("x", 401), strings.Repeat("1", 401), strings.Repeat("x", 1000000),
	})
	for kind := 1; kind <= 17; kind++ {
		fine := 0
		for _, s := range list {
			e := kindAndKids(kind, kindRules[kind].kids[len(kindRules[kind].kids)-1])
			e.Text = s
			want := kindRules[kind].fits(s)
			if impl.ExprOk(e) != want {
				t.Errorf("ExprOk of the kind %d with the Text %.50q = %t", kind, s, !want)
			}
			if want {
				fine++
			}
			checkExpr(t, e)
			checkExpr(t, listOf(leaf("a"), e))
		}
		if fine == 0 || fine == len(list) {
			t.Errorf("%d texts of the kind %d", fine, kind)
		}
	}
}

func TestExprOkOfNames(t *testing.T) {
	lists := [][]string{
		nil, {}, {"a"}, {"x", "y"}, {"a", "b", "c"}, sixNames, sevenNames, append(slices.Clone(sevenNames), sixNames...), sixNames[:5], {"twelve_bytes"}, {"_"},
		{"a", "a"}, {"a", "b", "a"}, {"a", "b", "b"}, {"a", "b", "c", "d", "e", "a"}, {"a", "b", "c", "d", "e", "e"}, {"A", "a"},
		{""}, {"a", ""}, {"", "a"}, {"if"}, {"a", "None"}, {"lambda", "a"}, {"1"}, {"a", "1a"}, {"a b"}, {"a,b"}, {"a "}, {"thirteen_byte"}, {"a="}, {"\xff"}, {"*a"},
		{"a", "b", "c", "d", "e", "in"}, slices.Repeat([]string{"a"}, 7),
	}
	for kind := 1; kind <= 17; kind++ {
		for _, n := range kindRules[kind].kids {
			for _, names := range lists {
				e := kindAndKids(kind, n)
				e.Names = names
				if want := fitsNames(kind, names, n); impl.ExprOk(e) != want {
					t.Errorf("ExprOk of the kind %d with %d Kids and the Names %q = %t", kind, n, names, !want)
				}
				checkExpr(t, e)
			}
		}
	}
	for _, names := range []int{1, 2, 3, 4, 5, 6} {
		e := kindAndKids(impl.ExprCall, 7)
		e.Names = sixNames[:names]
		if less := kindAndKids(impl.ExprCall, names); !impl.ExprOk(e) {
			t.Errorf("ExprOk(%s) = false", shown(e))
		} else if less.Names = e.Names; impl.ExprOk(less) {
			t.Errorf("ExprOk(%s) = true", shown(less))
		}
	}
}

func TestExprOkOfDepths(t *testing.T) {
	for _, p := range places() {
		for times := range 10 {
			e := tree(p.nested(times))
			if want := times <= 6; impl.ExprOk(e) != want {
				t.Errorf("ExprOk(%s) = %t", p.nested(times), !want)
			}
			checkExpr(t, e)
		}
		// All else is flat.
		for times := 4; times <= 6; times++ {
			for _, outer := range places() {
				s := outer.within(p.nested(times))
				if want := times <= 5; impl.ExprOk(tree(s)) != want {
					t.Errorf("ExprOk(%s) = %t", s, !want)
				}
			}
		}
	}
}

func TestExpressionsOfStrangeShapes(t *testing.T) {
	circle := make([]impl.Expr, 12)
	for i := range circle {
		circle[i] = impl.Expr{Kind: 8, Kids: circle}
	}
	one := make([]impl.Expr, 1)
	one[0] = impl.Expr{Kind: 9, Text: "-", Kids: one}
	deep := leaf("a")
	for range 100000 {
		deep = impl.Expr{Kind: 9, Text: "not", Kids: []impl.Expr{deep}}
	}
	many := slices.Repeat([]string{"a"}, 1000000)
	for i, e := range []impl.Expr{
		circle[0], one[0], deep, kindAndKids(7, 1000000), {Kind: 7, Kids: circle}, {Kind: 16, Names: many, Kids: []impl.Expr{leaf("a")}},
		{Kind: 13, Names: many, Kids: []impl.Expr{leaf("a")}}, {Kind: 13, Names: many, Kids: slices.Repeat([]impl.Expr{leaf("a")}, 1000001)},
		{Kind: 6, Names: many, Text: "a"}, {Kind: 4, Text: strings.Repeat("1", 1000000)}, {Kind: 6, Text: strings.Repeat("a", 1000000)},
	} {
		if impl.ExprOk(e) || impl.ExprSame(e, e) || impl.ExprSize(e) != 0 || len(impl.ExprNames(e)) != 0 || impl.ExprPut(e) != "" {
			t.Errorf("strange expression %d is valid", i)
		}
	}
	// The same memory may stand at many places.
	leaves := []impl.Expr{leaf("a"), leaf("b")}
	list := impl.Expr{Kind: 7, Kids: leaves}
	checkExpr(t, listOf(list, list, impl.Expr{Kind: 8, Kids: leaves}, impl.Expr{Kind: 14, Kids: leaves}))
}

func TestExpressionsOfManyKinds(t *testing.T) {
	r := rand.New(rand.NewSource(64))
	for _, e := range exprs() {
		checkExpr(t, e)
		checkExpr(t, changedExpr(r, e))
		checkExpr(t, changedExpr(r, changedExpr(r, e)))
	}
}

func TestExprSame(t *testing.T) {
	for i, first := range smallTrees {
		for k, second := range smallTrees {
			if same := impl.ExprSame(tree(first), tree(second)); same != (i == k) {
				t.Errorf("ExprSame(%s, %s) = %t", first, second, same)
			}
		}
	}
	// What differs may be within others, at each place and depth.
	for i, p := range places() {
		for k := range 60 {
			first, second := smallTrees[k], smallTrees[(k+i+1)%len(smallTrees)]
			for range 4 {
				first, second = p.within(first), p.within(second)
				a, b := tree(first), tree(second)
				if impl.ExprSame(a, b) || impl.ExprSame(b, a) || impl.ExprSame(a, a) != impl.ExprOk(a) {
					t.Errorf("%s and %s: ExprSame is %t and %t", first, second, impl.ExprSame(a, b), impl.ExprSame(a, a))
				}
			}
		}
	}
}

func TestExprSameOfChangedOnes(t *testing.T) {
	r := rand.New(rand.NewSource(65))
	same, other := 0, 0
	for _, e := range exprs() {
		for range 3 {
			changed := changedExpr(r, e)
			want := validWanted(changed) && equalExprs(e, changed)
			if impl.ExprSame(e, changed) != want || impl.ExprSame(changed, e) != want {
				t.Errorf("%s and %s: ExprSame is %t and %t", shown(e), shown(changed), impl.ExprSame(e, changed), impl.ExprSame(changed, e))
			}
			if want {
				same++
			} else if validWanted(changed) {
				other++
			}
		}
	}
	if same < 30 || other < 300 {
		t.Errorf("%d are the same, %d valid ones are not", same, other)
	}
}

func TestExprSameOfNoElements(t *testing.T) {
	for _, kind := range []int{1, 7, 8, 13, 16} {
		for _, n := range kindRules[kind].kids {
			a, b := kindAndKids(kind, n), kindAndKids(kind, n)
			b.Names = []string{}
			if n == 0 {
				b.Kids = []impl.Expr{}
			}
			if !impl.ExprSame(a, b) || !impl.ExprSame(b, a) {
				t.Errorf("ExprSame(%s, %s) is false", shown(a), shown(b))
			}
		}
	}
	for _, s := range []string{"(list a b)", "(dict a b)", "(call a b)", "(lambda:a b)"} {
		a, b := tree(s), tree(s)
		a.Text, b.Text = "x", "x"
		if impl.ExprSame(a, b) || impl.ExprSame(tree(s), a) || impl.ExprSame(a, tree(s)) {
			t.Errorf("ExprSame of %s with a Text is true", s)
		}
	}
}

func TestExprSize(t *testing.T) {
	for _, c := range []struct {
		tree string
		size int
	}{
		{"None", 1}, {"a", 1}, {"(list)", 1}, {"(list a)", 2}, {"(list a b c d e f)", 7}, {"(dict)", 1}, {"(dict a b)", 3}, {"(dict a b c d e f 1 2 3 4 5 6)", 13},
		{"(- a)", 2}, {"(- 1)", 2}, {"(+ a b)", 3}, {"(and a b)", 3}, {"(if a b c)", 4}, {"(call a)", 2}, {"(call a b x= c)", 4}, {"(index a b)", 3}, {"(attr.x a)", 2},
		{"(lambda: a)", 2}, {"(lambda:x,y a)", 2}, {"(yield a)", 2}, {"(+ a (call (lambda:b (+ b c)) a))", 8}, {"(list (list (list (list (list (list a))))))", 7},
		{"(list (list (list (list (list (list (list a)))))))", 0}, {"(list a b c d e f g)", 0}, {"if", 0}, {"(list if)", 0},
	} {
		if n := impl.ExprSize(tree(c.tree)); n != c.size {
			t.Errorf("ExprSize(%s) = %d, want %d", c.tree, n, c.size)
		}
	}
}

func TestExprNames(t *testing.T) {
	for _, c := range [][2]string{
		{"a", "a"}, {"None", ""}, {"True", ""}, {"1", ""}, {"'a'", ""}, {"(list)", ""}, {"(+ a b)", "a b"}, {"(+ b a)", "b a"}, {"(+ a a)", "a"},
		{"(list b a b c a)", "b a c"}, {"(dict a b c d)", "a b c d"}, {"(dict b b a b)", "b a"}, {"(if a b c)", "a b c"}, {"(if c b a)", "c b a"}, {"(not a)", "a"}, {"(- a)", "a"},
		{"(index a b)", "a b"}, {"(attr.x a)", "a"}, {"(attr.a (attr.b c))", "c"}, {"(attr.a a)", "a"}, {"(yield a)", "a"},
		{"(call f a x= b y= c)", "f a b c"}, {"(call f x= 1)", "f"}, {"(call f f= f)", "f"}, {"(call x x= y)", "x y"}, {"(call f a= b b= a)", "f b a"},
		{"(lambda: a)", "a"}, {"(lambda:a a)", ""}, {"(lambda:a b)", "b"}, {"(lambda:a (+ a b))", "b"}, {"(lambda:a,b (list c b a d))", "c d"}, {"(lambda:a,b,c,d,e,f (list f e d c b a))", ""},
		{"(lambda:a (lambda:b (list a b c)))", "c"}, {"(lambda:a (lambda:a a))", ""}, {"(lambda:a (list (lambda:b b) b))", "b"}, {"(lambda:a (list (lambda:a a) a b))", "b"},
		{"(lambda:a (list (lambda:b (+ a b)) a b))", "b"}, {"(lambda: (lambda:a (+ a b)))", "b"}, {"(lambda:a (lambda: (+ a b)))", "b"},
		{"(list (lambda:a a) a)", "a"}, {"(list a (lambda:a a))", "a"}, {"(list (lambda:a a) b a)", "b a"}, {"(list (lambda:a b) (lambda:b a))", "b a"}, {"(list (lambda:a a) (lambda:b a))", "a"},
		{"(call (lambda:a (+ a c)) a b)", "c a b"}, {"(call (lambda:a a) x= a)", "a"}, {"(+ a (call (lambda:b (+ b c)) a))", "a c"}, {"(lambda:x (call x x= (attr.x y)))", "y"},
		{"(list (lambda:a (list (lambda:b a) b)) a b)", "b a"}, {"(lambda:a (if a (lambda:b (list a b c)) b))", "c b"}, {"(lambda:x (lambda:y (lambda:z (list x y z w))))", "w"},
		{"(list (lambda:x (lambda:y z)) x y)", "z x y"}, {"(yield (lambda:a (yield a)))", ""}, {"(list a A _a a1)", "a A _a a1"}, {"(list 'a' b '''' 1)", "b"},
		{"(list a if)", ""}, {"(list a b c d e f g)", ""}, {"(lambda:a,a b)", ""}, {"(list (list (list (list (list (list (list a)))))))", ""},
	} {
		if names := impl.ExprNames(tree(c[0])); strings.Join(names, " ") != c[1] {
			t.Errorf("ExprNames(%s) = %q, want %s", c[0], names, c[1])
		}
	}
}

// TestExprNamesOfMany has as many names as an expression may have at some depth.
func TestExprNamesOfMany(t *testing.T) {
	n := 0
	var grow func(depth int) impl.Expr
	grow = func(depth int) impl.Expr {
		if depth == 0 {
			n++
			return leaf(fmt.Sprintf("n%d", n))
		}
		e := impl.Expr{Kind: 8}
		for range 12 {
			e.Kids = append(e.Kids, grow(depth-1))
		}
		return e
	}
	names := impl.ExprNames(grow(5))
	if len(names) != 248832 || names[0] != "n1" || names[248831] != "n248832" {
		t.Errorf("there are %d names", len(names))
	}
}

func TestExprPut(t *testing.T) {
	for _, c := range [][2]string{
		{"None", "None"}, {"True", "True"}, {"False", "False"}, {"0", "0"}, {nines, nines}, {"''", "''"}, {"'a b'", "'a b'"}, {`'\'\\\n\x00\xff'`, `'\'\\\n\x00\xff'`}, {"a", "a"},
		{"(list)", "[]"}, {"(list a)", "[a]"}, {"(list a 1 'b')", "[a, 1, 'b']"}, {"(list (list) (list a))", "[[], [a]]"}, {"(dict)", "{}"}, {"(dict a 1)", "{a: 1}"},
		{"(dict 'a' (list 1 2))", "{'a': [1, 2]}"}, {"(dict a b c d)", "{a: b, c: d}"}, {"(dict (dict) (dict a b))", "{{}: {a: b}}"},
		{"(- a)", "-a"}, {"(- 1)", "-1"}, {"(- (- a))", "--a"}, {"(- (- (- 1)))", "---1"}, {"(not a)", "not a"}, {"(not (not a))", "not not a"}, {"(not (- a))", "not -a"}, {"(- (not a))", "-(not a)"},
		{"(+ a b)", "a + b"}, {"(+ (+ a b) c)", "a + b + c"}, {"(+ a (+ b c))", "a + (b + c)"}, {"(- a (- b c))", "a - (b - c)"}, {"(- (- a b) c)", "a - b - c"}, {"(- (+ a b) c)", "a + b - c"},
		{"(* (+ a b) c)", "(a + b) * c"}, {"(* a (+ b c))", "a * (b + c)"}, {"(+ (* a b) c)", "a * b + c"}, {"(+ a (* b c))", "a + b * c"}, {"(// a (% b c))", "a // (b % c)"}, {"(% (// a b) c)", "a // b % c"},
		{"(- a (- b))", "a - -b"}, {"(- (- a) b)", "-a - b"}, {"(* (- a) b)", "-a * b"}, {"(- (* a b))", "-(a * b)"}, {"(* a (- b))", "a * -b"},
		{"(** a b)", "a ** b"}, {"(** 2 (- 1))", "2 ** -1"}, {"(** (- 2) 2)", "(-2) ** 2"}, {"(- (** 2 2))", "-2 ** 2"}, {"(- (** (- 2) 2))", "-(-2) ** 2"}, {"(** (** a b) c)", "(a ** b) ** c"},
		{"(** a (** b c))", "a ** b ** c"}, {"(** (- 2) (- (** 3 2)))", "(-2) ** -3 ** 2"}, {"(** a (- (- b)))", "a ** --b"}, {"(** a (- (** b c)))", "a ** -b ** c"}, {"(** a (* b c))", "a ** (b * c)"},
		{"(** (- (** a b)) c)", "(-a ** b) ** c"}, {"(- (- (** a b)))", "--a ** b"}, {"(* (** a b) (** c d))", "a ** b * c ** d"}, {"(+ a (* b (- (** c 2))))", "a + b * -c ** 2"},
		{"(** (call a) (index b c))", "a() ** b[c]"}, {"(call (** a b))", "(a ** b)()"}, {"(index (- a) 0)", "(-a)[0]"}, {"(- (index a 0))", "-a[0]"}, {"(attr.x 1)", "1.x"}, {"(attr.x (- 1))", "(-1).x"},
		{"(< a b)", "a < b"}, {"(< (< a b) c)", "(a < b) < c"}, {"(< a (< b c))", "a < (b < c)"}, {"(== (in a b) (is c d))", "(a in b) == (c is d)"}, {"(not (== a b))", "not a == b"},
		{"(== (not a) b)", "(not a) == b"}, {"(== a (not b))", "a == (not b)"}, {"(not (in a b))", "not a in b"}, {"(in (not a) b)", "(not a) in b"}, {"(is a (not b))", "a is (not b)"}, {"(< (+ a b) (* c d))", "a + b < c * d"},
		{"(and a (or b c))", "a and (b or c)"}, {"(or (and a b) c)", "a and b or c"}, {"(or (not a) (and b c))", "not a or b and c"}, {"(not (or a b))", "not (a or b)"}, {"(not (and a b))", "not (a and b)"},
		{"(and (and a b) c)", "a and b and c"}, {"(and a (and b c))", "a and (b and c)"}, {"(or a (or b c))", "a or (b or c)"}, {"(and (not a) (not b))", "not a and not b"}, {"(+ (and a b) 1)", "(a and b) + 1"},
		{"(if a b c)", "a if b else c"}, {"(if a b (if c d e))", "a if b else c if d else e"}, {"(if (if a b c) d e)", "(a if b else c) if d else e"}, {"(if a (if b c d) e)", "a if (b if c else d) else e"},
		{"(if (or a b) (or c d) (or e f))", "a or b if c or d else e or f"}, {"(or (if a b c) d)", "(a if b else c) or d"}, {"(not (if a b c))", "not (a if b else c)"},
		{"(if (lambda: a) b c)", "(lambda: a) if b else c"}, {"(if a (lambda: b) c)", "a if (lambda: b) else c"}, {"(if a b (lambda: c))", "a if b else (lambda: c)"}, {"(if a b (yield c))", "a if b else (yield c)"},
		{"(call f)", "f()"}, {"(call f a x= b)", "f(a, x=b)"}, {"(call f x= 1 y= 2)", "f(x=1, y=2)"}, {"(call f (call g))", "f(g())"}, {"(call (call f a) b)", "f(a)(b)"}, {"(call f x= (== a b))", "f(x=a == b)"},
		{"(call f (if a b c))", "f(a if b else c)"}, {"(call f x= (lambda: 1))", "f(x=(lambda: 1))"}, {"(call (lambda: 1))", "(lambda: 1)()"}, {"(call (list f) a)", "[f](a)"}, {"(call f x= (- 1))", "f(x=-1)"},
		{"(attr.z (index (call f x y= 1) 0))", "f(x, y=1)[0].z"}, {"(index (index a b) c)", "a[b][c]"}, {"(index a (index b c))", "a[b[c]]"}, {"(attr.b (attr.c a))", "a.c.b"}, {"(attr.x (call (attr.y a)))", "a.y().x"},
		{"(lambda: a)", "lambda: a"}, {"(lambda:x a)", "lambda x: a"}, {"(lambda:x,y,z (+ x 1))", "lambda x, y, z: x + 1"}, {"(lambda: (lambda:x x))", "lambda: lambda x: x"}, {"(lambda: (if a b c))", "lambda: a if b else c"},
		{"(lambda: (yield a))", "lambda: yield a"}, {"(yield a)", "yield a"}, {"(yield (if a b c))", "yield a if b else c"}, {"(yield (yield a))", "yield (yield a)"}, {"(yield (lambda: a))", "yield (lambda: a)"},
		{"(dict (lambda: a) (yield b))", "{(lambda: a): (yield b)}"}, {"(list (yield a) (lambda: b))", "[(yield a), (lambda: b)]"}, {"(index a (lambda: b))", "a[(lambda: b)]"}, {"(+ (lambda: a) (yield b))", "(lambda: a) + (yield b)"},
	} {
		e := tree(c[0])
		if s := impl.ExprPut(e); s != c[1] {
			t.Errorf("ExprPut(%s) = %q, want %q", c[0], s, c[1])
		}
		if again, ok := impl.ExprGet(c[1]); !ok || !equalExprs(again, e) {
			t.Errorf("ExprGet(%q) = %s, %t, want %s", c[1], shown(again), ok, c[0])
		}
	}
}

// TestExprPutOfEachPlace has operands of each level at each place: in parentheses just where these are needed.
func TestExprPutOfEachPlace(t *testing.T) {
	for _, p := range places() {
		for _, o := range operands() {
			e := tree(p.within(o.tree))
			bare, inParens := strings.Replace(p.text, "?", o.text, 1), strings.Replace(p.text, "?", "("+o.text+")", 1)
			want := bare
			if o.level < p.demand {
				want = inParens
			}
			if s := impl.ExprPut(e); s != want {
				t.Errorf("ExprPut(%s) = %q, want %q", p.within(o.tree), s, want)
			}
			if again, ok := impl.ExprGet(inParens); !ok || !equalExprs(again, e) {
				t.Errorf("ExprGet(%q) = %s, %t, want %s", inParens, shown(again), ok, p.within(o.tree))
			}
			if again, ok := impl.ExprGet(bare); (ok && equalExprs(again, e)) != (o.level >= p.demand) {
				t.Errorf("ExprGet(%q) = %s, %t", bare, shown(again), ok)
			}
		}
	}
}

// TestExprPutOfEachTwoPlaces has places within places.
func TestExprPutOfEachTwoPlaces(t *testing.T) {
	for _, outer := range places() {
		for _, p := range places() {
			for _, o := range operands()[:19] {
				e := tree(outer.within(p.within(o.tree)))
				want := exprWanted(e)
				if s := impl.ExprPut(e); s != want {
					t.Errorf("ExprPut(%s) = %q, want %q", shown(e), s, want)
				}
				if again, ok := impl.ExprGet(want); !ok || !equalExprs(again, e) {
					t.Errorf("ExprGet(%q) = %s, %t, want %s", want, shown(again), ok, shown(e))
				}
			}
		}
	}
}

func TestExpressionsShareNoMemory(t *testing.T) {
	for _, e := range exprs() {
		// What the functions are given has texts of its own, and room behind its elements that must stay as it is.
		mine, want := roomyExpr(e), copiedExpr(e)
		text := impl.ExprPut(mine)
		names := impl.ExprNames(mine)
		impl.ExprOk(mine)
		impl.ExprSize(mine)
		impl.ExprSame(mine, mine)
		if !equalExprs(mine, want) || !hasItsRoom(mine) {
			t.Fatalf("%s was changed: %s", shown(want), shown(mine))
		}
		for _, part := range partsOf(mine) {
			for _, name := range append(names, text) {
				if sharesMemory(name, part.Text) {
					t.Errorf("%q is a part of the argument", name)
				}
			}
		}
		if isTooLong(text) {
			continue
		}
		checkReadMemory(t, text)
	}
}

// checkReadMemory checks that what a text is read as shares no memory with it, nor one slice with another.
func checkReadMemory(t *testing.T, text string) {
	t.Helper()
	e, _ := impl.ExprGet(text)
	want := copiedExpr(e)
	for _, part := range changeables(&e) {
		for _, s := range append(part.Names, part.Text) {
			if sharesMemory(s, text) {
				t.Errorf("%q is a part of %q", s, text)
			}
		}
		// Whatever is put behind the elements of one slice is seen in no other.
		fill(part.Names, "x")
		fill(part.Kids, impl.Expr{Kind: -1, Names: []string{"x"}})
	}
	if !equalExprs(e, want) {
		t.Errorf("%q is read as %s, which shares memory", text, shown(e))
	}
	for _, part := range changeables(&e) {
		part.Kind, part.Text = -1, "x"
		fill(part.Names[:0], "x")
	}
	if again, ok := impl.ExprGet(text); !ok || !equalExprs(again, want) {
		t.Errorf("%q is read as %s the second time", text, shown(again))
	}
}

// fill fills the room behind the elements of a list.
func fill[E any](list []E, with E) {
	room := list[len(list):cap(list)]
	for i := range room {
		room[i] = with
	}
}

// roomyExpr returns a copy of an expression, with texts of its own, and with room behind its elements that is marked.
func roomyExpr(e impl.Expr) impl.Expr {
	e.Text = strings.Clone(e.Text)
	var names []string
	for _, name := range e.Names {
		names = append(names, strings.Clone(name))
	}
	names = append(names, "room", "room")
	var kids []impl.Expr
	for _, kid := range e.Kids {
		kids = append(kids, roomyExpr(kid))
	}
	kids = append(kids, leaf("room"), leaf("room"))
	e.Names, e.Kids = names[:len(e.Names)], kids[:len(e.Kids)]
	return e
}

// hasItsRoom reports whether the room of an expression that roomyExpr made is as it was.
func hasItsRoom(e impl.Expr) bool {
	for _, part := range partsOf(e) {
		names, kids := part.Names, part.Kids
		if names[:len(names)+1][len(names)] != "room" || kids[:len(kids)+1][len(kids)].Text != "room" {
			return false
		}
	}
	return true
}
