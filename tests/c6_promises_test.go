package tests

import (
	"slices"
	"strings"
	"testing"

	"loop.example/slowworm/impl"
)

// got returns what a text must be read as.
func got(t *testing.T, text string) impl.Expr {
	t.Helper()
	e, ok := impl.ExprGet(text)
	if !ok {
		t.Fatalf("ExprGet(%q) is not there", text)
	}
	return e
}

func TestP44ExpressionsStayValidInParts(t *testing.T) {
	for _, e := range exprs() {
		if !impl.ExprOk(e) || impl.ExprPut(e) == "" {
			t.Errorf("%s: ExprOk is %t, ExprPut %q", shown(e), impl.ExprOk(e), impl.ExprPut(e))
		}
		for _, part := range partsOf(e) {
			if !impl.ExprOk(part) || impl.ExprPut(part) == "" {
				t.Errorf("%s in %s is not valid", shown(part), shown(e))
			}
		}
	}
	for _, s := range []string{"if", "(list if)", "(list a b c d e f g)", "(lambda:a,a b)"} {
		if e := tree(s); impl.ExprOk(e) || impl.ExprPut(e) != "" {
			t.Errorf("%s is valid", s)
		}
	}
}

func TestP45EqualExpressionsAreWrittenTheSame(t *testing.T) {
	all := exprs()[:500]
	spoken := 0
	for i, a := range all {
		for k, b := range all {
			same := impl.ExprSame(a, b)
			if impl.ExprSame(b, a) != same || i == k && !same {
				t.Errorf("ExprSame of %s and %s is %t, the other way round %t", shown(a), shown(b), same, impl.ExprSame(b, a))
			}
			// What is written the same is the same, too, as it is read again.
			if written := impl.ExprPut(a) == impl.ExprPut(b); written != same || same && impl.ExprSize(a) != impl.ExprSize(b) {
				t.Errorf("ExprSame of %s and %s is %t", shown(a), shown(b), same)
			}
			if same && i != k {
				spoken++
			}
		}
	}
	if spoken == 0 {
		t.Error("the promise speaks of no two expressions")
	}
}

func TestP46SizesAreSums(t *testing.T) {
	for _, e := range exprs() {
		sum := 1
		for _, kid := range e.Kids {
			sum += impl.ExprSize(kid)
		}
		if n := impl.ExprSize(e); n != sum {
			t.Errorf("ExprSize(%s) = %d, want %d", shown(e), n, sum)
		}
	}
}

func TestP47NamesAreThereOnce(t *testing.T) {
	spoken := 0
	for _, e := range exprs() {
		names := impl.ExprNames(e)
		for i, name := range names {
			if !impl.NameOk(name) || slices.Index(names, name) != i {
				t.Errorf("ExprNames(%s) = %q", shown(e), names)
			}
		}
		around := impl.Expr{Kind: impl.ExprLambda, Kids: []impl.Expr{e}}
		if impl.ExprOk(around) != (depthOf(e) < 7) {
			t.Errorf("a lambda around %s is valid: %t", shown(e), impl.ExprOk(around))
		}
		if !impl.ExprOk(around) {
			continue
		}
		spoken++
		if list := impl.ExprNames(around); !slices.Equal(list, names) {
			t.Errorf("ExprNames of a lambda around %s = %q, want %q", shown(e), list, names)
		}
	}
	if spoken < 1000 {
		t.Errorf("the promise speaks of %d expressions", spoken)
	}
}

func TestP48WhatIsWrittenIsReadAgain(t *testing.T) {
	for _, e := range exprs() {
		text := impl.ExprPut(e)
		again, ok := impl.ExprGet(text)
		if ok == isTooLong(text) || ok && (!impl.ExprSame(again, e) || !equalExprs(again, e)) {
			t.Errorf("ExprGet(%q) = %s, %t, want %s", text, shown(again), ok, shown(e))
		}
	}
}

func TestP49WhatIsReadIsWrittenInOneForm(t *testing.T) {
	list, _ := looseTexts()
	spoken := 0
	for _, text := range list {
		e, ok := impl.ExprGet(text)
		if !ok {
			continue
		}
		form := impl.ExprPut(e)
		for _, s := range []string{form, "(" + form + ")", "((" + form + "))"} {
			if isTooLong(s) {
				continue
			}
			spoken++
			if again := got(t, s); !impl.ExprSame(again, e) || impl.ExprPut(again) != form {
				t.Errorf("ExprGet(%q) = %s, want %s", s, shown(again), shown(e))
			}
		}
	}
	if spoken < 5000 {
		t.Errorf("the promise speaks of %d texts", spoken)
	}
}

// TestP172ParenthesesChangeNothing has texts without a comment at the end, in which the parenthesis would be.
func TestP172ParenthesesChangeNothing(t *testing.T) {
	list, _ := looseTexts()
	list = append(list, "a if b else c", "lambda: a", "yield a", "not a", "a == b", "-a", "a ** b", "f(x=1)", "a\n", "\na", "a  \n\n", "(a)", "[\n]", "1", "'a'", "None")
	spoken := 0
	for _, text := range list {
		e, ok := impl.ExprGet(text)
		for _, s := range []string{"(" + text + ")", "( " + text + " )", "(((" + text + ")))", "(\n" + text + "\n)\n"} {
			if !ok || isTooLong(s) {
				continue
			}
			spoken++
			if again := got(t, s); !impl.ExprSame(again, e) {
				t.Errorf("ExprGet(%q) = %s, want %s", s, shown(again), shown(e))
			}
		}
	}
	if spoken < 5000 {
		t.Errorf("the promise speaks of %d texts", spoken)
	}
	for _, text := range []string{"", "a b", "a +", "a < b < c", "[1,]", "f(x=1, 2)", "a\nb +", "$"} {
		if refused(text) != refused("("+text+")") {
			t.Errorf("%q is refused: %t, in parentheses: %t", text, refused(text), refused("("+text+")"))
		}
	}
}

// refused reports whether a text tells no expression.
func refused(text string) bool {
	_, ok := impl.ExprGet(text)
	return !ok
}

func TestP244AnIntegerIsOneToken(t *testing.T) {
	list := strings.Split("0123456789", "")
	for _, s := range append(integers(), someIntegers()...) {
		if !strings.HasPrefix(s, "-") {
			list = append(list, s)
		}
	}
	longest := 0
	for _, s := range list {
		longest = max(longest, len(s))
		want := []impl.Tok{{Kind: impl.TokInt, Text: s, Line: 1}, {Kind: impl.TokLine, Line: 1}}
		if toks := lexed(t, s+"\n"); !impl.IntOk(s) || !slices.Equal(toks, want) {
			t.Errorf("Lex of %s = %s", s, told(toks))
		}
		// So it is an expression, and a negative one is two.
		if e := got(t, s); !equalExprs(e, impl.Expr{Kind: impl.ExprInt, Text: s}) {
			t.Errorf("ExprGet(%s) = %s", s, shown(e))
		}
		if toks := lexed(t, "-"+s+"\n"); len(toks) != 3 || impl.ExprSize(got(t, "-"+s)) != 2 {
			t.Errorf("Lex of -%s = %s", s, told(toks))
		}
	}
	if longest != impl.MaxDigits {
		t.Errorf("the longest integer has %d digits", longest)
	}
	for _, s := range notNumbers {
		if toks, _ := impl.Lex(s + "\n"); len(toks) == 2 && toks[0].Kind == impl.TokInt && toks[0].Text == s {
			t.Errorf("Lex of %q has one integer", s)
		}
	}
}
