package tests

import (
	"math/rand"
	"slices"
	"strings"
	"testing"

	"loop.example/slowworm/impl"
)

// checkGet holds what a text is read as against what it must be.
func checkGet(t *testing.T, text string) {
	t.Helper()
	want, wantOk := getWanted(t, text)
	if e, ok := impl.ExprGet(text); ok != wantOk || !equalExprs(e, want) {
		t.Errorf("ExprGet(%q) = %s, %t, want %s, %t", text, shown(e), ok, shown(want), wantOk)
	}
}

// checkTrees holds what texts are read as against trees.
func checkTrees(t *testing.T, cases [][2]string) {
	t.Helper()
	for _, c := range cases {
		if e, ok := impl.ExprGet(c[0]); !ok || !equalExprs(e, tree(c[1])) {
			t.Errorf("ExprGet(%q) = %s, %t, want %s", c[0], shown(e), ok, c[1])
		}
	}
}

// checkRefused checks that texts tell no valid expression.
func checkRefused(t *testing.T, texts ...string) {
	t.Helper()
	for _, text := range texts {
		if e, ok := impl.ExprGet(text); ok || !equalExprs(e, impl.Expr{}) {
			t.Errorf("ExprGet(%.100q) = %s, %t", text, shown(e), ok)
		}
	}
}

func TestExprGetOfOperators(t *testing.T) {
	checkTrees(t, [][2]string{
		{"a - b - c", "(- (- a b) c)"}, {"a + b - c", "(- (+ a b) c)"}, {"a - b + c", "(+ (- a b) c)"}, {"a - (b - c)", "(- a (- b c))"}, {"a - b * c", "(- a (* b c))"}, {"a * b - c", "(- (* a b) c)"},
		{"a * b // c % d", "(% (// (* a b) c) d)"}, {"a % b * c", "(* (% a b) c)"}, {"a // b // c", "(// (// a b) c)"}, {"(a + b) * c", "(* (+ a b) c)"}, {"a+b*-c**2", "(+ a (* b (- (** c 2))))"},
		{"a ** b ** c", "(** a (** b c))"}, {"a ** b ** c ** d", "(** a (** b (** c d)))"}, {"(a ** b) ** c", "(** (** a b) c)"}, {"a ** (b ** c)", "(** a (** b c))"}, {"-2 ** 2", "(- (** 2 2))"},
		{"(-2) ** 2", "(** (- 2) 2)"}, {"2 ** -1", "(** 2 (- 1))"}, {"2 ** -3 ** 2", "(** 2 (- (** 3 2)))"}, {"2 ** --1", "(** 2 (- (- 1)))"}, {"2 ** -a * b", "(* (** 2 (- a)) b)"}, {"-a ** -b", "(- (** a (- b)))"},
		{"a * b ** c * d", "(* (* a (** b c)) d)"}, {"- a", "(- a)"}, {"--a", "(- (- a))"}, {"- -1", "(- (- 1))"}, {"a - -b", "(- a (- b))"}, {"a--b", "(- a (- b))"}, {"a---b", "(- a (- (- b)))"}, {"-a * b", "(* (- a) b)"},
		{"-(a * b)", "(- (* a b))"}, {"a * -b * c", "(* (* a (- b)) c)"}, {"-a + -b", "(+ (- a) (- b))"}, {"-a.b", "(- (attr.b a))"}, {"-a()", "(- (call a))"}, {"-a[0] ** 2", "(- (** (index a 0) 2))"},
		{"a < b", "(< a b)"}, {"a < b + c", "(< a (+ b c))"}, {"(a < b) < c", "(< (< a b) c)"}, {"a < (b < c)", "(< a (< b c))"}, {"a in b and c is d", "(and (in a b) (is c d))"}, {"a == -b", "(== a (- b))"},
		{"not a == b", "(not (== a b))"}, {"(not a) == b", "(== (not a) b)"}, {"a == (not b)", "(== a (not b))"}, {"not not a", "(not (not a))"}, {"not -a", "(not (- a))"}, {"not a in b", "(not (in a b))"}, {"not a < b and c", "(and (not (< a b)) c)"},
		{"a or b and c", "(or a (and b c))"}, {"a and b or c", "(or (and a b) c)"}, {"a and not b", "(and a (not b))"}, {"not a and b", "(and (not a) b)"}, {"a or b or c", "(or (or a b) c)"}, {"a and b and c", "(and (and a b) c)"},
		{"not a or b and c", "(or (not a) (and b c))"}, {"a or not b or c", "(or (or a (not b)) c)"}, {"a and (b or c)", "(and a (or b c))"}, {"a < b or c > d", "(or (< a b) (> c d))"},
		{"a if b else c", "(if a b c)"}, {"a if b else c if d else e", "(if a b (if c d e))"}, {"(a if b else c) if d else e", "(if (if a b c) d e)"}, {"a if (b if c else d) else e", "(if a (if b c d) e)"},
		{"a or b if c and d else not e", "(if (or a b) (and c d) (not e))"}, {"a + b if c else d + e", "(if (+ a b) c (+ d e))"}, {"not a if b else c", "(if (not a) b c)"}, {"a < b if c < d else e < f", "(if (< a b) (< c d) (< e f))"},
	})
	for _, sign := range binarySigns {
		checkTrees(t, [][2]string{{"a " + sign + " b", "(" + sign + " a b)"}, {"(a)" + sign + "(b)", "(" + sign + " a b)"}, {"1 " + sign + " 'b'", "(" + sign + " 1 'b')"}})
		checkRefused(t, "a "+sign, sign+" a +", "a "+sign+" // b", "a // "+sign+" // b", "a "+sign+" not b", "a "+sign+" lambda: b", "a "+sign+" yield b", "a "+sign+" )", "(a "+sign+") b", sign)
	}
	for _, first := range binarySigns {
		for _, second := range binarySigns {
			text := "a " + first + " b " + second + " c"
			if operatorLevels[first] == 5 && operatorLevels[second] == 5 {
				checkRefused(t, text, "a "+text, "x + "+text, text+" and d", "("+text+")", "f("+text+")")
				continue
			}
			want := "(" + second + " (" + first + " a b) c)"
			if operatorLevels[second] > operatorLevels[first] || first == "**" && second == "**" {
				want = "(" + first + " a (" + second + " b c))"
			}
			checkTrees(t, [][2]string{{text, want}})
		}
	}
	checkRefused(t, "a not b", "a not in b", "a is not b", "not", "-", "and", "a and", "or b", "a or or b", "a and not", "a < not b", "a + not b", "- not a", "a ** not b", "+a", "* a", "a <> b", "a ! b", "a = b", "a += b",
		"a if b", "a if b else", "if b else c", "a else b", "a if else c", "a if b if c else d else e", "a if b else c else d", "if a: b", "a if lambda: b else c", "lambda: a if b", "a if b elif c else d",
		"a and lambda: b", "a if b else lambda: c", "a if b else yield c", "a if yield b else c", "not lambda: a", "- yield a", "a or yield b", "a := b", "a = 1", "a < b < c", "a == b != c", "a in b in c", "a is b is c", "a < b in c")
}

func TestExprGetOfElements(t *testing.T) {
	checkTrees(t, [][2]string{
		{"[]", "(list)"}, {"[ ]", "(list)"}, {"[a]", "(list a)"}, {"[a,b]", "(list a b)"}, {"[[],[[]]]", "(list (list) (list (list)))"}, {"[a if b else c, not d]", "(list (if a b c) (not d))"}, {"[(lambda: a), (yield b)]", "(list (lambda: a) (yield b))"},
		{"[1, 2, 3, 4, 5, 6]", "(list 1 2 3 4 5 6)"}, {"[a][b]", "(index (list a) b)"}, {"[[a][b]]", "(list (index (list a) b))"},
		{"{}", "(dict)"}, {"{ }", "(dict)"}, {"{a:b}", "(dict a b)"}, {"{a : b , c : d}", "(dict a b c d)"}, {"{a: b, a: b}", "(dict a b a b)"}, {"{{}: {}}", "(dict (dict) (dict))"}, {"{a if b else c: d if e else f}", "(dict (if a b c) (if d e f))"},
		{"{1: 2, 3: 4, 5: 6, 7: 8, 9: 10, 11: 12}", "(dict 1 2 3 4 5 6 7 8 9 10 11 12)"}, {"{(lambda: a): (lambda: b)}", "(dict (lambda: a) (lambda: b))"}, {"{}[a]", "(index (dict) a)"}, {"{}()", "(call (dict))"}, {"{'a':[1,2]}", "(dict 'a' (list 1 2))"},
		{"a[b]", "(index a b)"}, {"a [ b ]", "(index a b)"}, {"a[b][c]", "(index (index a b) c)"}, {"a[b[c]]", "(index a (index b c))"}, {"a[[b]]", "(index a (list b))"}, {"a[-1]", "(index a (- 1))"}, {"a[b if c else d]", "(index a (if b c d))"},
		{"'a'[0]", "(index 'a' 0)"}, {"1[2]", "(index 1 2)"}, {"None[a]", "(index None a)"}, {"(a)[b]", "(index a b)"}, {"(a + b)[c]", "(index (+ a b) c)"}, {"a + b[c]", "(+ a (index b c))"}, {"a[(lambda: b)]", "(index a (lambda: b))"},
		{"a.b", "(attr.b a)"}, {"a . b", "(attr.b a)"}, {"a.b.c", "(attr.c (attr.b a))"}, {"a.b()", "(call (attr.b a))"}, {"a().b", "(attr.b (call a))"}, {"1.a", "(attr.a 1)"}, {"''.a", "(attr.a '')"}, {"[].a", "(attr.a (list))"}, {"True.a", "(attr.a True)"},
		{"(a).b", "(attr.b a)"}, {"(-a).b", "(attr.b (- a))"}, {"a ** b.c", "(** a (attr.c b))"}, {"a.b ** c", "(** (attr.b a) c)"},
	})
	checkRefused(t, "[", "]", "[a", "a]", "[a b]", "[,]", "[,a]", "[a,]", "[a,,b]", "[a, b,]", "[a:b]", "[a=b]", "[lambda: a]", "[yield a]", "[a, lambda: b]", "[1, 2, 3, 4, 5, 6, 7]", "[1, 2, 3, 4, 5, 6, ]", "[a)", "[(a]", "[a for b in c]", "[*a]",
		"{", "}", "{a}", "{a:}", "{:a}", "{:}", "{a: b,}", "{,}", "{a: b c: d}", "{a: b: c}", "{a, b}", "{a: b, c}", "{a = b}", "{lambda: a: b}", "{a: lambda: b}", "{a: yield b}", "{yield a: b}", "{a:: b}", "{a: b,, c: d}",
		"{1: 2, 3: 4, 5: 6, 7: 8, 9: 10, 11: 12, 13: 14}", "a[]", "a[b,]", "a[b, c]", "a[b:c]", "a[:]", "a[b", "a b]", "a[lambda: b]", "a[yield b]", "a[b=c]", "a[b c]", "a.", ".a", "a..b", "a.1", "a.'b'", "a.if", "a.None", "a.(b)", "a.[b]", "a.b c", "a.-b", "a. not",
		"()", "(,)", "(a,)", "(a, b)", "(a", "a)", "((a)", "(a))", "(a b)", "(a) b", "(a)(b", "a (b", "( )", "(a = b)", "(a: b)")
}

func TestExprGetOfCalls(t *testing.T) {
	checkTrees(t, [][2]string{
		{"f()", "(call f)"}, {"f ( )", "(call f)"}, {"f(a)", "(call f a)"}, {"f(a,b)", "(call f a b)"}, {"f(x=a)", "(call f x= a)"}, {"f(x = a , y = b)", "(call f x= a y= b)"}, {"f(a, x=b)", "(call f a x= b)"}, {"f(a,b,x=c,y=d)", "(call f a b x= c y= d)"},
		{"f(x=x)", "(call f x= x)"}, {"f(f=f)", "(call f f= f)"}, {"f(x==a)", "(call f (== x a))"}, {"f(x=a==b)", "(call f x= (== a b))"}, {"f(x=-1)", "(call f x= (- 1))"}, {"f(x=not a)", "(call f x= (not a))"}, {"f(x=a if b else c)", "(call f x= (if a b c))"},
		{"f(x=(lambda: a))", "(call f x= (lambda: a))"}, {"f((lambda: a), (yield b))", "(call f (lambda: a) (yield b))"}, {"f(x=g(x=1))", "(call f x= (call g x= 1))"}, {"f(g(a, x=1), x=h(y=2))", "(call f (call g a x= 1) x= (call h y= 2))"},
		{"f(a)(b)", "(call (call f a) b)"}, {"f()()", "(call (call f))"}, {"f(x=1)(x=2)", "(call (call f x= 1) x= 2)"}, {"f[a](b).c", "(attr.c (call (index f a) b))"}, {"f(x,y=1)[0].z", "(attr.z (index (call f x y= 1) 0))"}, {"a.b(c)", "(call (attr.b a) c)"},
		{"(f)(a)", "(call f a)"}, {"(f)((a))", "(call f a)"}, {"1()", "(call 1)"}, {"'a'(b)", "(call 'a' b)"}, {"None()", "(call None)"}, {"[](a)", "(call (list) a)"}, {"-f(a)", "(- (call f a))"}, {"a ** f()", "(** a (call f))"}, {"f() ** a", "(** (call f) a)"},
		{"f(1, 2, 3, 4, 5, 6)", "(call f 1 2 3 4 5 6)"}, {"f(a=1, b=2, c=3, d=4, e=5, f=6)", "(call f a= 1 b= 2 c= 3 d= 4 e= 5 f= 6)"}, {"f(1, 2, 3, a=4, b=5, c=6)", "(call f 1 2 3 a= 4 b= 5 c= 6)"}, {"f(a + b, c * d)", "(call f (+ a b) (* c d))"},
		{"f('=', x='=')", "(call f '=' x= '=')"}, {"f(a, '=')", "(call f a '=')"}, {"f(-'=')", "(call f (- '='))"}, {"f(not '=', x=-'=')", "(call f (not '=') x= (- '='))"}, {"f(\nx\n=\na\n)", "(call f x= a)"},
	})
	checkRefused(t, "f(", "f)", "f(a", "f a)", "f(a b)", "f(,)", "f(a,)", "f(,a)", "f(a,,b)", "f(a, x=b,)", "f(x=)", "f(=a)", "f(x=a, b)", "f(x=1, 2)", "f(a, x=b, c)", "f(x=a, y)", "f(x=a, y==b)", "f(x=a, (y)=b)", "f(x=a, x=b)", "f(a, x=1, y=2, x=3)",
		"f((x)=a)", "f(1=a)", "f('x'=a)", "f(None=a)", "f(if=a)", "f(x.y=a)", "f(x[0]=a)", "f(-x=a)", "f(x=a=b)", "f(x=y=a)", "f(x:a)", "f(x+=a)", "f(x= =a)", "f(lambda: a)", "f(x=lambda: a)", "f(yield a)", "f(x=yield a)", "f(*a)", "f(**a)", "f(x=*a)",
		"f(1, 2, 3, 4, 5, 6, 7)", "f(a=1, b=2, c=3, d=4, e=5, f=6, g=7)", "f(1, 2, 3, 4, 5, 6, a=7)", "f(1, 2, 3, 4, 5, 6, )", "f(a) b", "f(a]", "f(a}", "f(x not=a)", "f(x=a b)", "f(x y=a)", "f(x=a; y=b)", "f('x', '=', a, x=b, '=')")
}

func TestExprGetOfLambdas(t *testing.T) {
	checkTrees(t, [][2]string{
		{"lambda: a", "(lambda: a)"}, {"lambda:a", "(lambda: a)"}, {"lambda :a", "(lambda: a)"}, {"lambda x:x+1", "(lambda:x (+ x 1))"}, {"lambda x,y:a", "(lambda:x,y a)"}, {"lambda x , y : a", "(lambda:x,y a)"}, {"lambda a, b, c, d, e, f: a", "(lambda:a,b,c,d,e,f a)"},
		{"lambda: lambda: a", "(lambda: (lambda: a))"}, {"lambda x: lambda y: x", "(lambda:x (lambda:y x))"}, {"lambda: yield a", "(lambda: (yield a))"}, {"lambda: a if b else c", "(lambda: (if a b c))"}, {"lambda: a or b", "(lambda: (or a b))"}, {"lambda: (a)", "(lambda: a)"},
		{"(lambda: a)()", "(call (lambda: a))"}, {"(lambda: a) + b", "(+ (lambda: a) b)"}, {"lambda: a + b", "(lambda: (+ a b))"}, {"lambda: a()", "(lambda: (call a))"}, {"(lambda: a) if b else (lambda: c)", "(if (lambda: a) b (lambda: c))"},
		{"lambda: {a: b}", "(lambda: (dict a b))"}, {"{a: (lambda: b)}", "(dict a (lambda: b))"}, {"lambda: not a", "(lambda: (not a))"}, {"(lambda: lambda: a)()", "(call (lambda: (lambda: a)))"}, {"lambda x: (lambda x: x)(x)", "(lambda:x (call (lambda:x x) x))"},
		{"yield a", "(yield a)"}, {"yield(a)", "(yield a)"}, {"yield a if b else c", "(yield (if a b c))"}, {"yield a or b", "(yield (or a b))"}, {"yield (yield a)", "(yield (yield a))"}, {"(yield a) + b", "(+ (yield a) b)"}, {"yield (lambda: a)", "(yield (lambda: a))"},
		{"yield [a]", "(yield (list a))"}, {"yield -a", "(yield (- a))"}, {"(yield a)(b)", "(call (yield a) b)"}, {"yield(a)(b)", "(yield (call a b))"}, {"(yield a)", "(yield a)"},
	})
	checkRefused(t, "lambda", "lambda:", "lambda a", "lambda x", "lambda x:", "lambda x y: a", "lambda x,: a", "lambda ,x: a", "lambda ,: a", "lambda x,,y: a", "lambda (x): a", "lambda (x, y): a", "lambda 1: a", "lambda 'x': a", "lambda None: a", "lambda if: a",
		"lambda x, x: a", "lambda x, y, x: a", "lambda a, b, c, d, e, f, g: a", "lambda x=1: a", "lambda *x: a", "lambda x:: a", "lambda x: a: b", "lambda: a, b", "lambda x. y: a", "lambda x[0]: a", "lambda: return a", "a lambda: b", "lambda lambda: a", "lambda not: a",
		"yield", "yield yield a", "yield lambda: a", "a yield b", "yield a, b", "yield from a", "yield a yield b", "-yield a", "(yield)", "lambda: yield", "lambda: yield lambda: a", "yield a = b")
}

func TestExprGetOfOneToken(t *testing.T) {
	for _, s := range []string{"a", "_", "twelve_bytes", "none", "print", "0", "7", nines, "''", "'a'", `'\'\\\n\xff'`, "'+'", "'('", "'None'", "None", "True", "False"} {
		checkTrees(t, [][2]string{{s, s}, {s + " ", s}, {s + "\n", s}, {"(" + s + ")", s}, {"((" + s + "))", s}, {"(((( " + s + " ))))", s}})
		checkRefused(t, s+" "+s, s+" a", s+" 1", s+" 'a'", s+" None", s+",", s+":", s+"=", s+" )", s+" ]", s+" lambda: a", s+" - ", "= "+s, ", "+s, ": "+s, "* "+s, "else "+s, "("+s, s+"("+s)
	}
	for _, s := range slices.Concat(signs, keywords[3:], []string{"thirteen_byte", "01", nines + "9", "1a", "'", "'a", `'\t'`, "$", "a$", "\xff", "\t", "a\t"}) {
		checkRefused(t, s, "("+s+")", s+"\n", "a "+s)
	}
}

func TestExprGetOfLines(t *testing.T) {
	checkTrees(t, [][2]string{
		{"a", "a"}, {"a\n", "a"}, {"a  \n", "a"}, {"a # b", "a"}, {"a # b\n", "a"}, {"a\n\n\n", "a"}, {"a\n   ", "a"}, {"a\n# b\n", "a"}, {"a\n    # b", "a"},
		{"(\na\n)", "a"}, {"(a\n+ b)", "(+ a b)"}, {"f(\n  a,\n\n# c\n b\n)\n", "(call f a b)"}, {"[\n]", "(list)"}, {"{\n  a: b,\n  c: d\n}", "(dict a b c d)"}, {"a[\nb\n]", "(index a b)"}, {"( a)", "a"}, {"(\n  a)", "a"}, {"(#\na)", "a"},
		// Lines without tokens are nothing, ahead of the line with the tokens, too, whatever spaces they have.
		{"\na", "a"}, {"# b\na", "a"}, {"\n\n\na\n", "a"}, {"   \na", "a"}, {"  # b\n\na", "a"},
	})
	checkRefused(t, "", "\n", "\n\n", " ", "   \n", "#", "# a", "  # a\n", "a\nb", "a\n\nb\n", "1\n2", "a\na", "a\n b", "a\n(b)", "a\n  # c\nb", "a +\nb", "a\n+ b", "a\n.b", "f\n(a)", "lambda:\na", "not\na", "a if b\nelse c", "-\na",
		" a", "  a", "    a\n", " (a)", " a # b", "\n a", "# c\n  a", "\n\n    a\n", " 1", " 'a'", " -a", " a\n ", " a\nb", " [\n]", "a;", "a;b", "a\\\n+ b")
}

func TestExprGetOfFaults(t *testing.T) {
	for _, text := range []string{"a $", "$", "(a", "a)", "[a)", "01", "a + 01", "'a", "a 'b", "thirteen_byte", "a / b", "a !b", "a & b", "\"a\"", "a\tb", "f(\n", "a\n)", "a\n  b\n c", "a ? b", "\x00", "a\x00", "\u00e9"} {
		if _, f := impl.Lex(text); f == (impl.Fault{}) {
			t.Errorf("%q has no fault", text)
		}
		checkRefused(t, text)
	}
}

func TestExprGetOfDepths(t *testing.T) {
	for _, p := range places() {
		text := "a"
		for depth := 1; depth <= 12; depth++ {
			e := tree(p.nested(depth - 1))
			if s := exprWith(e, func() string { return "(" }); depth <= 7 {
				checkTrees(t, [][2]string{{s, p.nested(depth - 1)}, {exprWanted(e), p.nested(depth - 1)}, {"(((" + s + ")))", p.nested(depth - 1)}})
			} else {
				checkRefused(t, s, exprWanted(e), "("+s+")", text)
			}
			text = strings.Replace(p.text, "?", "("+text+")", 1)
		}
	}
	checkTrees(t, [][2]string{
		{"a+b+c+d+e+f+g", "(+ (+ (+ (+ (+ (+ a b) c) d) e) f) g)"}, {"a**b**c**d**e**f**g", "(** a (** b (** c (** d (** e (** f g))))))"}, {"a.b.c.d.e.f.g", "(attr.g (attr.f (attr.e (attr.d (attr.c (attr.b a))))))"},
		{"------a", "(- (- (- (- (- (- a))))))"}, {"a()()()()()()", "(call (call (call (call (call (call a))))))"},
	})
	checkRefused(t, "a+b+c+d+e+f+g+h", "a**b**c**d**e**f**g**h", "a.b.c.d.e.f.g.h", "-------a", "a()()()()()()()", "a and b and c and d and e and f and g and h", "[[[[[[[]]]]]], [[[[[[[]]]]]]]]", "[a, [[[[[[b]]]]]]]",
		"[[[[[[[a]]]]]]]", "not not not not not not not a", "lambda: lambda: lambda: lambda: lambda: lambda: lambda: a", strings.Repeat("-", 1498)+"a", strings.Repeat("not ", 999)+"a", "a"+strings.Repeat(".b", 749), "a"+strings.Repeat("()", 749),
		strings.Repeat("[", 749)+strings.Repeat("]", 749), "a"+strings.Repeat("+a", 749), "a"+strings.Repeat("**a", 749), strings.Repeat("lambda:", 500)+"a", "a"+strings.Repeat(" if a else a", 250), "["+strings.Repeat("a,", 748)+"a]", "f("+strings.Repeat("x=a,", 300)+"x=a)",
		"lambda "+strings.Repeat("x,", 700)+"x: a", "{"+strings.Repeat("a:b,", 370)+"a:b}")
}

// TestExprGetOfMaxLengths has texts of as many bytes and tokens as there may be, and of one more.
func TestExprGetOfMaxLengths(t *testing.T) {
	parens := strings.Repeat("(", 749) + "a" + strings.Repeat(")", 749)
	full := "['" + strings.Repeat("a", 400) + "', '" + strings.Repeat("b", 400) + "']"
	checkTrees(t, [][2]string{
		{parens, "a"}, {parens + strings.Repeat("\n", 4000-len(parens)), "a"}, {"a" + strings.Repeat(" ", 3999), "a"}, {"(" + strings.Repeat(" ", 3997) + "a)", "a"}, {strings.Repeat("\n", 3999) + "a", "a"},
		{"a # " + strings.Repeat("b", 3996), "a"}, {full, "(list '" + strings.Repeat("a", 400) + "' '" + strings.Repeat("b", 400) + "')"}, {strings.Repeat("(", 748) + "-a" + strings.Repeat(")", 748), "(- a)"},
	})
	checkRefused(t, "("+parens+")", "-"+parens, parens+"+a", "a"+strings.Repeat(" ", 4000), "("+strings.Repeat(" ", 3998)+"a)", strings.Repeat("\n", 4000)+"a", "a # "+strings.Repeat("b", 3997), strings.Repeat("(", 2000)+"a"+strings.Repeat(")", 2000), strings.Repeat("a", 1000000))
}

func TestExprGetOfLooseTexts(t *testing.T) {
	list, told := looseTexts()
	for i, text := range list {
		if e, ok := impl.ExprGet(text); ok == isTooLong(text) || ok && !equalExprs(e, told[i]) {
			t.Errorf("ExprGet(%q) = %s, %t, want %s", text, shown(e), ok, shown(told[i]))
		}
	}
}

// TestExprGetOfChangedTexts has texts with a token less, more, or another one, which mostly tell nothing.
func TestExprGetOfChangedTexts(t *testing.T) {
	r := rand.New(rand.NewSource(66))
	pieces := slices.Concat(signs, []string{"a", "x", "1", "'a'", "None", "not", "and", "or", "if", "else", "lambda", "yield", "in", "is", "=", "x=", "\n"})
	list, _ := looseTexts()
	for _, text := range list {
		toks, _ := lexWanted(text)
		if len(toks) < 2 || len(toks) > 24 {
			continue
		}
		checkGet(t, text)
		for range 6 {
			var sources []string
			for _, tok := range toks[:len(toks)-1] {
				sources = append(sources, sourceOf(tok))
			}
			at := r.Intn(len(sources))
			piece := pieces[r.Intn(len(pieces))]
			switch r.Intn(3) {
			case 0:
				sources = slices.Delete(sources, at, at+1)
			case 1:
				sources = slices.Insert(sources, at, piece)
			default:
				sources[at] = piece
			}
			checkGet(t, strings.Join(sources, " "))
		}
	}
}

// TestExprGetOfAllShortTexts has all texts of a few tokens of interest.
func TestExprGetOfAllShortTexts(t *testing.T) {
	for _, c := range []struct {
		words string
		most  int
	}{
		{"a 1 'b' None - not + ** * < in and or if else lambda yield : , ( ) [ ] { } . = x", 3},
		{"a - not ** + and", 6}, {"a if else or lambda :", 6}, {"f ( ) , = x", 6}, {"[ ] { } : ,", 5}, {"a [ ] { } : ,", 5}, {"a < in not ( )", 6}, {"a . ( ) [ ] 1", 5},
		{"lambda : , a ( )", 6}, {"yield a ( ) , lambda :", 5}, {"a - * ** ( )", 6},
	} {
		for _, text := range allTexts(strings.Fields(c.words), c.most, " ") {
			checkGet(t, text)
		}
	}
}
