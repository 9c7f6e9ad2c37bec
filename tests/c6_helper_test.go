package tests

import (
	"math/rand"
	"regexp"
	"slices"
	"strings"
	"testing"

	"loop.example/slowworm/impl"
)

var (
	binarySigns  = strings.Fields("+ - * // % ** < <= > >= == != in is")
	sixNames     = strings.Fields("a b c d e f")
	sevenNames   = append(slices.Clone(sixNames), "g")
	treeWordForm = regexp.MustCompile(`[()]|'(?:[^'\\]|\\.)*'|[^\s()]+`)
)

// tree returns the expression that is told by its words, in parentheses with what it is ahead of its Kids:
// (+ a 1), (not a), (or a b), (if a t b), (list a), (dict k v), (call f 1 x= 2), (index a k), (attr.name a), (lambda:x,y a), (yield a).
func tree(s string) impl.Expr {
	e, rest := treeOf(treeWordForm.FindAllString(s, -1))
	if len(rest) > 0 {
		panic("no tree: " + s)
	}
	return e
}

func treeOf(words []string) (impl.Expr, []string) {
	if words[0] != "(" {
		return leaf(words[0]), words[1:]
	}
	head, words := words[1], words[2:]
	var e impl.Expr
	for words[0] != ")" {
		if name, found := strings.CutSuffix(words[0], "="); found {
			e.Names, words = append(e.Names, name), words[1:]
			continue
		}
		var kid impl.Expr
		kid, words = treeOf(words)
		e.Kids = append(e.Kids, kid)
	}
	word, rest, _ := strings.Cut(strings.Replace(head, ":", ".", 1), ".")
	kinds := map[string]int{"list": 7, "dict": 8, "not": 9, "and": 11, "or": 11, "if": 12, "call": 13, "index": 14, "attr": 15, "lambda": 16, "yield": 17}
	e.Kind = kinds[word]
	switch {
	case e.Kind == 9 || e.Kind == 11:
		e.Text = head
	case e.Kind == 15:
		e.Text = rest
	case e.Kind == 16 && rest != "":
		e.Names = strings.Split(rest, ",")
	case e.Kind == 0:
		e.Kind, e.Text = 8+len(e.Kids), head
	}
	return e, words[1:]
}

// leaf returns the expression without Kids that a word is.
func leaf(word string) impl.Expr {
	kind := map[string]int{"None": 1, "True": 2, "False": 3}[word]
	switch {
	case kind > 0:
		return impl.Expr{Kind: kind}
	case word[0] == '\'':
		return impl.Expr{Kind: 5, Text: unescaped(word)}
	case strings.Contains("0123456789", word[:1]):
		return impl.Expr{Kind: 4, Text: word}
	}
	return impl.Expr{Kind: 6, Text: word}
}

func listOf(elements ...impl.Expr) impl.Expr {
	return impl.Expr{Kind: 7, Kids: elements}
}

// kindRule is what the expressions of a kind have: one of these numbers of Kids, a Text that fits, and at most so many Names.
type kindRule struct {
	kids  []int
	fits  func(s string) bool
	names int
}

// kindRules are the rules of the kinds from 1 to 17. The names of a call have one more rule.
var kindRules = []kindRule{
	{},
	{[]int{0}, oneOf(""), 0}, {[]int{0}, oneOf(""), 0}, {[]int{0}, oneOf(""), 0},
	{[]int{0}, regexp.MustCompile(`^(0|[1-9][0-9]{0,39})$`).MatchString, 0},
	{[]int{0}, func(s string) bool { return len(s) <= 400 }, 0},
	{[]int{0}, isNameWanted, 0},
	{upTo(0, 7), oneOf(""), 0},
	{[]int{0, 2, 4, 6, 8, 10, 12}, oneOf(""), 0},
	{[]int{1}, oneOf("-", "not"), 0},
	{[]int{2}, oneOf(binarySigns...), 0},
	{[]int{2}, oneOf("and", "or"), 0},
	{[]int{3}, oneOf(""), 0},
	{upTo(1, 8), oneOf(""), 6},
	{[]int{2}, oneOf(""), 0},
	{[]int{1}, isNameWanted, 0},
	{[]int{1}, oneOf(""), 6},
	{[]int{1}, oneOf(""), 0},
}

func oneOf(list ...string) func(s string) bool {
	return func(s string) bool { return slices.Contains(list, s) }
}

// isNameWanted reports whether a text is a name.
func isNameWanted(s string) bool {
	return s != "" && len(s) <= 12 && wordForm.FindString(s) == s && !slices.Contains(keywords, s)
}

// fitsNames reports whether names are ones that a kind with so many Kids may have.
func fitsNames(kind int, names []string, kids int) bool {
	if len(names) > kindRules[kind].names || kind == 13 && len(names) > kids-1 {
		return false
	}
	for i, name := range names {
		if !isNameWanted(name) || slices.Index(names, name) < i {
			return false
		}
	}
	return true
}

// validWanted reports whether an expression is valid, sentence by sentence.
func validWanted(e impl.Expr) bool {
	if depthOf(e) > 7 {
		return false
	}
	for _, part := range partsOf(e) {
		if part.Kind < 1 || part.Kind > 17 {
			return false
		}
		rule := kindRules[part.Kind]
		if !slices.Contains(rule.kids, len(part.Kids)) || !rule.fits(part.Text) || !fitsNames(part.Kind, part.Names, len(part.Kids)) {
			return false
		}
	}
	return true
}

func depthOf(e impl.Expr) int {
	depth := 0
	for _, kid := range e.Kids {
		depth = max(depth, depthOf(kid))
	}
	return depth + 1
}

// partsOf returns an expression and all in it, each ahead of what is in it.
func partsOf(e impl.Expr) []impl.Expr {
	parts := []impl.Expr{e}
	for _, kid := range e.Kids {
		parts = append(parts, partsOf(kid)...)
	}
	return parts
}

// equalExprs reports whether two expressions are alike in every field.
func equalExprs(a impl.Expr, b impl.Expr) bool {
	return a.Kind == b.Kind && a.Text == b.Text && slices.Equal(a.Names, b.Names) && slices.EqualFunc(a.Kids, b.Kids, equalExprs)
}

// copiedExpr returns a copy of an expression that shares nothing with it, but texts.
func copiedExpr(e impl.Expr) impl.Expr {
	e.Names = slices.Clone(e.Names)
	e.Kids = slices.Clone(e.Kids)
	for i, kid := range e.Kids {
		e.Kids[i] = copiedExpr(kid)
	}
	return e
}

// namesWanted returns the names that an expression reads, each as often as it does.
func namesWanted(e impl.Expr) []string {
	if e.Kind == 6 {
		return []string{e.Text}
	}
	var names []string
	for _, kid := range e.Kids {
		names = append(names, namesWanted(kid)...)
	}
	if e.Kind == 16 {
		names = slices.DeleteFunc(names, func(name string) bool { return slices.Contains(e.Names, name) })
	}
	return names
}

// onceEach returns the elements, without those that came already.
func onceEach(list []string) []string {
	var once []string
	for i, s := range list {
		if slices.Index(list, s) == i {
			once = append(once, s)
		}
	}
	return once
}

// levelsWanted are the levels of the kinds, those of operators by their texts.
var (
	levelsWanted   = map[int]int{12: 1, 13: 10, 14: 10, 15: 10, 16: 0, 17: 0}
	operatorLevels = map[string]int{"or": 2, "and": 3, "+": 6, "-": 6, "*": 7, "//": 7, "%": 7, "**": 9, "<": 5, "<=": 5, ">": 5, ">=": 5, "==": 5, "!=": 5, "in": 5, "is": 5}
	unaryLevels    = map[string]int{"not": 4, "-": 8}
)

func levelWanted(e impl.Expr) int {
	switch e.Kind {
	case 9:
		return unaryLevels[e.Text]
	case 10, 11:
		return operatorLevels[e.Text]
	}
	if level, found := levelsWanted[e.Kind]; found {
		return level
	}
	return 11
}

// demandsWanted returns what an operator of two operands demands of them.
func demandsWanted(text string) (int, int) {
	switch level := operatorLevels[text]; level {
	case 5:
		return 6, 6
	case 9:
		return 10, 8
	default:
		return level, level + 1
	}
}

// kidDemands returns what an expression demands of each of its Kids.
func kidDemands(e impl.Expr) []int {
	switch e.Kind {
	case 9:
		return []int{unaryLevels[e.Text]}
	case 10, 11:
		left, right := demandsWanted(e.Text)
		return []int{left, right}
	case 12:
		return []int{2, 2, 1}
	case 16:
		return []int{0}
	}
	demands := slices.Repeat([]int{1}, len(e.Kids))
	if e.Kind >= 13 && e.Kind <= 15 {
		demands[0] = 10
	}
	return demands
}

// exprWanted returns a valid expression as a text.
func exprWanted(e impl.Expr) string {
	return exprWith(e, func() string { return "" })
}

// exprWith returns a valid expression as a text with more parentheses around operands, as many as more tells for each.
func exprWith(e impl.Expr, more func() string) string {
	var kids []string
	for i, demand := range kidDemands(e) {
		parens := more()
		if levelWanted(e.Kids[i]) < demand {
			parens += "("
		}
		kids = append(kids, parens+exprWith(e.Kids[i], more)+strings.Repeat(")", len(parens)))
	}
	switch e.Kind {
	case 1, 2, 3:
		return []string{"None", "True", "False"}[e.Kind-1]
	case 5:
		return impl.TextQuote(e.Text)
	case 7:
		return "[" + strings.Join(kids, ", ") + "]"
	case 8:
		var pairs []string
		for pair := range slices.Chunk(kids, 2) {
			pairs = append(pairs, pair[0]+": "+pair[1])
		}
		return "{" + strings.Join(pairs, ", ") + "}"
	case 9:
		return map[string]string{"-": "-", "not": "not "}[e.Text] + kids[0]
	case 10, 11:
		return kids[0] + " " + e.Text + " " + kids[1]
	case 12:
		return kids[0] + " if " + kids[1] + " else " + kids[2]
	case 13:
		for i, name := range e.Names {
			kids[len(kids)-len(e.Names)+i] = name + "=" + kids[len(kids)-len(e.Names)+i]
		}
		return kids[0] + "(" + strings.Join(kids[1:], ", ") + ")"
	case 14:
		return kids[0] + "[" + kids[1] + "]"
	case 15:
		return kids[0] + "." + e.Text
	case 16:
		return strings.TrimSuffix("lambda "+strings.Join(e.Names, ", "), " ") + ": " + kids[0]
	case 17:
		return "yield " + kids[0]
	}
	return e.Text
}

// textPool are texts that some kinds may have.
var textPool = slices.Concat(binarySigns, keywords, sevenNames, strings.Fields("x1 _ Z twelve_bytes print 0 1 7 10 - not"),
	[]string{"", nines, "a b", "it's", `\`, "\n", "\x00\xff", "(", "#", "'", "lambda x: x"})

// randomExpr returns a valid expression that is at most so deep.
func randomExpr(r *rand.Rand, depth int) impl.Expr {
	e := impl.Expr{Kind: 4 + r.Intn(14)}
	if depth == 1 || r.Intn(12) == 0 {
		e.Kind = 1 + r.Intn(8)
	}
	rule := kindRules[e.Kind]
	for !rule.fits(e.Text) || e.Text == "" && e.Kind == 5 {
		e.Text = textPool[r.Intn(len(textPool))]
	}
	n := rule.kids[r.Intn(len(rule.kids))]
	if depth == 1 {
		n = 0
	} else if len(rule.kids) > 1 && r.Intn(8) > 0 {
		n = rule.kids[r.Intn(3)]
	}
	for range n {
		e.Kids = append(e.Kids, randomExpr(r, depth-1))
	}
	if e.Kind == 13 {
		e.Names = slices.Clone(sixNames[:r.Intn(n)])
	}
	if e.Kind == 16 {
		e.Names = slices.Clone(sevenNames[1:][:r.Intn(4)])
	}
	r.Shuffle(len(e.Names), func(i int, j int) { e.Names[i], e.Names[j] = e.Names[j], e.Names[i] })
	return e
}

// smallTrees tell valid expressions of each kind, of which no two are the same.
var smallTrees = []string{
	"None", "True", "False", "0", "1", "10", nines, "''", "'a'", "'None'", "'1'", `'it\'s\n'`, "a", "b", "_", "twelve_bytes",
	"(list)", "(list a)", "(list b)", "(list a b)", "(list b a)", "(list a a)", "(list (list))", "(list a b c d e f)",
	"(dict)", "(dict a b)", "(dict b a)", "(dict a a)", "(dict a b c d)", "(dict c d a b)", "(dict a b c d e f 1 2 3 4 5 6)",
	"(- a)", "(- b)", "(- 1)", "(- (- a))", "(not a)", "(not b)", "(not (not a))", "(- (not a))", "(not (- a))",
	"(+ a b)", "(- a b)", "(* a b)", "(// a b)", "(% a b)", "(** a b)", "(< a b)", "(<= a b)", "(> a b)", "(>= a b)", "(== a b)", "(!= a b)",
	"(in a b)", "(is a b)", "(+ b a)", "(+ a a)", "(and a b)", "(or a b)", "(and b a)", "(or a a)",
	"(if a b c)", "(if b a c)", "(if c b a)", "(if a c b)", "(if a a a)",
	"(call a)", "(call b)", "(call a b)", "(call a b c)", "(call a c b)", "(call a x= b)", "(call a y= b)", "(call a b x= c)", "(call a x= b y= c)",
	"(call a y= b x= c)", "(call a 1 2 3 4 5 6)", "(call a a= 1 b= 2 c= 3 d= 4 e= 5 f= 6)", "(call a 1 2 3 a= 4 b= 5 c= 6)",
	"(index a b)", "(index b a)", "(index a a)", "(attr.x a)", "(attr.y a)", "(attr.x b)", "(attr.twelve_bytes a)",
	"(lambda: a)", "(lambda: b)", "(lambda:x a)", "(lambda:y a)", "(lambda:x,y a)", "(lambda:y,x a)", "(lambda:a,b,c,d,e,f a)", "(yield a)", "(yield b)",
	"(lambda: (lambda: a))", "(lambda: (yield a))", "(yield (lambda: a))", "(** (- 2) 2)", "(- (** 2 2))", "(call (lambda: 1))", "(attr.x (attr.y a))",
}

// exprs returns valid expressions: the small ones, each of these in larger ones, and ones that are made by chance.
func exprs() []impl.Expr {
	var all []impl.Expr
	for _, s := range smallTrees {
		all = append(all, tree(s), tree("(+ a (list b "+s+"))"), tree("(lambda:x,a (call a "+s+" b= (dict a "+s+")))"))
	}
	deep := tree("(list a)")
	for range 5 {
		deep = listOf(deep, leaf("b"), deep)
	}
	full, wide := impl.Expr{Kind: 5, Text: strings.Repeat("\xff", 400)}, leaf("a")
	for range 4 {
		wide = listOf(slices.Repeat([]impl.Expr{wide}, 6)...)
	}
	all = append(all, deep, wide, full, listOf(full, full), listOf(full, full, full), impl.Expr{Kind: 5, Text: strings.Repeat("a", 400)})
	r := rand.New(rand.NewSource(61))
	for i := range 2500 {
		all = append(all, randomExpr(r, 1+i%7))
	}
	return all
}

// changeables returns an expression and all in it, each to be changed in its place.
func changeables(e *impl.Expr) []*impl.Expr {
	list := []*impl.Expr{e}
	for i := range e.Kids {
		list = append(list, changeables(&e.Kids[i])...)
	}
	return list
}

// changedExpr returns an expression with something in it changed, so that it may not be valid.
func changedExpr(r *rand.Rand, e impl.Expr) impl.Expr {
	e = copiedExpr(e)
	parts := changeables(&e)
	part := parts[r.Intn(len(parts))]
	names := append(slices.Clone(sevenNames), "if", "", "1", "a b", "thirteen_byte")
	switch n := len(part.Kids); r.Intn(6) {
	case 0:
		part.Kind += r.Intn(7) - 3
	case 1:
		part.Text = textPool[r.Intn(len(textPool))]
	case 2:
		part.Names = append(part.Names, names[r.Intn(len(names))])
	case 3:
		part.Names = part.Names[:r.Intn(len(part.Names)+1)]
	case 4:
		part.Kids = append(part.Kids, randomExpr(r, 1+r.Intn(2)))
	default:
		part.Kids = part.Kids[:max(n-1, 0)]
	}
	return e
}

// loosened returns a text of one line with other spaces, and lines that go on within brackets.
func loosened(r *rand.Rand, text string) string {
	toks, _ := lexWanted(text)
	loose, before, open := "", "", ""
	for _, tok := range toks {
		if tok.Kind >= 6 {
			continue
		}
		source := sourceOf(tok)
		space := strings.Repeat(" ", r.Intn(3))
		if before != "" && space == "" && needsSpace(before, source) {
			space = " "
		}
		if open != "" && r.Intn(12) == 0 {
			space = []string{"\n", "\n\n   ", " # c\n  "}[r.Intn(3)]
		}
		if before != "" {
			loose += space
		}
		open = openWanted(open, tok)
		loose, before = loose+source, source
	}
	return loose + []string{"", " ", "\n", "  \n"}[r.Intn(4)]
}

// looseTexts returns texts that tell expressions, with more parentheses and other spaces, and these expressions.
func looseTexts() ([]string, []impl.Expr) {
	r := rand.New(rand.NewSource(62))
	var list []string
	var told []impl.Expr
	for _, e := range exprs() {
		more := func() string { return strings.Repeat("(", max(r.Intn(6)-3, 0)) }
		parens := more()
		text := parens + exprWith(e, more) + strings.Repeat(")", len(parens))
		if isTooLong(text) {
			continue
		}
		list, told = append(list, loosened(r, text)), append(told, e)
	}
	return list, told
}

// allTexts returns all texts of at least one and at most so many pieces, with a text between them.
func allTexts(pieces []string, most int, between string) []string {
	var all []string
	last := pieces
	for range most {
		all = append(all, last...)
		var longer []string
		for _, text := range last {
			for _, piece := range pieces {
				longer = append(longer, text+between+piece)
			}
		}
		last = longer
	}
	return all
}

// isTooLong reports whether a text is too long to be read.
func isTooLong(text string) bool {
	_, f := lexWanted(text)
	return f.Code == 6
}

// checkMany checks that there are enough of all, which are counted from 1 on.
func checkMany(t *testing.T, what string, counts []int, least int) {
	t.Helper()
	for i, n := range counts {
		if n < least {
			t.Errorf("%d %s %d", n, what, i+1)
		}
	}
}

// TestHelpersOfExpressions checks that the expressions of the tests have what the tests are for.
func TestHelpersOfExpressions(t *testing.T) {
	var kinds, depths [20]int
	withNames, long := 0, 0
	for _, e := range exprs() {
		if !validWanted(e) {
			t.Fatalf("%v is not valid", e)
		}
		depths[depthOf(e)]++
		for _, part := range partsOf(e) {
			kinds[part.Kind]++
			if len(part.Names) > 1 {
				withNames++
			}
		}
		if isTooLong(exprWanted(e)) {
			long++
		}
	}
	checkMany(t, "expressions of the kind", kinds[1:18], 500)
	checkMany(t, "expressions of the depth", depths[1:8], 100)
	if withNames < 500 || long < 2 || long > 100 {
		t.Errorf("%d expressions with names, %d of which the texts are too long", withNames, long)
	}
	valid, broken := 0, 0
	r := rand.New(rand.NewSource(63))
	for _, e := range exprs() {
		if validWanted(changedExpr(r, e)) {
			valid++
		} else {
			broken++
		}
	}
	if valid < 300 || broken < 1000 {
		t.Errorf("of the changed expressions %d are valid, and %d are not", valid, broken)
	}
	if texts, _ := looseTexts(); len(texts) < 2000 {
		t.Errorf("%d texts", len(texts))
	}
}
