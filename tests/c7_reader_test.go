package tests

import (
	"regexp"
	"slices"
	"strings"
	"testing"

	"loop.example/slowworm/impl"
)

// row is a line of tokens, without its end, and the rows that stand below it, one level further in.
type row struct {
	toks  []impl.Tok
	below []row
}

// followForm are the words of rows that belong to one statement with blocks.
var followForm = regexp.MustCompile(`^(?:if( elif)*( else)?|(?:while|for)( else)?|def|class|try( except)*( else)?( finally)?) $`)

// progWanted returns the valid program that a text tells.
func progWanted(text string) ([]impl.Stmt, bool) {
	list, ok := progTold(text)
	if !ok || !validProgWanted(list) {
		return nil, false
	}
	return list, true
}

// program returns what a text tells, which need not be valid.
func program(text string) []impl.Stmt {
	list, ok := progTold(text)
	if !ok {
		panic("no program: " + text)
	}
	return list
}

// progTold reads a text row by row: the rows are put in order by their levels first, and then each is read for itself.
// What is told need not be valid.
func progTold(text string) (list []impl.Stmt, ok bool) {
	toks, f := lexWanted(text)
	if f != (impl.Fault{}) {
		return nil, false
	}
	defer func() {
		if r := recover(); r != nil {
			if r != "unread" {
				panic(r)
			}
			list, ok = nil, false
		}
	}()
	rows, rest := rowsOf(toks)
	if len(rest) > 0 {
		panic("tokens are left: " + told(rest))
	}
	return stmtsTold(rows), true
}

// mustRead breaks the reading off.
func mustRead(fits bool) {
	if !fits {
		panic("unread")
	}
}

// rowsOf returns the rows up to the end of their level, and the tokens from there on.
func rowsOf(toks []impl.Tok) ([]row, []impl.Tok) {
	var rows []row
	for len(toks) > 0 && toks[0].Kind != impl.TokOut {
		if toks[0].Kind == impl.TokIn {
			mustRead(len(rows) > 0)
			rows[len(rows)-1].below, toks = rowsOf(toks[1:])
			toks = toks[1:]
			continue
		}
		end := slices.IndexFunc(toks, func(tok impl.Tok) bool { return tok.Kind == impl.TokLine })
		rows, toks = append(rows, row{toks: toks[:end]}), toks[end+1:]
	}
	return rows, toks
}

// first returns the keyword with which a row begins, if there is one.
func (r row) first() string {
	if r.toks[0].Kind != impl.TokWord {
		return ""
	}
	return r.toks[0].Text
}

func stmtsTold(rows []row) []impl.Stmt {
	var list []impl.Stmt
	for len(rows) > 0 {
		n := 1
		for n < len(rows) && oneOf("elif", "else", "except", "finally")(rows[n].first()) {
			n++
		}
		words := ""
		for _, r := range rows[:n] {
			words += r.first() + " "
		}
		if followForm.MatchString(words) {
			list = append(list, compoundTold(rows[:n]))
		} else {
			mustRead(n == 1 && len(rows[0].below) == 0)
			list = append(list, simpleTold(rows[0].toks))
		}
		rows = rows[n:]
	}
	return list
}

// compoundTold returns a statement with blocks, which is some rows.
func compoundTold(rows []row) impl.Stmt {
	last := len(rows) - 1
	for _, r := range rows {
		mustRead(len(r.below) > 0 && r.toks[len(r.toks)-1].Kind == impl.TokSign && r.toks[len(r.toks)-1].Text == ":")
	}
	s := headTold(rows[0].toks[:len(rows[0].toks)-1])
	s.Body = stmtsTold(rows[0].below)
	if last > 0 && rows[last].first() == "finally" {
		mustRead(len(rows[last].toks) == 2)
		s.Last = stmtsTold(rows[last].below)
		last--
	}
	var orElse []impl.Stmt
	if last > 0 && rows[last].first() == "else" {
		mustRead(len(rows[last].toks) == 2)
		orElse = stmtsTold(rows[last].below)
		last--
	}
	for ; last > 0 && rows[last].first() == "elif"; last-- {
		orElse = []impl.Stmt{{Kind: 4, Exprs: exprTold(rows[last].toks[1:len(rows[last].toks)-1], 1), Body: stmtsTold(rows[last].below), Else: orElse}}
	}
	s.Else = orElse
	for _, r := range rows[1 : last+1] {
		s.Hands = append(s.Hands, handTold(r.toks[1:len(r.toks)-1], stmtsTold(r.below)))
	}
	return s
}

func handTold(toks []impl.Tok, body []impl.Stmt) impl.Hand {
	h := impl.Hand{Body: body}
	if n := len(toks); n > 2 && toks[n-1].Kind == impl.TokName && isWord(toks[n-2], "as") {
		h.Name, toks = toks[n-1].Text, toks[:n-2]
	}
	if len(toks) > 0 {
		h.Exprs = exprTold(toks, 1)
	}
	return h
}

// isWord reports whether a token is a keyword or sign with a text.
func isWord(tok impl.Tok, text string) bool {
	return (tok.Kind == impl.TokWord || tok.Kind == impl.TokSign) && tok.Text == text
}

// headTold returns the statement that begins with a row, without the colon, and has no blocks yet.
func headTold(toks []impl.Tok) impl.Stmt {
	word, rest := toks[0].Text, toks[1:]
	s := impl.Stmt{Kind: map[string]int{"if": 4, "while": 5, "for": 6, "def": 7, "class": 8, "try": 11}[word]}
	if word == "for" || word == "def" || word == "class" {
		mustRead(len(rest) > 0 && rest[0].Kind == impl.TokName)
		s.Name, rest = rest[0].Text, rest[1:]
	}
	switch {
	case word == "try" || word == "class" && len(rest) == 0:
		mustRead(len(rest) == 0)
	case word == "if" || word == "while":
		s.Exprs = exprTold(rest, 1)
	case word == "for":
		mustRead(len(rest) > 0 && isWord(rest[0], "in"))
		s.Exprs = exprTold(rest[1:], 1)
	default:
		mustRead(len(rest) > 1 && isWord(rest[0], "(") && isWord(rest[len(rest)-1], ")"))
		rest = rest[1 : len(rest)-1]
		if word == "class" {
			s.Exprs = exprsTold(rest)
		} else {
			s.Names, s.Exprs = paramsTold(rest)
		}
	}
	return s
}

// exprsTold returns expressions with commas between them, as elements are.
func exprsTold(toks []impl.Tok) []impl.Expr {
	var list []impl.Expr
	for _, part := range (spanReader{toks: toks}).parts(0, len(toks), ",") {
		list = append(list, exprTold(toks[part[0]:part[1]], 1)...)
	}
	return list
}

// exprTold returns one expression, at a level.
func exprTold(toks []impl.Tok, level int) []impl.Expr {
	list := spanReader{toks, map[[2]int][]leveledExpr{}}.read(0, len(toks), level)
	if len(list) > 1 {
		panic("two expressions are told: " + told(toks))
	}
	mustRead(len(list) == 1)
	return list
}

func paramsTold(toks []impl.Tok) ([]string, []impl.Expr) {
	if len(toks) == 0 {
		return nil, nil
	}
	var names []string
	var defaults []impl.Expr
	for _, part := range (spanReader{toks: toks}).parts(0, len(toks), ",") {
		param := toks[part[0]:part[1]]
		mustRead(len(param) > 0 && param[0].Kind == impl.TokName)
		names = append(names, param[0].Text)
		if len(param) > 1 {
			mustRead(isWord(param[1], "="))
			defaults = append(defaults, exprTold(param[2:], 1)...)
		} else {
			mustRead(len(defaults) == 0)
		}
	}
	return names, defaults
}

// simpleTold returns the statement without blocks that a row is.
func simpleTold(toks []impl.Tok) impl.Stmt {
	words := strings.Fields("return raise pass break continue global nonlocal del import assert")
	kinds := []int{9, 10, 12, 13, 14, 15, 16, 17, 18, 19}
	at := slices.Index(words, toks[0].Text)
	if toks[0].Kind != impl.TokWord || at < 0 {
		return plainTold(toks)
	}
	s, rest := impl.Stmt{Kind: kinds[at]}, toks[1:]
	switch s.Kind {
	case 9, 10:
		if len(rest) > 0 {
			s.Exprs = exprTold(rest, 1)
		}
	case 15, 16:
		var fits bool
		s.Names, fits = spanReader{toks: rest}.names(0, len(rest))
		mustRead(fits && len(rest) > 0)
	case 17:
		s.Exprs = exprTold(rest, 10)
	case 18:
		mustRead(len(rest) == 1 && rest[0].Kind == impl.TokName)
		s.Name = rest[0].Text
	case 19:
		s.Exprs = exprsTold(rest)
		mustRead(len(s.Exprs) <= 2)
	default:
		mustRead(len(rest) == 0)
	}
	return s
}

// plainTold returns an expression that is a statement, or an assignment.
func plainTold(toks []impl.Tok) impl.Stmt {
	for _, sign := range []string{"=", "+=", "-=", "*="} {
		parts := spanReader{toks: toks}.parts(0, len(toks), sign)
		if len(parts) == 1 {
			continue
		}
		mustRead(len(parts) == 2)
		target, value := exprTold(toks[:parts[0][1]], 10), exprTold(toks[parts[1][0]:], 0)
		s := impl.Stmt{Kind: 3, Name: sign[:1], Exprs: append(target, value...)}
		if sign == "=" {
			s.Kind, s.Name = 2, ""
		}
		return s
	}
	return impl.Stmt{Kind: 1, Exprs: exprTold(toks, 0)}
}

// checkProgGet holds what a text is read as against what it must be.
func checkProgGet(t *testing.T, text string) {
	t.Helper()
	want, wantOk := progWanted(text)
	if list, ok := impl.ProgGet(text); ok != wantOk || !equalProgs(list, want) {
		t.Errorf("ProgGet(%q) = %s, %t, want %s, %t", text, shownProg(list), ok, shownProg(want), wantOk)
	}
}
