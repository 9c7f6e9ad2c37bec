package tests

import (
	"fmt"
	"math/rand"
	"regexp"
	"slices"
	"strconv"
	"strings"
	"testing"

	"loop.example/slowworm/impl"
)

var (
	keywords = strings.Fields("None True False and or not in is if elif else while for break continue pass def return " +
		"lambda class try except finally raise as global nonlocal yield import del assert")
	signs = strings.Fields("** // == != <= >= += -= *= + - * % < > = ( ) [ ] { } , : .")

	wordForm   = regexp.MustCompile(`^[A-Za-z_][A-Za-z_0-9]*`)
	digitForm  = regexp.MustCompile(`^[0-9][A-Za-z_0-9]*`)
	quotedForm = regexp.MustCompile(`^'(?:[ -&(-\[\]-~]|\\['\\n]|\\x(?:0[0-9b-f]|1[0-9a-f]|7f|[89a-f][0-9a-f]))*'`)
	signForm   = regexp.MustCompile(`^(?:\*\*|//|==|!=|<=|>=|\+=|-=|\*=|[-+*%<>=()\[\]{},:.])`)
	escapeForm = regexp.MustCompile(`\\(?:x..|.)`)

	// tightForm is two tokens, told by their kinds and texts, that have no space between them.
	tightForm = regexp.MustCompile("(?s)^S[(\\[{.]\x00|\x00S[)\\]},:.]$|^(?:N.*|S[)\\]])\x00S[(\\[]$")
)

// fault returns a fault at a line.
func fault(line int, code int) impl.Fault {
	return impl.Fault{Line: line, Code: code}
}

// told returns tokens in one line: a letter of the kind, the text and the line of each; ; > and < stand for TokLine, TokIn and TokOut.
func told(toks []impl.Tok) string {
	var all []string
	for _, tok := range toks {
		s := tok.Text
		if tok.Kind == impl.TokText {
			s = strconv.Quote(s)
		}
		all = append(all, fmt.Sprintf("%s%s@%d", kindLetter(tok.Kind), s, tok.Line))
	}
	return strings.Join(all, " ")
}

func kindLetter(kind int) string {
	return map[int]string{1: "N", 2: "W", 3: "I", 4: "T", 5: "S", 6: ";", 7: ">", 8: "<"}[kind]
}

// unlined returns tokens without their lines.
func unlined(toks []impl.Tok) []impl.Tok {
	all := slices.Clone(toks)
	for i := range all {
		all[i].Line = 0
	}
	return all
}

// later returns tokens some lines later.
func later(toks []impl.Tok, lines int) []impl.Tok {
	all := slices.Clone(toks)
	for i := range all {
		all[i].Line += lines
	}
	return all
}

// lexed returns the tokens of a text that must have no fault.
func lexed(t *testing.T, text string) []impl.Tok {
	t.Helper()
	toks, f := impl.Lex(text)
	if f != (impl.Fault{}) {
		t.Fatalf("Lex(%q) has the fault %v", text, f)
	}
	return toks
}

// lexWanted returns what Lex must return of a text. It goes line by line, and breaks off by a panic with the fault.
func lexWanted(text string) (toks []impl.Tok, f impl.Fault) {
	if len(text) > 4000 {
		return nil, fault(0, 6)
	}
	defer func() {
		if r := recover(); r != nil {
			toks, f = nil, r.(impl.Fault)
		}
	}()
	lines := strings.Split(text, "\n")
	levels, open := []int{0}, ""
	put := func(tok impl.Tok) {
		if len(toks) == 1500 {
			panic(fault(tok.Line, 6))
		}
		toks = append(toks, tok)
	}
	for i, row := range lines {
		line := i + 1
		rest := strings.TrimLeft(row, " ")
		if rest == "" || rest[0] == '#' {
			continue
		}
		if open == "" {
			levels = putLevels(put, levels, len(row)-len(rest), line)
		}
		for rest != "" && rest[0] != '#' {
			tok, n := tokWanted(rest, line)
			open = openWanted(open, tok)
			put(tok)
			rest = strings.TrimLeft(rest[n:], " ")
		}
		if open == "" {
			put(impl.Tok{Kind: 6, Line: line})
		}
	}
	if open != "" {
		panic(fault(len(lines), 5))
	}
	putLevels(put, levels, 0, len(lines))
	return toks, impl.Fault{}
}

// putLevels puts what begins or ends levels ahead of a line, and returns the levels then.
func putLevels(put func(impl.Tok), levels []int, level int, line int) []int {
	if level > slices.Max(levels) {
		put(impl.Tok{Kind: 7, Line: line})
		return append(levels, level)
	}
	if !slices.Contains(levels, level) {
		panic(fault(line, 4))
	}
	for level < slices.Max(levels) {
		put(impl.Tok{Kind: 8, Line: line})
		levels = levels[:len(levels)-1]
	}
	return levels
}

// tokWanted returns the token at the beginning of a text, and its length there.
func tokWanted(rest string, line int) (impl.Tok, int) {
	if s := wordForm.FindString(rest); s != "" {
		switch {
		case slices.Contains(keywords, s):
			return impl.Tok{Kind: 2, Text: s, Line: line}, len(s)
		case len(s) <= 12:
			return impl.Tok{Kind: 1, Text: s, Line: line}, len(s)
		}
		panic(fault(line, 1))
	}
	if s := digitForm.FindString(rest); s != "" {
		if strings.Trim(s, "0123456789") != "" || len(s) > 40 || s[0] == '0' && s != "0" {
			panic(fault(line, 3))
		}
		return impl.Tok{Kind: 3, Text: s, Line: line}, len(s)
	}
	if rest[0] == '\'' {
		q := quotedForm.FindString(rest)
		s := unescaped(q)
		if q == "" || len(s) > 400 {
			panic(fault(line, 2))
		}
		return impl.Tok{Kind: 4, Text: s, Line: line}, len(q)
	}
	s := signForm.FindString(rest)
	if s == "" {
		panic(fault(line, 1))
	}
	return impl.Tok{Kind: 5, Text: s, Line: line}, len(s)
}

// unescaped returns what stands in quotes, of a text that TextQuote may write, or that is empty.
func unescaped(q string) string {
	if q == "" {
		return ""
	}
	return escapeForm.ReplaceAllStringFunc(q[1:len(q)-1], func(form string) string {
		switch form[1] {
		case 'n':
			return "\n"
		case 'x':
			c, _ := strconv.ParseUint(form[2:], 16, 8)
			return string([]byte{byte(c)})
		}
		return form[1:]
	})
}

// openWanted returns the brackets that are open behind a token.
func openWanted(open string, tok impl.Tok) string {
	if tok.Kind != 5 {
		return open
	}
	switch tok.Text {
	case "(", "[", "{":
		return open + tok.Text
	case ")", "]", "}":
		if !strings.HasSuffix(open, map[string]string{")": "(", "]": "[", "}": "{"}[tok.Text]) {
			panic(fault(tok.Line, 5))
		}
		return open[:len(open)-1]
	}
	return open
}

// formWanted returns what ToksText must return of a text with the tokens.
func formWanted(toks []impl.Tok) string {
	var form strings.Builder
	level, before := 0, ""
	for _, tok := range toks {
		here := kindLetter(tok.Kind) + tok.Text
		switch here {
		case ">":
			level++
			continue
		case "<":
			level--
			continue
		case ";":
			form.WriteString("\n")
			before = ""
			continue
		}
		if before == "" {
			form.WriteString(strings.Repeat(" ", 4*level))
		} else if !tightForm.MatchString(before + "\x00" + here) {
			form.WriteString(" ")
		}
		form.WriteString(sourceOf(tok))
		before = here
	}
	return form.String()
}

// sourceOf returns the source text of a token.
func sourceOf(tok impl.Tok) string {
	if tok.Kind == impl.TokText {
		return impl.TextQuote(tok.Text)
	}
	return tok.Text
}

// linesWanted returns what LexLines must return of a text with the tokens.
func linesWanted(toks []impl.Tok) [][]int {
	toks = slices.DeleteFunc(slices.Clone(toks), func(tok impl.Tok) bool { return tok.Kind > 6 })
	var rows [][]int
	for len(toks) > 0 {
		n := 1 + slices.IndexFunc(toks, func(tok impl.Tok) bool { return tok.Kind == 6 })
		rows = append(rows, []int{toks[0].Line, n})
		toks = toks[n:]
	}
	return rows
}

// oddSources returns pieces of source texts, of which many are faults.
func oddSources() []string {
	pieces := []string{
		"a", "x1", "_", "print", "twelve_bytes", "more_than_12_", "0", "7", "10", "01", "1a", "0x1", nines, nines + "9", "00",
		"''", "'a b'", `'\\'`, `'\''`, `'\n'`, `'\x00'`, `'\xff'`, `'\x0a'`, `'\x41'`, `'\xFF'`, `'\t'`, `'\'`, "'", "\\", "'#'", "'('", "'a\nb'",
		" ", "  ", "    ", "\n", "\n", "\n\n", "\n ", "\n  ", "\n    ", "\n  # c", "# c\n", "#", "#(\n", "\n   \n", "\t", "\r\n",
		"!", "/", "$", "&", "|", "@", "~", ";", "\"", "`", "?", "^", "\x00", "\x7f", "\x80", "\xff", "\u00e9",
	}
	return slices.Concat(pieces, signs, keywords[:12])
}

// oddTexts returns texts of pieces that come as they like.
func oddTexts(n int) []string {
	r := rand.New(rand.NewSource(51))
	pieces := oddSources()
	var all []string
	for range n {
		var text strings.Builder
		for range r.Intn(12) {
			text.WriteString(pieces[r.Intn(len(pieces))])
			text.WriteString([]string{"", " ", "\n", "\na\n  ", "\n ", ""}[r.Intn(6)])
		}
		all = append(all, text.String())
	}
	return all
}

// fineTexts returns texts without a fault: some for each rule, and ones that are made by chance.
func fineTexts() []string {
	all := []string{
		"", "\n", " ", "  \n\n", "#", "# c\n", "  # c", "a", "a\n", "  a", " a # c", "a\n\n\n", "a\n  ", "a\n  # c", "\n\n a\n\n",
		"if a:\n    b\n", "if a:\n b\n  c\n   d\ne\n", "a\n b\n  c\n d\ne\n f", "   a\n   b\n      c\n   d\n", "a\n b\n  c\n   d",
		"a(\n1)\n", "f (\n\n# c\n      a,\n b)\n  c\n", "[\n{\n(\n)\n}\n]", "a = {1: 'x', 2: [3]}\n  b\n\n   # c\n\n  c(\n)\n",
		"x=1+ 2\nf (a , b)[0]\n", "not a\n- 1\n-1\na - 1\n", "None\nTrue [0]\n", "'a' [0]\n'a' (b)\n", "lambda x, y : x ** - y\n",
		"'" + strings.Repeat("\\xff", 400) + "'", nines + "\n", strings.Repeat("x\n", 750), strings.Repeat("x ", 1499),
		strings.Repeat("#", 4000), strings.Repeat("\n", 4000), strings.Repeat(" ", 4000), strings.Repeat("a b\n", 500),
	}
	r := rand.New(rand.NewSource(52))
	for range 1500 {
		all = append(all, fineText(r))
	}
	return all
}

// fineText returns a text of lines without a fault.
func fineText(r *rand.Rand) string {
	var text strings.Builder
	levels := []int{0}
	for range r.Intn(12) {
		switch r.Intn(6) {
		case 0:
			text.WriteString(strings.Repeat(" ", r.Intn(9)) + []string{"", "# c", "#", "#'(", "# \t\xff"}[r.Intn(5)] + "\n")
			continue
		case 1:
			levels = append(levels, levels[len(levels)-1]+1+r.Intn(5))
		case 2:
			levels = levels[:1+r.Intn(len(levels))]
		}
		text.WriteString(strings.Repeat(" ", levels[len(levels)-1]) + fineLine(r) + "\n")
	}
	if r.Intn(3) == 0 {
		return strings.TrimSuffix(text.String(), "\n")
	}
	return text.String()
}

// fineLine returns a line of tokens without a fault, which may go on within brackets.
func fineLine(r *rand.Rand) string {
	words := slices.Concat([]string{"a", "b1", "_", "twelve_bytes", "0", "12", "''", `'a\'\n'`, "'#'", "' ( '", `'\\'`}, keywords)
	line, open := "", ""
	for i := range 1 + r.Intn(9) {
		switch k := r.Intn(8); {
		case k == 0:
			at := r.Intn(3)
			line, open = line+"([{"[at:at+1], ")]}"[at:at+1]+open
		case k == 1 && open != "":
			line, open = line+open[:1], open[1:]
		case k < 4:
			line += signs[r.Intn(16)]
		case k < 5:
			line += []string{",", ":", "."}[r.Intn(3)]
		default:
			line += words[r.Intn(len(words))]
		}
		if open != "" && r.Intn(3) == 0 {
			line += []string{"\n", "\n\n   ", "# c\n", "  # (\n  # '\n "}[r.Intn(4)]
		}
		// The first token is what makes the line one of tokens, so no comment stands ahead of it.
		line += []string{" ", "  "}[i%2]
	}
	return line + open + []string{"", " ", "# c"}[r.Intn(3)]
}

// needsSpace reports whether two tokens in source text are others when they are written together.
func needsSpace(left string, right string) bool {
	if strings.HasPrefix(left, "'") || strings.HasPrefix(right, "'") {
		return false
	}
	isWord := func(s string) bool { return wordForm.MatchString(s) || digitForm.MatchString(s) }
	if isWord(left) || isWord(right) {
		return isWord(left) && isWord(right)
	}
	return signForm.FindString(left+right) != left
}

// TestHelpersOfTokens checks that the texts of the tests have what the tests are for.
func TestHelpersOfTokens(t *testing.T) {
	if len(keywords) != 31 || len(signs) != 25 {
		t.Errorf("%d keywords, %d signs", len(keywords), len(signs))
	}
	faults := map[int]int{}
	for _, text := range oddTexts(4000) {
		_, f := lexWanted(text)
		faults[f.Code]++
	}
	for code := range 6 {
		if faults[code] < 30 {
			t.Errorf("%d odd texts with the fault %d", faults[code], code)
		}
	}
	kinds, goesOn := map[int]int{}, 0
	for _, text := range fineTexts() {
		toks, f := lexWanted(text)
		if f != (impl.Fault{}) {
			t.Fatalf("%q has the fault %v", text, f)
		}
		for i, tok := range toks {
			kinds[tok.Kind]++
			if i > 0 && tok.Kind < 6 && toks[i-1].Kind < 6 && toks[i-1].Line < tok.Line {
				goesOn++
			}
		}
	}
	for kind := 1; kind <= 8; kind++ {
		if kinds[kind] < 500 {
			t.Errorf("%d tokens of the kind %d", kinds[kind], kind)
		}
	}
	if goesOn < 500 {
		t.Errorf("%d lines go on within brackets", goesOn)
	}
}
