package tests

import (
	"slices"
	"strings"
	"testing"

	"loop.example/slowworm/impl"
)

// leveledExpr is an expression and the level that it has where it is read, which is that of parentheses if it is in some.
type leveledExpr struct {
	e     impl.Expr
	level int
}

// spanReader reads expressions from tokens by trying all places at which they may be parted.
type spanReader struct {
	toks  []impl.Tok
	known map[[2]int][]leveledExpr
}

// getWanted returns the valid expression that a text tells. It fails the test if the text tells two.
func getWanted(t *testing.T, text string) (impl.Expr, bool) {
	t.Helper()
	toks, f := lexWanted(text)
	last := len(toks) - 1
	if f != (impl.Fault{}) || last < 0 || slices.IndexFunc(toks, func(tok impl.Tok) bool { return tok.Kind >= 6 }) != last {
		return impl.Expr{}, false
	}
	r := spanReader{toks, map[[2]int][]leveledExpr{}}
	list := r.read(0, last, 0)
	if len(list) > 1 {
		t.Errorf("%q tells %q and %q", text, exprWanted(list[0]), exprWanted(list[1]))
	}
	if len(list) == 0 || !validWanted(list[0]) {
		return impl.Expr{}, false
	}
	return list[0], true
}

// read returns all that the tokens from one on and ahead of another one tell at a level.
func (r spanReader) read(from int, to int, level int) []impl.Expr {
	key := [2]int{from, to}
	if _, found := r.known[key]; !found && from < to {
		var all []leveledExpr
		for _, e := range r.simple(from, to) {
			all = append(all, leveledExpr{e, 11})
		}
		for _, e := range slices.Concat(r.ahead(from, to), r.between(from, to), r.behind(from, to)) {
			all = append(all, leveledExpr{e, levelWanted(e)})
		}
		r.known[key] = all
	}
	var list []impl.Expr
	for _, one := range r.known[key] {
		if one.level >= level {
			list = append(list, one.e)
		}
	}
	return list
}

// word returns a token as it is written, and "" for those that are no signs or keywords.
func (r spanReader) word(at int) string {
	if tok := r.toks[at]; tok.Kind == 2 || tok.Kind == 5 {
		return tok.Text
	}
	return ""
}

// simple returns what is one token, or in brackets.
func (r spanReader) simple(from int, to int) []impl.Expr {
	if to == from+1 {
		switch tok := r.toks[from]; {
		case tok.Kind == 1:
			return []impl.Expr{{Kind: 6, Text: tok.Text}}
		case tok.Kind == 3:
			return []impl.Expr{{Kind: 4, Text: tok.Text}}
		case tok.Kind == 4:
			return []impl.Expr{{Kind: 5, Text: tok.Text}}
		case slices.Contains(keywords[:3], r.word(from)):
			return []impl.Expr{leaf(tok.Text)}
		}
		return nil
	}
	switch r.word(from) + r.word(to-1) {
	case "()":
		return r.read(from+1, to-1, 0)
	case "[]":
		if kids, fits := r.elements(from+1, to-1); fits {
			return []impl.Expr{{Kind: 7, Kids: kids}}
		}
	case "{}":
		if kids, fits := r.pairs(from+1, to-1); fits {
			return []impl.Expr{{Kind: 8, Kids: kids}}
		}
	}
	return nil
}

// ahead returns what begins with a sign or word of its own.
func (r spanReader) ahead(from int, to int) []impl.Expr {
	var list []impl.Expr
	word := r.word(from)
	switch word {
	case "-", "not":
		for _, kid := range r.read(from+1, to, unaryLevels[word]) {
			list = append(list, impl.Expr{Kind: 9, Text: word, Kids: []impl.Expr{kid}})
		}
	case "yield":
		for _, kid := range r.read(from+1, to, 1) {
			list = append(list, impl.Expr{Kind: 17, Kids: []impl.Expr{kid}})
		}
	case "lambda":
		colon := from
		for colon < to && r.word(colon) != ":" {
			colon++
		}
		names, fits := r.names(from+1, colon)
		for _, kid := range r.read(colon+1, to, 0) {
			if fits {
				list = append(list, impl.Expr{Kind: 16, Names: names, Kids: []impl.Expr{kid}})
			}
		}
	}
	return list
}

// between returns what has an operator within.
func (r spanReader) between(from int, to int) []impl.Expr {
	var list []impl.Expr
	for at := from + 1; at < to-1; at++ {
		word := r.word(at)
		if operatorLevels[word] > 0 {
			kind := map[bool]int{true: 11, false: 10}[word == "and" || word == "or"]
			first, second := demandsWanted(word)
			for _, left := range r.read(from, at, first) {
				for _, right := range r.read(at+1, to, second) {
					list = append(list, impl.Expr{Kind: kind, Text: word, Kids: []impl.Expr{left, right}})
				}
			}
		}
		for other := at + 1; word == "if" && other < to-1; other++ {
			if r.word(other) != "else" {
				continue
			}
			for _, left := range r.read(from, at, 2) {
				for _, test := range r.read(at+1, other, 2) {
					for _, right := range r.read(other+1, to, 1) {
						list = append(list, impl.Expr{Kind: 12, Kids: []impl.Expr{left, test, right}})
					}
				}
			}
		}
	}
	return list
}

// behind returns what ends with brackets or a name of its own.
func (r spanReader) behind(from int, to int) []impl.Expr {
	var list []impl.Expr
	for at := from + 1; at < to; at++ {
		for _, left := range r.read(from, at, 10) {
			switch word := r.word(at); {
			case word == "." && at == to-2 && r.toks[at+1].Kind == 1:
				list = append(list, impl.Expr{Kind: 15, Text: r.toks[at+1].Text, Kids: []impl.Expr{left}})
			case word == "[" && r.word(to-1) == "]":
				for _, key := range r.read(at+1, to-1, 1) {
					list = append(list, impl.Expr{Kind: 14, Kids: []impl.Expr{left, key}})
				}
			case word == "(" && r.word(to-1) == ")":
				if names, args, fits := r.arguments(at+1, to-1); fits {
					list = append(list, impl.Expr{Kind: 13, Names: names, Kids: append([]impl.Expr{left}, args...)})
				}
			}
		}
	}
	return list
}

// parts returns the bounds of what stands between signs that are within no brackets.
func (r spanReader) parts(from int, to int, sign string) [][2]int {
	parts := [][2]int{{from, to}}
	depth := 0
	for at := from; at < to; at++ {
		word := r.word(at)
		switch {
		case word != "" && strings.Contains("([{", word):
			depth++
		case word != "" && strings.Contains(")]}", word):
			depth--
		case word == sign && depth == 0:
			parts[len(parts)-1][1] = at
			parts = append(parts, [2]int{at + 1, to})
		}
	}
	return parts
}

func (r spanReader) elements(from int, to int) ([]impl.Expr, bool) {
	var kids []impl.Expr
	for _, part := range r.parts(from, to, ",") {
		list := r.read(part[0], part[1], 1)
		if len(list) == 0 {
			return nil, from == to
		}
		kids = append(kids, list[0])
	}
	return kids, true
}

func (r spanReader) pairs(from int, to int) ([]impl.Expr, bool) {
	var kids []impl.Expr
	for _, part := range r.parts(from, to, ",") {
		both := r.parts(part[0], part[1], ":")
		if len(both) != 2 {
			return nil, from == to
		}
		key, value := r.read(both[0][0], both[0][1], 1), r.read(both[1][0], both[1][1], 1)
		if len(key) == 0 || len(value) == 0 {
			return nil, false
		}
		kids = append(kids, key[0], value[0])
	}
	return kids, true
}

func (r spanReader) arguments(from int, to int) ([]string, []impl.Expr, bool) {
	var names []string
	var args []impl.Expr
	for _, part := range r.parts(from, to, ",") {
		if part[1]-part[0] > 2 && r.toks[part[0]].Kind == 1 && r.word(part[0]+1) == "=" {
			names = append(names, r.toks[part[0]].Text)
			part[0] += 2
		} else if len(names) > 0 {
			return nil, nil, false
		}
		list := r.read(part[0], part[1], 1)
		if len(list) == 0 {
			return nil, nil, from == to
		}
		args = append(args, list[0])
	}
	return names, args, true
}

func (r spanReader) names(from int, to int) ([]string, bool) {
	var names []string
	for at := from; at < to; at++ {
		if isName := r.toks[at].Kind == 1; isName != ((at-from)%2 == 0) || !isName && r.word(at) != "," {
			return nil, false
		}
		if r.toks[at].Kind == 1 {
			names = append(names, r.toks[at].Text)
		}
	}
	return names, (to-from)%2 == 1 || from == to
}
