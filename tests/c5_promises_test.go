package tests

import (
	"slices"
	"strings"
	"testing"

	"loop.example/slowworm/impl"
)

// wordNames returns names of many lengths, among them those that are nearly keywords.
func wordNames() []string {
	names := []string{"a", "Z", "_", "x1", "abcdefghijk", "abcdefghijkl", "_1", "none", "i", "no", "els", "self", "____________"}
	for _, s := range keywords {
		names = append(names, s+"_", "_"+s, s+"1", s+s[:1])
	}
	return names
}

func TestP39NamesStayNames(t *testing.T) {
	for _, s := range wordNames() {
		if !impl.NameOk(s) || impl.IsKeyword(s) {
			t.Errorf("NameOk(%q) = %t, IsKeyword %t", s, impl.NameOk(s), impl.IsKeyword(s))
		}
		for _, digit := range strings.Split("0123456789", "") {
			if longer := s + digit; impl.NameOk(longer) != (len(longer) <= impl.MaxName) {
				t.Errorf("NameOk(%q) = %t", longer, impl.NameOk(longer))
			}
		}
	}
	for _, s := range []string{"", "1", "a b", "a-", "abcdefghijklm", "\xff"} {
		if impl.NameOk(s) {
			t.Errorf("NameOk(%q) = true", s)
		}
	}
}

func TestP40KeywordsAreNoNames(t *testing.T) {
	for _, s := range keywords {
		if !impl.IsKeyword(s) || impl.NameOk(s) || !impl.NameOk(s+"_") || impl.IsKeyword(s+"_") {
			t.Errorf("%q: IsKeyword %t, NameOk %t, with an underscore %t and %t", s, impl.IsKeyword(s), impl.NameOk(s), impl.IsKeyword(s+"_"), impl.NameOk(s+"_"))
		}
	}
	for _, s := range append(wordNames(), "", "1", "=", "if ", "\n") {
		if impl.IsKeyword(s) {
			t.Errorf("IsKeyword(%q) = true", s)
		}
	}
}

// levelAtEnd returns the number of levels that tokens begin, less those that they end.
func levelAtEnd(toks []impl.Tok) int {
	level := 0
	for _, tok := range toks {
		switch tok.Kind {
		case impl.TokIn:
			level++
		case impl.TokOut:
			level--
		}
	}
	return level
}

func TestP41TokensAreReadAgainFromTheirOneForm(t *testing.T) {
	spoken := 0
	for _, text := range fineTexts() {
		toks := lexed(t, text)
		if levelAtEnd(toks) != 0 {
			t.Errorf("the levels of %q end at %d", text, levelAtEnd(toks))
		}
		form := impl.ToksText(text)
		if len(form) > impl.MaxSource {
			continue
		}
		spoken++
		if again := lexed(t, form); !slices.Equal(unlined(again), unlined(toks)) || len(toks) == 0 != (form == "") {
			t.Errorf("%q is %q, whose tokens are %s, want %s", text, form, told(again), told(toks))
		}
	}
	if spoken < 1000 {
		t.Errorf("the promise speaks of %d texts", spoken)
	}
	// Lines that are deep become longer; one form may be too long to be read.
	deep := ""
	for i := range 60 {
		deep += strings.Repeat(" ", i) + "x\n"
	}
	if form := impl.ToksText(deep); len(form) <= impl.MaxSource || impl.ToksText(form) != "" {
		t.Errorf("a form of %d bytes is read", len(form))
	}
	for _, text := range oddTexts(2000) {
		if _, f := impl.Lex(text); f != (impl.Fault{}) && impl.ToksText(text) != "" {
			t.Errorf("ToksText(%q) = %q", text, impl.ToksText(text))
		}
	}
}

func TestP42OneFormStays(t *testing.T) {
	for _, text := range fineTexts() {
		form := impl.ToksText(text)
		if len(form) > impl.MaxSource {
			continue
		}
		if again := impl.ToksText(form); again != form {
			t.Errorf("ToksText(%q) = %q", form, again)
		}
	}
}

func TestP43EachLineOfTokensHasOne(t *testing.T) {
	for _, text := range fineTexts() {
		toks := slices.DeleteFunc(lexed(t, text), func(tok impl.Tok) bool { return tok.Kind == impl.TokIn || tok.Kind == impl.TokOut })
		line, at := 0, 0
		for _, row := range impl.LexLines(text) {
			if len(row) != 2 || row[0] <= line || row[1] < 2 || at+row[1] > len(toks) {
				t.Fatalf("LexLines(%q) = %v", text, impl.LexLines(text))
			}
			part := toks[at : at+row[1]]
			ends := slices.IndexFunc(part, func(tok impl.Tok) bool { return tok.Kind == impl.TokLine })
			if part[0].Line != row[0] || ends != len(part)-1 {
				t.Errorf("LexLines(%q) has %v of %s", text, row, told(part))
			}
			line, at = row[0], at+row[1]
		}
		if at != len(toks) {
			t.Errorf("LexLines(%q) = %v has %d of %d tokens", text, impl.LexLines(text), at, len(toks))
		}
	}
	for _, text := range oddTexts(2000) {
		if _, f := impl.Lex(text); f != (impl.Fault{}) && len(impl.LexLines(text)) != 0 {
			t.Errorf("LexLines(%q) = %v", text, impl.LexLines(text))
		}
	}
}

func TestP170BlankLinesAndCommentsAreNothing(t *testing.T) {
	spoken := 0
	for _, text := range append(fineTexts(), oddTexts(2000)...) {
		for _, ahead := range []string{"\n# c\n", "# c\n\n", "    \n #(\n", "\n   # ' $\t\n", "#\n     \n"} {
			if len(ahead+text) > impl.MaxSource {
				continue
			}
			spoken++
			toks, f := impl.Lex(text)
			moved, movedFault := impl.Lex(ahead + text)
			if f != (impl.Fault{}) {
				f.Line += 2
			}
			if !slices.Equal(moved, later(toks, 2)) || movedFault != f {
				t.Errorf("Lex(%q) = %s, %v, want %s, %v", ahead+text, told(moved), movedFault, told(later(toks, 2)), f)
			}
		}
	}
	if spoken < 1000 {
		t.Errorf("the promise speaks of %d texts", spoken)
	}
}

// TestP171TextsOneBehindTheOther has first texts that end with a newline, so that no token of the one goes on in the other,
// and second ones of which no line of tokens ahead of the others begins with spaces.
func TestP171TextsOneBehindTheOther(t *testing.T) {
	texts := fineTexts()
	spoken := 0
	for i, first := range texts {
		for _, second := range texts[i : i+min(6, len(texts)-i)] {
			if first != "" && !strings.HasSuffix(first, "\n") {
				first += "\n"
			}
			if len(first+second) > impl.MaxSource {
				continue
			}
			toks, behind := lexed(t, first), lexed(t, second)
			if len(toks)+len(behind) > impl.MaxToks || len(behind) > 0 && behind[0].Kind == impl.TokIn {
				continue
			}
			spoken++
			both := lexed(t, first+second)
			// The levels of the first text end at the first token behind it.
			want := slices.Clone(toks)
			moved := later(behind, strings.Count(first, "\n"))
			for k := len(want) - 1; k >= 0 && want[k].Kind == impl.TokOut; k-- {
				want[k].Line = 1 + strings.Count(first+second, "\n")
				if len(moved) > 0 {
					want[k].Line = moved[0].Line
				}
			}
			if want = append(want, moved...); !slices.Equal(both, want) {
				t.Errorf("Lex(%q) = %s, want %s", first+second, told(both), told(want))
			}
		}
	}
	if spoken < 1000 {
		t.Errorf("the promise speaks of %d texts", spoken)
	}
}

func TestP243AQuotedTextIsOneToken(t *testing.T) {
	list := append(texts(), strings.Repeat("\xff", 400), strings.Repeat("'", 400), "# a", "(", "a # b\n", "\\'", "if")
	for i := range 256 {
		list = append(list, string([]byte{byte(i)}), string([]byte{'a', byte(i), byte(255 - i), '0'}))
	}
	for _, s := range list {
		toks := lexed(t, impl.TextQuote(s)+"\n")
		want := []impl.Tok{{Kind: impl.TokText, Text: s, Line: 1}, {Kind: impl.TokLine, Line: 1}}
		if !slices.Equal(toks, want) {
			t.Errorf("Lex of the quoted text %q = %s", s, told(toks))
		}
	}
}
