package tests

import (
	"fmt"
	"math/rand"
	"slices"
	"strings"
	"testing"

	"loop.example/slowworm/impl"
)

func TestLimitsOfTokens(t *testing.T) {
	if impl.MaxName != 12 || impl.MaxSource != 4000 || impl.MaxToks != 1500 {
		t.Errorf("MaxName = %d, MaxSource = %d, MaxToks = %d", impl.MaxName, impl.MaxSource, impl.MaxToks)
	}
	kinds := []int{impl.TokName, impl.TokWord, impl.TokInt, impl.TokText, impl.TokSign, impl.TokLine, impl.TokIn, impl.TokOut}
	if !slices.Equal(kinds, upTo(1, 9)) {
		t.Errorf("the kinds of tokens are %v", kinds)
	}
	codes := []int{impl.LexSign, impl.LexText, impl.LexInt, impl.LexIndent, impl.LexBracket, impl.LexLong}
	if !slices.Equal(codes, upTo(1, 7)) {
		t.Errorf("the codes of faults are %v", codes)
	}
}

func TestNameOk(t *testing.T) {
	for _, s := range []string{
		"a", "z", "A", "Z", "_", "__", "_1", "a1", "a_1", "aZ_9", "print", "None_", "none", "NONE", "If", "true", "self", "iff", "ifs",
		"abcdefghijkl", "____________", "a12345678901", "_nonlocal", "Assert", "async", "match", "with", "from", "exec",
	} {
		if !impl.NameOk(s) {
			t.Errorf("NameOk(%q) = false", s)
		}
	}
	for _, s := range []string{
		"", "1", "1a", "9_", "12", "a b", " a", "a ", "a\n", "a-b", "a.b", "a'", "'a'", "a#", "\x00", "a\x00", "\xff", "\u00e9", "a\u00e9", "\u0661",
		"abcdefghijklm", "_____________", "a123456789012", "abcdefghijk ", "123456789012", strings.Repeat("a", 1000000),
	} {
		if impl.NameOk(s) {
			t.Errorf("NameOk(%.40q) = true", s)
		}
	}
}

// TestNameOkOfEachByte has every byte first, alone, and at each place of names of each length.
func TestNameOkOfEachByte(t *testing.T) {
	for i := range 256 {
		c := string([]byte{byte(i)})
		isDigit := strings.Contains("0123456789", c)
		isWord := isDigit || strings.Contains("abcdefghijklmnopqrstuvwxyzABCDEFGHIJKLMNOPQRSTUVWXYZ_", c)
		for n := 1; n <= 13; n++ {
			for at := range n {
				s := strings.Repeat("q", at) + c + strings.Repeat("q", n-1-at)
				if want := n <= 12 && isWord && (at > 0 || !isDigit); impl.NameOk(s) != want {
					t.Errorf("NameOk(%q) = %t", s, !want)
				}
			}
		}
	}
}

func TestIsKeyword(t *testing.T) {
	for _, s := range keywords {
		if !impl.IsKeyword(s) {
			t.Errorf("IsKeyword(%q) = false", s)
		}
		for _, other := range []string{
			s + "s", s + "_", s + "1", s + " ", s + "\x00", "_" + s, "x" + s, " " + s, s + s, s[1:], s[:len(s)-1],
			strings.ToUpper(s), strings.ToLower(s), strings.ToUpper(s[:1]) + s[1:],
		} {
			if want := slices.Contains(keywords, other); impl.IsKeyword(other) != want {
				t.Errorf("IsKeyword(%q) = %t", other, !want)
			}
		}
	}
	for _, s := range []string{"", "a", "_", "none", "true", "false", "self", "print", "len", "from", "with", "nil", "var", "async", "await", "match", "=", "1", strings.Repeat("if", 500000)} {
		if impl.IsKeyword(s) {
			t.Errorf("IsKeyword(%.40q) = true", s)
		}
	}
}

// checkToks holds the tokens of texts against what they must be, as told tells them.
func checkToks(t *testing.T, cases [][2]string) {
	t.Helper()
	for _, c := range cases {
		if toks, f := impl.Lex(c[0]); told(toks) != c[1] || f != (impl.Fault{}) {
			t.Errorf("Lex(%q) = %s, %v, want %s", c[0], told(toks), f, c[1])
		}
	}
}

// faultCase is a text with the line and the code of its fault.
type faultCase struct {
	text       string
	line, code int
}

// checkFaults holds the faults of texts against what they must be, by all three functions that read them.
func checkFaults(t *testing.T, cases []faultCase) {
	t.Helper()
	for _, c := range cases {
		toks, f := impl.Lex(c.text)
		if len(toks) != 0 || f != fault(c.line, c.code) {
			t.Errorf("Lex(%.80q) = %s, %v, want the fault %d at line %d", c.text, told(toks), f, c.code, c.line)
		}
		if s := impl.ToksText(c.text); s != "" {
			t.Errorf("ToksText(%.80q) = %q", c.text, s)
		}
		if rows := impl.LexLines(c.text); len(rows) != 0 {
			t.Errorf("LexLines(%.80q) = %v", c.text, rows)
		}
	}
}

func TestLexOfLines(t *testing.T) {
	checkToks(t, [][2]string{
		{"", ""}, {"\n", ""}, {"\n\n\n", ""}, {" ", ""}, {"   \n", ""}, {"\n   ", ""}, {"#", ""}, {"# a", ""}, {"  # a\n", ""}, {"#\n#", ""},
		{"# 'a ( $ \t \xff\n", ""}, {"##\n # #", ""},
		{"a", "Na@1 ;@1"}, {"a\n", "Na@1 ;@1"}, {"a ", "Na@1 ;@1"}, {"a  \n", "Na@1 ;@1"}, {"a#", "Na@1 ;@1"}, {"a # b", "Na@1 ;@1"}, {"a# b\n", "Na@1 ;@1"},
		{"a\nb", "Na@1 ;@1 Nb@2 ;@2"}, {"a\n\nb\n", "Na@1 ;@1 Nb@3 ;@3"}, {"\na\n", "Na@2 ;@2"}, {"# c\na", "Na@2 ;@2"}, {"\n\n\na", "Na@4 ;@4"},
		{"a\n   \nb", "Na@1 ;@1 Nb@3 ;@3"}, {"a\n   # c\nb", "Na@1 ;@1 Nb@3 ;@3"}, {"a\n# c\n\n  #\nb\n\n", "Na@1 ;@1 Nb@5 ;@5"},
		{"   \na", "Na@2 ;@2"}, {"   # c\na", "Na@2 ;@2"}, {"a\n   ", "Na@1 ;@1"}, {"a\n   # c", "Na@1 ;@1"}, {"a\n\n\n", "Na@1 ;@1"},
		{"a b  c", "Na@1 Nb@1 Nc@1 ;@1"}, {"a #b\nc", "Na@1 ;@1 Nc@2 ;@2"}, {"'#' a", `T"#"@1 Na@1 ;@1`},
	})
}

func TestLexOfLevels(t *testing.T) {
	checkToks(t, [][2]string{
		{"if a:\n    b\n", "Wif@1 Na@1 S:@1 ;@1 >@2 Nb@2 ;@2 <@3"}, {"if a:\n    b", "Wif@1 Na@1 S:@1 ;@1 >@2 Nb@2 ;@2 <@2"},
		{"  a", ">@1 Na@1 ;@1 <@1"}, {"  a\n", ">@1 Na@1 ;@1 <@2"}, {"  a\n\n\n", ">@1 Na@1 ;@1 <@4"}, {"  a\n# c\n  ", ">@1 Na@1 ;@1 <@3"},
		{"\n\n a", ">@3 Na@3 ;@3 <@3"}, {" a\nb", ">@1 Na@1 ;@1 <@2 Nb@2 ;@2"}, {" a\n b\n", ">@1 Na@1 ;@1 Nb@2 ;@2 <@3"},
		{"a\n b\nc", "Na@1 ;@1 >@2 Nb@2 ;@2 <@3 Nc@3 ;@3"}, {"a\n b\n\n# c\nd", "Na@1 ;@1 >@2 Nb@2 ;@2 <@5 Nd@5 ;@5"},
		{"a\n b\n   c\n d\ne\n", "Na@1 ;@1 >@2 Nb@2 ;@2 >@3 Nc@3 ;@3 <@4 Nd@4 ;@4 <@5 Ne@5 ;@5"},
		{"a\n b\n  c\n   d\ne", "Na@1 ;@1 >@2 Nb@2 ;@2 >@3 Nc@3 ;@3 >@4 Nd@4 ;@4 <@5 <@5 <@5 Ne@5 ;@5"},
		{"a\n b\n  c\n   d\n b", "Na@1 ;@1 >@2 Nb@2 ;@2 >@3 Nc@3 ;@3 >@4 Nd@4 ;@4 <@5 <@5 Nb@5 ;@5 <@5"},
		{"a\n b\n  c\n   d\n\n", "Na@1 ;@1 >@2 Nb@2 ;@2 >@3 Nc@3 ;@3 >@4 Nd@4 ;@4 <@6 <@6 <@6"},
		{"a\n b\n  c\n   d # e", "Na@1 ;@1 >@2 Nb@2 ;@2 >@3 Nc@3 ;@3 >@4 Nd@4 ;@4 <@4 <@4 <@4"},
		{"a\n     b\n         c\n     d", "Na@1 ;@1 >@2 Nb@2 ;@2 >@3 Nc@3 ;@3 <@4 Nd@4 ;@4 <@4"},
		{"a\n b\nc\n   d\n", "Na@1 ;@1 >@2 Nb@2 ;@2 <@3 Nc@3 ;@3 >@4 Nd@4 ;@4 <@5"},
		// Lines that yield nothing have no level, whatever spaces they have.
		{"a\n    b\n  \n      \n # c\n       # c\n\n    d\n", "Na@1 ;@1 >@2 Nb@2 ;@2 Nd@8 ;@8 <@9"}, {"    \n# c\na\n        \nb\n   ", "Na@3 ;@3 Nb@5 ;@5"},
		{"  a\n #\n  b\n  ", ">@1 Na@1 ;@1 Nb@3 ;@3 <@4"},
	})
	checkFaults(t, []faultCase{
		{"  a\n b\n", 2, impl.LexIndent}, {"a\n  b\n c", 3, impl.LexIndent}, {"a\n  b\n    c\n   d", 4, impl.LexIndent}, {"a\n  b\n    c\n d\n", 4, impl.LexIndent},
		{"a\n  b\n\n# c\n c", 5, impl.LexIndent}, {"a\n  b\nc\n  d\n e", 5, impl.LexIndent}, {"a\n  b\n    c\n  d\n   e\n d", 6, impl.LexIndent},
		{"a\n  b\n (\n)", 3, impl.LexIndent}, {"a\n  b\n 'c'", 3, impl.LexIndent}, {"a\n  b\n 1", 3, impl.LexIndent}, {"a\n  b\n if", 3, impl.LexIndent},
		{"a\n  b\n \t", 3, impl.LexIndent}, {"a\n  b\n )", 3, impl.LexIndent}, {"a\n  b\n 01", 3, impl.LexIndent}, {"a\n  b\n 'c", 3, impl.LexIndent},
	})
}

func TestLexOfLinesWithinBrackets(t *testing.T) {
	for _, pair := range []string{"()", "[]", "{}"} {
		open, end := pair[:1], pair[1:]
		for _, c := range [][2]string{
			{"<>", "S<@1 S>@1 ;@1"}, {"<\n>", "S<@1 S>@2 ;@2"}, {"<\n\n\n>\n", "S<@1 S>@4 ;@4"}, {"<\n      >\n", "S<@1 S>@2 ;@2"},
			{"f<\n1\n,\n2>+3\n", "Nf@1 S<@1 I1@2 S,@3 I2@4 S>@4 S+@4 I3@4 ;@4"}, {"<# c\n  # >\n    \n>", "S<@1 S>@4 ;@4"},
			{" <\na\n   b\n>\n c", "++@1 S<@1 Na@2 Nb@3 S>@4 ;@4 Nc@5 ;@5 --@5"}, {"<\n  > a\n  b", "S<@1 S>@2 Na@2 ;@2 ++@3 Nb@3 ;@3 --@3"},
			{"a\n  b<\nc\n >\n  d\ne", "Na@1 ;@1 ++@2 Nb@2 S<@2 Nc@3 S>@4 ;@4 Nd@5 ;@5 --@6 Ne@6 ;@6"},
			{"<<\n><\n>\n>\na", "S<@1 S<@1 S>@2 S<@2 S>@3 S>@4 ;@4 Na@5 ;@5"}, {"<\n># c", "S<@1 S>@2 ;@2"}, {"<\n>\n ", "S<@1 S>@2 ;@2"},
			{"'<'\n '>'", `T"<"@1 ;@1 ++@2 T">"@2 ;@2 --@2`}, {"# <\na\n  b # >", "Na@2 ;@2 ++@3 Nb@3 ;@3 --@3"}, {"<'>'\n>", `S<@1 T">"@1 S>@2 ;@2`},
		} {
			// The levels are ++ and -- here, as < and > stand for brackets.
			brackets := strings.NewReplacer("<", open, ">", end, "++", ">", "--", "<")
			checkToks(t, [][2]string{{brackets.Replace(c[0]), brackets.Replace(c[1])}})
		}
	}
	checkToks(t, [][2]string{
		{"([{}])", "S(@1 S[@1 S{@1 S}@1 S]@1 S)@1 ;@1"}, {"([\n{\n}\n]\n)\n", "S(@1 S[@1 S{@2 S}@3 S]@4 S)@5 ;@5"},
		{"(\n[\n]\n{\n}\n)[\n]", "S(@1 S[@2 S]@3 S{@4 S}@5 S)@6 S[@6 S]@7 ;@7"},
	})
}

func TestLexOfBracketsThatDoNotMatch(t *testing.T) {
	var cases []faultCase
	for _, end := range []string{")", "]", "}"} {
		cases = append(cases,
			faultCase{end, 1, 5}, faultCase{"a" + end, 1, 5}, faultCase{"\n\n " + end, 3, 5}, faultCase{"()" + end, 1, 5}, faultCase{"([{}])\n" + end, 2, 5},
			faultCase{"# (\n" + end, 2, 5}, faultCase{"'('" + end, 1, 5})
		for _, open := range []string{"(", "[", "{"} {
			if open+end != "()" && open+end != "[]" && open+end != "{}" {
				cases = append(cases, faultCase{open + end, 1, 5}, faultCase{open + "\n\n" + end + "\n", 3, 5}, faultCase{"([{}" + open + "a\n" + end, 2, 5})
			}
		}
	}
	for _, open := range []string{"(", "[", "{"} {
		cases = append(cases,
			faultCase{open, 1, 5}, faultCase{open + "\n", 2, 5}, faultCase{open + "\n\n\n", 4, 5}, faultCase{"a\nb" + open + "c", 2, 5}, faultCase{open + "\n  ", 2, 5},
			faultCase{open + "\n# )]}", 2, 5}, faultCase{open + " # )]}\n", 2, 5}, faultCase{open + "')]}'\n", 2, 5}, faultCase{"()[]{}" + open + "\n", 2, 5},
			faultCase{open + "()[]{}\n", 2, 5}, faultCase{"  " + open + "\n  a\n", 3, 5}, faultCase{"a\n  b\n" + open + "\nc\n", 5, 5})
	}
	checkFaults(t, cases)
}

func TestLexOfWords(t *testing.T) {
	for _, s := range keywords {
		checkToks(t, [][2]string{
			{s, "W" + s + "@1 ;@1"}, {s + "_", "N" + s + "_@1 ;@1"}, {"_" + s + " " + s, "N_" + s + "@1 W" + s + "@1 ;@1"},
			{s + "1(\n" + s + "\n)", "N" + s + "1@1 S(@1 W" + s + "@2 S)@3 ;@3"},
		})
	}
	checkToks(t, [][2]string{
		{"a", "Na@1 ;@1"}, {"_", "N_@1 ;@1"}, {"Z9", "NZ9@1 ;@1"}, {"abcdefghijkl", "Nabcdefghijkl@1 ;@1"}, {"_23456789012", "N_23456789012@1 ;@1"},
		{"ifa", "Nifa@1 ;@1"}, {"notin", "Nnotin@1 ;@1"}, {"not in", "Wnot@1 Win@1 ;@1"}, {"isnot", "Nisnot@1 ;@1"}, {"If IF none", "NIf@1 NIF@1 Nnone@1 ;@1"},
		{"a.b", "Na@1 S.@1 Nb@1 ;@1"}, {"a'b'c", `Na@1 T"b"@1 Nc@1 ;@1`}, {"print len", "Nprint@1 Nlen@1 ;@1"},
	})
	checkFaults(t, []faultCase{
		{"abcdefghijklm", 1, impl.LexSign}, {"\n _234567890123", 2, impl.LexSign}, {"a\nb\n(continue_____)", 3, impl.LexSign}, {strings.Repeat("a", 4000), 1, impl.LexSign},
		{"caf\u00e9", 1, impl.LexSign}, {"a\x00", 1, impl.LexSign},
	})
}

func TestLexOfIntegers(t *testing.T) {
	for _, s := range []string{"0", "1", "5", "9", "10", "99", "1000000", nines, "1" + nines[1:], nines[1:]} {
		checkToks(t, [][2]string{
			{s, "I" + s + "@1 ;@1"}, {s + "\n", "I" + s + "@1 ;@1"}, {"-" + s, "S-@1 I" + s + "@1 ;@1"}, {"\na+" + s + ".", "Na@2 S+@2 I" + s + "@2 S.@2 ;@2"},
			{"'" + s + "'" + s, `T"` + s + `"@1 I` + s + `@1 ;@1`}, {s + " " + s, "I" + s + "@1 I" + s + "@1 ;@1"},
		})
		for _, bad := range []string{"0" + s, "00" + s, s + "a", s + "_", s + "Z", s + "e5", s + "_1", s + strings.Repeat("1", 41-len(s)) + "0", "0x" + s} {
			checkFaults(t, []faultCase{{bad, 1, 3}, {"a\n(\n" + bad + "\n)", 3, 3}, {bad + " )", 1, 3}, {"-" + bad, 1, 3}})
		}
	}
	checkFaults(t, []faultCase{{tooLong, 1, 3}, {nines + "9", 1, 3}, {strings.Repeat("1", 4000), 1, 3}, {"1if", 1, 3}, {"0b", 1, 3}, {"1_000", 1, 3}})
	checkToks(t, [][2]string{{"1.5", "I1@1 S.@1 I5@1 ;@1"}, {"1 if", "I1@1 Wif@1 ;@1"}, {"1-1", "I1@1 S-@1 I1@1 ;@1"}, {"0.0", "I0@1 S.@1 I0@1 ;@1"}})
}

func TestLexOfTexts(t *testing.T) {
	for i := range 256 {
		for _, side := range []string{"", "a", "'", "\\", "\n", "0", " ", "#", "("} {
			s := side + string([]byte{byte(i)}) + side
			q := impl.TextQuote(s)
			want := []impl.Tok{{Kind: impl.TokText, Text: s, Line: 1}, {Kind: impl.TokName, Text: "b", Line: 1}, {Kind: impl.TokLine, Line: 1}}
			if toks, f := impl.Lex(q + "b"); !slices.Equal(toks, want) || f != (impl.Fault{}) {
				t.Errorf("Lex(%q) = %s, %v", q+"b", told(toks), f)
			}
			// Written otherwise, a byte is a fault, or ends the text ahead of what follows.
			for _, form := range []string{string([]byte{byte(i)}), `\` + string([]byte{byte(i)}), fmt.Sprintf(`\x%02x`, i), fmt.Sprintf(`\x%02X`, i)} {
				text := "'" + form + "' + 1\n"
				wantToks, wantFault := lexWanted(text)
				if toks, f := impl.Lex(text); !slices.Equal(toks, wantToks) || f != wantFault {
					t.Errorf("Lex(%q) = %s, %v, want %s, %v", text, told(toks), f, told(wantToks), wantFault)
				}
			}
		}
	}
	checkToks(t, [][2]string{
		{"''", `T""@1 ;@1`}, {"'a''b'", `T"a"@1 T"b"@1 ;@1`}, {"''''", `T""@1 T""@1 ;@1`}, {`'\'' '\\'`, `T"'"@1 T"\\"@1 ;@1`}, {`'\\''\''`, `T"\\"@1 T"'"@1 ;@1`},
		{`'\n'`, `T"\n"@1 ;@1`}, {`'\\n'`, `T"\\n"@1 ;@1`}, {`'\x00\xff'`, `T"\x00\xff"@1 ;@1`}, {"(\n'a'\n)", `S(@1 T"a"@2 S)@3 ;@3`}, {"'# ('", `T"# ("@1 ;@1`},
		{"if'a'", `Wif@1 T"a"@1 ;@1`}, {"  'a'\n", `>@1 T"a"@1 ;@1 <@2`},
	})
	checkFaults(t, []faultCase{
		{"'", 1, 2}, {"'a", 1, 2}, {"'a\n", 1, 2}, {"\n\n'a\n'", 3, 2}, {"'a\nb'", 1, 2}, {`'a\'`, 1, 2}, {`'a\`, 1, 2}, {"'a\\\n'", 1, 2}, {"'''", 1, 2}, {`'\\\'`, 1, 2},
		{"(\n'a\n)", 2, 2}, {`'\t'`, 1, 2}, {`'\r'`, 1, 2}, {`'\"'`, 1, 2}, {`'\a'`, 1, 2}, {`'\x'`, 1, 2}, {`'\x0'`, 1, 2}, {`'\x1'1'`, 1, 2}, {`'\xAB'`, 1, 2}, {`'\x41'`, 1, 2},
		{`'\x0a'`, 1, 2}, {"'\t'", 1, 2}, {"'\xff'", 1, 2}, {"'\x7f'", 1, 2}, {"a 'b' 'c", 1, 2}, {"\"a\"", 1, 1}, {"'a'\n'b", 2, 2}, {"'a # b", 1, 2}, {"'a' 'b\\' # ", 1, 2},
	})
}

func TestLexOfTextsOfMaxText(t *testing.T) {
	for _, c := range []string{"a", "'", "\\", "\n", "\x00", "\xff", " "} {
		full := strings.Repeat(c, 400)
		q := impl.TextQuote(full)
		want := []impl.Tok{{Kind: impl.TokText, Text: full, Line: 1}, {Kind: impl.TokLine, Line: 1}}
		if toks := lexed(t, q); !slices.Equal(toks, want) {
			t.Errorf("Lex(%.40q..) = %.80s", q, told(toks))
		}
		form := q[1 : 1+(len(q)-2)/400]
		checkFaults(t, []faultCase{{"'" + form + q[1:], 1, 2}, {"a\n'" + strings.Repeat(form, 800) + "'", 2, 2}})
	}
}

func TestLexOfSigns(t *testing.T) {
	for _, s := range signs {
		open, end := "", ""
		if i := strings.Index("([{", s); i >= 0 {
			end = ")]}"[i : i+1]
		}
		if i := strings.Index(")]}", s); i >= 0 {
			open = "([{"[i : i+1]
		}
		want := "S" + s + "@1"
		if open != "" {
			want = "S" + open + "@1 " + want
		}
		if end != "" {
			want += " S" + end + "@1"
		}
		checkToks(t, [][2]string{{open + s + end, want + " ;@1"}, {" " + open + " " + s + " " + end + " ", ">@1 " + want + " ;@1 <@1"}})
	}
	checkToks(t, [][2]string{
		{"***", "S**@1 S*@1 ;@1"}, {"****", "S**@1 S**@1 ;@1"}, {"**=", "S**@1 S=@1 ;@1"}, {"*=", "S*=@1 ;@1"}, {"*==", "S*=@1 S=@1 ;@1"}, {"***=", "S**@1 S*=@1 ;@1"},
		{"===", "S==@1 S=@1 ;@1"}, {"====", "S==@1 S==@1 ;@1"}, {"!==", "S!=@1 S=@1 ;@1"}, {"<==", "S<=@1 S=@1 ;@1"}, {">==", "S>=@1 S=@1 ;@1"}, {"=<", "S=@1 S<@1 ;@1"},
		{"<>", "S<@1 S>@1 ;@1"}, {"<<", "S<@1 S<@1 ;@1"}, {"=>", "S=@1 S>@1 ;@1"}, {"++", "S+@1 S+@1 ;@1"}, {"+==", "S+=@1 S=@1 ;@1"}, {"--", "S-@1 S-@1 ;@1"}, {"-=-", "S-=@1 S-@1 ;@1"},
		{"////", "S//@1 S//@1 ;@1"}, {"//=", "S//@1 S=@1 ;@1"}, {"%=", "S%@1 S=@1 ;@1"}, {"* *", "S*@1 S*@1 ;@1"}, {"= =", "S=@1 S=@1 ;@1"}, {"< =", "S<@1 S=@1 ;@1"},
		{"*\n*", "S*@1 ;@1 S*@2 ;@2"}, {"...", "S.@1 S.@1 S.@1 ;@1"}, {":=", "S:@1 S=@1 ;@1"}, {",,", "S,@1 S,@1 ;@1"}, {"->", "S-@1 S>@1 ;@1"}, {"=-1", "S=@1 S-@1 I1@1 ;@1"},
	})
	checkFaults(t, []faultCase{
		{"/", 1, 1}, {"///", 1, 1}, {"/ /", 1, 1}, {"a /= b", 1, 1}, {"!", 1, 1}, {"! =", 1, 1}, {"!a", 1, 1}, {"=!", 1, 1}, {"\na/b", 2, 1}, {"/\n/", 1, 1}, {"!\n=", 1, 1},
	})
}

// TestLexOfEachByte has every byte where a token begins, and behind tokens of each kind.
func TestLexOfEachByte(t *testing.T) {
	for i := range 256 {
		c := string([]byte{byte(i)})
		for _, text := range []string{c, "a" + c, "1" + c, "''" + c, "+" + c, "(" + c, "a " + c + "\nb", "\n " + c, "(\n" + c + ")", "a\n" + c + "b", c + "="} {
			want, wantFault := lexWanted(text)
			if toks, f := impl.Lex(text); !slices.Equal(toks, want) || f != wantFault {
				t.Errorf("Lex(%q) = %s, %v, want %s, %v", text, told(toks), f, told(want), wantFault)
			}
		}
		if !strings.Contains("abcdefghijklmnopqrstuvwxyzABCDEFGHIJKLMNOPQRSTUVWXYZ_0123456789 \n#'*=<>+-%()[]{},:.", c) {
			checkFaults(t, []faultCase{{c, 1, 1}, {"a\n" + c, 2, 1}, {"(\n\n" + c, 3, 1}, {"a" + c + "b", 1, 1}, {"\n  " + c, 2, 1}})
		}
	}
}

func TestLexOfMaxSource(t *testing.T) {
	shapes := []string{" ", "\n", "#", "# c\n", "a b\n", "x + yz\n", "()\n ", "\n\n \n", "  # c\n", "'a b c d e f g' ", "if a:\n"}
	for _, shape := range shapes {
		long := strings.Repeat(shape, 4000/len(shape)+1)
		full := long[:4000/len(shape)*len(shape)]
		full += strings.Repeat(" ", 4000-len(full))
		want, wantFault := lexWanted(full)
		if toks, f := impl.Lex(full); !slices.Equal(toks, want) || f != wantFault || f.Line == 0 && f.Code != 0 {
			t.Errorf("Lex of %q up to 4000 bytes = %.80s, %v", shape, told(toks), f)
		}
		checkFaults(t, []faultCase{{full + " ", 0, 6}, {full + "\n", 0, 6}, {"#" + full, 0, 6}, {long + long, 0, 6}, {full + "$", 0, 6}, {"$" + full, 0, 6}, {")" + full, 0, 6}})
	}
	checkFaults(t, []faultCase{{strings.Repeat("a", 1000000), 0, 6}, {strings.Repeat("\n", 4001), 0, 6}, {strings.Repeat("(", 4001), 0, 6}})
}

// TestLexOfMaxToks has a token of each kind as the last one that fits, and as the first one too many.
func TestLexOfMaxToks(t *testing.T) {
	for _, c := range []struct {
		text   string
		tokens int
		// line is that of the last token, or, if it is one too many, of the fault.
		line int
	}{
		{strings.Repeat("x\n", 750), 1500, 750}, {strings.Repeat("x\n", 749) + "x", 1500, 750}, {strings.Repeat("x ", 1499), 1500, 1},
		{strings.Repeat("x ", 1500), 1501, 1}, {strings.Repeat("x ", 1500) + "\n\n", 1501, 1}, {"\n\n" + strings.Repeat("x ", 1500), 1501, 3},
		{strings.Repeat("x\n", 750) + "x", 1501, 751}, {strings.Repeat("x\n", 750) + "\n\nx\n", 1501, 753}, {strings.Repeat("x\n", 750) + "if", 1501, 751},
		{strings.Repeat("x\n", 750) + "1", 1501, 751}, {strings.Repeat("x\n", 750) + "''", 1501, 751}, {strings.Repeat("x\n", 750) + "+", 1501, 751},
		{strings.Repeat("x\n", 750) + "(\n\n)", 1501, 751}, {strings.Repeat("x\n", 750) + " x\nx", 1501, 751}, {strings.Repeat("x\n", 750) + "\n # c\n", 1500, 750},
		{"x " + strings.Repeat("x\n", 749) + "(\n\n)", 1501, 752}, {strings.Repeat("x\n", 749) + "(\n)", 1501, 751},
		{" x\n" + strings.Repeat("x ", 1495), 1500, 2}, {" x\n" + strings.Repeat("x ", 1496), 1501, 2}, {" x\n x" + strings.Repeat(" x", 1494), 1500, 2}, {" x\n x" + strings.Repeat(" x", 1495), 1501, 2},
		{" x\n x" + strings.Repeat(" x", 1495) + "\n\n", 1501, 4}, {" x\n x" + strings.Repeat(" x", 1495) + "\n\nx", 1501, 4}, {" x\n x" + strings.Repeat(" x", 1495) + "\n\n x", 1501, 4},
		{"x\n x\n  x\n   x" + strings.Repeat(" x", 1487), 1501, 4}, {"x\n x\n  x\n   x" + strings.Repeat(" x", 1486), 1500, 4}, {"x\n x\n  x\n   x" + strings.Repeat(" x", 1489) + "\n", 1501, 5},
		{strings.Repeat("x\n", 2000), 1501, 751}, {strings.Repeat("x ", 2000), 1501, 1},
	} {
		want, wantFault := lexWanted(c.text)
		if c.tokens == 1501 && wantFault != fault(c.line, 6) || c.tokens == 1500 && (len(want) != 1500 || want[1499].Line != c.line) {
			t.Fatalf("%.20q.. has %d tokens or the fault %v", c.text, len(want), wantFault)
		}
		if c.tokens == 1501 {
			checkFaults(t, []faultCase{{c.text, c.line, 6}})
			continue
		}
		if toks := lexed(t, c.text); !slices.Equal(toks, want) {
			t.Errorf("Lex(%.20q..) has %d tokens", c.text, len(toks))
		}
		if s := impl.ToksText(c.text); s != formWanted(want) {
			t.Errorf("ToksText(%.20q..) = %.20q..", c.text, s)
		}
		if rows := impl.LexLines(c.text); !equalRuns(rows, linesWanted(want)) {
			t.Errorf("LexLines(%.20q..) = %v", c.text, rows)
		}
	}
}

func TestLexOfTwoFaults(t *testing.T) {
	// Each has its fault at its first line, whatever follows there.
	faulty := []faultCase{{"$", 1, 1}, {"a!", 1, 1}, {"more_than_12_", 1, 1}, {"'a", 1, 2}, {`'\t'`, 1, 2}, {"01", 1, 3}, {"a 1b", 1, 3}, {")", 1, 5}, {"(]", 1, 5}, {"a b }", 1, 5}}
	var cases []faultCase
	for _, first := range faulty {
		for _, second := range faulty {
			code := first.code
			cases = append(cases,
				faultCase{first.text + "\n" + second.text, 1, code}, faultCase{"a\n\n" + first.text + "\n\n" + second.text + "\n", 3, code},
				faultCase{first.text + "\n  b\n c", 1, code}, faultCase{"  b\n c\n" + first.text, 2, 4}, faultCase{"[\n" + first.text + "\n", 2, code},
				faultCase{"[\n\n" + second.text + "\n" + first.text + "\n", 3, second.code})
			if second.code != 2 {
				cases = append(cases, faultCase{second.text + " " + first.text, 1, second.code})
			}
		}
		cases = append(cases,
			faultCase{strings.Repeat("x\n", 750) + "x\n" + first.text, 751, 6}, faultCase{strings.Repeat("x ", 1500) + "\n" + first.text, 1, 6},
			faultCase{strings.Repeat("x ", 1501) + first.text, 1, 6}, faultCase{first.text + "\n" + strings.Repeat("x ", 1501), 1, first.code},
			faultCase{first.text + strings.Repeat(" ", 4000), 0, 6}, faultCase{"(\n" + strings.Repeat("x ", 1501) + "\n" + first.text, 2, 6})
	}
	// What is no token is not one too many.
	for _, c := range []faultCase{{"$", 1, 1}, {"more_than_12_", 1, 1}, {"'a", 1, 2}, {"01", 1, 3}, {")", 1, 5}} {
		cases = append(cases, faultCase{strings.Repeat("x\n", 750) + c.text, 751, c.code})
	}
	// Spaces that fit no level are told ahead of the TokOut that would be one too many.
	levels := "a\n  b\n    c" + strings.Repeat(" x", 1492) + "\n"
	cases = append(cases, faultCase{levels + " d", 4, 4}, faultCase{levels + "  d", 4, 6}, faultCase{levels + "d", 4, 6}, faultCase{levels, 4, 6})
	checkFaults(t, append(cases, faultCase{strings.Repeat("(", 1500), 1, 5}, faultCase{strings.Repeat("(", 1501), 1, 6}, faultCase{"  b\n c\n (", 2, 4}))
}

// checkLex holds all that is told of a text against what it must be.
func checkLex(t *testing.T, text string) {
	t.Helper()
	want, wantFault := lexWanted(text)
	if toks, f := impl.Lex(text); !slices.Equal(toks, want) || f != wantFault {
		t.Errorf("Lex(%q) = %s, %v, want %s, %v", text, told(toks), f, told(want), wantFault)
	}
	if s := impl.ToksText(text); s != formWanted(want) {
		t.Errorf("ToksText(%q) = %q, want %q", text, s, formWanted(want))
	}
	if rows := impl.LexLines(text); !equalRuns(rows, linesWanted(want)) {
		t.Errorf("LexLines(%q) = %v, want %v", text, rows, linesWanted(want))
	}
}

func TestLexOfManyTexts(t *testing.T) {
	for _, text := range oddTexts(4000) {
		checkLex(t, text)
	}
	r := rand.New(rand.NewSource(53))
	for _, text := range fineTexts() {
		checkLex(t, text)
		// One byte less, more, or another one makes faults of all kinds.
		if at := r.Intn(len(text) + 1); at < len(text) {
			checkLex(t, text[:at]+text[at+1:])
			checkLex(t, text[:at])
			c := "a0'\\ \n#()[]{}.$\t\xff"[r.Intn(17):][:1]
			checkLex(t, text[:at]+c+text[at:])
			checkLex(t, text[:at]+c+text[at+1:])
		}
	}
}

// TestLexOfAllShortTexts has all texts of a few bytes of interest.
func TestLexOfAllShortTexts(t *testing.T) {
	for _, bytes := range []string{"a \n#(", "a1 \n)({", "*=\n'\\a", "a.[]'( \n"} {
		last := []string{""}
		for range 5 {
			var longer []string
			for _, text := range last {
				checkLex(t, text)
				for _, c := range []byte(bytes) {
					longer = append(longer, text+string([]byte{c}))
				}
			}
			last = longer
		}
	}
}

func TestToksText(t *testing.T) {
	for _, c := range [][2]string{
		{"", ""}, {"\n\n", ""}, {"# c", ""}, {"a", "a\n"}, {"a\n\n\nb", "a\nb\n"}, {"a # c\n", "a\n"}, {"x=1+ 2\nf (a , b)[0]\n", "x = 1 + 2\nf(a, b)[0]\n"},
		{"if a:\n b\n", "if a:\n    b\n"}, {"  a", "    a\n"}, {"a\n b\n   c\nd", "a\n    b\n        c\nd\n"}, {"a\n        b\n          c\n        d", "a\n    b\n        c\n    d\n"},
		{"f(\n  a,\n\n  b # c\n)", "f(a, b)\n"}, {"  f(\na)\n", "    f(a)\n"}, {"f ( ( a ) )", "f((a))\n"}, {"f(a)(b)[c](d)", "f(a)(b)[c](d)\n"}, {"f (a) (b) [c] [d]", "f(a)(b)[c][d]\n"},
		{"{} {}", "{} {}\n"}, {"{} [a] {b}", "{} [a] {b}\n"}, {"f {}", "f {}\n"}, {"{a : b , c:d}", "{a: b, c: d}\n"}, {"{} (a)", "{} (a)\n"}, {"1 (a)", "1 (a)\n"}, {"'a' [0]", "'a' [0]\n"},
		{"if(a)", "if (a)\n"}, {"not(a)", "not (a)\n"}, {"None[0]", "None [0]\n"}, {"return[1]", "return [1]\n"}, {"in(a)", "in (a)\n"}, {"a [0] . b ( )", "a[0].b()\n"}, {"a . b . c", "a.b.c\n"},
		{"-a", "- a\n"}, {"a-1", "a - 1\n"}, {"a=-1", "a = - 1\n"}, {"f(-1)", "f(- 1)\n"}, {"[-1,-2]", "[- 1, - 2]\n"}, {"a[-1]", "a[- 1]\n"}, {"x**-y", "x ** - y\n"}, {"a*(b)", "a * (b)\n"},
		{"a,b", "a, b\n"}, {"a ,b", "a, b\n"}, {"lambda x,y:x", "lambda x, y: x\n"}, {"lambda:x", "lambda: x\n"}, {"f(a,b=c)", "f(a, b = c)\n"}, {"a:", "a:\n"}, {":a", ": a\n"}, {", ,", ",,\n"},
		{"1 . a", "1.a\n"}, {". 1", ".1\n"}, {"'a'.b", "'a'.b\n"}, {". .", "..\n"}, {". (a)", ".(a)\n"}, {", (a)", ", (a)\n"}, {": [a]", ": [a]\n"}, {"(: a)", "(: a)\n"}, {"( , )", "(,)\n"}, {". + a", ".+ a\n"},
		{"'a'  'b'", "'a' 'b'\n"}, {`'\n\'\xff'`, `'\n\'\xff'` + "\n"}, {"'a  b'", "'a  b'\n"}, {"' ( '", "' ( '\n"}, {"'.' a '('  b ','", "'.' a '(' b ','\n"}, {"a '(' ')'", "a '(' ')'\n"},
		{"a+=1", "a += 1\n"}, {"a==b", "a == b\n"}, {"a= =b", "a = = b\n"}, {"a* *b", "a * * b\n"}, {"a<b>c", "a < b > c\n"}, {"% %", "% %\n"}, {"a//b%c", "a // b % c\n"},
	} {
		if s := impl.ToksText(c[0]); s != c[1] {
			t.Errorf("ToksText(%q) = %q, want %q", c[0], s, c[1])
		}
	}
}

// TestToksTextOfEachPair has all pairs of tokens, far from each other and as near as they may be.
func TestToksTextOfEachPair(t *testing.T) {
	all := slices.Concat([]string{"a", "_1", "if", "None", "0", "12", "''", "'('", "'.'"}, signs)
	for _, left := range all {
		for _, right := range all {
			sources := balanced(left, right)
			if sources == nil {
				continue
			}
			near := ""
			for i, s := range sources {
				if i > 0 && needsSpace(sources[i-1], s) {
					near += " "
				}
				near += s
			}
			for _, text := range []string{near, strings.Join(sources, " "), strings.Join(sources, "   "), "  " + near + "\n", near + "\n  " + near} {
				toks := lexed(t, text)
				if s := impl.ToksText(text); s != formWanted(toks) {
					t.Errorf("ToksText(%q) = %q, want %q", text, s, formWanted(toks))
				}
			}
		}
	}
}

// balanced returns two tokens one behind the other with brackets around them that match; nil if there are none.
func balanced(left string, right string) []string {
	list := []string{left, right}
	var open []string
	for _, s := range []string{left, right} {
		if i := strings.Index("([{", s); i >= 0 {
			open = append(open, ")]}"[i:i+1])
		}
		i := strings.Index(")]}", s)
		switch {
		case i < 0:
		case len(open) == 0:
			list = slices.Insert(list, 0, "([{"[i:i+1])
		case open[len(open)-1] != s:
			return nil
		default:
			open = open[:len(open)-1]
		}
	}
	slices.Reverse(open)
	return append(list, open...)
}

func TestLexLines(t *testing.T) {
	for _, c := range []struct {
		text string
		want [][]int
	}{
		{"", nil}, {"\n\n", nil}, {"# c\n  ", nil}, {"a", [][]int{{1, 2}}}, {"a\n", [][]int{{1, 2}}}, {"\n\n a b", [][]int{{3, 3}}}, {"a\n\nb(\n1)\n", [][]int{{1, 2}, {3, 5}}},
		{"if a:\n    b\n", [][]int{{1, 4}, {2, 2}}}, {"a\n b\n  c\nd", [][]int{{1, 2}, {2, 2}, {3, 2}, {4, 2}}}, {"(\n\n\n)\na", [][]int{{1, 3}, {5, 2}}},
		{"# c\n(# c\n\na\n# c\n) b\n\n  c d # e\n\n", [][]int{{2, 5}, {8, 3}}}, {"  (\na\n)", [][]int{{1, 4}}}, {"()\n[]\n{}", [][]int{{1, 3}, {2, 3}, {3, 3}}},
		{"a = 'b\\nc'\nd", [][]int{{1, 4}, {2, 2}}}, {"a\n  b\n    c\n\n\n", [][]int{{1, 2}, {2, 2}, {3, 2}}},
	} {
		if rows := impl.LexLines(c.text); !equalRuns(rows, c.want) {
			t.Errorf("LexLines(%q) = %v, want %v", c.text, rows, c.want)
		}
	}
}

func TestTokensShareNoMemory(t *testing.T) {
	for _, made := range []string{"a", "if", "'abc'", "abc = 'abc' + 123 ** (yz)\n", "if abc:\n    return 'long text without forms'\n"} {
		text := strings.Clone(made)
		toks := lexed(t, text)
		for _, tok := range toks {
			if sharesMemory(tok.Text, text) {
				t.Errorf("%q is a part of the argument", tok.Text)
			}
		}
		form := strings.Clone(impl.ToksText(text))
		if sharesMemory(impl.ToksText(form), form) {
			t.Errorf("ToksText(%q) is the argument", form)
		}
		want, rows := slices.Clone(toks), copiedRuns(impl.LexLines(text))
		for i := range toks {
			toks[i] = impl.Tok{Kind: 9, Text: "x", Line: -1}
		}
		mine := impl.LexLines(text)
		for i := range mine {
			mine[i] = append(mine[i][:1], -1, -2, -3)
			mine[i][0] = -4
		}
		for i, row := range mine {
			if !slices.Equal(row, []int{-4, -1, -2, -3}) {
				t.Errorf("row %d of %q is %v", i, text, row)
			}
		}
		if !slices.Equal(lexed(t, text), want) || !equalRuns(impl.LexLines(text), rows) || text != made {
			t.Errorf("%q is read as %s, %v", text, told(lexed(t, text)), impl.LexLines(text))
		}
	}
}
