package tests

import (
	"fmt"
	"math"
	"regexp"
	"runtime"
	"slices"
	"strings"
	"testing"
	"time"

	"loop.example/slowworm/impl"
)

func TestLimitsOfTexts(t *testing.T) {
	if impl.MaxText != 400 || impl.MaxIndex != 1000000 {
		t.Errorf("MaxText = %d, MaxIndex = %d", impl.MaxText, impl.MaxIndex)
	}
}

func TestCutOk(t *testing.T) {
	most := impl.MaxIndex
	for _, c := range []impl.Cut{
		{Step: 1}, {Step: -1}, {Step: most}, {Step: -most},
		{Step: 1, HasFrom: true}, {Step: 1, HasTo: true}, {Step: 1, HasFrom: true, HasTo: true},
		{From: most, Step: 1, HasFrom: true}, {From: -most, Step: 1, HasFrom: true},
		{To: most, Step: 1, HasTo: true}, {To: -most, Step: 1, HasTo: true},
		{From: -most, To: most, Step: -most, HasFrom: true, HasTo: true},
	} {
		if !impl.CutOk(c) {
			t.Errorf("CutOk(%+v) = false", c)
		}
	}
	for _, c := range badCuts() {
		if impl.CutOk(c) {
			t.Errorf("CutOk(%+v) = true", c)
		}
	}
}

// badCuts returns slices that are not valid.
func badCuts() []impl.Cut {
	bad := []impl.Cut{
		{}, {HasFrom: true, HasTo: true}, {From: 1, To: 3, HasFrom: true, HasTo: true},
		{From: 1, Step: 1}, {From: -1, Step: 1}, {From: 1, Step: 1, HasTo: true}, {From: impl.MaxIndex, Step: 1},
		{To: 1, Step: 1}, {To: -1, Step: -1}, {To: 1, Step: 1, HasFrom: true}, {To: -impl.MaxIndex, Step: -1},
		{From: 1, To: 1, Step: 1}, {From: 1, To: 2, Step: 1, HasFrom: true}, {From: 1, To: 2, Step: 1, HasTo: true},
	}
	for _, i := range []int{impl.MaxIndex + 1, -impl.MaxIndex - 1, math.MaxInt, math.MinInt} {
		bad = append(bad, impl.Cut{Step: i},
			impl.Cut{From: i, Step: 1, HasFrom: true}, impl.Cut{From: i, Step: -1, HasFrom: true},
			impl.Cut{To: i, Step: 1, HasTo: true}, impl.Cut{To: i, Step: -1, HasTo: true})
	}
	return bad
}

func TestCutRange(t *testing.T) {
	const most = impl.MaxIndex
	for _, c := range []struct{ n, from, to, step, first, count int }{
		{5, none, none, 1, 0, 5}, {5, none, none, -1, 4, 5}, {5, none, none, 2, 0, 3}, {5, none, none, -2, 4, 3},
		{5, 1, -1, 2, 1, 2}, {5, none, 2, 1, 0, 2}, {5, 2, none, 1, 2, 3}, {5, -2, none, 1, 3, 2}, {5, none, -2, 1, 0, 3},
		{5, -5, none, 1, 0, 5}, {5, -6, none, 1, 0, 5}, {5, 5, none, 1, 5, 0}, {5, 6, none, 1, 5, 0}, {5, none, -5, 1, 0, 0},
		{5, -most, most, 1, 0, 5}, {5, most, -most, -1, 4, 5}, {5, most, none, 1, 5, 0}, {5, none, -most, 1, 0, 0},
		{5, 4, 2, 1, 4, 0}, {5, 2, 2, 1, 2, 0}, {5, 2, 4, -1, 2, 0}, {5, 2, 2, -1, 2, 0},
		{5, none, -1, -1, 4, 0}, {5, none, 0, -1, 4, 4}, {5, none, -5, -1, 4, 4}, {5, none, -6, -1, 4, 5}, {5, none, -most, -1, 4, 5},
		{5, -1, none, -1, 4, 5}, {5, -5, none, -1, 0, 1}, {5, -6, none, -1, -1, 0}, {5, -most, none, -1, -1, 0},
		{5, 0, none, -1, 0, 1}, {5, 4, none, -1, 4, 5}, {5, 5, none, -1, 4, 5}, {5, most, none, -1, 4, 5},
		{5, 3, 0, -2, 3, 2}, {5, 4, 0, -2, 4, 2}, {5, none, none, 5, 0, 1}, {5, none, none, 4, 0, 2}, {5, none, none, -4, 4, 2},
		{5, none, none, most, 0, 1}, {5, none, none, -most, 4, 1}, {5, 2, none, most, 2, 1}, {5, 2, none, -most, 2, 1},
		{0, none, none, 1, 0, 0}, {0, none, none, -1, -1, 0}, {0, 0, 0, 1, 0, 0}, {0, 1, none, 1, 0, 0},
		{0, -1, none, -1, -1, 0}, {0, 0, none, -1, -1, 0}, {0, none, none, most, 0, 0}, {0, none, none, -most, -1, 0},
		{1, none, none, 1, 0, 1}, {1, none, none, -1, 0, 1}, {1, -1, none, -1, 0, 1}, {1, none, -1, 1, 0, 0},
		{most, none, none, 1, 0, most}, {most, none, none, -1, most - 1, most}, {most, 1, most, 3, 1, 333333},
		{most, none, none, most, 0, 1}, {most, none, none, -most, most - 1, 1},
		{most, none, none, most - 1, 0, 2}, {most, none, none, 1 - most, most - 1, 2},
		{most, most, none, 1, most, 0}, {most, most, none, -1, most - 1, most},
		{most, -most, none, 1, 0, most}, {most, -most, none, -1, 0, 1}, {most, none, -most, -1, most - 1, most - 1},
	} {
		first, count := impl.CutRange(c.n, cut(c.from, c.to, c.step))
		if first != c.first || count != c.count {
			t.Errorf("CutRange of %v = %d, %d", c, first, count)
		}
	}
}

func TestCutRangeOfFewElements(t *testing.T) {
	eachCut(t, func(n int, c impl.Cut) {
		want := selected(n, c)
		first, count := impl.CutRange(n, c)
		if count != len(want) || count > 0 && first != want[0] {
			t.Errorf("CutRange(%d, %+v) = %d, %d, want %v", n, c, first, count, want)
		}
	})
}

func TestCutRangeOfNoSlice(t *testing.T) {
	for _, c := range badCuts() {
		for _, n := range []int{0, 1, 5, impl.MaxIndex} {
			if first, count := impl.CutRange(n, c); first != 0 || count != 0 {
				t.Errorf("CutRange(%d, %+v) = %d, %d", n, c, first, count)
			}
		}
	}
	for _, n := range []int{-1, -5, impl.MaxIndex + 1, math.MinInt, math.MaxInt} {
		for _, c := range []impl.Cut{cut(none, none, 1), cut(none, none, -1), cut(1, 3, 1), cut(-2, none, -1)} {
			if first, count := impl.CutRange(n, c); first != 0 || count != 0 {
				t.Errorf("CutRange(%d, %+v) = %d, %d", n, c, first, count)
			}
		}
	}
}

func TestTextCut(t *testing.T) {
	const most = impl.MaxIndex
	for _, c := range []struct {
		s              string
		from, to, step int
		want           string
	}{
		{"hello", none, none, 1, "hello"}, {"hello", none, none, -1, "olleh"}, {"hello", 1, -1, 2, "el"},
		{"hello", none, none, 2, "hlo"}, {"hello", none, none, -2, "olh"}, {"hello", -4, none, 3, "eo"},
		{"hello", -3, -1, 1, "ll"}, {"hello", 3, 1, -1, "ll"}, {"hello", none, 0, -1, "olle"}, {"hello", none, -most, -1, "olleh"},
		{"hello", 4, 1, 1, ""}, {"hello", 1, 4, -1, ""}, {"hello", 5, none, 1, ""}, {"hello", -6, none, -1, ""},
		{"hello", -most, most, 1, "hello"}, {"hello", none, none, most, "h"}, {"hello", none, none, -most, "o"},
		{"", none, none, 1, ""}, {"", none, none, -1, ""}, {"", 0, 1, 1, ""}, {"", -1, none, -most, ""},
		{"\xff\x00\n", none, none, -1, "\n\x00\xff"}, {fullText, none, none, 1, fullText}, {fullText, -1, none, 1, "\n"},
	} {
		if s := impl.TextCut(c.s, cut(c.from, c.to, c.step)); s != c.want {
			t.Errorf("TextCut of %v = %q", c, s)
		}
	}
	for _, c := range badCuts() {
		if s := impl.TextCut("hello", c); s != "" {
			t.Errorf("TextCut by %+v = %q", c, s)
		}
	}
	for _, c := range []impl.Cut{cut(none, none, 1), cut(none, none, -1), cut(0, 1, 1)} {
		if s := impl.TextCut(tooLongText, c); s != "" {
			t.Errorf("TextCut of a text that is too long by %+v = %q", c, s)
		}
	}
}

func TestTextAt(t *testing.T) {
	for _, c := range []struct {
		s    string
		i    int
		want string
	}{
		{"abc", 0, "a"}, {"abc", 1, "b"}, {"abc", 2, "c"}, {"abc", -1, "c"}, {"abc", -2, "b"}, {"abc", -3, "a"},
		{"abc", 3, ""}, {"abc", -4, ""}, {"abc", 4, ""}, {"abc", math.MaxInt, ""}, {"abc", math.MinInt, ""},
		{"", 0, ""}, {"", -1, ""}, {"", 1, ""}, {"\xff\x80", 0, "\xff"}, {"\xff\x80", -1, "\x80"},
		{fullText, 399, "\n"}, {fullText, -400, "a"}, {fullText, 400, ""}, {fullText, -401, ""},
		{tooLongText, 0, ""}, {tooLongText, 400, ""}, {tooLongText, -1, ""},
	} {
		if s, ok := impl.TextAt(c.s, c.i); !is(s, ok, answer{c.want, c.want != ""}) {
			t.Errorf("TextAt(%q, %d) = %q, %t", c.s, c.i, s, ok)
		}
	}
}

func TestTextFind(t *testing.T) {
	last := strings.Repeat("a", 399) + "b"
	for _, c := range []struct {
		s, part string
		want    int
	}{
		{"abcab", "ca", 2}, {"abcab", "ab", 0}, {"abcab", "cab", 2}, {"abcab", "b", 1}, {"abcab", "abcab", 0}, {"abcab", "abcabc", -1},
		{"a", "b", -1}, {"a", "A", -1}, {"aab", "ab", 1}, {"ababb", "abb", 2}, {"", "a", -1}, {"", "", 0}, {"abc", "", 0},
		{last, "b", 399}, {last, "ab", 398}, {last, last, 0}, {last, "", 0}, {last, last + "b", -1},
		{"x\xff\xfe", "\xfe", 2}, {"\u00e9", "\xa9", 1},
		{tooLongText, "", -1}, {tooLongText, "a", -1}, {tooLongText, "x", -1}, {tooLongText, tooLongText, -1},
		{"a", tooLongText, -1}, {"", tooLongText, -1},
	} {
		if i := impl.TextFind(c.s, c.part); i != c.want {
			t.Errorf("TextFind(%q, %q) = %d, want %d", c.s, c.part, i, c.want)
		}
	}
}

func TestTextSplit(t *testing.T) {
	for _, c := range []struct {
		s, part string
		want    []string
	}{
		{"a,b,,c", ",", []string{"a", "b", "", "c"}}, {"abc", ",", []string{"abc"}}, {"", ",", []string{""}}, {",", ",", []string{"", ""}},
		{",a,", ",", []string{"", "a", ""}}, {",,", ",", []string{"", "", ""}}, {",,", ",,", []string{"", ""}}, {",,,", ",,", []string{"", ","}},
		{"aaa", "aa", []string{"", "a"}}, {"aaaa", "aa", []string{"", "", ""}}, {"ababa", "aba", []string{"", "ba"}},
		{"mississippi", "issi", []string{"m", "ssippi"}}, {"mississippi", "ss", []string{"mi", "i", "ippi"}},
		{"abc", "abc", []string{"", ""}}, {"abc", "abcd", []string{"abc"}}, {"a\nb\xffc", "\xff", []string{"a\nb", "c"}},
		{"A,a", "a", []string{"A,", ""}}, {"\u00e9", "\xa9", []string{"\xc3", ""}},
		{fullText, fullText, []string{"", ""}}, {strings.Repeat(",", 400), ",", make([]string, 401)},
		{"abc", "", nil}, {"", "", nil}, {tooLongText, "x", nil}, {tooLongText, "", nil}, {"abc", tooLongText, nil}, {tooLongText, tooLongText, nil},
	} {
		if list := impl.TextSplit(c.s, c.part); !slices.Equal(list, c.want) {
			t.Errorf("TextSplit(%q, %q) = %q, want %q", c.s, c.part, list, c.want)
		}
	}
}

func TestTextJoin(t *testing.T) {
	half := strings.Repeat("h", 200)
	for i, c := range []struct {
		list []string
		part string
		want answer
	}{
		{nil, "", some("")}, {[]string{}, ",", some("")}, {[]string{""}, ",", some("")}, {[]string{"a"}, ",", some("a")},
		{[]string{"a", "b"}, "", some("ab")}, {[]string{"a", "b", "", "c"}, ";", some("a;b;;c")}, {[]string{"", ""}, "ab", some("ab")},
		{[]string{"\xff", "\n"}, "\x00", some("\xff\x00\n")},
		{nil, fullText, some("")}, {[]string{"a"}, fullText, some("a")}, {[]string{fullText}, fullText, some(fullText)},
		{[]string{fullText}, "", some(fullText)}, {[]string{"", ""}, fullText, some(fullText)}, {[]string{fullText, ""}, "", some(fullText)},
		{[]string{half, half}, "", some(half + half)}, {[]string{half, half[1:]}, ",", some(half + "," + half[1:])},
		{[]string{half, half}, ",", answer{}}, {[]string{half, half, "x"}, "", answer{}}, {[]string{"a", ""}, fullText, answer{}},
		{[]string{"", "a"}, fullText, answer{}}, {[]string{"", "", ""}, half + "x", answer{}},
		{nil, tooLongText, answer{}}, {[]string{"a"}, tooLongText, answer{}}, {[]string{"a", "b"}, tooLongText, answer{}},
		{[]string{tooLongText}, "", answer{}}, {[]string{"", tooLongText}, "", answer{}}, {[]string{tooLongText, ""}, ",", answer{}},
		{make([]string, 401), "", some("")}, {make([]string, 401), ",", some(strings.Repeat(",", 400))},
		{make([]string, 402), "", answer{}}, {make([]string, 402), ",", answer{}}, {make([]string, 1000000), "", answer{}},
		{slices.Repeat([]string{"a"}, 400), "", some(strings.Repeat("a", 400))}, {slices.Repeat([]string{"a"}, 401), "", answer{}},
	} {
		if s, ok := impl.TextJoin(c.list, c.part); !is(s, ok, c.want) {
			t.Errorf("%d: TextJoin of %d texts = %q, %t, want %v", i, len(c.list), s, ok, c.want)
		}
	}
}

func TestTextSwap(t *testing.T) {
	full := strings.Repeat("a", 400)
	for i, c := range []struct {
		s, part, to string
		want        answer
	}{
		{"aaa", "aa", "b", some("ba")}, {"aaaa", "aa", "a", some("aa")}, {"ababa", "aba", "b", some("bba")}, {"abc", "q", "x", some("abc")},
		{",a,", ",", ";", some(";a;")}, {"a,b", ",", "", some("ab")}, {"a,b", ",", ",,", some("a,,b")}, {"aab", "ab", "b", some("ab")},
		{"", "a", "b", some("")}, {"a", "a", "", some("")}, {"abc", "abc", "d", some("d")}, {"a\xff", "\xff", "\n", some("a\n")},
		{full, "a", "b", some(strings.Repeat("b", 400))}, {full, "a", "", some("")}, {full, full, "b", some("b")},
		{full, full, fullText, some(fullText)}, {full, "b", fullText, some(full)}, {full, "b", "", some(full)},
		{full[:399] + "b", "b", "cc", answer{}}, {full[:398] + "b", "b", "cc", some(full[:398] + "cc")},
		{full[:200], "a", "bb", some(strings.Repeat("b", 400))}, {full[:201], "a", "bb", answer{}}, {full, "a", fullText, answer{}},
		{"ab", "b", full[:399], some(full)}, {"ab", "b", full, answer{}},
		{"abc", "", "x", answer{}}, {"", "", "", answer{}}, {"abc", "", "", answer{}},
		{tooLongText, "x", "", answer{}}, {tooLongText, tooLongText, "", answer{}}, {tooLongText, "a", "", answer{}},
		{"abc", tooLongText, "", answer{}}, {"abc", "q", tooLongText, answer{}}, {"abc", "b", tooLongText, answer{}},
	} {
		if s, ok := impl.TextSwap(c.s, c.part, c.to); !is(s, ok, c.want) {
			t.Errorf("%d: TextSwap(%q, %q, %q) = %q, %t, want %v", i, c.s, c.part, c.to, s, ok, c.want)
		}
	}
}

func TestTextMany(t *testing.T) {
	full := strings.Repeat("a", 400)
	for _, c := range []struct {
		s    string
		n    int
		want answer
	}{
		{"ab", 3, some("ababab")}, {"ab", 1, some("ab")}, {"ab", 0, some("")}, {"ab", -1, some("")}, {"ab", math.MinInt, some("")},
		{"", 0, some("")}, {"", 1, some("")}, {"", 401, some("")}, {"", math.MaxInt, some("")}, {"", math.MinInt, some("")},
		{"a", 400, some(full)}, {"a", 401, answer{}}, {"ab", 200, some(strings.Repeat("ab", 200))}, {"ab", 201, answer{}},
		{"abc", 133, some(strings.Repeat("abc", 133))}, {"abc", 134, answer{}},
		{"a", math.MaxInt, answer{}}, {"ab", math.MaxInt, answer{}}, {"ab", math.MaxInt/2 + 1, answer{}}, {"abcd", 1 << 62, answer{}},
		{full, 1, some(full)}, {full, 0, some("")}, {full, -1, some("")}, {full, 2, answer{}}, {full[1:], 1, some(full[1:])}, {full[1:], 2, answer{}},
		{tooLongText, 1, answer{}}, {tooLongText, 0, answer{}}, {tooLongText, -1, answer{}}, {tooLongText, 2, answer{}},
	} {
		if s, ok := impl.TextMany(c.s, c.n); !is(s, ok, c.want) {
			t.Errorf("TextMany(%q, %d) = %q, %t", c.s, c.n, s, ok)
		}
	}
}

func TestTextQuote(t *testing.T) {
	for _, c := range []struct{ s, want string }{
		{"", `''`}, {"abc", `'abc'`}, {"'", `'\''`}, {`\`, `'\\'`}, {"\n", `'\n'`}, {`\n`, `'\\n'`}, {`"`, `'"'`},
		{"a'b\n\x01", `'a\'b\n\x01'`}, {" ~\x7f\x1f", `' ~\x7f\x1f'`}, {"\t\r\x00", `'\x09\x0d\x00'`}, {"\u00e9\xff", `'\xc3\xa9\xff'`},
		{strings.Repeat("'", 400), "'" + strings.Repeat(`\'`, 400) + "'"},
		{strings.Repeat("\xab", 400), "'" + strings.Repeat(`\xab`, 400) + "'"},
		{tooLongText, ""}, {strings.Repeat("x", 401), ""}, {strings.Repeat("x", 100000), ""},
	} {
		if q := impl.TextQuote(c.s); q != c.want {
			t.Errorf("TextQuote(%q) = %s, want %s", c.s, q, c.want)
		}
	}
}

// TestQuotesOfEachByte has every byte alone and between others.
func TestQuotesOfEachByte(t *testing.T) {
	for i := range 256 {
		c := string([]byte{byte(i)})
		form := c
		switch {
		case i == '\'' || i == '\\':
			form = `\` + c
		case i == '\n':
			form = `\n`
		case i < 32 || i > 126:
			form = fmt.Sprintf(`\x%02x`, i)
		}
		for _, side := range []string{"", "a", "0"} {
			q := "'" + side + form + side + "'"
			if impl.TextQuote(side+c+side) != q {
				t.Errorf("TextQuote(%q) = %s", side+c+side, impl.TextQuote(side+c+side))
			}
			if s, ok := impl.TextUnquote(q); !is(s, ok, some(side+c+side)) {
				t.Errorf("TextUnquote(%s) = %q, %t", q, s, ok)
			}
			// A byte that has a form of its own is not written by its number, nor is any plain one.
			byNumber := "'" + side + fmt.Sprintf(`\x%02x`, i) + side + "'"
			if _, ok := impl.TextUnquote(byNumber); ok != (byNumber == q) {
				t.Errorf("TextUnquote(%s) is %t", byNumber, ok)
			}
			bare := "'" + side + c + side + "'"
			if _, ok := impl.TextUnquote(bare); ok != (bare == q) {
				t.Errorf("TextUnquote(%s) is %t", bare, ok)
			}
		}
	}
}

func TestTextUnquoteOfNoQuotedText(t *testing.T) {
	for _, q := range []string{
		"", "'", "a", "abc", "'abc", "abc'", `"abc"`, "'a'b'", "'''", "''''", "''a", "a''", " ''", "'' ", "''\n",
		`'\'`, `'\\\'`, `'a\'`, `'\a'`, `'\"'`, `'\t'`, `'\0'`, `'\N'`, `'\ '`,
		`'\x'`, `'\x0'`, `'\x1'`, `'\x1g'`, `'\xg1'`, `'\x 1'`, `'\x-1'`, `'\x+1'`, `'\X01'`, `'\x0`, `'\x01`, `\x01'`,
		`'\xAB'`, `'\xaB'`, `'\xAb'`, `'\x1F'`, `'\x7F'`, `'\xFF'`, `'\x0A'`, `'\x0a'`, `'\x27'`, `'\x5c'`, `'\x5C'`, `'\x41'`, `'\x20'`, `'\x7e'`,
		"'\n'", "'\x00'", "'\x1f'", "'\x7f'", "'\x80'", "'\xff'", "'\u00e9'", "'a\\\nb'",
		"'" + strings.Repeat("x", 401) + "'", "'" + strings.Repeat(`\xff`, 401) + "'", "'" + strings.Repeat("x", 1000000) + "'",
	} {
		if s, ok := impl.TextUnquote(q); s != "" || ok {
			t.Errorf("TextUnquote(%.60q) = %q, %t", q, s, ok)
		}
	}
}

// TestTextUnquoteOfAllShortTexts holds all texts of a few bytes of interest against the forms of bytes.
func TestTextUnquoteOfAllShortTexts(t *testing.T) {
	form := regexp.MustCompile(`^'(?:[ -&(-\[\]-~]|\\['\\n]|\\x(?:0[0-9b-f]|1[0-9a-f]|7f|[89a-f][0-9a-f]))*'$`)
	letters := "'\\nx0A7af\n\xff"
	list := []string{""}
	for range 5 {
		var longer []string
		for _, s := range list {
			for i := range len(letters) {
				longer = append(longer, s+letters[i:i+1])
			}
		}
		list = longer
		for _, inside := range list {
			for _, q := range []string{inside, "'" + inside + "'"} {
				s, ok := impl.TextUnquote(q)
				if ok != form.MatchString(q) || ok && impl.TextQuote(s) != q || !ok && s != "" {
					t.Fatalf("TextUnquote(%q) = %q, %t", q, s, ok)
				}
			}
		}
	}
}

func TestTextsAreNotChanged(t *testing.T) {
	list := []string{"a", "b", "c"}
	joined(t, list[:2], ";")
	if !slices.Equal(list, []string{"a", "b", "c"}) {
		t.Errorf("TextJoin leaves %q", list)
	}
	first := impl.TextSplit("a,b", ",")
	second := impl.TextSplit("a,b", ",")
	first[0] = "x"
	_ = append(first, "y")
	if !slices.Equal(second, []string{"a", "b"}) {
		t.Errorf("TextSplit = %q", second)
	}
}

func TestResultsShareNoMemory(t *testing.T) {
	s := fullText
	whole, _ := impl.TextMany(s, 1)
	one, _ := impl.TextJoin([]string{s}, "")
	swap, _ := impl.TextSwap(s, "q", "")
	last, _ := impl.TextAt(s, -1)
	results := append(impl.TextSplit(s, "'"), whole, one, swap, last, impl.TextCut(s, cut(none, none, 1)))
	for _, result := range results {
		if sharesMemory(result, s) {
			t.Errorf("%q is a part of the argument", result)
		}
	}
}

// TestNoCallLeavesWorkers waits for goroutines only as long as they may need to end by themselves.
func TestNoCallLeavesWorkers(t *testing.T) {
	before := runtime.NumGoroutine()
	for range 200 {
		impl.TextSplit(fullText, "a")
		impl.TextSplit(fullText, "")
		impl.TextSplit(tooLongText, "a")
		impl.TextSwap(fullText, "a", fullText)
		impl.TextSwap(fullText, "a", tooLongText)
	}
	for range 200 {
		if runtime.NumGoroutine() <= before {
			return
		}
		time.Sleep(10 * time.Millisecond)
	}
	t.Errorf("%d goroutines, %d before", runtime.NumGoroutine(), before)
}
