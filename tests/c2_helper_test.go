package tests

import (
	"math"
	"strings"
	"testing"
	"unsafe"

	"loop.example/slowworm/impl"
)

// none stands for a bound that a slice does not have.
const none = math.MaxInt

var (
	fullText    = strings.Repeat("ab'\n", 100)
	tooLongText = fullText + "x"
)

// cut returns a slice with the bounds that are not none.
func cut(from int, to int, step int) impl.Cut {
	c := impl.Cut{Step: step}
	if from != none {
		c.From, c.HasFrom = from, true
	}
	if to != none {
		c.To, c.HasTo = to, true
	}
	return c
}

// allBytes returns the text of each byte once.
func allBytes() string {
	var b []byte
	for i := range 256 {
		b = append(b, byte(i))
	}
	return string(b)
}

// texts returns texts of many lengths, among them the empty one and those of the limit.
func texts() []string {
	return []string{
		"", "a", "b", "'", "\\", "\n", "\x00", "\xff", "ab", "aa", "ba", "aaa", "aaaa", "aaaaa", "aba", "ababa", "abcab",
		",", ",,", ",,,", "a,b", ",a", "a,", ",a,", "a,b,,c", "a, b, c", "hello", "mississippi", "a'b\n\x01", "\\n", "\\x41", "''",
		"gr\u00fc\u00dfe, \u4e16\u754c", allBytes(), strings.Repeat("a", 399), strings.Repeat("a", 400), strings.Repeat(",", 400), fullText,
	}
}

// parts returns texts that are not empty, most of which occur in some of texts.
func parts() []string {
	return []string{
		"a", "b", ",", "'", "\\", "\n", "\xff", "aa", "ab", "ba", "aaa", "aba", ",,", ", ", "ss", "issi", "ississ", "ca", "'\n", "\n\\",
		"\xbc", "q", "hello", "hello!", strings.Repeat("a", 399), strings.Repeat("a", 400), fullText,
	}
}

// eachCut checks valid slices of few elements: bounds and steps up to behind both ends, and those at the limits.
func eachCut(t *testing.T, check func(n int, c impl.Cut)) {
	t.Helper()
	bounds := []int{none, -impl.MaxIndex, -impl.MaxIndex + 1, impl.MaxIndex - 1, impl.MaxIndex}
	steps := []int{-impl.MaxIndex, -impl.MaxIndex + 1, impl.MaxIndex - 1, impl.MaxIndex}
	for i := 0; i <= 8; i++ {
		bounds = append(bounds, i, -1-i)
		steps = append(steps, 1+i, -1-i)
	}
	for n := range 7 {
		for _, from := range bounds {
			for _, to := range bounds {
				for _, step := range steps {
					check(n, cut(from, to, step))
				}
			}
		}
	}
}

// selected walks along the n elements and returns the indices that a slice selects.
func selected(n int, c impl.Cut) []int {
	// Backwards, the elements are walked along from the last one down.
	walk := func(k int) int { return k }
	from, to, step := 0, n, c.Step
	if c.Step < 0 {
		walk = func(k int) int { return n - 1 - k }
		step = -step
	}
	bound := func(b int) int {
		if b < 0 {
			b += n
		}
		return walk(b)
	}
	if c.HasFrom {
		from = bound(c.From)
	}
	if c.HasTo {
		to = bound(c.To)
	}
	var list []int
	for k := max(from, 0); k < min(to, n); k += step {
		list = append(list, walk(k))
	}
	return list
}

// turned returns the bytes of a text from the last one to the first.
func turned(s string) string {
	var b []byte
	for i := len(s) - 1; i >= 0; i-- {
		b = append(b, s[i])
	}
	return string(b)
}

// joined returns texts that must be joined.
func joined(t *testing.T, list []string, part string) string {
	t.Helper()
	s, ok := impl.TextJoin(list, part)
	return done(t, "the join of texts", s, ok)
}

// swapped returns a text whose parts must be swapped.
func swapped(t *testing.T, s string, part string, to string) string {
	t.Helper()
	swap, ok := impl.TextSwap(s, part, to)
	return done(t, "the swap of a text", swap, ok)
}

// sharesMemory reports whether a text that is not empty lies within another one.
func sharesMemory(part string, s string) bool {
	start, at := uintptr(unsafe.Pointer(unsafe.StringData(s))), uintptr(unsafe.Pointer(unsafe.StringData(part)))
	return part != "" && at >= start && at < start+uintptr(len(s))
}

// is reports whether a result is the text wanted, or none if that is not there.
func is(s string, ok bool, want answer) bool {
	return answer{s, ok} == want
}

// some returns the text that is wanted where there is one.
func some(s string) answer {
	return answer{s, true}
}
