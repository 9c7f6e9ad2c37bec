package tests

import (
	"slices"
	"strings"
	"testing"

	"loop.example/slowworm/impl"
)

func TestP10SlicesThatAreValidSelect(t *testing.T) {
	eachCut(t, func(small int, c impl.Cut) {
		for _, n := range []int{small, impl.MaxIndex - small} {
			if _, count := impl.CutRange(n, c); !impl.CutOk(c) || count < 0 || count > n {
				t.Errorf("CutRange(%d, %+v) has %d", n, c, count)
			}
		}
	})
	for n := range 10 {
		for _, step := range []int{1, -1} {
			if _, count := impl.CutRange(n, cut(none, none, step)); count != n {
				t.Errorf("CutRange of all %d by %d has %d", n, step, count)
			}
		}
	}
}

func TestP11WhatIsSelectedIsThere(t *testing.T) {
	eachCut(t, func(small int, c impl.Cut) {
		for _, n := range []int{small, impl.MaxIndex - small} {
			first, count := impl.CutRange(n, c)
			if count == 0 {
				continue
			}
			last := first + (count-1)*c.Step
			if min(first, last) < 0 || max(first, last) >= n {
				t.Errorf("CutRange(%d, %+v) is from %d to %d", n, c, first, last)
			}
		}
	})
}

func TestP12SlicesAreBytesAtTheirPlaces(t *testing.T) {
	eachCut(t, func(n int, c impl.Cut) {
		checkPlaces(t, "\x00bc'e\xff"[:n], c)
	})
	for _, s := range texts() {
		for _, step := range []int{1, -1, 2, -2, 7, -7, 399, -400, impl.MaxIndex} {
			for _, bound := range []int{none, 0, 1, -1, 3, -3, 200, 399, -400, 400, 401} {
				checkPlaces(t, s, cut(bound, none, step))
				checkPlaces(t, s, cut(none, bound, step))
			}
		}
	}
}

func checkPlaces(t *testing.T, s string, c impl.Cut) {
	t.Helper()
	first, count := impl.CutRange(len(s), c)
	part := impl.TextCut(s, c)
	if len(part) != count {
		t.Errorf("TextCut(%q, %+v) = %q, want %d bytes", s, c, part, count)
		return
	}
	for i := range count {
		if one, ok := impl.TextAt(s, first+i*c.Step); !ok || one != part[i:i+1] {
			t.Errorf("TextCut(%q, %+v) = %q, but byte %d is %q", s, c, part, i, one)
		}
	}
}

func TestP13IndicesFromTheEndFindTheSame(t *testing.T) {
	for _, s := range texts() {
		for i := range len(s) {
			one, ok := impl.TextAt(s, i)
			other, also := impl.TextAt(s, i-len(s))
			if !ok || !also || one != other || one != s[i:i+1] {
				t.Errorf("TextAt(%q, %d) = %q, %t, from the end %q, %t", s, i, one, ok, other, also)
			}
		}
		for _, i := range []int{len(s), -len(s) - 1} {
			if one, ok := impl.TextAt(s, i); one != "" || ok {
				t.Errorf("TextAt(%q, %d) = %q, %t", s, i, one, ok)
			}
		}
	}
}

func TestP14WhatIsFoundIsThereFirst(t *testing.T) {
	for _, s := range texts() {
		for _, part := range append(parts(), "") {
			at := impl.TextFind(s, part)
			ahead := at
			if at < 0 {
				ahead = len(s) + 1
			} else if impl.TextCut(s, cut(at, at+len(part), 1)) != part {
				t.Errorf("TextFind(%q, %q) = %d, which is not there", s, part, at)
			}
			for i := range ahead {
				if impl.TextCut(s, cut(i, i+len(part), 1)) == part {
					t.Errorf("TextFind(%q, %q) = %d, but there is %d", s, part, at, i)
				}
			}
		}
	}
}

func TestP15PiecesJoinToTheWhole(t *testing.T) {
	for _, s := range texts() {
		for _, part := range parts() {
			pieces := impl.TextSplit(s, part)
			if whole := joined(t, pieces, part); whole != s {
				t.Errorf("TextJoin of %q with %q = %q, want %q", pieces, part, whole, s)
			}
			for _, piece := range pieces {
				if impl.TextFind(piece, part) != -1 {
					t.Errorf("TextSplit(%q, %q) has %q", s, part, piece)
				}
			}
		}
	}
}

func TestP16JoinedTextsAreAsLongAsAll(t *testing.T) {
	lists := [][]string{nil, {""}, {"a"}, {"", ""}, {"a", "", "bc"}, {fullText}, {fullText, ""}, make([]string, 401), texts()[:30]}
	for _, list := range lists {
		for _, part := range append(parts(), "") {
			want := len(part) * max(len(list)-1, 0)
			for _, s := range list {
				want += len(s)
			}
			whole, ok := impl.TextJoin(list, part)
			if ok != (want <= 400) || ok && len(whole) != want {
				t.Errorf("TextJoin of %q with %q has %d bytes, %t, want %d", list, part, len(whole), ok, want)
			}
			if ok && whole != strings.Join(list, part) {
				t.Errorf("TextJoin of %q with %q = %q", list, part, whole)
			}
		}
	}
}

func TestP17SwappingWithItselfChangesNothing(t *testing.T) {
	for _, s := range texts() {
		for _, part := range parts() {
			if same := swapped(t, s, part, part); same != s {
				t.Errorf("TextSwap(%q, %q) with itself = %q", s, part, same)
			}
			checkSwap(t, s, part)
		}
	}
}

// checkSwap holds a swap against the join of the pieces.
func checkSwap(t *testing.T, s string, part string) {
	t.Helper()
	for _, to := range []string{"", "z", "aa", "ab,", fullText} {
		swap, ok := impl.TextSwap(s, part, to)
		want, also := impl.TextJoin(impl.TextSplit(s, part), to)
		if ok != also || swap != want {
			t.Errorf("TextSwap(%q, %q, %q) = %q, %t, want %q, %t", s, part, to, swap, ok, want, also)
		}
	}
}

func TestP18OnceMoreIsOneBehind(t *testing.T) {
	for _, s := range texts() {
		less := ""
		for n := -2; n <= 402; n++ {
			many, ok := impl.TextMany(s, n)
			want := strings.Repeat(s, max(n, 0))
			if ok != (len(want) <= 400) {
				t.Errorf("TextMany(%q, %d) is %t", s, n, ok)
			}
			if !ok {
				break
			}
			if n > 0 && many != less+s || n <= 0 && many != "" {
				t.Errorf("TextMany(%q, %d) = %q", s, n, many)
			}
			less = many
		}
	}
}

func TestP19QuotesAreReadAgain(t *testing.T) {
	for _, s := range append(texts(), parts()...) {
		q := impl.TextQuote(s)
		if read, ok := impl.TextUnquote(q); read != s || !ok {
			t.Errorf("TextUnquote(%s) = %q, %t, want %q", q, read, ok, s)
		}
	}
	quoted := "'"
	for range 4 {
		quoted = impl.TextQuote(quoted)
		if read, ok := impl.TextUnquote(quoted); !ok || impl.TextQuote(read) != quoted {
			t.Errorf("TextUnquote(%s) = %q, %t", quoted, read, ok)
		}
	}
}

// TestP20WhatIsReadIsWrittenTheSame has the quoted texts, and each with a byte of it changed, left out or added.
func TestP20WhatIsReadIsWrittenTheSame(t *testing.T) {
	read := 0
	for _, s := range append(texts(), parts()...) {
		q := impl.TextQuote(s)
		others := []string{q}
		for i := range len(q) {
			others = append(others, q[:i]+q[i+1:])
			for _, c := range []string{"'", `\`, "n", "x", "0", "A", "\n", "\xff"} {
				others = append(others, q[:i]+c+q[i+1:], q[:i]+c+q[i:])
			}
		}
		for _, other := range others {
			back, ok := impl.TextUnquote(other)
			if ok && impl.TextQuote(back) != other || !ok && back != "" {
				t.Errorf("TextUnquote(%s) = %q, %t", other, back, ok)
			}
			if ok {
				read++
			}
		}
	}
	if read == 0 {
		t.Error("nothing is read")
	}
}

func TestP136SwappingIsSplittingAndJoining(t *testing.T) {
	for _, s := range texts() {
		for _, part := range parts() {
			checkSwap(t, s, part)
			if impl.TextFind(s, part) == -1 && swapped(t, s, part, "z") != s {
				t.Errorf("TextSwap(%q, %q) is not the text", s, part)
			}
			// A text of one byte that is nowhere in s: swapped in, it touches nothing that looks like it.
			for _, to := range []string{"z", "@", "\xfe"} {
				if strings.Contains(s, to) {
					continue
				}
				other := swapped(t, s, part, to)
				if back := swapped(t, other, to, part); back != s {
					t.Errorf("TextSwap(%q, %q, %q) = %q, back %q", s, part, to, other, back)
				}
			}
		}
	}
}

func TestP159TextsTurnedTwiceAreThemselves(t *testing.T) {
	back := cut(none, none, -1)
	for _, s := range texts() {
		other := impl.TextCut(s, back)
		if other != turned(s) || impl.TextCut(other, back) != s {
			t.Errorf("%q turned is %q, twice %q", s, other, impl.TextCut(other, back))
		}
	}
	eachCut(t, func(n int, c impl.Cut) {
		if c.From == impl.MaxIndex || c.To == impl.MaxIndex {
			return
		}
		s := "abcdef"[:n]
		// The places from the start are, turned, those from the end: 0 is -1, and 1 is -2.
		mirror := impl.Cut{Step: -c.Step, HasFrom: c.HasFrom, HasTo: c.HasTo}
		if c.HasFrom {
			mirror.From = -1 - c.From
		}
		if c.HasTo {
			mirror.To = -1 - c.To
		}
		if x, y := impl.TextCut(turned(s), c), impl.TextCut(s, mirror); x != y {
			t.Errorf("TextCut of %q turned by %+v = %q, by %+v = %q", s, c, x, mirror, y)
		}
	})
	for _, s := range texts() {
		for i := range len(s) {
			ahead, behind := impl.TextCut(s, cut(none, i, 1)), impl.TextCut(impl.TextCut(s, back), cut(len(s)-i, none, 1))
			if behind != turned(ahead) {
				t.Errorf("%q up to %d is %q, of the turned text %q", s, i, ahead, behind)
			}
		}
	}
}

func TestP160ATextIsWhatIsAheadAndWhatIsBehind(t *testing.T) {
	for _, s := range texts() {
		places := []int{-impl.MaxIndex, impl.MaxIndex}
		for i := -len(s) - 2; i <= len(s)+2; i++ {
			places = append(places, i)
		}
		for _, i := range places {
			ahead, behind := impl.TextCut(s, cut(none, i, 1)), impl.TextCut(s, cut(i, none, 1))
			if ahead+behind != s {
				t.Errorf("%q at %d is %q and %q", s, i, ahead, behind)
			}
			if i >= 0 && i <= len(s) && len(ahead) != i {
				t.Errorf("%q up to %d is %q", s, i, ahead)
			}
		}
	}
}

func TestP161EverySecondByteAndTheOthersAreAll(t *testing.T) {
	for _, s := range texts() {
		even, odd := impl.TextCut(s, cut(0, none, 2)), impl.TextCut(s, cut(1, none, 2))
		if even != impl.TextCut(s, cut(none, none, 2)) || len(even)+len(odd) != len(s) {
			t.Errorf("%q is %q and %q", s, even, odd)
			continue
		}
		for i := range len(s) {
			if half := []string{even, odd}[i%2]; half[i/2] != s[i] {
				t.Errorf("%q is %q and %q", s, even, odd)
			}
		}
	}
}

func TestP162WhatIsSplitOccursBetweenThePieces(t *testing.T) {
	for _, s := range texts() {
		for _, part := range parts() {
			var want []string
			rest := s
			for at := impl.TextFind(rest, part); at >= 0; at = impl.TextFind(rest, part) {
				want = append(want, rest[:at])
				rest = impl.TextCut(rest, cut(at+len(part), none, 1))
			}
			want = append(want, rest)
			if pieces := impl.TextSplit(s, part); !slices.Equal(pieces, want) {
				t.Errorf("TextSplit(%q, %q) = %q, want %q", s, part, pieces, want)
			}
		}
	}
}
