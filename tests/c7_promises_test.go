package tests

import (
	"slices"
	"strings"
	"testing"

	"loop.example/slowworm/impl"
)

// wrongProgs are programs that are not valid.
func wrongProgs() [][]impl.Stmt {
	var all [][]impl.Stmt
	for _, text := range []string{"break", "return a", "global a", "yield a", "1 = a", "try:\n a", "def f(a, a):\n b", "lambda: yield a", "if a:\n continue", "class A:\n return", "try:\n a\nfinally:\n return", "try:\n a\nexcept:\n b\nexcept:\n c", strings.Repeat("a\n", 81), nestedText("if a:\n ?\n", 6)} {
		all = append(all, program(text), program("a\n"+text), program(text+"\na"))
	}
	return append(all, []impl.Stmt{{}}, []impl.Stmt{{Kind: 20}}, []impl.Stmt{{Kind: 12, Name: "a"}})
}

func TestP50ProgramsMayLoseTheirLastStatement(t *testing.T) {
	for _, list := range progs() {
		if !impl.ProgOk(list) || (impl.ProgPut(list) == "") != (len(list) == 0) {
			t.Errorf("%s: ProgOk is %t, ProgPut %q", shownProg(list), impl.ProgOk(list), impl.ProgPut(list))
		}
		for len(list) > 0 {
			list = list[:len(list)-1]
			if !impl.ProgOk(list) || (impl.ProgPut(list) == "") != (len(list) == 0) {
				t.Errorf("%s: ProgOk is %t, ProgPut %q", shownProg(list), impl.ProgOk(list), impl.ProgPut(list))
			}
		}
	}
	for _, list := range wrongProgs() {
		if impl.ProgOk(list) || impl.ProgPut(list) != "" {
			t.Errorf("%s is valid", shownProg(list))
		}
	}
}

func TestP51SizesAreSumsOfStatements(t *testing.T) {
	for _, list := range progs() {
		sum := 0
		for i := range list {
			sum += impl.ProgSize(list[i : i+1])
			if n := impl.ProgSize(list[:i+1]); n != sum || n <= impl.ProgSize(list[:i]) {
				t.Errorf("ProgSize(%s) = %d, want %d", shownProg(list[:i+1]), n, sum)
			}
		}
		if n := impl.ProgSize(list); n != sum || n < len(list) {
			t.Errorf("ProgSize(%s) = %d, want %d", shownProg(list), n, sum)
		}
	}
	for _, list := range wrongProgs() {
		if n := impl.ProgSize(list); n != -1 {
			t.Errorf("ProgSize(%s) = %d", shownProg(list), n)
		}
	}
}

func TestP52EqualProgramsAreWrittenTheSame(t *testing.T) {
	all := progs()
	all = slices.Concat(all[:300], all[len(all)-100:], wrongProgs())
	var written []string
	for _, list := range all {
		written = append(written, impl.ProgPut(list))
	}
	spoken := 0
	for i, a := range all {
		for k, b := range all {
			same := impl.ProgSame(a, b)
			if impl.ProgSame(b, a) != same || i == k && same != impl.ProgOk(a) {
				t.Errorf("ProgSame of %s and %s is %t, the other way round %t", shownProg(a), shownProg(b), same, impl.ProgSame(b, a))
			}
			// What is written the same is the same, too, as it is read again.
			if (written[i] == written[k] && impl.ProgOk(a) && impl.ProgOk(b)) != same {
				t.Errorf("ProgSame of %s and %s is %t", shownProg(a), shownProg(b), same)
			}
			if same && i != k {
				spoken++
			}
		}
	}
	if spoken == 0 {
		t.Error("the promise speaks of no two programs")
	}
}

func TestP53WhatIsWrittenIsReadAgain(t *testing.T) {
	for _, list := range progs() {
		text := impl.ProgPut(list)
		again, ok := impl.ProgGet(text)
		if ok == isTooLong(text) || ok && (!equalProgs(again, list) || !impl.ProgSame(again, list)) {
			t.Errorf("ProgGet(%q) = %s, %t, want %s", text, shownProg(again), ok, shownProg(list))
		}
	}
}

func TestP54WhatIsReadIsWrittenInOneForm(t *testing.T) {
	texts, _ := looseProgs()
	for _, text := range texts {
		list, ok := impl.ProgGet(text)
		form := impl.ProgPut(list)
		if !ok || isTooLong(form) {
			t.Errorf("%q is not read, or written too long", text)
		}
		if again, ok := impl.ProgGet(form); !ok || !impl.ProgSame(again, list) || impl.ProgPut(again) != form {
			t.Errorf("ProgGet(%q) = %s, %t, want %s", form, shownProg(again), ok, shownProg(list))
		}
	}
	for _, text := range []string{"a b", "if a:\nb", "break", "$", "else:\n a", "try:\n a", " a"} {
		if list, ok := impl.ProgGet(text); ok || len(list) > 0 || impl.ProgPut(list) != "" {
			t.Errorf("ProgGet(%q) = %s, %t", text, shownProg(list), ok)
		}
	}
}

func TestP174ProgramsOneBehindTheOtherAreWrittenOneBehindTheOther(t *testing.T) {
	all := progs()
	spoken := 0
	for i, first := range all {
		for _, second := range [][]impl.Stmt{all[(i+1)%len(all)], all[(7*i)%len(all)], first} {
			both := slices.Concat(first, second)
			// Both are valid unless they are too many statements together.
			size := impl.ProgSize(first) + impl.ProgSize(second)
			if impl.ProgOk(both) != (size <= impl.MaxStmts) {
				t.Errorf("ProgOk(%s) = %t", shownProg(both), size > impl.MaxStmts)
			}
			if size > impl.MaxStmts {
				continue
			}
			spoken++
			if n := impl.ProgSize(both); n != size {
				t.Errorf("ProgSize(%s) = %d, want %d", shownProg(both), n, size)
			}
			want := impl.ProgPut(first) + impl.ProgPut(second)
			if s := impl.ProgPut(both); s != want {
				t.Errorf("ProgPut(%s) = %q, want %q", shownProg(both), s, want)
			}
			if again, ok := impl.ProgGet(want); ok == isTooLong(want) || ok && !impl.ProgSame(again, both) {
				t.Errorf("ProgGet(%q) = %s, %t", want, shownProg(again), ok)
			}
		}
	}
	if spoken < 4000 {
		t.Errorf("the promise speaks of %d pairs", spoken)
	}
	wrong := wrongProgs()
	for i, list := range wrong {
		for _, both := range [][]impl.Stmt{slices.Concat(list, all[i+2]), slices.Concat(all[i+2], list)} {
			if impl.ProgOk(both) || impl.ProgSize(both) != -1 || impl.ProgPut(both) != "" {
				t.Errorf("%s is valid", shownProg(both))
			}
		}
	}
}
