package tests

import (
	"math"
	"math/big"
	"strings"
	"testing"

	"loop.example/slowworm/impl"
)

func TestLimitsOfIntegers(t *testing.T) {
	if impl.MaxDigits != 40 || impl.MaxPower != 200 {
		t.Errorf("MaxDigits = %d, MaxPower = %d", impl.MaxDigits, impl.MaxPower)
	}
}

func TestIntOk(t *testing.T) {
	for _, s := range append(integers(), someIntegers()...) {
		if !impl.IntOk(s) {
			t.Errorf("IntOk(%q) = false", s)
		}
	}
	for _, s := range notNumbers {
		if impl.IntOk(s) {
			t.Errorf("IntOk(%q) = true", s)
		}
	}
}

// TestIntOkOfEachByte has every byte alone, behind a sign and within digits.
func TestIntOkOfEachByte(t *testing.T) {
	for i := range 256 {
		c := string([]byte{byte(i)})
		digit := i >= '0' && i <= '9'
		if impl.IntOk(c) != digit || impl.IntOk("-"+c) != (digit && c != "0") || impl.IntOk("1"+c+"1") != digit {
			t.Errorf("byte %d", i)
		}
	}
}

// checkTwo holds all functions of two integers against exact results.
func checkTwo(t *testing.T, a string, b string) {
	t.Helper()
	x, y := number(a), number(b)
	want := map[string]answer{
		"IntAdd": written(new(big.Int).Add(x, y)),
		"IntSub": written(new(big.Int).Sub(x, y)),
		"IntMul": written(new(big.Int).Mul(x, y)),
	}
	if y.Sign() != 0 {
		q, r := divided(x, y)
		want["IntDiv"], want["IntMod"] = written(q), written(r)
	}
	for name, f := range twoIntegers {
		s, ok := f(a, b)
		if (answer{s, ok}) != want[name] {
			t.Errorf("%s(%s, %s) = %q, %t, want %v", name, a, b, s, ok, want[name])
		}
	}
	if c := impl.IntCmp(a, b); c != x.Cmp(y) {
		t.Errorf("IntCmp(%s, %s) = %d", a, b, c)
	}
}

func TestTwoIntegers(t *testing.T) {
	eachPair(t, func(a string, b string) bool {
		checkTwo(t, a, b)
		return true
	})
}

func TestTwoIntegersOfAllLengths(t *testing.T) {
	all := someIntegers()
	for i, a := range all {
		for j := i % 3; j < len(all); j += 3 {
			checkTwo(t, a, all[j])
		}
	}
}

func TestDivisionOfSmallIntegers(t *testing.T) {
	for a := int64(-30); a <= 30; a++ {
		for b := int64(-12); b <= 12; b++ {
			checkTwo(t, big.NewInt(a).String(), big.NewInt(b).String())
		}
	}
}

func TestResultsAtTheLimit(t *testing.T) {
	half := "5" + strings.Repeat("0", 39)
	for _, c := range []struct{ name, a, b, want string }{
		{"IntAdd", nines, "0", nines},
		{"IntAdd", nines[:39] + "8", "1", nines},
		{"IntAdd", nines, "1", ""},
		{"IntAdd", half, half, ""},
		{"IntAdd", "-" + nines, "-1", ""},
		{"IntAdd", nines, "-" + nines, "0"},
		{"IntSub", "-" + nines, "1", ""},
		{"IntSub", "-" + nines[:39] + "8", "1", "-" + nines},
		{"IntSub", nines, "-1", ""},
		{"IntSub", nines, nines, "0"},
		{"IntMul", "1" + strings.Repeat("0", 20), "1" + strings.Repeat("0", 19), "1" + strings.Repeat("0", 39)},
		{"IntMul", "1" + strings.Repeat("0", 20), "1" + strings.Repeat("0", 20), ""},
		{"IntMul", nines, nines, ""},
		{"IntMul", nines, "-1", "-" + nines},
		{"IntMul", nines, "0", "0"},
		{"IntDiv", "-" + nines, "-1", nines},
		{"IntDiv", "-1", nines, "-1"},
		{"IntDiv", nines, "-2", "-" + half},
		{"IntDiv", nines, "0", ""},
		{"IntMod", nines, "0", ""},
		{"IntMod", "-1", nines, nines[:39] + "8"},
		{"IntMod", "1", "-" + nines, "-" + nines[:39] + "8"},
		{"IntMod", nines, "-" + nines[:39] + "8", "-" + nines[:39] + "7"},
		{"IntMod", "-" + nines, nines, "0"},
	} {
		if s, ok := twoIntegers[c.name](c.a, c.b); s != c.want || ok != (c.want != "") {
			t.Errorf("%s(%s, %s) = %q, %t, want %q", c.name, c.a, c.b, s, ok, c.want)
		}
	}
}

func TestFunctionsOfNoIntegers(t *testing.T) {
	for _, bad := range notNumbers {
		for name, f := range twoIntegers {
			for _, pair := range [][2]string{{bad, "1"}, {"1", bad}, {bad, bad}, {bad, "0"}, {"0", bad}} {
				if s, ok := f(pair[0], pair[1]); s != "" || ok {
					t.Errorf("%s(%.60q) = %q, %t", name, pair, s, ok)
				}
			}
		}
		if impl.IntCmp(bad, "1") != -2 || impl.IntCmp("1", bad) != -2 || impl.IntCmp(bad, bad) != -2 {
			t.Errorf("IntCmp of %.60q", bad)
		}
		if s, ok := impl.IntRoot(bad); s != "" || ok {
			t.Errorf("IntRoot(%.60q) = %q, %t", bad, s, ok)
		}
		for _, n := range []int{0, 1, 2, 200} {
			if s, ok := impl.IntPow(bad, n); s != "" || ok {
				t.Errorf("IntPow(%.60q, %d) = %q, %t", bad, n, s, ok)
			}
		}
	}
}

func TestIntPow(t *testing.T) {
	for _, a := range append(integers(), someIntegers()...) {
		for n := 0; n <= 200; n++ {
			want := written(new(big.Int).Exp(number(a), big.NewInt(int64(n)), nil))
			if s, ok := impl.IntPow(a, n); (answer{s, ok}) != want {
				t.Errorf("IntPow(%s, %d) = %q, %t, want %v", a, n, s, ok, want)
			}
		}
		for _, n := range []int{-1, -2, -200, 201, 202, 1000000, math.MinInt, math.MaxInt} {
			if s, ok := impl.IntPow(a, n); s != "" || ok {
				t.Errorf("IntPow(%s, %d) = %q, %t", a, n, s, ok)
			}
		}
	}
}

func TestPowersAtTheLimits(t *testing.T) {
	for _, c := range []struct {
		a    string
		n    int
		want string
	}{
		{"0", 0, "1"}, {"0", 1, "0"}, {"0", 200, "0"}, {"0", 201, ""}, {"0", -1, ""},
		{"1", 0, "1"}, {"1", 200, "1"}, {"1", 201, ""},
		{"-1", 0, "1"}, {"-1", 199, "-1"}, {"-1", 200, "1"}, {"-1", -1, ""},
		{"2", 132, "5444517870735015415413993718908291383296"}, {"2", 133, ""},
		{"-3", 83, "-3990838394187339929534246675572349035227"}, {"-3", 84, ""},
		{"10", 39, "1" + strings.Repeat("0", 39)}, {"10", 40, ""}, {"10", 200, ""},
		{nines, 0, "1"}, {nines, 1, nines}, {"-" + nines, 1, "-" + nines}, {nines, 2, ""},
		{"-" + halfNines, 2, square(halfNines)}, {halfNines, 3, ""},
	} {
		if s, ok := impl.IntPow(c.a, c.n); s != c.want || ok != (c.want != "") {
			t.Errorf("IntPow(%s, %d) = %q, %t, want %q", c.a, c.n, s, ok, c.want)
		}
	}
}

func TestIntRoot(t *testing.T) {
	for _, a := range append(integers(), someIntegers()...) {
		checkRoot(t, a)
	}
	for n := int64(0); n <= 1000; n++ {
		checkRoot(t, big.NewInt(n).String())
	}
}

// TestRootsAroundSquares has the integers next to squares of all lengths.
func TestRootsAroundSquares(t *testing.T) {
	for _, a := range someIntegers() {
		if len(a) > 20 {
			continue
		}
		for _, d := range []int64{-2, -1, 0, 1, 2} {
			checkRoot(t, new(big.Int).Add(number(square(a)), big.NewInt(d)).String())
		}
	}
}

func checkRoot(t *testing.T, a string) {
	t.Helper()
	want := answer{}
	if n := number(a); n.Sign() >= 0 {
		want = written(new(big.Int).Sqrt(n))
	}
	if s, ok := impl.IntRoot(a); (answer{s, ok}) != want {
		t.Errorf("IntRoot(%s) = %q, %t, want %v", a, s, ok, want)
	}
}
