package tests

import (
	"math/big"
	"strings"
	"testing"

	"loop.example/slowworm/impl"
)

// answer is what a function of integers returns.
type answer struct {
	text string
	ok   bool
}

// twoIntegers are the functions of two integers, by name.
var twoIntegers = map[string]func(string, string) (string, bool){
	"IntAdd": impl.IntAdd,
	"IntSub": impl.IntSub,
	"IntMul": impl.IntMul,
	"IntDiv": impl.IntDiv,
	"IntMod": impl.IntMod,
}

var (
	nines      = strings.Repeat("9", 40)
	halfNines  = strings.Repeat("9", 20)
	tooLong    = "1" + strings.Repeat("0", 40)
	notNumbers = []string{
		"", "-", "-0", "01", "+1", "00", "-01", "-00", "--1", "1-", "+", "+0", "0-",
		" 1", "1 ", "1\n", "\t1", "- 1", "1.0", "1e3", "0x1", "a", "1a", "a1", "1_0", "1,000",
		"/", ":", "1/", "1:", "/1", "\x00", "1\x00", "\xff", "\u0661", "\uff11", "\u22121",
		tooLong, "-" + tooLong, nines + "9", "-" + nines + "9", "0" + nines, "-0" + nines,
		"0" + nines[1:], "00" + nines[2:], nines[1:] + "x", nines + "-", strings.Repeat("1", 100000),
	}
)

// integers returns integers of many sizes and both signs, among them those at the limits and around squares.
func integers() []string {
	sizes := []string{
		"0", "1", "2", "3", "7", "9", "10", "11", "99", "100", "101", "1000000", "65536",
		"12345678901234567890", halfNines, "1" + strings.Repeat("0", 20), "1" + strings.Repeat("0", 19) + "1",
		square("12345678901234567890"), strings.Repeat("3", 40), "5" + strings.Repeat("0", 39),
		"4" + strings.Repeat("9", 39), "1" + strings.Repeat("0", 39), nines[1:],
		square(halfNines), nines[:39] + "8", nines,
	}
	return withSigns(sizes)
}

// someIntegers returns integers of every length up to the limit, whose digits follow a rule.
func someIntegers() []string {
	var sizes []string
	n := big.NewInt(7)
	for length := 1; length <= 40; length++ {
		limit := new(big.Int).Exp(big.NewInt(10), big.NewInt(int64(length)), nil)
		for range 3 {
			n.Mul(n, big.NewInt(6364136223846793005))
			n.Add(n, big.NewInt(1442695040888963407))
			n.Mod(n, new(big.Int).Exp(big.NewInt(10), big.NewInt(90), nil))
			sizes = append(sizes, new(big.Int).Mod(n, limit).String())
		}
	}
	return withSigns(sizes)
}

func withSigns(sizes []string) []string {
	var all []string
	for _, s := range sizes {
		all = append(all, s)
		if s != "0" {
			all = append(all, "-"+s)
		}
	}
	return all
}

func square(s string) string {
	n := number(s)
	return new(big.Int).Mul(n, n).String()
}

func number(s string) *big.Int {
	n, ok := new(big.Int).SetString(s, 10)
	if !ok {
		panic("no number: " + s)
	}
	return n
}

// written returns what a function must return of n: none if it has more than 40 digits.
func written(n *big.Int) answer {
	s := n.String()
	if len(strings.TrimPrefix(s, "-")) > 40 {
		return answer{}
	}
	return answer{s, true}
}

// divided returns the quotient rounded down, and the rest.
func divided(a *big.Int, b *big.Int) (*big.Int, *big.Int) {
	q, r := new(big.Int).QuoRem(a, b, new(big.Int))
	if r.Sign() != 0 && r.Sign() != b.Sign() {
		q.Sub(q, big.NewInt(1))
		r.Add(r, b)
	}
	return q, r
}

// done returns the result of a call that must succeed.
func done(t *testing.T, call string, s string, ok bool) string {
	t.Helper()
	if !ok {
		t.Fatalf("%s is not there", call)
	}
	return s
}

// eachPair checks all pairs of integers. A check tells whether the promise speaks of its pair; of some it must.
func eachPair(t *testing.T, check func(a string, b string) bool) {
	t.Helper()
	spoken := 0
	for _, a := range integers() {
		for _, b := range integers() {
			if check(a, b) {
				spoken++
			}
		}
	}
	if spoken == 0 {
		t.Error("the promise speaks of no pair")
	}
}

// eachThree checks all threes of integers as eachPair does.
func eachThree(t *testing.T, check func(a string, b string, c string) bool) {
	t.Helper()
	for _, c := range integers() {
		eachPair(t, func(a string, b string) bool { return check(a, b, c) })
	}
}
