package tests

import (
	"strings"
	"testing"

	"loop.example/slowworm/impl"
)

func add(t *testing.T, a string, b string) string {
	t.Helper()
	s, ok := impl.IntAdd(a, b)
	return done(t, "the sum of "+a+" and "+b, s, ok)
}

func subtract(t *testing.T, a string, b string) string {
	t.Helper()
	s, ok := impl.IntSub(a, b)
	return done(t, "the difference of "+a+" and "+b, s, ok)
}

func opposite(t *testing.T, a string) string {
	t.Helper()
	return subtract(t, "0", a)
}

// nearer reports whether the size of a is less than that of b.
func nearer(a string, b string) bool {
	return impl.IntCmp(strings.TrimPrefix(a, "-"), strings.TrimPrefix(b, "-")) == -1
}

func TestP1IntegersStayIntegers(t *testing.T) {
	for _, a := range append(integers(), someIntegers()...) {
		other := opposite(t, a)
		if !impl.IntOk(a) || !impl.IntOk(other) {
			t.Errorf("%s: %s is no integer", a, other)
		}
		if a != "0" && strings.HasPrefix(a, "-") == strings.HasPrefix(other, "-") || opposite(t, other) != a {
			t.Errorf("%s: %s is not the opposite", a, other)
		}
	}
}

func TestP2SumsAreCommutative(t *testing.T) {
	eachPair(t, func(a string, b string) bool {
		sum, ok := impl.IntAdd(a, b)
		if ok && (sum != add(t, b, a) || subtract(t, sum, b) != a) {
			t.Errorf("IntAdd(%s, %s) = %s", a, b, sum)
		}
		return ok
	})
}

func TestP3SumsUndoDifferences(t *testing.T) {
	eachPair(t, func(a string, b string) bool {
		less, ok := impl.IntSub(a, b)
		if ok && (add(t, less, b) != a || subtract(t, b, a) != opposite(t, less)) {
			t.Errorf("IntSub(%s, %s) = %s", a, b, less)
		}
		return ok
	})
}

func TestP4QuotientsUndoProducts(t *testing.T) {
	eachPair(t, func(a string, b string) bool {
		product, ok := impl.IntMul(a, b)
		if turned, _ := impl.IntMul(b, a); turned != product {
			t.Errorf("IntMul(%s, %s) = %s, turned %s", a, b, product, turned)
		}
		if ok && b != "0" {
			quotient, _ := impl.IntDiv(product, b)
			rest, _ := impl.IntMod(product, b)
			if quotient != a || rest != "0" {
				t.Errorf("IntMul(%s, %s) = %s, by the second %s, %s", a, b, product, quotient, rest)
			}
		}
		return ok
	})
}

func TestP5QuotientsAndRestsMakeTheWhole(t *testing.T) {
	eachPair(t, func(a string, b string) bool {
		quotient, ok := impl.IntDiv(a, b)
		rest, also := impl.IntMod(a, b)
		if ok != (b != "0") || also != ok {
			t.Errorf("IntDiv(%s, %s) %t, IntMod %t", a, b, ok, also)
			return false
		}
		if !ok {
			return false
		}
		// The product may be too long where the whole is not; TestTwoIntegers has exact results for these.
		if product, fits := impl.IntMul(b, quotient); fits && add(t, product, rest) != a {
			t.Errorf("IntDiv(%s, %s) = %s, rest %s", a, b, quotient, rest)
		}
		if !nearer(rest, b) || rest != "0" && strings.HasPrefix(rest, "-") != strings.HasPrefix(b, "-") {
			t.Errorf("IntMod(%s, %s) = %s", a, b, rest)
		}
		return true
	})
}

func TestP6RestsAreLessThanWhatDivides(t *testing.T) {
	eachPair(t, func(a string, b string) bool {
		rest, ok := impl.IntMod(a, b)
		if !ok {
			return false
		}
		again, _ := impl.IntMod(rest, b)
		onSide := rest == "0" || impl.IntCmp(rest, "0") == impl.IntCmp(b, "0")
		if again != rest || !onSide || !nearer(rest, b) {
			t.Errorf("IntMod(%s, %s) = %s, again %s", a, b, rest, again)
		}
		return true
	})
}

func TestP7PowersGrowByOneFactor(t *testing.T) {
	for _, a := range integers() {
		if one, ok := impl.IntPow(a, 0); one != "1" || !ok {
			t.Errorf("IntPow(%s, 0) = %s, %t", a, one, ok)
		}
		for n := range 200 {
			power, ok := impl.IntPow(a, n)
			if !ok {
				continue
			}
			product, fits := impl.IntMul(power, a)
			if next, there := impl.IntPow(a, n+1); next != product || there != fits {
				t.Errorf("IntPow(%s, %d) = %s, %t, want %s, %t", a, n+1, next, there, product, fits)
			}
		}
	}
}

func TestP8OrdersAreToldByDifferences(t *testing.T) {
	eachPair(t, func(a string, b string) bool {
		order := impl.IntCmp(a, b)
		if impl.IntCmp(b, a) != -order || (order == 0) != (a == b) {
			t.Errorf("IntCmp(%s, %s) = %d", a, b, order)
		}
		less, ok := impl.IntSub(a, b)
		if ok && impl.IntCmp(less, "0") != order {
			t.Errorf("IntCmp(%s, %s) = %d, the difference is %s", a, b, order, less)
		}
		return ok
	})
}

func TestP9RootsAreTheGreatest(t *testing.T) {
	for _, a := range append(integers(), someIntegers()...) {
		root, ok := impl.IntRoot(a)
		if ok == strings.HasPrefix(a, "-") {
			t.Errorf("IntRoot(%s) = %s, %t", a, root, ok)
		}
		if !ok {
			continue
		}
		squared, fits := impl.IntMul(root, root)
		if !fits || impl.IntCmp(squared, a) > 0 {
			t.Errorf("IntRoot(%s) = %s is too great", a, root)
		}
		more := add(t, root, "1")
		if above, fits := impl.IntMul(more, more); fits && impl.IntCmp(above, a) != 1 {
			t.Errorf("IntRoot(%s) = %s is not the greatest", a, root)
		}
	}
}

func TestP128ProductsAreSharedOverSums(t *testing.T) {
	eachThree(t, func(a string, b string, c string) bool {
		sum, first := impl.IntAdd(b, c)
		whole, second := impl.IntMul(a, sum)
		x, third := impl.IntMul(a, b)
		y, fourth := impl.IntMul(a, c)
		if !first || !second || !third || !fourth {
			return false
		}
		if both := add(t, x, y); both != whole {
			t.Errorf("%s times %s and %s: %s, %s", a, b, c, whole, both)
		}
		return true
	})
}

func TestP129SumsCanBeTakenInAnyOrder(t *testing.T) {
	eachThree(t, func(a string, b string, c string) bool {
		ab, first := impl.IntAdd(a, b)
		left, second := impl.IntAdd(ab, c)
		bc, third := impl.IntAdd(b, c)
		right, fourth := impl.IntAdd(a, bc)
		if !first || !second || !third || !fourth {
			return false
		}
		if left != right {
			t.Errorf("the sum of %s, %s and %s: %s, %s", a, b, c, left, right)
		}
		return true
	})
}

func TestP155PowersOfSumsOfExponents(t *testing.T) {
	for _, a := range integers() {
		for _, m := range []int{0, 1, 2, 3, 7, 13, 20, 40, 66, 99, 100, 200} {
			for _, n := range []int{0, 1, 2, 5, 19, 20, 66, 67, 100, 101, 200} {
				x, first := impl.IntPow(a, m)
				y, second := impl.IntPow(a, n)
				both, third := impl.IntPow(a, m+n)
				if !first || !second || !third {
					continue
				}
				if product, ok := impl.IntMul(x, y); !ok || product != both {
					t.Errorf("%s to the power of %d and %d: %s, %s", a, m, n, product, both)
				}
			}
		}
	}
}

func TestP156PowersOfProducts(t *testing.T) {
	eachPair(t, func(a string, b string) bool {
		product, ok := impl.IntMul(a, b)
		for _, n := range []int{0, 1, 2, 3, 5, 12, 19, 39, 199, 200} {
			power, first := impl.IntPow(product, n)
			x, second := impl.IntPow(a, n)
			y, third := impl.IntPow(b, n)
			if !first || !second || !third {
				continue
			}
			if powers, there := impl.IntMul(x, y); !there || powers != power {
				t.Errorf("%s times %s to the power of %d: %s, %s", a, b, n, power, powers)
			}
		}
		return ok
	})
}

func TestP157RemaindersForgetWhatIsDivided(t *testing.T) {
	eachThree(t, func(a string, b string, c string) bool {
		product, first := impl.IntMul(b, c)
		sum, second := impl.IntAdd(a, product)
		quotient, third := impl.IntDiv(sum, b)
		if !first || !second || !third {
			return false
		}
		rest, _ := impl.IntMod(sum, b)
		want, _ := impl.IntMod(a, b)
		less, _ := impl.IntDiv(a, b)
		greater, fits := impl.IntAdd(less, c)
		if rest != want || fits && quotient != greater {
			t.Errorf("%s and %s times %s: %s, rest %s, want %s, %s", a, b, c, quotient, rest, greater, want)
		}
		return true
	})
}

func TestP158OrdersAreKeptBySums(t *testing.T) {
	eachThree(t, func(a string, b string, c string) bool {
		x, first := impl.IntAdd(a, c)
		y, second := impl.IntAdd(b, c)
		if !first || !second || impl.IntCmp(a, b) != -1 {
			return false
		}
		if impl.IntCmp(x, y) != -1 {
			t.Errorf("%s is less than %s, but %s and %s", a, b, x, y)
		}
		return true
	})
}
