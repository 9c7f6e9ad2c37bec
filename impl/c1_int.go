package impl

// MaxDigits is the largest number of digits of an integer.
const MaxDigits = 40

// MaxPower is the largest exponent.
const MaxPower = 200

// intWidth leaves room for the product of two integers, so that a result that is too long is seen when it is written.
const intWidth = 2 * MaxDigits

// intDigits are the decimal digits of a size, the lowest first. Their length is fixed, so equal sizes are equal arrays.
type intDigits [intWidth]uint8

// integer is a size with a sign. It is made by makeInteger, as 0 must not be negative.
type integer struct {
	size     intDigits
	negative bool
}

// IntOk reports whether a text is an integer.
func IntOk(s string) bool {
	_, ok := readInteger(s)
	return ok
}

// IntAdd returns the sum of two integers.
func IntAdd(a string, b string) (string, bool) {
	x, y, ok := readIntegers(a, b)
	if !ok {
		return "", false
	}
	return x.plus(y).text()
}

// IntSub returns the difference of two integers.
func IntSub(a string, b string) (string, bool) {
	x, y, ok := readIntegers(a, b)
	if !ok {
		return "", false
	}
	return x.plus(y.opposite()).text()
}

// IntMul returns the product of two integers.
func IntMul(a string, b string) (string, bool) {
	x, y, ok := readIntegers(a, b)
	if !ok {
		return "", false
	}
	return x.times(y).text()
}

// IntDiv returns the quotient of two integers, rounded down.
func IntDiv(a string, b string) (string, bool) {
	x, y, ok := readIntegers(a, b)
	if !ok || y.isZero() {
		return "", false
	}
	quotient, _ := x.dividedBy(y)
	return quotient.text()
}

// IntMod returns the remainder of two integers.
func IntMod(a string, b string) (string, bool) {
	x, y, ok := readIntegers(a, b)
	if !ok || y.isZero() {
		return "", false
	}
	_, rest := x.dividedBy(y)
	return rest.text()
}

// IntPow returns a power of an integer.
func IntPow(a string, n int) (string, bool) {
	x, ok := readInteger(a)
	if !ok || n < 0 || n > MaxPower {
		return "", false
	}
	power := makeInteger(intDigits{1}, false)
	for range n {
		power = power.times(x)
		// Only powers of sizes from 2 on become too long, and their further powers are longer still.
		if power.size.count() > MaxDigits {
			return "", false
		}
	}
	return power.text()
}

// IntCmp compares two integers.
func IntCmp(a string, b string) int {
	x, y, ok := readIntegers(a, b)
	switch {
	case !ok:
		return -2
	case x.negative && y.negative:
		return compareDigits(y.size, x.size)
	case x.negative:
		return -1
	case y.negative:
		return 1
	}
	return compareDigits(x.size, y.size)
}

// IntRoot returns the square root of an integer, rounded down.
func IntRoot(a string) (string, bool) {
	x, ok := readInteger(a)
	if !ok || x.negative {
		return "", false
	}
	return makeInteger(rootDigits(x.size), false).text()
}

func readInteger(s string) (integer, bool) {
	negative := len(s) > 0 && s[0] == '-'
	if negative {
		s = s[1:]
	}
	if len(s) == 0 || len(s) > MaxDigits {
		return integer{}, false
	}
	if s[0] == '0' && (negative || len(s) > 1) {
		return integer{}, false
	}
	var size intDigits
	for i := range len(s) {
		c := s[len(s)-1-i]
		if c < '0' || c > '9' {
			return integer{}, false
		}
		size[i] = c - '0'
	}
	return makeInteger(size, negative), true
}

func readIntegers(a string, b string) (integer, integer, bool) {
	x, first := readInteger(a)
	y, second := readInteger(b)
	return x, y, first && second
}

func makeInteger(size intDigits, negative bool) integer {
	return integer{size, negative && size != intDigits{}}
}

// text returns the integer as a text, and true; "" and false if it is too long.
func (x integer) text() (string, bool) {
	n := x.size.count()
	if n > MaxDigits {
		return "", false
	}
	var text []byte
	if x.negative {
		text = append(text, '-')
	}
	for i := n - 1; i >= 0; i-- {
		text = append(text, '0'+x.size[i])
	}
	return string(text), true
}

func (x integer) isZero() bool {
	return x.size == intDigits{}
}

func (x integer) opposite() integer {
	return makeInteger(x.size, !x.negative)
}

func (x integer) plus(y integer) integer {
	if x.negative == y.negative {
		return makeInteger(addDigits(x.size, y.size), x.negative)
	}
	if compareDigits(x.size, y.size) < 0 {
		return makeInteger(subtractDigits(y.size, x.size), y.negative)
	}
	return makeInteger(subtractDigits(x.size, y.size), x.negative)
}

func (x integer) times(y integer) integer {
	return makeInteger(multiplyDigits(x.size, y.size), x.negative != y.negative)
}

// dividedBy returns the quotient of x and y, which is not 0, rounded down, and the rest.
func (x integer) dividedBy(y integer) (integer, integer) {
	quotient, rest := divideDigits(x.size, y.size)
	opposed := x.negative != y.negative
	// Sizes are divided towards 0, so below 0 a rest means that the quotient is one further down.
	if opposed && rest != (intDigits{}) {
		quotient = addDigits(quotient, intDigits{1})
		rest = subtractDigits(y.size, rest)
	}
	return makeInteger(quotient, opposed), makeInteger(rest, y.negative)
}

// count returns the number of digits without leading zeros; 0 has one.
func (d intDigits) count() int {
	n := intWidth
	for n > 1 && d[n-1] == 0 {
		n--
	}
	return n
}

func compareDigits(a intDigits, b intDigits) int {
	if a == b {
		return 0
	}
	i := intWidth - 1
	for a[i] == b[i] {
		i--
	}
	if a[i] < b[i] {
		return -1
	}
	return 1
}

func addDigits(a intDigits, b intDigits) intDigits {
	var sum intDigits
	carry := uint8(0)
	for i := range intWidth {
		here := a[i] + b[i] + carry
		sum[i] = here % 10
		carry = here / 10
	}
	return sum
}

// subtractDigits returns a less b, which is not greater.
func subtractDigits(a intDigits, b intDigits) intDigits {
	var difference intDigits
	borrow := uint8(0)
	for i := range intWidth {
		here := 10 + a[i] - b[i] - borrow
		difference[i] = here % 10
		borrow = 1 - here/10
	}
	return difference
}

// multiplyDigits returns the product of a and b, both of at most MaxDigits digits.
func multiplyDigits(a intDigits, b intDigits) intDigits {
	var product intDigits
	for i := range a.count() {
		carry := uint8(0)
		for j := range MaxDigits {
			here := product[i+j] + a[i]*b[j] + carry
			product[i+j] = here % 10
			carry = here / 10
		}
		product[i+MaxDigits] = carry
	}
	return product
}

// divideDigits returns the quotient and the rest of a and b, which is not 0, both of at most MaxDigits digits.
func divideDigits(a intDigits, b intDigits) (intDigits, intDigits) {
	var quotient, rest intDigits
	for i := MaxDigits - 1; i >= 0; i-- {
		copy(rest[1:], rest[:])
		rest[0] = a[i]
		for compareDigits(rest, b) >= 0 {
			rest = subtractDigits(rest, b)
			quotient[i]++
		}
	}
	return quotient, rest
}

// rootDigits returns the greatest size whose square is not greater than a, of at most MaxDigits digits.
func rootDigits(a intDigits) intDigits {
	var root intDigits
	for i := (MaxDigits+1)/2 - 1; i >= 0; i-- {
		for root[i] < 9 {
			next := root
			next[i]++
			if compareDigits(multiplyDigits(next, next), a) > 0 {
				break
			}
			root = next
		}
	}
	return root
}
