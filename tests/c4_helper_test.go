package tests

import (
	"math"
	"math/rand"
	"slices"
	"testing"

	"loop.example/slowworm/impl"
)

// lastTag is greater than all tags of a list: tags go down from it, so that a sort that looks at them is seen.
const lastTag = 1000

// numbers returns n numbers, among which the greatest and the least one are, none of them twice.
func numbers(n int) []int {
	list := []int{7, math.MinInt, -3, math.MaxInt, 0, 1000001}
	for i := len(list); i < n; i++ {
		list = append(list, 100-i)
	}
	return list[:n]
}

// items returns items with the keys, each with a tag that tells its place.
func items(keys ...int) []impl.Item {
	var list []impl.Item
	for i, key := range keys {
		list = append(list, impl.Item{Key: key, Tag: lastTag - i})
	}
	return list
}

// placesOf returns the places that the tags of items tell.
func placesOf(list []impl.Item) []int {
	var places []int
	for _, item := range list {
		places = append(places, lastTag-item.Tag)
	}
	return places
}

func keysOfItems(list []impl.Item) []int {
	var keys []int
	for _, item := range list {
		keys = append(keys, item.Key)
	}
	return keys
}

// turnedList returns the elements from the last one to the first.
func turnedList[E any](list []E) []E {
	list = slices.Clone(list)
	slices.Reverse(list)
	return list
}

// eachListCut checks lists of numbers, of none to MaxList, with valid slices.
func eachListCut(t *testing.T, check func(list []int, c impl.Cut)) {
	t.Helper()
	eachCut(t, func(n int, c impl.Cut) { check(numbers(n), c) })
	for _, n := range []int{7, 8, 59, 60} {
		list := numbers(n)
		for _, step := range []int{1, -1, 2, -2, 3, -3, 7, -58, 59, -60, 61, impl.MaxIndex, -impl.MaxIndex} {
			for _, from := range []int{none, 0, 1, -1, 30, -31, 58, 59, 60, 61, -59, -60, -61, impl.MaxIndex} {
				for _, to := range []int{none, 0, 2, -1, 31, -30, 59, 60, -60, -61, -impl.MaxIndex} {
					check(list, cut(from, to, step))
				}
			}
		}
	}
}

// picked returns the elements at the places.
func picked(list []int, places []int) []int {
	var some []int
	for _, at := range places {
		some = append(some, list[at])
	}
	return some
}

// leftWanted returns the elements that a slice does not select.
func leftWanted(list []int, c impl.Cut) []int {
	gone := selected(len(list), c)
	var left []int
	for i, n := range list {
		if !slices.Contains(gone, i) {
			left = append(left, n)
		}
	}
	return left
}

// putWanted returns a list of at most MaxList numbers after news were put in place of what a valid slice selects.
func putWanted(list []int, c impl.Cut, news []int) ([]int, bool) {
	gone := selected(len(list), c)
	if c.Step != 1 {
		if len(news) != len(gone) {
			return nil, false
		}
		put := slices.Clone(list)
		for i, at := range gone {
			put[at] = news[i]
		}
		return put, true
	}
	at := min(max(fromEnd(c.From, len(list)), 0), len(list))
	var put []int
	put = append(put, list[:at]...)
	put = append(put, news...)
	for i, n := range list {
		if i >= at && !slices.Contains(gone, i) {
			put = append(put, n)
		}
	}
	if len(put) > 60 {
		return nil, false
	}
	return put, true
}

func fromEnd(bound int, n int) int {
	if bound < 0 {
		return bound + n
	}
	return bound
}

// leastWanted returns n divided by the least power of 2 that makes it less than 8, rounded up.
func leastWanted(n int) int {
	power := 1
	for n/power >= 8 {
		power *= 2
	}
	return (n + power - 1) / power
}

// runsWanted returns the runs of at most MaxList items. As equal keys end a run that goes down,
// each run is what it is made of, sorted in order.
func runsWanted(list []impl.Item) [][]impl.Item {
	least := leastWanted(len(list))
	var runs [][]impl.Item
	for len(list) > 0 {
		n := max(upwards(list), downwards(list), min(least, len(list)))
		runs = append(runs, sortedWanted(list[:n]))
		list = list[n:]
	}
	return runs
}

// upwards returns with how many items the longest run begins in which no key is less than the one before it.
func upwards(list []impl.Item) int {
	for i := 1; i < len(list); i++ {
		if list[i].Key < list[i-1].Key {
			return i
		}
	}
	return len(list)
}

// downwards returns with how many items the longest run begins in which every key is less than the one before it.
func downwards(list []impl.Item) int {
	for i := 1; i < len(list); i++ {
		if list[i].Key >= list[i-1].Key {
			return i
		}
	}
	return len(list)
}

func sortedWanted(list []impl.Item) []impl.Item {
	list = slices.Clone(list)
	slices.SortStableFunc(list, func(a impl.Item, b impl.Item) int {
		if a.Key < b.Key {
			return -1
		}
		if a.Key > b.Key {
			return 1
		}
		return 0
	})
	return list
}

// planWanted returns the merges of valid lengths, and how many of them each rule of the stack asks for:
// A <= B + C, with A < C and otherwise, Z <= A + B alone, B <= C, and that there is nothing more.
func planWanted(lengths []int) ([][]int, [5]int) {
	var stack []int
	var plan [][]int
	var rules [5]int
	merge := func(rule int, at int) {
		plan = append(plan, []int{at, stack[at], stack[at+1]})
		stack = slices.Concat(stack[:at], []int{stack[at] + stack[at+1]}, stack[at+2:])
		rules[rule]++
	}
	for {
		n := len(stack)
		var top [4]int
		for i := range min(n, 4) {
			top[i] = stack[n-1-i]
		}
		c, b, a, z := top[0], top[1], top[2], top[3]
		switch {
		case n >= 3 && a <= b+c && a < c:
			merge(0, n-3)
		case n >= 3 && a <= b+c:
			merge(1, n-2)
		case n >= 4 && z <= a+b:
			merge(2, n-2)
		case n >= 2 && b <= c:
			merge(3, n-2)
		case len(lengths) > 0:
			stack, lengths = append(stack, lengths[0]), lengths[1:]
		case n >= 2:
			merge(4, n-2)
		default:
			return plan, rules
		}
	}
}

// lengthLists returns lists of lengths of runs: all short ones of small numbers, and long ones that follow a rule.
func lengthLists() [][]int {
	lists := allLists(5, 6)
	r := rand.New(rand.NewSource(5))
	for n := range 61 {
		for _, most := range []int{1, 2, 3, 10, 60, 1000, impl.MaxIndex} {
			list := make([]int, n)
			for i := range list {
				list[i] = 1 + r.Intn(most)
			}
			ordered := slices.Sorted(slices.Values(list))
			lists = append(lists, list, ordered, turnedList(ordered))
		}
		lists = append(lists, slices.Repeat([]int{impl.MaxIndex}, n))
	}
	for range 500 {
		lists = append(lists, lengthsOfRules(r))
	}
	return lists
}

// lengthsOfRules returns lengths of which Z, A and B keep the rules of the stack until B is merged with C, as D is greater:
// then only Z <= A + B is broken, or kept just so.
func lengthsOfRules(r *rand.Rand) []int {
	c := 1 + r.Intn(20)
	b := c + 1 + r.Intn(10)
	d := b + 1 + r.Intn(10)
	a := b + c + d + 1 + r.Intn(10)
	z := a + b + 1 + r.Intn(c+1)
	lengths := []int{z, a, b, c, d}
	for range r.Intn(5) {
		lengths = slices.Insert(lengths, 0, lengths[0]+lengths[1]+r.Intn(5)-1)
	}
	for range r.Intn(5) {
		lengths = append(lengths, 1+r.Intn(lengths[len(lengths)-1]))
	}
	return lengths
}

// allLists returns all lists of at most n of the numbers from 1 to most.
func allLists(n int, most int) [][]int {
	lists := [][]int{nil}
	last := lists
	for range n {
		var longer [][]int
		for _, list := range last {
			for i := range most {
				longer = append(longer, append(slices.Clone(list), 1+i))
			}
		}
		lists = append(lists, longer...)
		last = longer
	}
	return lists
}

// itemLists returns lists of items of all lengths: all short ones with few keys, and ordered and mixed ones.
func itemLists() [][]impl.Item {
	var lists [][]impl.Item
	for _, keys := range allLists(6, 3) {
		lists = append(lists, items(keys...))
	}
	for _, keys := range allLists(9, 2) {
		lists = append(lists, items(keys...))
	}
	r := rand.New(rand.NewSource(6))
	for n := range 61 {
		for _, rule := range keyRules(r) {
			keys := make([]int, n)
			for i := range keys {
				keys[i] = rule(i)
			}
			lists = append(lists, items(keys...), items(turnedList(keys)...))
		}
		for range 4 {
			lists = append(lists, items(keysInRuns(r, n)...))
		}
	}
	return lists
}

// keyRules returns the keys by their places: ascending, with equal ones, in waves, the least and the greatest, and mixed.
func keyRules(r *rand.Rand) []func(i int) int {
	return []func(i int) int{
		func(i int) int { return i },
		func(i int) int { return i / 2 },
		func(i int) int { return i / 5 },
		func(i int) int { return 4 },
		func(i int) int { return i % 3 },
		func(i int) int { return i % 9 },
		func(i int) int { return min(i%14, 14-i%14) },
		func(i int) int { return []int{math.MaxInt, math.MinInt, 0, -1}[i%4] },
		func(i int) int { return i / 4 * 4 * (i % 2) },
		func(int) int { return r.Intn(2) },
		func(int) int { return r.Intn(6) },
		func(int) int { return r.Intn(1000) - 500 },
		func(int) int { return int(r.Uint64()) },
	}
}

// keysInRuns returns keys that go up, stay, or go down for some places each.
func keysInRuns(r *rand.Rand, n int) []int {
	var keys []int
	for len(keys) < n {
		key, step := r.Intn(40), r.Intn(3)-1
		for range 1 + r.Intn(20) {
			keys = append(keys, key)
			key += step * (1 + r.Intn(3))
		}
	}
	return keys[:n]
}

// roomLists returns lists of lengths that a list has one after the other.
func roomLists() [][]int {
	r := rand.New(rand.NewSource(7))
	lists := [][]int{nil, make([]int, 60)}
	for range 300 {
		var list []int
		n := r.Intn(20)
		for range r.Intn(61) {
			list = append(list, n)
			switch r.Intn(6) {
			case 0:
				n = r.Intn(1 << r.Intn(20))
			case 1:
				n /= 2
			case 2:
				n = min(2*n, impl.MaxIndex)
			case 3:
				n = max(n-1, 0)
			default:
				n = min(n+1+r.Intn(3), impl.MaxIndex)
			}
		}
		lists = append(lists, list)
	}
	return lists
}

// equalRuns reports whether lists of lists are the same.
func equalRuns[E comparable](a [][]E, b [][]E) bool {
	return slices.EqualFunc(a, b, func(x []E, y []E) bool { return slices.Equal(x, y) })
}

// copiedRuns returns a copy of lists that shares nothing with them.
func copiedRuns[E any](lists [][]E) [][]E {
	var all [][]E
	for _, list := range lists {
		all = append(all, slices.Clone(list))
	}
	return all
}

// putBack returns the list that numbers that must fit make in place of what a slice selects.
func putBack(t *testing.T, list []int, c impl.Cut, news []int) []int {
	t.Helper()
	put, ok := impl.ListPutCut(list, c, news)
	if !ok {
		t.Fatalf("ListPutCut(%v, %+v, %v) is not there", list, c, news)
	}
	return put
}

// badLengths are numbers that are no length.
func badLengths() []int {
	return []int{-1, -2, impl.MaxIndex + 1, math.MinInt, math.MaxInt, math.MinInt + 1, -impl.MaxIndex}
}

// TestHelpersOfLists checks that the lists of the tests have what the tests are for.
func TestHelpersOfLists(t *testing.T) {
	var asked [5]int
	for _, list := range lengthLists() {
		_, rules := planWanted(list)
		for i, n := range rules {
			asked[i] += n
		}
	}
	for i, n := range asked {
		if n < 100 {
			t.Errorf("rule %d asks for %d merges", i, n)
		}
	}
	shortFirst, shortLast, down, equal := 0, 0, 0, 0
	for _, list := range itemLists() {
		runs := runsWanted(list)
		if len(runs) < 2 {
			continue
		}
		least := leastWanted(len(list))
		if max(upwards(list), downwards(list)) < least {
			shortFirst++
		}
		if len(runs[len(runs)-1]) < least {
			shortLast++
		}
		if downwards(list) >= least {
			down++
		}
		if len(list) > 8 && list[0].Key > list[1].Key && list[1].Key == list[2].Key {
			equal++
		}
	}
	if min(shortFirst, shortLast, down, equal) < 50 {
		t.Errorf("runs that are short first %d, last %d, that go down %d, with equal keys %d", shortFirst, shortLast, down, equal)
	}
	for _, list := range itemLists() {
		if len(list) > 60 || !slices.Equal(placesOf(list), upTo(0, len(list))) {
			t.Errorf("%v has wrong places", list)
		}
	}
	all := slices.Sorted(slices.Values(numbers(61)))
	if len(slices.Compact(all)) != 61 || len(itemLists()) < 2000 || len(roomLists()) < 300 {
		t.Error("a number is there twice, or there are too few lists")
	}
}
