package tests

import (
	"math"
	"slices"
	"testing"

	"loop.example/slowworm/impl"
)

func TestLimitsOfLists(t *testing.T) {
	if impl.MaxList != 60 || impl.RunBase != 8 {
		t.Errorf("MaxList = %d, RunBase = %d", impl.MaxList, impl.RunBase)
	}
}

func TestListRoom(t *testing.T) {
	for _, c := range []struct{ n, want int }{
		{0, 0}, {1, 4}, {2, 8}, {3, 8}, {4, 8}, {5, 8}, {6, 12}, {7, 12}, {8, 12}, {9, 16}, {10, 16}, {15, 20}, {16, 24}, {17, 24},
		{60, 72}, {999999, 1125004}, {1000000, 1125004}, {1000001, -1}, {-1, -1}, {-4, -1}, {-1000000, -1}, {math.MinInt, -1}, {math.MaxInt, -1},
	} {
		if room := impl.ListRoom(c.n); room != c.want {
			t.Errorf("ListRoom(%d) = %d, want %d", c.n, room, c.want)
		}
	}
	for n := 1; n <= impl.MaxIndex; n++ {
		room, full := impl.ListRoom(n), n+n/8+6
		if room%4 != 0 || room > full || room+4 <= full {
			t.Fatalf("ListRoom(%d) = %d of %d", n, room, full)
		}
	}
}

func TestRoomsOf(t *testing.T) {
	for _, c := range []struct{ lengths, want []int }{
		{nil, nil}, {[]int{}, nil}, {[]int{0}, []int{0}}, {[]int{0, 0, 1}, []int{0, 0, 4}}, {[]int{1, 5, 3}, []int{4, 8, 8}},
		{[]int{1, 4, 5, 8, 9}, []int{4, 4, 8, 8, 16}},
		{[]int{9, 16, 8, 7, 6, 5, 4, 3, 3, 2, 1, 2, 0, 0, 1}, []int{16, 16, 16, 12, 12, 8, 8, 8, 8, 8, 4, 4, 0, 0, 4}},
		{[]int{9, 8, 9, 16, 17, 12, 11}, []int{16, 16, 16, 16, 24, 24, 16}}, {[]int{9, 0, 9}, []int{16, 0, 16}}, {[]int{9, 1, 9}, []int{16, 4, 16}},
		{[]int{1000000, 562502, 562501, 0, 1000000}, []int{1125004, 1125004, 632816, 0, 1125004}},
		{[]int{1, 1000000, 1}, []int{4, 1125004, 4}},
		{make([]int, 60), make([]int, 60)}, {make([]int, 61), nil}, {make([]int, 100000), nil},
	} {
		if rooms := impl.RoomsOf(c.lengths); !slices.Equal(rooms, c.want) {
			t.Errorf("RoomsOf(%.70v) = %v, want %v", c.lengths, rooms, c.want)
		}
	}
	for _, lengths := range roomLists() {
		rooms := impl.RoomsOf(lengths)
		if len(rooms) != len(lengths) {
			t.Fatalf("RoomsOf(%v) = %v", lengths, rooms)
		}
		before := 0
		for i, n := range lengths {
			want := before
			if n > before || 2*n < before {
				want = impl.ListRoom(n)
			}
			if rooms[i] != want {
				t.Errorf("RoomsOf(%v) = %v, but room %d is %d", lengths, rooms, i, want)
			}
			before = want
		}
	}
}

func TestRoomsOfNoLengths(t *testing.T) {
	for _, bad := range badLengths() {
		for n := range 5 {
			for i := range n {
				lengths := []int{1, 5, 3, 0}[:n]
				lengths[i] = bad
				if rooms := impl.RoomsOf(lengths); len(rooms) != 0 {
					t.Errorf("RoomsOf(%v) = %v", lengths, rooms)
				}
			}
		}
		last := make([]int, 60)
		last[59] = bad
		if rooms := impl.RoomsOf(last); len(rooms) != 0 {
			t.Errorf("RoomsOf of 60 lengths with %d = %v", bad, rooms)
		}
	}
}

func TestListCut(t *testing.T) {
	const most = impl.MaxIndex
	five := []int{10, 11, 12, 13, 14}
	for _, c := range []struct {
		from, to, step int
		want           []int
	}{
		{none, none, 1, five}, {none, none, -1, []int{14, 13, 12, 11, 10}}, {none, none, 2, []int{10, 12, 14}}, {none, none, -2, []int{14, 12, 10}},
		{1, none, 1, five[1:]}, {none, 3, 1, five[:3]}, {1, 3, 1, []int{11, 12}}, {3, 1, -1, []int{13, 12}}, {1, -1, 2, []int{11, 13}},
		{-2, none, 1, five[3:]}, {none, -2, 1, five[:3]}, {-2, none, -2, []int{13, 11}}, {none, -3, -1, []int{14, 13}}, {none, 0, -1, []int{14, 13, 12, 11}},
		{2, 3, 1, five[2:3]}, {2, 1, -1, five[2:3]}, {0, none, -1, five[:1]}, {-1, none, 1, five[4:]}, {none, none, 5, five[:1]}, {none, none, -most, five[4:]},
		{2, 2, 1, nil}, {3, 1, 1, nil}, {1, 3, -1, nil}, {5, none, 1, nil}, {-6, none, -1, nil}, {none, 0, 1, nil}, {none, -1, -1, nil}, {most, none, 1, nil},
		{-most, most, 1, five}, {most, -most, -1, []int{14, 13, 12, 11, 10}}, {none, none, 4, []int{10, 14}}, {none, none, most, five[:1]},
	} {
		if list := impl.ListCut(five, cut(c.from, c.to, c.step)); !slices.Equal(list, c.want) {
			t.Errorf("ListCut by %v = %v", c, list)
		}
	}
	eachListCut(t, func(list []int, c impl.Cut) {
		if part := impl.ListCut(list, c); !slices.Equal(part, picked(list, selected(len(list), c))) {
			t.Errorf("ListCut(%v, %+v) = %v", list, c, part)
		}
	})
}

func TestListDropCut(t *testing.T) {
	const most = impl.MaxIndex
	five := []int{10, 11, 12, 13, 14}
	for _, c := range []struct {
		from, to, step int
		want           []int
	}{
		{none, none, 1, nil}, {none, none, -1, nil}, {none, none, 2, []int{11, 13}}, {none, none, -2, []int{11, 13}}, {1, none, 2, []int{10, 12, 14}},
		{1, 3, 1, []int{10, 13, 14}}, {2, none, 1, []int{10, 11}}, {none, 2, 1, []int{12, 13, 14}}, {2, 3, 1, []int{10, 11, 13, 14}},
		{3, 1, -1, []int{10, 11, 14}}, {3, none, -2, []int{10, 12, 14}}, {none, none, -3, []int{10, 12, 13}}, {none, none, 3, []int{11, 12, 14}},
		{2, none, -1, []int{13, 14}}, {none, 2, -1, []int{10, 11, 12}}, {-2, none, 1, []int{10, 11, 12}}, {none, none, -most, five[:4]}, {none, none, most, five[1:]},
		{2, 2, 1, five}, {3, 1, 1, five}, {1, 3, -1, five}, {5, none, 1, five}, {-6, none, -1, five}, {none, -most, 1, five}, {most, none, 2, five},
	} {
		if list := impl.ListDropCut(five, cut(c.from, c.to, c.step)); !slices.Equal(list, c.want) {
			t.Errorf("ListDropCut by %v = %v", c, list)
		}
	}
	// Elements that are equal are told apart by their places.
	if list := impl.ListDropCut([]int{1, 1, 2, 1, 2}, cut(1, none, 2)); !slices.Equal(list, []int{1, 2, 2}) {
		t.Errorf("ListDropCut of equal numbers = %v", list)
	}
	eachListCut(t, func(list []int, c impl.Cut) {
		if left := impl.ListDropCut(list, c); !slices.Equal(left, leftWanted(list, c)) {
			t.Errorf("ListDropCut(%v, %+v) = %v", list, c, left)
		}
	})
}

func TestListPutCut(t *testing.T) {
	const most = impl.MaxIndex
	five := []int{1, 2, 3, 4, 5}
	for _, c := range []struct {
		from, to, step int
		news, want     []int
		ok             bool
	}{
		{1, 3, 1, []int{9, 8, 7}, []int{1, 9, 8, 7, 4, 5}, true}, {1, 3, 1, []int{9}, []int{1, 9, 4, 5}, true}, {1, 3, 1, []int{9, 8}, []int{1, 9, 8, 4, 5}, true},
		{1, 3, 1, nil, []int{1, 4, 5}, true}, {none, none, 1, nil, nil, true}, {none, none, 1, []int{9}, []int{9}, true}, {-2, none, 1, []int{9}, []int{1, 2, 3, 9}, true},
		{none, -3, 1, []int{9, 8, 7}, []int{9, 8, 7, 3, 4, 5}, true}, {-most, most, 1, five, five, true},
		{2, 2, 1, []int{9, 8}, []int{1, 2, 9, 8, 3, 4, 5}, true}, {2, 2, 1, nil, five, true}, {3, 1, 1, []int{9}, []int{1, 2, 3, 9, 4, 5}, true}, {3, 1, 1, nil, five, true},
		{-1, 1, 1, []int{9}, []int{1, 2, 3, 4, 9, 5}, true}, {5, none, 1, []int{9}, []int{1, 2, 3, 4, 5, 9}, true}, {most, none, 1, []int{9}, []int{1, 2, 3, 4, 5, 9}, true},
		{-most, 0, 1, []int{9}, []int{9, 1, 2, 3, 4, 5}, true}, {none, 0, 1, []int{9}, []int{9, 1, 2, 3, 4, 5}, true}, {none, -most, 1, []int{9}, []int{9, 1, 2, 3, 4, 5}, true},
		{none, none, 2, []int{9, 8, 7}, []int{9, 2, 8, 4, 7}, true}, {none, none, 2, []int{9, 8}, nil, false}, {none, none, 2, []int{9, 8, 7, 6}, nil, false}, {none, none, 2, nil, nil, false},
		{1, none, 3, []int{9, 8}, []int{1, 9, 3, 4, 8}, true}, {2, 2, 2, nil, five, true}, {2, 2, 2, []int{9}, nil, false}, {none, none, most, []int{9}, []int{9, 2, 3, 4, 5}, true},
		{none, none, -1, []int{9, 8, 7, 6, 0}, []int{0, 6, 7, 8, 9}, true}, {none, none, -2, []int{9, 8, 7}, []int{7, 2, 8, 4, 9}, true}, {3, 1, -1, []int{9, 8}, []int{1, 2, 8, 9, 5}, true},
		{3, 1, -1, []int{9}, nil, false}, {3, 1, -1, []int{9, 8, 7}, nil, false}, {3, 1, -1, nil, nil, false}, {1, 3, -1, nil, five, true}, {1, 3, -1, []int{9}, nil, false},
		{none, none, -1, nil, nil, false}, {none, none, -most, []int{9}, []int{1, 2, 3, 4, 9}, true},
	} {
		if list, ok := impl.ListPutCut(five, cut(c.from, c.to, c.step), c.news); ok != c.ok || !slices.Equal(list, c.want) {
			t.Errorf("ListPutCut of %v = %v, %t", c, list, ok)
		}
	}
	eachListCut(t, func(list []int, c impl.Cut) {
		n := len(selected(len(list), c))
		for _, k := range []int{0, 1, n - 1, n, n + 1, 60 - len(list) + n, 61 - len(list) + n} {
			news := upTo(0, k)
			want, there := putWanted(list, c, news)
			if put, ok := impl.ListPutCut(list, c, news); ok != there || !slices.Equal(put, want) {
				t.Errorf("ListPutCut(%v, %+v, %v) = %v, %t", list, c, news, put, ok)
			}
		}
	})
}

// TestListPutCutOfMaxList has results of MaxList numbers, and of one more.
func TestListPutCutOfMaxList(t *testing.T) {
	for _, c := range []struct {
		n, from, to, news int
		ok                bool
	}{
		{60, 60, none, 0, true}, {60, 60, none, 1, false}, {60, 0, 0, 1, false}, {60, 0, 1, 1, true}, {60, 0, 1, 2, false}, {60, none, none, 60, true}, {60, none, none, 61, false},
		{59, 59, none, 1, true}, {59, 59, none, 2, false}, {59, 30, 30, 1, true}, {59, 30, 30, 2, false}, {59, 30, 31, 2, true}, {59, 30, 31, 3, false},
		{0, none, none, 60, true}, {0, none, none, 61, false}, {1, none, none, 60, true}, {1, none, none, 61, false}, {60, 20, 40, 20, true}, {60, 20, 40, 21, false},
		{0, none, none, 1000000, false}, {60, none, none, 1000000, false},
	} {
		put, ok := impl.ListPutCut(numbers(c.n), cut(c.from, c.to, 1), upTo(0, c.news))
		want, _ := putWanted(numbers(c.n), cut(c.from, c.to, 1), upTo(0, c.news))
		if ok != c.ok || !slices.Equal(put, want) {
			t.Errorf("ListPutCut of %v = %v, %t", c, put, ok)
		}
	}
	for _, step := range []int{-1, 2, -2} {
		places := selected(60, cut(none, none, step))
		for _, n := range []int{0, 1, len(places) - 1, len(places), len(places) + 1, 60, 61, 1000000} {
			if put, ok := impl.ListPutCut(numbers(60), cut(none, none, step), upTo(0, n)); ok != (n == len(places)) || ok && len(put) != 60 || !ok && len(put) != 0 {
				t.Errorf("ListPutCut of %d numbers into 60 by %d = %v, %t", n, step, put, ok)
			}
		}
	}
}

func TestSlicesOfListsThatAreNotValid(t *testing.T) {
	check := func(list []int, c impl.Cut) {
		t.Helper()
		if part := impl.ListCut(list, c); len(part) != 0 {
			t.Errorf("ListCut(%.70v, %+v) = %v", list, c, part)
		}
		if left := impl.ListDropCut(list, c); len(left) != 0 {
			t.Errorf("ListDropCut(%.70v, %+v) = %v", list, c, left)
		}
		for _, n := range []int{0, 1, 2, 5, 30, 31, 60, 61} {
			if put, ok := impl.ListPutCut(list, c, upTo(0, n)); ok || len(put) != 0 {
				t.Errorf("ListPutCut(%.70v, %+v) of %d = %v, %t", list, c, n, put, ok)
			}
		}
	}
	for _, c := range badCuts() {
		for _, n := range []int{0, 1, 5, 60, 61} {
			check(numbers(n), c)
		}
	}
	for _, n := range []int{61, 62, 100000} {
		for _, c := range []impl.Cut{cut(none, none, 1), cut(none, none, -1), cut(none, none, 2), cut(0, 1, 1), cut(0, 0, 1), cut(0, 0, 2), cut(5, none, 1), cut(none, none, impl.MaxIndex)} {
			check(numbers(n), c)
		}
	}
}

func TestRunLeast(t *testing.T) {
	for _, c := range []struct{ n, want int }{
		{0, 0}, {1, 1}, {2, 2}, {3, 3}, {4, 4}, {5, 5}, {6, 6}, {7, 7}, {8, 4}, {9, 5}, {10, 5}, {11, 6}, {12, 6}, {13, 7}, {14, 7}, {15, 8}, {16, 4}, {17, 5},
		{31, 8}, {32, 4}, {33, 5}, {59, 8}, {60, 8}, {63, 8}, {64, 4}, {65, 5}, {127, 8}, {128, 4}, {129, 5},
		{524287, 8}, {524288, 4}, {524289, 5}, {999999, 8}, {1000000, 8}, {1000001, -1}, {-1, -1}, {-8, -1}, {-1000000, -1}, {math.MinInt, -1}, {math.MaxInt, -1},
	} {
		if least := impl.RunLeast(c.n); least != c.want {
			t.Errorf("RunLeast(%d) = %d, want %d", c.n, least, c.want)
		}
	}
	for n := range impl.MaxIndex + 1 {
		if least := impl.RunLeast(n); least != leastWanted(n) {
			t.Fatalf("RunLeast(%d) = %d, want %d", n, least, leastWanted(n))
		}
	}
}

// TestRunsOf has keys, and the places that the items of each run had.
func TestRunsOf(t *testing.T) {
	const low, high = math.MinInt, math.MaxInt
	for _, c := range []struct {
		keys []int
		runs [][]int
	}{
		{nil, nil}, {[]int{5}, [][]int{{0}}}, {[]int{1, 1}, [][]int{{0, 1}}}, {[]int{2, 1}, [][]int{{1, 0}}}, {[]int{1, 2}, [][]int{{0, 1}}},
		{[]int{3, 1, 2}, [][]int{{1, 2, 0}}}, {[]int{2, 2, 1}, [][]int{{2, 0, 1}}}, {[]int{2, 1, 1}, [][]int{{1, 2, 0}}}, {[]int{5, 1, 2, 3, 9, 10, 11}, [][]int{{1, 2, 3, 0, 4, 5, 6}}},
		// From 8 items on a run has at least 4, from 9 on at least 5.
		{[]int{1, 1, 2, 2, 2, 3, 5, 5}, [][]int{{0, 1, 2, 3, 4, 5, 6, 7}}}, {[]int{8, 7, 6, 5, 4, 3, 2, 1}, [][]int{{7, 6, 5, 4, 3, 2, 1, 0}}},
		{[]int{4, 4, 3, 3, 2, 2, 1, 1}, [][]int{{2, 3, 0, 1}, {6, 7, 4, 5}}}, {[]int{5, 4, 4, 3, 9, 9, 9, 8}, [][]int{{3, 1, 2, 0}, {7, 4, 5, 6}}},
		{[]int{5, 4, 3, 2, 2, 1, 0, 9}, [][]int{{3, 2, 1, 0}, {6, 5, 4, 7}}},
		{[]int{5, 1, 2, 3, 9, 10, 11, 12}, [][]int{{1, 2, 3, 0}, {4, 5, 6, 7}}}, {[]int{1, 2, 3, 4, 5, 0, 0, 0}, [][]int{{0, 1, 2, 3, 4}, {5, 6, 7}}},
		{[]int{1, 2, 3, 4, 5, 3, 2, 1}, [][]int{{0, 1, 2, 3, 4}, {7, 6, 5}}}, {[]int{1, 2, 3, 4, 5, 6, 7, 0}, [][]int{{0, 1, 2, 3, 4, 5, 6}, {7}}},
		{[]int{1, 2, 3, 4, 0, 1, 2, 3}, [][]int{{0, 1, 2, 3}, {4, 5, 6, 7}}}, {[]int{2, 1, 3, 0, 4, 9, 8, 7, 7}, [][]int{{3, 1, 0, 2, 4}, {7, 8, 6, 5}}},
		{[]int{5, 5, 1, 5, 1, 5, 1, 5}, [][]int{{2, 0, 1, 3}, {4, 6, 5, 7}}}, {[]int{7, 0, 0, 0, 0, 0, 0, 0}, [][]int{{1, 2, 3, 0}, {4, 5, 6, 7}}},
		{[]int{high, low, high, low, low, high, 0, -1}, [][]int{{1, 3, 0, 2}, {4, 7, 6, 5}}},
	} {
		var runs [][]int
		for _, run := range impl.RunsOf(items(c.keys...)) {
			runs = append(runs, placesOf(run))
		}
		if !equalRuns(runs, c.runs) {
			t.Errorf("RunsOf(%v) has the places %v, want %v", c.keys, runs, c.runs)
		}
	}
	for _, list := range itemLists() {
		if runs := impl.RunsOf(list); !equalRuns(runs, runsWanted(list)) {
			t.Errorf("RunsOf(%v) = %v, want %v", list, runs, runsWanted(list))
		}
	}
}

// TestItemsOfMaxList has MaxList items, and one more.
func TestItemsOfMaxList(t *testing.T) {
	up, down := upTo(0, 60), turnedList(upTo(0, 60))
	for _, keys := range [][]int{up, down, make([]int, 60)} {
		runs, list := impl.RunsOf(items(keys...)), impl.SortItems(items(keys...))
		if len(runs) != 1 || len(runs[0]) != 60 || !slices.Equal(list, runs[0]) {
			t.Errorf("RunsOf(%v) = %v, SortItems = %v", keys, runs, list)
		}
	}
	for _, keys := range [][]int{upTo(0, 61), turnedList(upTo(0, 61)), make([]int, 61), make([]int, 62), make([]int, 100000)} {
		if runs, list := impl.RunsOf(items(keys...)), impl.SortItems(items(keys...)); len(runs) != 0 || len(list) != 0 {
			t.Errorf("RunsOf of %d items = %v, SortItems = %v", len(keys), runs, list)
		}
	}
	// A mixed list of MaxList items has runs of 8, the last one of 4.
	var mixed []int
	for i := range 60 {
		mixed = append(mixed, i*7%4)
	}
	var lengths []int
	for _, run := range impl.RunsOf(items(mixed...)) {
		lengths = append(lengths, len(run))
	}
	if !slices.Equal(lengths, []int{8, 8, 8, 8, 8, 8, 8, 4}) {
		t.Errorf("RunsOf(%v) has the lengths %v", mixed, lengths)
	}
}

func TestMergePlan(t *testing.T) {
	const most = impl.MaxIndex
	for _, c := range []struct {
		lengths []int
		want    [][]int
	}{
		{nil, nil}, {[]int{1}, nil}, {[]int{most}, nil}, {[]int{1, 1}, [][]int{{0, 1, 1}}}, {[]int{2, 1}, [][]int{{0, 2, 1}}}, {[]int{1, 2}, [][]int{{0, 1, 2}}},
		// B <= C at the top.
		{[]int{3, 1, 1}, [][]int{{1, 1, 1}, {0, 3, 2}}}, {[]int{4, 1, 2}, [][]int{{1, 1, 2}, {0, 4, 3}}}, {[]int{1, 1, 1}, [][]int{{0, 1, 1}, {0, 2, 1}}},
		// A <= B + C at the top, with A >= C and with A < C.
		{[]int{2, 1, 1}, [][]int{{1, 1, 1}, {0, 2, 2}}}, {[]int{3, 2, 1}, [][]int{{1, 2, 1}, {0, 3, 3}}}, {[]int{4, 2, 1}, [][]int{{1, 2, 1}, {0, 4, 3}}},
		{[]int{3, 2, 3}, [][]int{{1, 2, 3}, {0, 3, 5}}}, {[]int{3, 2, 4}, [][]int{{0, 3, 2}, {0, 5, 4}}}, {[]int{3, 2, 9}, [][]int{{0, 3, 2}, {0, 5, 9}}},
		{[]int{9, 3, 2, 4}, [][]int{{1, 3, 2}, {1, 5, 4}, {0, 9, 9}}}, {[]int{20, 3, 2, 4}, [][]int{{1, 3, 2}, {1, 5, 4}, {0, 20, 9}}},
		// Z <= A + B below the top, where A > B + C.
		{[]int{120, 80, 25, 20, 30}, [][]int{{2, 25, 20}, {2, 45, 30}, {1, 80, 75}, {0, 120, 155}}},
		{[]int{125, 80, 25, 20, 30, 1}, [][]int{{2, 25, 20}, {2, 45, 30}, {1, 80, 75}, {0, 125, 155}, {0, 280, 1}}},
		{[]int{126, 80, 25, 20, 30, 1}, [][]int{{2, 25, 20}, {3, 30, 1}, {2, 45, 31}, {1, 80, 76}, {0, 126, 156}}},
		{[]int{500, 120, 80, 25, 20, 30}, [][]int{{3, 25, 20}, {3, 45, 30}, {2, 80, 75}, {1, 120, 155}, {0, 500, 275}}},
		// Nothing is merged ahead of the end.
		{[]int{16, 8, 4, 2, 1}, [][]int{{3, 2, 1}, {2, 4, 3}, {1, 8, 7}, {0, 16, 15}}},
		{[]int{1, 2, 4, 8}, [][]int{{0, 1, 2}, {0, 3, 4}, {0, 7, 8}}}, {[]int{1, 1, 1, 1}, [][]int{{0, 1, 1}, {1, 1, 1}, {0, 2, 2}}},
		{[]int{most, most}, [][]int{{0, most, most}}}, {[]int{most, most, most}, [][]int{{0, most, most}, {0, 2 * most, most}}}, {[]int{most, 1}, [][]int{{0, most, 1}}},
	} {
		if plan := impl.MergePlan(c.lengths); !equalRuns(plan, c.want) {
			t.Errorf("MergePlan(%v) = %v, want %v", c.lengths, plan, c.want)
		}
	}
	for _, lengths := range lengthLists() {
		want, _ := planWanted(lengths)
		if plan := impl.MergePlan(lengths); !equalRuns(plan, want) {
			t.Errorf("MergePlan(%v) = %v, want %v", lengths, plan, want)
		}
	}
}

func TestMergePlanOfNoLengths(t *testing.T) {
	for _, bad := range append(badLengths(), 0) {
		for n := range 6 {
			for i := range n {
				lengths := []int{4, 1, 5, 1, 1}[:n]
				lengths[i] = bad
				if plan := impl.MergePlan(lengths); len(plan) != 0 {
					t.Errorf("MergePlan(%v) = %v", lengths, plan)
				}
			}
		}
		last := slices.Repeat([]int{1}, 60)
		last[59] = bad
		if plan := impl.MergePlan(last); len(plan) != 0 {
			t.Errorf("MergePlan of 60 lengths with %d = %v", bad, plan)
		}
	}
	for _, n := range []int{61, 62, 100000} {
		if plan := impl.MergePlan(slices.Repeat([]int{1}, n)); len(plan) != 0 {
			t.Errorf("MergePlan of %d lengths = %v", n, plan)
		}
	}
	if plan := impl.MergePlan(slices.Repeat([]int{1}, 60)); len(plan) != 59 {
		t.Errorf("MergePlan of 60 lengths = %v", plan)
	}
}

func TestSortItems(t *testing.T) {
	for _, c := range []struct{ keys, places []int }{
		{nil, nil}, {[]int{5}, []int{0}}, {[]int{3, 1, 3, 1}, []int{1, 3, 0, 2}}, {[]int{2, 1, 2, 1, 2}, []int{1, 3, 0, 2, 4}},
		{[]int{4, 4, 3, 3, 2, 2, 1, 1}, []int{6, 7, 4, 5, 2, 3, 0, 1}}, {[]int{1, 1, 1, 1, 0, 0, 0, 0, 1}, []int{4, 5, 6, 7, 0, 1, 2, 3, 8}},
		{[]int{math.MaxInt, math.MinInt, 0, math.MaxInt, -1, math.MinInt, 1, 0}, []int{1, 5, 4, 2, 7, 6, 0, 3}},
	} {
		if list := impl.SortItems(items(c.keys...)); !slices.Equal(placesOf(list), c.places) {
			t.Errorf("SortItems(%v) has the places %v, want %v", c.keys, placesOf(list), c.places)
		}
	}
	for _, list := range itemLists() {
		if got := impl.SortItems(list); !slices.Equal(got, sortedWanted(list)) {
			t.Errorf("SortItems(%v) = %v", list, got)
		}
	}
	// Tags are not looked at, so items may be the same all through.
	same := slices.Repeat([]impl.Item{{Key: 2, Tag: 1}, {Key: 1, Tag: 1}}, 30)
	if list := impl.SortItems(same); !slices.Equal(list, sortedWanted(same)) {
		t.Errorf("SortItems(%v) = %v", same, list)
	}
}

// withRoom returns the elements with room for more, in which there are marks, and all of them together.
func withRoom[E any](list []E, mark E) ([]E, []E) {
	all := append(slices.Clone(list), mark, mark, mark)
	return all[:len(list)], all
}

// mark writes over all that a list has room for.
func mark[E any](list []E, with E) {
	room := list[:cap(list)]
	for i := range room {
		room[i] = with
	}
}

func TestListsAreNotChangedNorShared(t *testing.T) {
	for _, n := range []int{0, 1, 2, 5, 8, 59, 60, 61} {
		list, all := withRoom(numbers(n), 55)
		before := slices.Clone(all)
		for _, c := range []impl.Cut{cut(none, none, 1), cut(none, none, -1), cut(none, none, 2), cut(0, 0, 1), cut(n, none, 1), cut(n, none, 2), cut(1, -1, 1), {}} {
			_, count := impl.CutRange(n, c)
			news, allNews := withRoom(upTo(0, count), 66)
			put, _ := impl.ListPutCut(list, c, news)
			inserted, _ := impl.ListPutCut(list, cut(n, none, 1), nil)
			replaced, _ := impl.ListPutCut(list, cut(none, none, 1), news)
			for _, result := range [][]int{impl.ListCut(list, c), impl.ListDropCut(list, c), put, inserted, replaced} {
				mark(result, 77)
				if !slices.Equal(all, before) || !slices.Equal(allNews, append(upTo(0, count), 66, 66, 66)) {
					t.Fatalf("%v by %+v is changed to %v, and the news to %v", before, c, all, allNews)
				}
			}
		}
	}
	for _, lengths := range [][]int{{}, {1}, {3, 2, 1}, {1, 2, 3}, {5, 5, 5, 1}, upTo(1, 61), upTo(1, 62), {0, 1}} {
		given, all := withRoom(lengths, 55)
		before := slices.Clone(all)
		mark(impl.RoomsOf(given), 77)
		checkOwnLists(t, func() [][]int { return impl.MergePlan(given) }, 77)
		if !slices.Equal(all, before) {
			t.Fatalf("%v is changed to %v", before, all)
		}
	}
}

func TestItemsAreNotChangedNorShared(t *testing.T) {
	spoilt := impl.Item{Key: 77, Tag: 77}
	for _, list := range append(itemLists(), items(make([]int, 61)...)) {
		given, all := withRoom(list, impl.Item{Key: 55, Tag: 55})
		before := slices.Clone(all)
		mark(impl.SortItems(given), spoilt)
		checkOwnLists(t, func() [][]impl.Item { return impl.RunsOf(given) }, spoilt)
		if !slices.Equal(all, before) {
			t.Fatalf("%v is changed to %v", before, all)
		}
	}
}

// checkOwnLists writes over each list of a result, which must leave the others, and what is made anew.
func checkOwnLists[E comparable](t *testing.T, anew func() [][]E, with E) {
	t.Helper()
	lists := anew()
	want := copiedRuns(lists)
	for i := range lists {
		mark(lists[i], with)
		if !equalRuns(lists[i+1:], want[i+1:]) {
			t.Fatalf("%v shares memory: %v", want, lists)
		}
		for _, n := range lists[:i] {
			if slices.ContainsFunc(n, func(x E) bool { return x != with }) {
				t.Fatalf("%v shares memory: %v", want, lists)
			}
		}
	}
	if again := anew(); !equalRuns(again, want) {
		t.Fatalf("%v is made anew as %v", want, again)
	}
}
