package tests

import (
	"slices"
	"testing"

	"loop.example/slowworm/impl"
)

func TestP30ThereIsRoomForAllAndNotTooMuch(t *testing.T) {
	before := 0
	for n := range impl.MaxIndex + 1 {
		room := impl.ListRoom(n)
		if room < n || room < before || n > 0 && room > n+n/8+6 {
			t.Fatalf("ListRoom(%d) = %d, of one less %d", n, room, before)
		}
		before = room
	}
	if impl.ListRoom(0) != 0 || impl.ListRoom(-1) != -1 || impl.ListRoom(impl.MaxIndex+1) != -1 {
		t.Errorf("ListRoom = %d, %d, %d", impl.ListRoom(0), impl.ListRoom(-1), impl.ListRoom(impl.MaxIndex+1))
	}
}

func TestP31RoomsHoldWhatThereIs(t *testing.T) {
	for _, lengths := range append(roomLists(), upTo(0, 60), turnedList(upTo(0, 60))) {
		rooms := impl.RoomsOf(lengths)
		if len(rooms) != len(lengths) {
			t.Fatalf("RoomsOf(%v) = %v", lengths, rooms)
		}
		for i, n := range lengths {
			if rooms[i] < n || rooms[i]/2 > n && rooms[i] != impl.ListRoom(n) {
				t.Errorf("RoomsOf(%v) = %v, at %d", lengths, rooms, i)
			}
			if fewer := impl.RoomsOf(lengths[:i]); !slices.Equal(fewer, rooms[:i]) {
				t.Errorf("RoomsOf(%v) = %v, want the first ones of %v", lengths[:i], fewer, rooms)
			}
		}
	}
}

func TestP32SlicesAndWhatIsLeftAreAll(t *testing.T) {
	eachListCut(t, func(list []int, c impl.Cut) {
		part, left := impl.ListCut(list, c), impl.ListDropCut(list, c)
		if len(part)+len(left) != len(list) {
			t.Fatalf("%v by %+v is %v, and left is %v", list, c, part, left)
		}
		all := slices.Sorted(slices.Values(slices.Concat(part, left)))
		if !slices.Equal(all, slices.Sorted(slices.Values(list))) {
			t.Errorf("%v by %+v is %v, and left is %v", list, c, part, left)
		}
	})
}

func TestP33WhatIsLeftIsInOrder(t *testing.T) {
	eachListCut(t, func(list []int, c impl.Cut) {
		left := impl.ListDropCut(list, c)
		place := -1
		for _, n := range left {
			// No number is twice in the list, so each has one place.
			at := slices.Index(list, n)
			if at <= place {
				t.Fatalf("ListDropCut(%v, %+v) = %v", list, c, left)
			}
			place = at
		}
	})
	for n := range 61 {
		for _, c := range []impl.Cut{cut(none, none, 1), cut(none, none, -1), cut(0, n, 1), cut(-impl.MaxIndex, impl.MaxIndex, 1), cut(impl.MaxIndex, -impl.MaxIndex, -1)} {
			if left := impl.ListDropCut(numbers(n), c); len(left) != 0 {
				t.Errorf("ListDropCut of all %d = %v", n, left)
			}
		}
	}
}

func TestP34WhatIsPutIsThere(t *testing.T) {
	eachListCut(t, func(list []int, c impl.Cut) {
		part := impl.ListCut(list, c)
		if same := putBack(t, list, c, part); !slices.Equal(same, list) {
			t.Errorf("ListPutCut(%v, %+v, %v) = %v", list, c, part, same)
		}
		news := upTo(2000, 2000+len(part))
		put := putBack(t, list, c, news)
		if there := impl.ListCut(put, c); c.Step != 1 && !slices.Equal(there, news) {
			t.Errorf("ListCut(%v, %+v) = %v, but %v was put there", put, c, there, news)
		}
		if left := impl.ListDropCut(put, c); !slices.Equal(left, impl.ListDropCut(list, c)) {
			t.Errorf("ListPutCut(%v, %+v, %v) = %v", list, c, news, put)
		}
		if back := putBack(t, put, c, part); !slices.Equal(back, list) {
			t.Errorf("ListPutCut(%v, %+v, %v) = %v, want %v", put, c, part, back, list)
		}
	})
}

func TestP35RunsAreLongEnoughForFewMerges(t *testing.T) {
	for n := range impl.MaxIndex + 1 {
		least := impl.RunLeast(n)
		if n < impl.RunBase && least != n || n >= impl.RunBase && (least < impl.RunBase/2 || least > impl.RunBase) {
			t.Fatalf("RunLeast(%d) = %d", n, least)
		}
		if n == 0 {
			continue
		}
		// As many runs as a power of 2, or a few less, are merged in as few rounds as there can be.
		runs, power := (n+least-1)/least, 1
		for power < runs {
			power *= 2
		}
		if least*power < n || least*power >= n+power {
			t.Fatalf("RunLeast(%d) = %d, which makes %d runs", n, least, runs)
		}
	}
}

func TestP36RunsAreSortedAndHaveAll(t *testing.T) {
	for _, list := range itemLists() {
		runs := impl.RunsOf(list)
		if first := slices.Concat(runs...); len(first) != len(list) {
			t.Fatalf("RunsOf(%v) = %v", list, runs)
		}
		begin := 0
		for i, run := range runs {
			part := list[begin : begin+len(run)]
			begin += len(run)
			if len(run) == 0 || i < len(runs)-1 && len(run) < impl.RunLeast(len(list)) {
				t.Errorf("RunsOf(%v) = %v, of which %d is too short", list, runs, i)
			}
			if !slices.IsSorted(keysOfItems(run)) || !slices.Equal(slices.Sorted(slices.Values(placesOf(run))), placesOf(part)) {
				t.Errorf("RunsOf(%v) = %v, of which %d is not %v, sorted", list, runs, i, part)
			}
		}
	}
}

func TestP37MergesMakeOneOfAll(t *testing.T) {
	for _, lengths := range lengthLists() {
		plan := impl.MergePlan(lengths)
		if len(plan) != max(len(lengths)-1, 0) {
			t.Fatalf("MergePlan(%v) = %v", lengths, plan)
		}
		// The lengths that wait stand behind the stack, so the places of the plan are theirs, too.
		rest := slices.Clone(lengths)
		for i, merge := range plan {
			at := merge[0]
			if len(merge) != 3 || at < 0 || at+1 >= len(rest) || merge[1] != rest[at] || merge[2] != rest[at+1] {
				t.Fatalf("MergePlan(%v) = %v, of which %d does not fit %v", lengths, plan, i, rest)
			}
			rest = slices.Replace(rest, at, at+2, rest[at]+rest[at+1])
		}
		sum := 0
		for _, n := range lengths {
			sum += n
		}
		if len(plan) > 0 && (plan[len(plan)-1][0] != 0 || plan[len(plan)-1][1]+plan[len(plan)-1][2] != sum) {
			t.Errorf("MergePlan(%v) = %v, whose last merge has not all %d", lengths, plan, sum)
		}
	}
}

func TestP38SortedItemsAreTheSameOnesInOrder(t *testing.T) {
	for _, list := range itemLists() {
		sorted := impl.SortItems(list)
		if !slices.Equal(slices.Sorted(slices.Values(placesOf(sorted))), upTo(0, len(list))) {
			t.Fatalf("SortItems(%v) = %v", list, sorted)
		}
		places := placesOf(sorted)
		for i, item := range sorted {
			if item != list[places[i]] {
				t.Errorf("SortItems(%v) = %v, but %v is another item", list, sorted, item)
			}
			if i == 0 {
				continue
			}
			before := sorted[i-1]
			if before.Key > item.Key || before.Key == item.Key && places[i-1] >= places[i] {
				t.Errorf("SortItems(%v) = %v, but %v is ahead of %v", list, sorted, before, item)
			}
		}
		if again := impl.SortItems(sorted); !slices.Equal(again, sorted) {
			t.Errorf("SortItems(%v) = %v", sorted, again)
		}
	}
}

func TestP135SortingForgetsTheOrderOfWhatComesIn(t *testing.T) {
	for _, list := range itemLists() {
		keys, other := keysOfItems(impl.SortItems(list)), keysOfItems(impl.SortItems(turnedList(list)))
		if !slices.Equal(keys, other) || !slices.Equal(keys, slices.Sorted(slices.Values(keysOfItems(list)))) {
			t.Errorf("SortItems(%v) has the keys %v, turned round %v", list, keys, other)
		}
	}
}

func TestP166DeletingAndPuttingBackByBoundsIsNothing(t *testing.T) {
	eachListCut(t, func(list []int, c impl.Cut) {
		if c.Step != 1 {
			return
		}
		first, _ := impl.CutRange(len(list), c)
		part, left := impl.ListCut(list, c), impl.ListDropCut(list, c)
		if back := putBack(t, left, cut(first, first, 1), part); !slices.Equal(back, list) {
			t.Errorf("%v put back into %v at %d is %v, want %v", part, left, first, back, list)
		}
	})
}

func TestP167SlicesBackwardsAreSlicesTurned(t *testing.T) {
	back := cut(none, none, -1)
	for n := range 61 {
		list := numbers(n)
		once := impl.ListCut(list, back)
		if !slices.Equal(once, turnedList(list)) || !slices.Equal(impl.ListCut(once, back), list) {
			t.Errorf("%v backwards is %v, twice %v", list, once, impl.ListCut(once, back))
		}
		// A slice backwards is the same slice forwards, of the list turned round.
		for step := 1; step <= n+1; step++ {
			if x, y := impl.ListCut(list, cut(none, none, -step)), impl.ListCut(once, cut(none, none, step)); !slices.Equal(x, y) {
				t.Errorf("%v by %d is %v, turned round by %d %v", list, -step, x, step, y)
			}
		}
	}
}

func TestP168SortedItemsAreOneRun(t *testing.T) {
	for _, list := range itemLists() {
		sorted := impl.SortItems(list)
		runs := impl.RunsOf(sorted)
		if len(list) == 0 && len(runs) == 0 {
			continue
		}
		if len(runs) != 1 || !slices.Equal(runs[0], sorted) || len(sorted) != len(list) {
			t.Errorf("RunsOf(%v) = %v", sorted, runs)
		}
	}
}

func TestP169SortingPartsFirstIsSorting(t *testing.T) {
	for _, list := range itemLists() {
		want := impl.SortItems(list)
		for _, at := range []int{len(list) / 2, (len(list) + 1) / 2, len(list) / 3, min(len(list), 1)} {
			halves := slices.Concat(impl.SortItems(list[:at]), impl.SortItems(list[at:]))
			if sorted := impl.SortItems(halves); !slices.Equal(sorted, want) || len(sorted) != len(list) {
				t.Errorf("SortItems of the sorted parts of %v = %v, want %v", list, sorted, want)
			}
		}
	}
}
