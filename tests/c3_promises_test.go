package tests

import (
	"slices"
	"strings"
	"testing"

	"loop.example/slowworm/impl"
)

func TestP21HashesAreOfTheBytes(t *testing.T) {
	if impl.DictHash("") != 7 {
		t.Errorf("DictHash of the empty key = %d", impl.DictHash(""))
	}
	for _, key := range append(dictKeys(60), strings.Repeat("\xff", 19), strings.Repeat("\x00", 20), tooLongKey) {
		for i := range 256 {
			longer := key + string([]byte{byte(i)})
			want := (31*impl.DictHash(key) + i) % 65536
			if len(longer) > 20 {
				want = -1
			}
			if hash := impl.DictHash(longer); hash != want {
				t.Errorf("DictHash(%q) = %d, want %d", longer, hash, want)
			}
		}
	}
}

func TestP22DictionariesHaveWhatTheyList(t *testing.T) {
	for _, d := range dicts() {
		packed := impl.DictPack(d)
		if !impl.DictOk(d) || !impl.DictOk(packed) || !impl.DictSame(d, packed) || !impl.DictSame(packed, d) {
			t.Errorf("DictPack(%v) = %v", d, packed)
		}
		for _, key := range impl.DictKeys(d) {
			if gotten(t, d, key) != gotten(t, packed, key) {
				t.Errorf("%q has another value in %v than in %v", key, d, packed)
			}
		}
	}
	for _, b := range brokenDicts() {
		if impl.DictOk(b.d) || len(impl.DictKeys(b.d)) > 0 {
			t.Errorf("valid: %s", b.why)
		}
	}
}

func TestP23EachSlotIsToldByTheOneAhead(t *testing.T) {
	eachKey(t, func(d impl.Dict, key string) {
		way := impl.DictProbes(d, key)
		if len(way) == 0 || way[0] != impl.DictHash(key)%len(d.Index) {
			t.Fatalf("DictProbes(%v, %q) = %v", d, key, way)
		}
		rest := impl.DictHash(key)
		for i, slot := range way {
			at := d.Index[slot]
			ends := at == impl.SlotEmpty || at >= 0 && d.Entries[at].Key == key
			if ends != (i == len(way)-1) {
				t.Errorf("DictProbes(%v, %q) = %v, but slot %d has %d", d, key, way, slot, at)
			}
			rest /= 8
			if !ends && way[i+1] != (5*slot+rest+1)%len(d.Index) {
				t.Errorf("DictProbes(%v, %q) = %v, at %d", d, key, way, i)
			}
		}
	})
}

func TestP24WhatIsThereIsOneOfTheKeys(t *testing.T) {
	eachKey(t, func(d impl.Dict, key string) {
		value, ok := impl.DictGet(d, key)
		if ok != slices.Contains(impl.DictKeys(d), key) || !ok && value != 0 {
			t.Errorf("DictGet(%v, %q) = %d, %t", d, key, value, ok)
		}
		if !ok {
			return
		}
		if value, ok := impl.DictGet(dropped(t, d, key), key); ok || value != 0 {
			t.Errorf("DictGet(%v, %q) = %d behind its drop", d, key, value)
		}
	})
}

func TestP25PackingKeepsKeysInOrder(t *testing.T) {
	for _, d := range dicts() {
		packed := impl.DictPack(d)
		if !slices.Equal(impl.DictKeys(packed), impl.DictKeys(d)) || len(packed.Entries) != len(impl.DictKeys(d)) {
			t.Errorf("DictPack(%v) = %v", d, packed)
		}
		if again := impl.DictPack(packed); !equalDicts(again, packed) {
			t.Errorf("DictPack(%v) = %v", packed, again)
		}
	}
}

func TestP26WhatIsSetIsThere(t *testing.T) {
	eachKey(t, func(d impl.Dict, key string) {
		before := impl.DictKeys(d)
		there := slices.Contains(before, key)
		for _, value := range []int{-1000000, 5, 1000000} {
			set, ok := impl.DictSet(d, key, value)
			if ok != (there || len(before) < 40) || !impl.DictOk(set) {
				t.Fatalf("DictSet(%v, %q, %d) = %v, %t", d, key, value, set, ok)
			}
			want := before
			if ok && !there {
				want = append(slices.Clone(before), key)
			}
			if !slices.Equal(impl.DictKeys(set), want) || ok && gotten(t, set, key) != value {
				t.Errorf("DictSet(%v, %q, %d) = %v", d, key, value, set)
			}
			sameValues(t, set, d, key)
		}
	})
}

func TestP27WhatIsDroppedIsGone(t *testing.T) {
	eachKey(t, func(d impl.Dict, key string) {
		before := impl.DictKeys(d)
		drop, ok := impl.DictDrop(d, key)
		if ok != slices.Contains(before, key) || !impl.DictOk(drop) {
			t.Fatalf("DictDrop(%v, %q) = %v, %t", d, key, drop, ok)
		}
		left := without(before, key)
		if _, there := impl.DictGet(drop, key); there || !slices.Equal(impl.DictKeys(drop), left) {
			t.Errorf("DictDrop(%v, %q) = %v", d, key, drop)
		}
		sameValues(t, drop, d, key)
		if !ok {
			return
		}
		again := setDict(t, drop, key, -3)
		if !slices.Equal(impl.DictKeys(again), append(left, key)) || gotten(t, again, key) != -3 {
			t.Errorf("DictSet(%v, %q) = %v", drop, key, again)
		}
	})
}

func TestP28KeysAreThereOnce(t *testing.T) {
	for _, d := range dicts() {
		for _, list := range [][]string{impl.DictKeys(d), impl.DictKeys(impl.DictPack(d))} {
			for i, key := range list {
				gotten(t, d, key)
				if slices.Index(list, key) != i {
					t.Errorf("%q is twice in %v", key, d)
				}
			}
		}
	}
	for _, d := range []impl.Dict{built(8, []string{"a", "a"}), built(16, []string{"", "b", ""}), built(32, []string{fullKey, fullKey})} {
		if impl.DictOk(d) || len(impl.DictKeys(d)) > 0 {
			t.Errorf("%v is valid", d)
		}
	}
}

func TestP29EqualDictionariesHaveTheSameValues(t *testing.T) {
	list := dicts()
	list = list[:min(len(list), 130)]
	equal := 0
	for i, a := range list {
		for j, b := range list {
			same := impl.DictSame(a, b)
			want := len(impl.DictKeys(a)) == len(impl.DictKeys(b))
			for _, key := range impl.DictKeys(a) {
				value, ok := impl.DictGet(b, key)
				want = want && ok && value == gotten(t, a, key)
			}
			if same != want || same != impl.DictSame(b, a) || i == j && !same {
				t.Errorf("DictSame(%v, %v) = %t", a, b, same)
			}
			if same && i != j {
				equal++
			}
		}
	}
	if equal == 0 {
		t.Error("no two dictionaries are equal")
	}
}

func TestP126AnEmptyDictionaryHasNothing(t *testing.T) {
	empty := []impl.Dict{impl.DictNew(), impl.DictPack(impl.DictNew()), dropped(t, setDict(t, impl.DictNew(), "a", 1), "a")}
	for _, slots := range slotCounts {
		room := 2 * slots / 3
		empty = append(empty, emptyDict(slots), built(slots, dictKeys(room), upTo(0, room)...))
	}
	for _, d := range empty {
		if !impl.DictOk(d) || len(impl.DictKeys(d)) > 0 || !equalDicts(impl.DictPack(d), impl.DictNew()) || !impl.DictSame(d, impl.DictNew()) {
			t.Errorf("%v is not empty", d)
		}
		for _, key := range append(dictKeys(90), tooLongKey) {
			if value, ok := impl.DictGet(d, key); value != 0 || ok {
				t.Errorf("DictGet(%v, %q) = %d, %t", d, key, value, ok)
			}
			if drop, ok := impl.DictDrop(d, key); ok || len(key) <= 20 && !equalDicts(drop, d) {
				t.Errorf("DictDrop(%v, %q) = %v, %t", d, key, drop, ok)
			}
		}
	}
}

func TestP130DictionariesForgetNoOrder(t *testing.T) {
	for _, d := range dicts() {
		anew := impl.DictNew()
		for _, key := range impl.DictKeys(d) {
			anew = setDict(t, anew, key, gotten(t, d, key))
		}
		if packed := impl.DictPack(d); !slices.Equal(anew.Entries, packed.Entries) || !impl.DictSame(anew, d) {
			t.Errorf("%v set anew is %v, DictPack is %v", d, anew, packed)
		}
	}
}

func TestP163SettingTwoKeysGoesInAnyOrder(t *testing.T) {
	keys := []string{"a", "", fullKey, "a@", "b!", "\xff", "new", "newer", "i"}
	for _, d := range dicts() {
		for _, x := range keys {
			for _, y := range without(keys, x) {
				if len(without(without(impl.DictKeys(d), x), y)) > 38 {
					continue
				}
				first := setDict(t, setDict(t, d, x, 1), y, 2)
				second := setDict(t, setDict(t, d, y, 2), x, 1)
				if !impl.DictSame(first, second) {
					t.Errorf("%q and %q set in %v are %v, or %v", x, y, d, first, second)
				}
				one, other := impl.DictKeys(first), impl.DictKeys(second)
				slices.Sort(one)
				slices.Sort(other)
				if !slices.Equal(one, other) {
					t.Errorf("%q and %q set in %v have the keys %q, or %q", x, y, d, one, other)
				}
				sameValues(t, first, second, "")
			}
		}
	}
}

func TestP164DroppingUndoesASettingOfWhatWasNotThere(t *testing.T) {
	undone := 0
	eachKey(t, func(d impl.Dict, key string) {
		before := impl.DictKeys(d)
		if slices.Contains(before, key) || len(before) == 40 {
			return
		}
		undone++
		after := dropped(t, setDict(t, d, key, 9), key)
		if !slices.Equal(impl.DictKeys(after), before) || !impl.DictSame(after, d) {
			t.Errorf("%v is %v behind the set and the drop of %q", d, after, key)
		}
	})
	if undone == 0 {
		t.Error("no key is set and dropped")
	}
}

func TestP165SettingAgainLeavesThePlace(t *testing.T) {
	for _, d := range dicts() {
		before := impl.DictKeys(d)
		for _, key := range before {
			for _, value := range []int{gotten(t, d, key), -1000000, 0, 1000000} {
				set := setDict(t, d, key, value)
				if !slices.Equal(impl.DictKeys(set), before) || gotten(t, set, key) != value {
					t.Errorf("DictSet(%v, %q, %d) = %v", d, key, value, set)
				}
				if !slices.Equal(set.Index, d.Index) || len(set.Entries) != len(d.Entries) {
					t.Errorf("DictSet(%v, %q, %d) moves entries: %v", d, key, value, set)
				}
			}
		}
	}
}
