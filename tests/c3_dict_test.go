package tests

import (
	"math/rand"
	"slices"
	"strings"
	"testing"
	"unsafe"

	"loop.example/slowworm/impl"
)

func TestLimitsOfDictionaries(t *testing.T) {
	if impl.MaxKey != 20 || impl.MaxKeys != 40 || impl.SlotEmpty != -1 || impl.SlotDropped != -2 {
		t.Errorf("MaxKey = %d, MaxKeys = %d, SlotEmpty = %d, SlotDropped = %d", impl.MaxKey, impl.MaxKeys, impl.SlotEmpty, impl.SlotDropped)
	}
}

func TestDictHash(t *testing.T) {
	for _, c := range []struct {
		key  string
		want int
	}{
		{"", 7}, {"a", 314}, {"ab", 9832}, {"ba", 9862}, {"abc", 42747}, {"\x00", 217}, {"\x00\x00", 6727}, {"\x7f", 344}, {"\x80", 345}, {"\xff", 472},
		{"\xff\xff", 14887}, {"\xff\xff\xff", 3000}, {"\u00e9", 12941}, {"a@", 9798}, {"b!", 9798},
		{strings.Repeat("\x00", 20), 46727}, {strings.Repeat("\xff", 20), 56647}, {fullKey, 17479},
		{tooLongKey, -1}, {strings.Repeat("\x00", 21), -1}, {strings.Repeat("\xff", 21), -1}, {strings.Repeat("\u00e9", 10) + "e", -1}, {strings.Repeat("k", 1000000), -1},
	} {
		if hash := impl.DictHash(c.key); hash != c.want {
			t.Errorf("DictHash(%.30q) = %d, want %d", c.key, hash, c.want)
		}
	}
	for _, c := range []string{"k", "\x00", "\x7f", "\x80", "\xff", "'", "ab\xfe"} {
		for n := range 21 {
			key := strings.Repeat(c, 20)[:n]
			if hash := impl.DictHash(key); hash != hashWanted(key) {
				t.Errorf("DictHash(%q) = %d, want %d", key, hash, hashWanted(key))
			}
		}
	}
}

func TestDictNew(t *testing.T) {
	d := impl.DictNew()
	if !equalDicts(d, emptyDict(8)) {
		t.Errorf("DictNew = %v", d)
	}
	d.Index[0] = 0
	if again := impl.DictNew(); !equalDicts(again, emptyDict(8)) {
		t.Errorf("DictNew = %v after a slot of another one changed", again)
	}
}

func TestDictOk(t *testing.T) {
	for _, d := range append(dicts(), impl.DictNew()) {
		if !impl.DictOk(d) {
			t.Errorf("DictOk(%v) = false", d)
		}
	}
	for _, b := range brokenDicts() {
		if impl.DictOk(b.d) {
			t.Errorf("DictOk is true: %s: %v", b.why, b.d)
		}
	}
	for _, value := range []int{-1000000, -999999, -1, 0, 1, 999999, 1000000} {
		if d := put(emptyDict(8), entry("a", value)); !impl.DictOk(d) {
			t.Errorf("DictOk(%v) = false", d)
		}
	}
}

// TestDictOkOfMovedEntries has each entry of a dictionary in each slot and each place: its key must be found where it is.
func TestDictOkOfMovedEntries(t *testing.T) {
	for _, d := range []impl.Dict{built(8, dictKeys(3)), built(8, []string{"a", "i", "q", "y"}, 1), built(16, dictKeys(9), 2, 5), built(8, []string{"a@", "b!", "c"}, 0)} {
		ok := 0
		for from := range d.Index {
			for to := range d.Index {
				c := copied(d)
				c.Index[from], c.Index[to] = c.Index[to], c.Index[from]
				if impl.DictOk(c) != okWanted(c) {
					t.Errorf("DictOk(%v) = %t", c, impl.DictOk(c))
				}
				if impl.DictOk(c) {
					ok++
				}
			}
		}
		if ok == 0 || ok == len(d.Index)*len(d.Index) {
			t.Errorf("%d of all moves leave %v valid", ok, d)
		}
	}
}

// TestDictOkOfChangedDictionaries changes dictionaries at places that follow a rule.
func TestDictOkOfChangedDictionaries(t *testing.T) {
	r := rand.New(rand.NewSource(4))
	for _, d := range dicts() {
		for range 60 {
			c := copied(d)
			for range 1 + r.Intn(2) {
				changeAtRandom(r, &c)
			}
			want := okWanted(c)
			if got := impl.DictOk(c); got != want {
				t.Fatalf("DictOk(%v) = %t", c, got)
			}
			if _, ok := impl.DictSet(c, "a", 1); ok && !want {
				t.Fatalf("DictSet of %v is there", c)
			}
		}
	}
}

func changeAtRandom(r *rand.Rand, d *impl.Dict) {
	slot := r.Intn(len(d.Index))
	if len(d.Entries) == 0 || r.Intn(3) == 0 {
		d.Index[slot] = r.Intn(len(d.Entries)+4) - 3
		return
	}
	e := &d.Entries[r.Intn(len(d.Entries))]
	switch r.Intn(7) {
	case 0:
		other := r.Intn(len(d.Index))
		d.Index[slot], d.Index[other] = d.Index[other], d.Index[slot]
	case 1:
		e.Live = !e.Live
	case 2:
		e.Hash += r.Intn(3) - 1
	case 3:
		e.Value = r.Intn(3000000) - 1500000
	case 4:
		*e = entry(dictKeys(5)[r.Intn(5)], 1)
	case 5:
		d.Entries = append(d.Entries, impl.Entry{})
	case 6:
		other := &d.Entries[r.Intn(len(d.Entries))]
		*e, *other = *other, *e
	}
}

func TestDictProbes(t *testing.T) {
	three := []string{"a", "i", "q"}
	for _, c := range []struct {
		d    impl.Dict
		key  string
		want []int
	}{
		{impl.DictNew(), "a", []int{2}}, {impl.DictNew(), "", []int{7}}, {impl.DictNew(), fullKey, []int{7}}, {impl.DictNew(), "\xff", []int{0}},
		{emptyDict(16), "a", []int{10}}, {emptyDict(32), "a", []int{26}}, {emptyDict(64), "a", []int{58}}, {emptyDict(128), "a", []int{58}},
		// a has the slot 2; i and q, whose first slot that is, too, go on as their rests tell.
		{built(8, three), "a", []int{2}}, {built(8, three), "i", []int{2, 3}}, {built(8, three), "q", []int{2, 4}}, {built(8, three), "y", []int{2, 5}},
		{built(8, three, 0), "a", []int{2, 2, 7}}, {built(8, three, 0), "i", []int{2, 3}}, {built(8, three, 1), "i", []int{2, 3, 5}},
		{built(8, three, 0, 1, 2), "a", []int{2, 2, 7}}, {built(8, three, 0, 1, 2), "i", []int{2, 3, 5}}, {built(8, three, 0, 1, 2), "q", []int{2, 4, 2, 3, 0}},
		// The same hash, and another key.
		{built(8, []string{"a@"}), "b!", []int{6, 7}}, {built(8, []string{"a@", "b!"}), "b!", []int{6, 7}}, {built(8, []string{"a@", "b!"}, 0), "b!", []int{6, 7}},
		{impl.DictNew(), tooLongKey, nil}, {built(8, three), tooLongKey, nil}, {built(8, three), strings.Repeat("\x00", 21), nil}, {impl.Dict{}, "a", nil}, {impl.Dict{}, tooLongKey, nil},
	} {
		if way := impl.DictProbes(c.d, c.key); !slices.Equal(way, c.want) {
			t.Errorf("DictProbes(%v, %q) = %v, want %v", c.d, c.key, way, c.want)
		}
	}
	eachKey(t, func(d impl.Dict, key string) {
		if way := impl.DictProbes(d, key); !slices.Equal(way, probesWanted(d, key)) {
			t.Errorf("DictProbes(%v, %q) = %v, want %v", d, key, way, probesWanted(d, key))
		}
	})
}

// TestDictProbesOfFullDictionaries has as many entries as there is room for, also dropped ones alone.
func TestDictProbesOfFullDictionaries(t *testing.T) {
	for _, slots := range slotCounts {
		room := 2 * slots / 3
		keys := dictKeys(room + 20)
		for _, d := range []impl.Dict{built(slots, keys[:room], upTo(min(room, 40), room)...), built(slots, keys[:room], upTo(0, room)...), built(slots, keys[:room], upTo(0, room-1)...)} {
			longest := 0
			for _, key := range keys {
				way := impl.DictProbes(d, key)
				if !slices.Equal(way, probesWanted(d, key)) {
					t.Errorf("DictProbes(%v, %q) = %v", d, key, way)
				}
				longest = max(longest, len(way))
			}
			if longest < 3 {
				t.Errorf("no way in %v has more than %d slots", d, longest)
			}
		}
	}
}

func TestDictGet(t *testing.T) {
	d := put(put(put(built(16, []string{"x", "y"}, 0), entry("", -1000000)), entry(fullKey, 1000000)), entry("\xff", 0))
	for _, c := range []struct {
		key   string
		value int
		ok    bool
	}{
		{"", -1000000, true}, {fullKey, 1000000, true}, {"\xff", 0, true}, {"y", 1, true},
		{"x", 0, false}, {"z", 0, false}, {"Y", 0, false}, {fullKey[1:], 0, false}, {tooLongKey, 0, false}, {"\x00", 0, false},
	} {
		if value, ok := impl.DictGet(d, c.key); value != c.value || ok != c.ok {
			t.Errorf("DictGet(%v, %q) = %d, %t", d, c.key, value, ok)
		}
	}
	eachKey(t, func(d impl.Dict, key string) {
		want := 0
		at := slices.IndexFunc(d.Entries, func(e impl.Entry) bool { return e.Live && e.Key == key })
		if at >= 0 {
			want = d.Entries[at].Value
		}
		if value, ok := impl.DictGet(d, key); value != want || ok != (at >= 0) {
			t.Errorf("DictGet(%v, %q) = %d, %t", d, key, value, ok)
		}
	})
}

func TestDictPack(t *testing.T) {
	for _, c := range []struct{ live, slots int }{
		{0, 8}, {1, 8}, {2, 8}, {3, 16}, {4, 16}, {5, 16}, {6, 32}, {10, 32}, {11, 64}, {21, 64}, {22, 128}, {39, 128}, {40, 128},
	} {
		keys := dictKeys(85)
		for _, slots := range slotCounts {
			room := 2 * slots / 3
			if c.live > room {
				continue
			}
			for _, d := range []impl.Dict{built(slots, keys[:c.live]), built(slots, keys[:room], upTo(c.live, room)...), built(slots, keys[:room], upTo(0, room-c.live)...)} {
				packed := impl.DictPack(d)
				if len(packed.Index) != c.slots || len(packed.Entries) != c.live || !equalDicts(packed, packedWanted(d, 0)) {
					t.Errorf("DictPack(%v) = %v", d, packed)
				}
			}
		}
	}
	for _, d := range dicts() {
		if packed := impl.DictPack(d); !equalDicts(packed, packedWanted(d, 0)) {
			t.Errorf("DictPack(%v) = %v", d, packed)
		}
	}
}

func TestDictSet(t *testing.T) {
	eachKey(t, func(d impl.Dict, key string) {
		for _, value := range []int{-1000000, 1000000, 0} {
			want, there := setWanted(d, key, value)
			if set, ok := impl.DictSet(d, key, value); ok != there || !equalDicts(set, want) {
				t.Errorf("DictSet(%v, %q, %d) = %v, %t", d, key, value, set, ok)
			}
		}
		for _, value := range []int{-1000001, 1000001, -1 << 63, 1<<63 - 1} {
			if set, ok := impl.DictSet(d, key, value); ok || !isZeroDict(set) {
				t.Errorf("DictSet(%v, %q, %d) = %v, %t", d, key, value, set, ok)
			}
		}
		if set, ok := impl.DictSet(d, tooLongKey, 1); ok || !isZeroDict(set) {
			t.Errorf("DictSet(%v) of a key that is too long = %v, %t", d, set, ok)
		}
	})
}

// TestDictSetOfFullSlots has the entry for which there is just room, and the one for which the slots grow, or become fewer.
func TestDictSetOfFullSlots(t *testing.T) {
	for _, c := range []struct{ slots, entries, live, want int }{
		{8, 4, 4, 8}, {8, 5, 5, 32}, {8, 4, 0, 8}, {8, 5, 0, 8}, {8, 5, 1, 8}, {8, 5, 2, 16}, {8, 5, 4, 16},
		{16, 9, 9, 16}, {16, 10, 10, 64}, {16, 10, 0, 8}, {16, 10, 9, 32}, {16, 10, 5, 32}, {16, 10, 4, 16},
		{32, 20, 20, 32}, {32, 21, 21, 128}, {32, 21, 20, 64}, {32, 21, 10, 64}, {32, 21, 9, 32}, {32, 21, 0, 8},
		{64, 41, 39, 64}, {64, 42, 39, 128}, {64, 42, 21, 128}, {64, 42, 20, 64}, {64, 42, 0, 8},
		{128, 84, 39, 128}, {128, 85, 39, 128}, {128, 85, 21, 128}, {128, 85, 20, 64}, {128, 85, 0, 8}, {128, 84, 0, 128},
	} {
		keys := dictKeys(86)
		for _, gone := range [][]int{upTo(0, c.entries-c.live), upTo(c.live, c.entries)} {
			d := built(c.slots, keys[:c.entries], gone...)
			set := setDict(t, d, keys[85], 85)
			if want, _ := setWanted(d, keys[85], 85); len(set.Index) != c.want || !equalDicts(set, want) || !impl.DictOk(set) {
				t.Errorf("DictSet(%v, %q) = %v", d, keys[85], set)
			}
			// A key that was dropped comes anew, like another one.
			if len(gone) > 0 {
				again := setDict(t, d, keys[gone[0]], -7)
				if want, _ := setWanted(d, keys[gone[0]], -7); !equalDicts(again, want) {
					t.Errorf("DictSet(%v, %q) = %v", d, keys[gone[0]], again)
				}
			}
			// A key that is there needs no room.
			if c.live > 0 {
				key := keysOf(d)[c.live-1]
				if same := setDict(t, d, key, -7); !slices.Equal(same.Index, d.Index) {
					t.Errorf("DictSet(%v, %q) = %v", d, key, same)
				}
			}
		}
	}
}

func TestDictSetOfMaxKeys(t *testing.T) {
	keys := dictKeys(85)
	d := impl.DictNew()
	for i, key := range keys[:40] {
		d = setDict(t, d, key, i)
	}
	for _, full := range []impl.Dict{d, impl.DictPack(d), built(64, keys[:40]), built(64, keys[:42], 0, 41), built(128, keys, upTo(20, 65)...)} {
		for _, key := range append([]string{"one more"}, keys...) {
			there := slices.Contains(keysOf(full), key)
			set, ok := impl.DictSet(full, key, 77)
			if want, _ := setWanted(full, key, 77); ok != there || !equalDicts(set, want) || !ok && !equalDicts(set, full) {
				t.Errorf("DictSet(%v, %q) = %v, %t", full, key, set, ok)
			}
		}
		less := dropped(t, full, keysOf(full)[39])
		if more := setDict(t, less, "one more", 77); len(impl.DictKeys(more)) != 40 {
			t.Errorf("DictSet(%v) = %v", less, more)
		}
		for _, value := range []int{-1000001, 1000001} {
			if set, ok := impl.DictSet(full, "one more", value); ok || !isZeroDict(set) {
				t.Errorf("DictSet(%v, one more, %d) = %v, %t", full, value, set, ok)
			}
		}
		if set, ok := impl.DictSet(full, tooLongKey, 1); ok || !isZeroDict(set) {
			t.Errorf("DictSet(%v) of a key that is too long = %v, %t", full, set, ok)
		}
	}
}

func TestDictDrop(t *testing.T) {
	keys := dictKeys(5)
	whole := built(8, keys)
	for i, key := range keys {
		drop, ok := impl.DictDrop(whole, key)
		if !ok || !equalDicts(drop, built(8, keys, i)) || drop.Entries[i] != (impl.Entry{}) || len(drop.Entries) != 5 {
			t.Errorf("DictDrop(%v, %q) = %v, %t", whole, key, drop, ok)
		}
	}
	only := dropped(t, built(8, []string{"a"}), "a")
	if !equalDicts(only, impl.Dict{Index: []int{-1, -1, -2, -1, -1, -1, -1, -1}, Entries: make([]impl.Entry, 1)}) {
		t.Errorf("DictDrop of the only entry = %v", only)
	}
	eachKey(t, func(d impl.Dict, key string) {
		want, there := dropWanted(d, key)
		drop, ok := impl.DictDrop(d, key)
		if ok != there || !equalDicts(drop, want) || !ok && !equalDicts(drop, d) {
			t.Errorf("DictDrop(%v, %q) = %v, %t", d, key, drop, ok)
		}
		if drop, ok := impl.DictDrop(d, tooLongKey); ok || !isZeroDict(drop) {
			t.Errorf("DictDrop(%v) of a key that is too long = %v, %t", d, drop, ok)
		}
	})
}

func TestDictKeys(t *testing.T) {
	keys := []string{"b", "", "a", fullKey, "\xff"}
	for _, c := range []struct {
		d    impl.Dict
		want []string
	}{
		{built(8, keys), keys}, {built(8, keys, 0), keys[1:]}, {built(8, keys, 4), keys[:4]}, {built(8, keys, 1, 3), []string{"b", "a", "\xff"}},
		{built(8, keys, upTo(0, 5)...), nil}, {emptyDict(128), nil}, {impl.Dict{}, nil},
	} {
		if list := impl.DictKeys(c.d); !slices.Equal(list, c.want) {
			t.Errorf("DictKeys(%v) = %q, want %q", c.d, list, c.want)
		}
	}
	for _, d := range dicts() {
		if list := impl.DictKeys(d); !slices.Equal(list, keysOf(d)) {
			t.Errorf("DictKeys(%v) = %q", d, list)
		}
	}
}

func TestDictSame(t *testing.T) {
	keys := dictKeys(40)
	for _, n := range []int{0, 1, 2, 5, 20, 40} {
		d := impl.DictNew()
		turned := impl.DictNew()
		for i := range n {
			d = setDict(t, d, keys[i], i)
			turned = setDict(t, turned, keys[n-1-i], n-1-i)
		}
		for _, other := range []impl.Dict{d, turned, impl.DictPack(d), built(128, keys[:n]), built(128, slices.Concat(dictKeys(45)[40:], keys[:n]), upTo(0, 5)...)} {
			for i, e := range other.Entries {
				if e.Live {
					other.Entries[i].Value = slices.Index(keys, e.Key)
				}
			}
			if !impl.DictSame(d, other) || !impl.DictSame(other, d) {
				t.Errorf("DictSame(%v, %v) = false", d, other)
			}
		}
		for i := range n {
			for _, other := range []impl.Dict{setDict(t, d, keys[i], -1), dropped(t, d, keys[i]), setDict(t, dropped(t, d, keys[i]), "another", i)} {
				if impl.DictSame(d, other) || impl.DictSame(other, d) {
					t.Errorf("DictSame(%v, %v) = true", d, other)
				}
			}
		}
	}
	if impl.DictSame(setDict(t, impl.DictNew(), "a", 0), impl.DictNew()) || impl.DictSame(impl.DictNew(), setDict(t, impl.DictNew(), "", 0)) {
		t.Error("DictSame of a key with 0 and none = true")
	}
}

func TestDictionariesThatAreNotValid(t *testing.T) {
	whole := built(8, []string{"a", "b"})
	for _, b := range brokenDicts() {
		for _, key := range []string{"a", "b", "z", "", fullKey, tooLongKey, "i"} {
			if way := impl.DictProbes(b.d, key); len(way) != 0 {
				t.Errorf("%s: DictProbes(%q) = %v", b.why, key, way)
			}
			if value, ok := impl.DictGet(b.d, key); value != 0 || ok {
				t.Errorf("%s: DictGet(%q) = %d, %t", b.why, key, value, ok)
			}
			for _, value := range []int{0, 1, 1000001} {
				if set, ok := impl.DictSet(b.d, key, value); !isZeroDict(set) || ok {
					t.Errorf("%s: DictSet(%q, %d) = %v, %t", b.why, key, value, set, ok)
				}
			}
			if drop, ok := impl.DictDrop(b.d, key); !isZeroDict(drop) || ok {
				t.Errorf("%s: DictDrop(%q) = %v, %t", b.why, key, drop, ok)
			}
		}
		if packed := impl.DictPack(b.d); !isZeroDict(packed) {
			t.Errorf("%s: DictPack = %v", b.why, packed)
		}
		if keys := impl.DictKeys(b.d); len(keys) != 0 {
			t.Errorf("%s: DictKeys = %q", b.why, keys)
		}
		for _, other := range []impl.Dict{b.d, twin(b.d), whole, impl.DictNew()} {
			if impl.DictSame(b.d, other) || impl.DictSame(other, b.d) {
				t.Errorf("%s: DictSame with %v = true", b.why, other)
			}
		}
	}
}

// twin returns a valid dictionary with what it can take of the live entries of another one.
func twin(d impl.Dict) impl.Dict {
	like := impl.DictNew()
	for _, e := range liveOf(d) {
		if set, ok := impl.DictSet(like, e.Key, e.Value); ok {
			like = set
		}
	}
	return like
}

// withSpareRoom returns a dictionary whose slices have room for more, in which there are marks.
func withSpareRoom(d impl.Dict) impl.Dict {
	index := append(slices.Clone(d.Index), 99, 99, 99)
	mark := impl.Entry{Key: "mark", Hash: 99, Value: 99, Live: true}
	entries := append(slices.Clone(d.Entries), mark, mark, mark)
	for i := range entries {
		entries[i].Key = strings.Clone(entries[i].Key)
	}
	return impl.Dict{Index: index[:len(d.Index)], Entries: entries[:len(d.Entries)]}
}

// wholeRoom returns all that the slices of a dictionary have room for.
func wholeRoom(d impl.Dict) impl.Dict {
	return impl.Dict{Index: d.Index[:cap(d.Index)], Entries: d.Entries[:cap(d.Entries)]}
}

// scribble writes over all that the slices of a dictionary have room for.
func scribble(d impl.Dict) {
	room := wholeRoom(d)
	for i := range room.Index {
		room.Index[i] = 55
	}
	for i := range room.Entries {
		room.Entries[i] = impl.Entry{Key: "scribble"}
	}
}

func TestDictionariesAreNotChangedNorShared(t *testing.T) {
	for _, d := range dicts() {
		given := withSpareRoom(d)
		before := copied(wholeRoom(given))
		for _, key := range []string{"a", "new", "", fullKey} {
			set, _ := impl.DictSet(given, key, 3)
			drop, _ := impl.DictDrop(given, key)
			packed := impl.DictPack(given)
			for _, result := range []impl.Dict{set, drop, packed} {
				checkOwnKeys(t, given, keysOf(result))
				again := copied(result)
				scribble(result)
				if !equalDicts(wholeRoom(given), before) {
					t.Fatalf("%v is changed to %v", before, wholeRoom(given))
				}
				if !impl.DictOk(again) {
					t.Fatalf("%v is not valid", again)
				}
			}
			scribbleSlots(impl.DictProbes(given, key))
			impl.DictGet(given, key)
			impl.DictSame(given, given)
			list := impl.DictKeys(given)
			checkOwnKeys(t, given, list)
			clear(list[:cap(list)])
			if !equalDicts(wholeRoom(given), before) {
				t.Fatalf("%v is changed to %v", before, wholeRoom(given))
			}
		}
	}
}

func scribbleSlots(list []int) {
	for i := range list[:cap(list)] {
		list[:cap(list)][i] = 55
	}
}

// checkOwnKeys checks that no key of a result lies where one of the argument does.
func checkOwnKeys(t *testing.T, given impl.Dict, keys []string) {
	t.Helper()
	for _, key := range keys {
		for _, e := range given.Entries {
			if key != "" && unsafe.StringData(key) == unsafe.StringData(e.Key) {
				t.Fatalf("%q is the argument's", key)
			}
		}
	}
}

func TestDictSetKeepsNoKey(t *testing.T) {
	key := strings.Repeat("k", 5)
	set := setDict(t, impl.DictNew(), key, 1)
	if unsafe.StringData(set.Entries[0].Key) == unsafe.StringData(key) {
		t.Errorf("%q is the argument's", key)
	}
}
