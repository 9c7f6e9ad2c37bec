package tests

import (
	"math/big"
	"math/rand"
	"reflect"
	"slices"
	"strings"
	"testing"

	"loop.example/slowworm/impl"
)

// slotCounts are the numbers of slots that a dictionary may have.
var slotCounts = []int{8, 16, 32, 64, 128}

var (
	fullKey    = strings.Repeat("k", 20)
	tooLongKey = fullKey + "k"
)

// dictKeys returns n keys: the empty one, one of the limit, some that have the same hash, and ones of bytes above 127 come first.
func dictKeys(n int) []string {
	list := []string{"a", "", fullKey, "a@", "b!", "Aa", "BB", "\xff", "\x80\x00", "gr\u00fc\u00dfe", "c@", "d!", "i", "q", "y", "\n'"}
	for i := 0; len(list) < n; i++ {
		list = append(list, "key"+string([]byte{byte('A' + i%26), byte('0' + i/26)}))
	}
	return list[:n]
}

// hashWanted returns the hash of a key, as a number that is taken by its remainder only at the end.
func hashWanted(key string) int {
	sum := big.NewInt(7)
	for _, c := range []byte(key) {
		sum.Mul(sum, big.NewInt(31))
		sum.Add(sum, big.NewInt(int64(c)))
	}
	return int(sum.Mod(sum, big.NewInt(65536)).Int64())
}

// wayWanted returns the first n slots that the rule tells for a hash.
func wayWanted(hash int, slots int, n int) []int {
	way := []int{hash % slots}
	for i := 1; i < n; i++ {
		way = append(way, (5*way[i-1]+hash>>(3*i)+1)%slots)
	}
	return way
}

// entry returns a live entry.
func entry(key string, value int) impl.Entry {
	return impl.Entry{Key: key, Hash: hashWanted(key), Value: value, Live: true}
}

// emptyDict returns a dictionary with so many slots.
func emptyDict(slots int) impl.Dict {
	return impl.Dict{Index: slices.Repeat([]int{-1}, slots)}
}

// put puts an entry into the first empty slot on the way of its key, whatever room there is.
func put(d impl.Dict, e impl.Entry) impl.Dict {
	for _, slot := range wayWanted(e.Hash, len(d.Index), 10*len(d.Index)) {
		if d.Index[slot] == -1 {
			d.Index[slot] = len(d.Entries)
			break
		}
	}
	d.Entries = append(d.Entries, e)
	return d
}

// built returns a dictionary with the keys in so many slots, their values being their places, of which some are dropped.
func built(slots int, keys []string, dropped ...int) impl.Dict {
	d := emptyDict(slots)
	for i, key := range keys {
		d = put(d, entry(key, i))
	}
	for _, i := range dropped {
		d.Index[slices.Index(d.Index, i)] = -2
		d.Entries[i] = impl.Entry{}
	}
	return d
}

// packedWanted returns what the live entries are in new slots, which have room for some more.
func packedWanted(d impl.Dict, more int) impl.Dict {
	live := liveOf(d)
	slots := 8
	for slots < 128 && slots <= 3*(len(live)+more) {
		slots += slots
	}
	packed := emptyDict(slots)
	for _, e := range live {
		packed = put(packed, e)
	}
	return packed
}

// setWanted returns what a dictionary must be after a valid key was given a valid value.
func setWanted(d impl.Dict, key string, value int) (impl.Dict, bool) {
	d = copied(d)
	for i, e := range d.Entries {
		if e.Live && e.Key == key {
			d.Entries[i].Value = value
			return d, true
		}
	}
	if len(liveOf(d)) >= 40 {
		return d, false
	}
	if 3*(len(d.Entries)+1) > 2*len(d.Index) {
		d = packedWanted(d, 1)
	}
	return put(d, entry(key, value)), true
}

// dropWanted returns what a dictionary must be after a valid key was dropped.
func dropWanted(d impl.Dict, key string) (impl.Dict, bool) {
	d = copied(d)
	for i, e := range d.Entries {
		if e.Live && e.Key == key {
			d.Index[slices.Index(d.Index, i)] = -2
			d.Entries[i] = impl.Entry{}
			return d, true
		}
	}
	return d, false
}

// okWanted tells whether a dictionary is valid, sentence by sentence.
func okWanted(d impl.Dict) bool {
	if !slices.Contains(slotCounts, len(d.Index)) || 3*len(d.Entries) > 2*len(d.Index) || len(liveOf(d)) > 40 {
		return false
	}
	times := map[int]int{}
	for _, slot := range d.Index {
		times[slot]++
		if slot < -2 || slot >= len(d.Entries) || slot >= 0 && !d.Entries[slot].Live {
			return false
		}
	}
	for i, e := range d.Entries {
		if !e.Live && e != (impl.Entry{}) || e.Live && times[i] != 1 {
			return false
		}
		if e.Live && (len(e.Key) > 20 || e.Hash != hashWanted(e.Key) || e.Value < -1000000 || e.Value > 1000000) {
			return false
		}
		if e.Live && !slices.Contains(probesWanted(d, e.Key), slices.Index(d.Index, i)) {
			return false
		}
	}
	return times[-2] == len(d.Entries)-len(liveOf(d))
}

// probesWanted returns the slots that are looked at for a key of at most MaxKey bytes.
func probesWanted(d impl.Dict, key string) []int {
	way := wayWanted(hashWanted(key), len(d.Index), 10*len(d.Index))
	for i, slot := range way {
		at := d.Index[slot]
		if at == -1 || at >= 0 && d.Entries[at].Key == key {
			return way[:i+1]
		}
	}
	return way
}

func liveOf(d impl.Dict) []impl.Entry {
	var live []impl.Entry
	for _, e := range d.Entries {
		if e.Live {
			live = append(live, e)
		}
	}
	return live
}

func keysOf(d impl.Dict) []string {
	var keys []string
	for _, e := range liveOf(d) {
		keys = append(keys, e.Key)
	}
	return keys
}

func copied(d impl.Dict) impl.Dict {
	return impl.Dict{Index: slices.Clone(d.Index), Entries: slices.Clone(d.Entries)}
}

// equalDicts reports whether two dictionaries are alike in every slot and entry.
func equalDicts(a impl.Dict, b impl.Dict) bool {
	return slices.Equal(a.Index, b.Index) && slices.Equal(a.Entries, b.Entries)
}

// isZeroDict reports whether there is nothing in a dictionary, not even slots.
func isZeroDict(d impl.Dict) bool {
	return len(d.Index) == 0 && len(d.Entries) == 0
}

// upTo returns the numbers from one on that are less than another.
func upTo(from int, to int) []int {
	var list []int
	for i := from; i < to; i++ {
		list = append(list, i)
	}
	return list
}

// dicts returns valid dictionaries: with each number of slots, with few, many and as many entries as there is room for, and dropped ones.
func dicts() []impl.Dict {
	var list []impl.Dict
	for _, slots := range slotCounts {
		room := 2 * slots / 3
		live := min(room, 40)
		all := dictKeys(room)
		list = append(list,
			emptyDict(slots),
			built(slots, all[:1]), built(slots, all[:1], 0), built(slots, all[1:2]), built(slots, all[:2], 0), built(slots, all[:2], 1),
			built(slots, all[:live]), built(slots, all[:live], 0), built(slots, all[:live], live-1), built(slots, all[:live-1]),
			built(slots, all, upTo(0, room-1)...), built(slots, all, upTo(1, room)...), built(slots, all, upTo(0, room)...),
			built(slots, all, upTo(0, room-live/2)...), built(slots, all, upTo(live, room)...), built(slots, all[:live], upTo(1, 3)...))
	}
	return append(list, grownDicts(300)...)
}

// grownDicts returns the dictionaries that sets, drops and packings in a fixed order make, one out of the other.
func grownDicts(n int) []impl.Dict {
	r := rand.New(rand.NewSource(3))
	keys := dictKeys(60)
	d := emptyDict(8)
	var list []impl.Dict
	for i := range n {
		key := keys[r.Intn(len(keys))]
		switch live := keysOf(d); {
		case r.Intn(40) == 0:
			d = packedWanted(d, 0)
		case len(live) > 0 && r.Intn(100) < 30+40*(i/60%2):
			d, _ = dropWanted(d, live[r.Intn(len(live))])
		default:
			d, _ = setWanted(d, key, r.Intn(2000001)-1000000)
		}
		list = append(list, d)
	}
	return list
}

// brokenDict is a dictionary that is not valid, and why.
type brokenDict struct {
	why string
	d   impl.Dict
}

// changed returns a dictionary with some of it changed.
func changed(why string, d impl.Dict, change func(d *impl.Dict)) brokenDict {
	d = copied(d)
	change(&d)
	return brokenDict{why, d}
}

// slotOf returns the slot that leads to an entry.
func slotOf(d *impl.Dict, i int) *int {
	return &d.Index[slices.Index(d.Index, i)]
}

// brokenDicts returns dictionaries that are invalid in one way each.
func brokenDicts() []brokenDict {
	list := append(brokenSlots(), brokenEntries()...)
	list = append(list, brokenCounts()...)
	return append(list, brokenProbes()...)
}

func brokenSlots() []brokenDict {
	var list []brokenDict
	whole := built(8, []string{"a", "b", "c", "d"}, 1)
	for _, slot := range []int{-3, 4, 5, 8, -1 << 63, 1<<63 - 1, -1000000, 1000000} {
		list = append(list, changed("a slot out of range", whole, func(d *impl.Dict) { *slotOf(d, -1) = slot }))
		list = append(list, changed("a slot out of range instead of an entry's", whole, func(d *impl.Dict) { *slotOf(d, 3) = slot }))
		list = append(list, changed("a slot out of range instead of a dropped one", whole, func(d *impl.Dict) { *slotOf(d, -2) = slot }))
	}
	list = append(list,
		brokenDict{"a slot, but no entries", impl.Dict{Index: []int{-1, -1, 0, -1, -1, -1, -1, -1}}},
		changed("a slot of an entry that is not live", whole, func(d *impl.Dict) { *slotOf(d, -1) = 1 }),
		changed("a slot of an entry that is not live instead of a dropped one", whole, func(d *impl.Dict) { *slotOf(d, -2) = 1 }),
		changed("no slot, it is empty", whole, func(d *impl.Dict) { *slotOf(d, 0) = -1 }),
		changed("no slot, it is dropped", whole, func(d *impl.Dict) { *slotOf(d, 0) = -2 }),
		changed("no slot, it is another one's", whole, func(d *impl.Dict) { *slotOf(d, 0) = 2 }),
		changed("two slots, one of which was empty", whole, func(d *impl.Dict) { *slotOf(d, -1) = 0 }),
		changed("two slots, one of which was dropped", whole, func(d *impl.Dict) { *slotOf(d, -2) = 3 }),
		changed("a dropped slot too many", whole, func(d *impl.Dict) { *slotOf(d, -1) = -2 }),
		changed("a dropped slot too few", whole, func(d *impl.Dict) { *slotOf(d, -2) = -1 }),
		changed("a dropped slot, but no entry", emptyDict(8), func(d *impl.Dict) { d.Index[3] = -2 }),
		changed("all slots dropped", emptyDict(8), func(d *impl.Dict) { d.Index = slices.Repeat([]int{-2}, 8) }),
		changed("an entry dropped without its slot", whole, func(d *impl.Dict) { d.Entries[0] = impl.Entry{} }),
		changed("an entry without a slot", whole, func(d *impl.Dict) { d.Entries = append(d.Entries, entry("z", 1)) }),
		changed("a dropped entry without a slot", whole, func(d *impl.Dict) { d.Entries = append(d.Entries, impl.Entry{}) }),
		changed("an entry less than slots", whole, func(d *impl.Dict) { d.Entries = d.Entries[:3] }),
		changed("no entries, but slots", whole, func(d *impl.Dict) { d.Entries = nil }))
	return list
}

func brokenEntries() []brokenDict {
	var list []brokenDict
	whole := built(8, []string{"a", "b", "c", "d"}, 1)
	for i, field := range []impl.Entry{{Key: "b"}, {Hash: hashWanted("b")}, {Hash: 7}, {Value: 1}, {Value: -1}, {Key: "b", Hash: hashWanted("b"), Value: 1}} {
		list = append(list, changed("an entry that is neither live nor zero "+string(rune('0'+i)), whole, func(d *impl.Dict) { d.Entries[1] = field }))
	}
	for _, hash := range []int{0, 7, -1, hashWanted("a") + 8, hashWanted("a") - 65536, hashWanted("a") + 65536, -1 << 63} {
		list = append(list, changed("a wrong hash", whole, func(d *impl.Dict) { d.Entries[0].Hash = hash }))
	}
	for _, value := range []int{-1000001, 1000001, -1 << 63, 1<<63 - 1} {
		list = append(list, changed("a value out of range", whole, func(d *impl.Dict) { d.Entries[0].Value = value }))
	}
	long := built(8, []string{tooLongKey})
	list = append(list,
		changed("another key, with its old hash", whole, func(d *impl.Dict) { d.Entries[0].Key = "e" }),
		changed("a live entry that is zero besides", whole, func(d *impl.Dict) { d.Entries[0] = impl.Entry{Live: true} }),
		changed("an entry that is not live any more", whole, func(d *impl.Dict) { d.Entries[0].Live = false }),
		changed("an entry that is not live, with a dropped slot", whole, func(d *impl.Dict) { *slotOf(d, 0), d.Entries[0].Live = -2, false }),
		brokenDict{"a key that is too long", long},
		changed("a key that is too long, with the hash of such texts", long, func(d *impl.Dict) { d.Entries[0].Hash = -1 }),
		brokenDict{"a key that is far too long", built(8, []string{strings.Repeat("k", 100000)})},
		brokenDict{"a key twice", built(8, []string{"a", "a"})},
		brokenDict{"a key twice, the values are the same", put(put(emptyDict(16), entry("", 1)), entry("", 1))},
		brokenDict{"a key twice, others between", built(32, []string{"a", "b", "c", "d", "e", "f", "a"})})
	return list
}

func brokenCounts() []brokenDict {
	var list []brokenDict
	for _, slots := range slotCounts {
		room := 2 * slots / 3
		keys := dictKeys(room + 1)
		list = append(list,
			brokenDict{"an entry too many", built(slots, keys, upTo(min(room, 40), room)...)},
			brokenDict{"a dropped entry too many", built(slots, keys, upTo(0, room+1)...)})
	}
	for _, slots := range []int{1, 2, 4, 7, 9, 12, 15, 17, 24, 63, 65, 96, 127, 129, 256, 1024, 65536} {
		list = append(list, brokenDict{"such a number of slots", emptyDict(slots)}, brokenDict{"such a number of slots", built(slots, dictKeys(1))})
	}
	return append(list,
		brokenDict{"no slots", impl.Dict{}},
		brokenDict{"an entry, but no slots", impl.Dict{Entries: []impl.Entry{entry("a", 1)}}},
		brokenDict{"a dropped entry, but no slots", impl.Dict{Entries: make([]impl.Entry, 1)}},
		brokenDict{"live entries in all slots", built(8, dictKeys(8))},
		brokenDict{"41 live entries", built(64, dictKeys(41))},
		brokenDict{"41 live entries", built(128, dictKeys(41))},
		brokenDict{"85 live entries", built(128, dictKeys(85))},
		brokenDict{"41 live entries, and dropped ones", built(128, dictKeys(85), upTo(0, 44)...)},
		brokenDict{"a great many entries", impl.Dict{Index: emptyDict(128).Index, Entries: make([]impl.Entry, 100000)}})
}

// brokenProbes returns dictionaries in which looking for a key ends ahead of its slot, or passes it.
func brokenProbes() []brokenDict {
	// i comes behind a, whose first slot it has.
	behind := built(8, []string{"a", "i"})
	list := []brokenDict{
		changed("two keys in each other's slots", built(8, []string{"a", "b"}), func(d *impl.Dict) { d.Index[2], d.Index[3] = 1, 0 }),
		changed("a key behind an empty slot", behind, func(d *impl.Dict) {
			*slotOf(d, 0) = -1
			*slotOf(d, 1) = 0
			d.Entries = []impl.Entry{entry("i", 1)}
		}),
		changed("a key in a slot that its way never needs", built(8, []string{"a"}), func(d *impl.Dict) {
			*slotOf(d, 0) = -1
			d.Index[4] = 0
		}),
		changed("a dropped slot behind which there is nothing", built(8, []string{"a", "b"}, 0), func(d *impl.Dict) {
			*slotOf(d, 1) = -1
			d.Index[6] = 1
		}),
	}
	full := built(128, dictKeys(40))
	for i := range full.Entries {
		list = append(list, changed("a key moved to the last empty slot on its way", full, func(d *impl.Dict) {
			way := wayWanted(d.Entries[i].Hash, 128, 1280)
			*slotOf(d, i) = -1
			slices.Reverse(way)
			for _, slot := range way {
				if d.Index[slot] == -1 && slot != way[len(way)-1] {
					d.Index[slot] = i
					break
				}
			}
		}))
	}
	return list
}

// gotten returns the value of a key that must be there.
func gotten(t *testing.T, d impl.Dict, key string) int {
	t.Helper()
	value, ok := impl.DictGet(d, key)
	if !ok {
		t.Fatalf("DictGet(%v, %q) is not there", d, key)
	}
	return value
}

// setDict returns a dictionary after a set that must succeed.
func setDict(t *testing.T, d impl.Dict, key string, value int) impl.Dict {
	t.Helper()
	set, ok := impl.DictSet(d, key, value)
	if !ok {
		t.Fatalf("DictSet(%v, %q, %d) is not there", d, key, value)
	}
	return set
}

// dropped returns a dictionary after a drop that must succeed.
func dropped(t *testing.T, d impl.Dict, key string) impl.Dict {
	t.Helper()
	drop, ok := impl.DictDrop(d, key)
	if !ok {
		t.Fatalf("DictDrop(%v, %q) is not there", d, key)
	}
	return drop
}

// without returns the keys but for one.
func without(keys []string, key string) []string {
	return slices.DeleteFunc(slices.Clone(keys), func(k string) bool { return k == key })
}

// sameValues checks that all keys but one have the values that they have in another dictionary.
func sameValues(t *testing.T, d impl.Dict, other impl.Dict, but string) {
	t.Helper()
	for _, key := range without(impl.DictKeys(other), but) {
		if x, y := gotten(t, d, key), gotten(t, other, key); x != y {
			t.Errorf("%q is %d in %v, but was %d", key, x, d, y)
		}
	}
}

// eachKey checks dictionaries with keys that are there, and keys that are not.
func eachKey(t *testing.T, check func(d impl.Dict, key string)) {
	t.Helper()
	for _, d := range dicts() {
		for _, key := range append(dictKeys(30), "none", "\x00", "K", "sz", fullKey[1:]) {
			check(d, key)
		}
	}
}

// TestHelpersOfDictionaries holds what the tests want against what the document tells outright.
func TestHelpersOfDictionaries(t *testing.T) {
	if hashWanted("") != 7 || hashWanted("a") != 314 || hashWanted("a@") != hashWanted("b!") || hashWanted("Aa") != hashWanted("BB") {
		t.Error("the hashes are wrong")
	}
	if way := wayWanted(314, 8, 6); !reflect.DeepEqual(way, []int{2, 2, 7, 4, 5, 2}) {
		t.Errorf("the way of a is %v", way)
	}
	for i, d := range dicts() {
		if !okWanted(d) {
			t.Errorf("%d is not valid: %v", i, d)
		}
	}
	for _, b := range brokenDicts() {
		if okWanted(b.d) {
			t.Errorf("%s is valid: %v", b.why, b.d)
		}
	}
	keys := dictKeys(90)
	slices.Sort(keys)
	if len(slices.Compact(keys)) != 90 {
		t.Error("a key is there twice")
	}
}
