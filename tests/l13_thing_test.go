package tests

import (
	"fmt"
	"slices"
	"strings"
	"testing"

	"loop.example/g00089/impl"
)

// things are of the names, each with a byte of its own; every third one is lost.
func things(names ...string) []impl.Thing {
	list := []impl.Thing{}
	for i, name := range names {
		thing := impl.Thing{Name: name, Bytes: []byte{byte(i + 1), 0}}
		if i%3 == 2 {
			thing = impl.Thing{Name: name, Lost: true}
		}
		list = append(list, thing)
	}
	return list
}

// plainDropped goes through a list by hand, plainPutIn puts by hand where the
// first greater name stands.
func plainDropped(list []impl.Thing, name string) []impl.Thing {
	left := []impl.Thing{}
	for _, thing := range list {
		if thing.Name != name {
			left = append(left, thing)
		}
	}
	return left
}

func plainPutIn(list []impl.Thing, name string, bytes []byte) []impl.Thing {
	told, stands := []impl.Thing{}, false
	for _, thing := range plainDropped(list, name) {
		if !stands && thing.Name > name {
			told, stands = append(told, impl.Thing{Name: name, Bytes: bytes}), true
		}
		told = append(told, thing)
	}
	if !stands {
		told = append(told, impl.Thing{Name: name, Bytes: bytes})
	}
	return told
}

func wantSameThings(t *testing.T, what string, got, want []impl.Thing) {
	t.Helper()
	if !same(got, want) {
		t.Errorf("%s: %v, want %v", what, got, want)
	}
	if !impl.SameThings(got, want) {
		t.Errorf("%s: %v and %v are not the same", what, got, want)
	}
}

func TestPutThings(t *testing.T) {
	put := impl.Thing{Name: "m", Bytes: []byte{9}}
	b, x := impl.Thing{Name: "b", Bytes: []byte{1}}, impl.Thing{Name: "x", Lost: true}
	old, lost := impl.Thing{Name: "m", Bytes: []byte{5, 5}}, impl.Thing{Name: "m", Lost: true}
	for _, c := range []struct {
		name       string
		list, want []impl.Thing
	}{
		{"nothing", nil, []impl.Thing{put}},
		{"an empty list", []impl.Thing{}, []impl.Thing{put}},
		{"ahead of all", []impl.Thing{x}, []impl.Thing{put, x}},
		{"behind all", []impl.Thing{b}, []impl.Thing{b, put}},
		{"between", []impl.Thing{b, x}, []impl.Thing{b, put, x}},
		{"there once", []impl.Thing{b, old, x}, []impl.Thing{b, put, x}},
		{"there and lost", []impl.Thing{b, lost, x}, []impl.Thing{b, put, x}},
		{"there alone", []impl.Thing{old}, []impl.Thing{put}},
		{"there twice", []impl.Thing{old, b, lost, x}, []impl.Thing{b, put, x}},
		{"there twice at the end", []impl.Thing{b, old, old}, []impl.Thing{b, put}},
		{"falling", []impl.Thing{x, b}, []impl.Thing{put, x, b}},
		{"falling and there", []impl.Thing{b, x, old, b}, []impl.Thing{b, put, x, b}},
		{"others twice", []impl.Thing{b, b, x, x}, []impl.Thing{b, b, put, x, x}},
	} {
		wantSameThings(t, c.name, impl.PutThing(c.list, "m", []byte{9}), c.want)
		left := slices.DeleteFunc(slices.Clone(c.want), func(thing impl.Thing) bool { return thing.Name == "m" })
		wantSameThings(t, c.name+", dropped", impl.DropThing(c.list, "m"), left)
		wantSameThings(t, c.name+", put and dropped", impl.DropThing(c.want, "m"), left)
	}
}

// Names are held against each other byte by byte, whatever they are; a name
// stands ahead of one that it begins.
func TestThingsByTheBytesOfTheirNames(t *testing.T) {
	rising := []string{"", "\x00", "A", "Z", "a", "a\x00", "a0", "aa", "ab", "b", "z", "zzzzzzzz", "zzzzzzzzz", "{", "\x7f", "\x80", "é", "日", "\xff", "\xff\xff"}
	q := &sequence{state: 150}
	for range 200 {
		places := upTo(int64(len(rising)))
		for i := range places {
			other := q.pick(int64(len(places)))
			places[i], places[other] = places[other], places[i]
		}
		places = places[:q.pick(int64(len(places)+1))]
		var list, want []impl.Thing
		for _, place := range places {
			list = impl.PutThing(list, rising[place], []byte{byte(place)})
		}
		slices.Sort(places)
		for _, place := range places {
			want = append(want, impl.Thing{Name: rising[place], Bytes: []byte{byte(place)}})
		}
		wantSameThings(t, fmt.Sprint(places), list, want)
	}
}

// Any list of few names, rising or not, is put into and dropped from as the
// document says.
func TestThingsOfManyLists(t *testing.T) {
	names := []string{"a", "ab", "b", "c"}
	eachList(5, 0, 3, func(places []int64) {
		var there []string
		for _, place := range places {
			there = append(there, names[place])
		}
		list := things(there...)
		for _, name := range append(names, "", "aa", "d") {
			for _, bytes := range [][]byte{nil, {}, {0}, {7, 8, 9}} {
				wantSameThings(t, fmt.Sprint(there, " and ", name), impl.PutThing(list, name, bytes), plainPutIn(list, name, bytes))
			}
			wantSameThings(t, fmt.Sprint(there, " but ", name), impl.DropThing(list, name), plainDropped(list, name))
		}
	})
}

func TestThingsWithoutBytes(t *testing.T) {
	for _, bytes := range [][]byte{nil, {}} {
		got := impl.PutThing(things("b"), "a", bytes)
		if len(got) != 2 || got[0].Name != "a" || got[0].Lost || len(got[0].Bytes) != 0 {
			t.Errorf("%v", got)
		}
	}
	long := make([]byte, 100000)
	wantSameThings(t, "long", impl.PutThing(nil, "a", long), []impl.Thing{{Name: "a", Bytes: long}})
}

func TestSameThings(t *testing.T) {
	lists := [][]impl.Thing{
		nil,
		{{}},
		{{Name: "a"}},
		{{Name: "b"}},
		{{Name: "a", Lost: true}},
		{{Name: "a", Bytes: []byte{0}}},
		{{Name: "a", Bytes: []byte{1}}},
		{{Name: "a", Bytes: []byte{0, 0}}},
		{{Name: "a", Bytes: []byte{0, 1}}},
		{{Name: "a", Lost: true, Bytes: []byte{0}}},
		{{Name: "a"}, {Name: "a"}},
		{{Name: "a"}, {Name: "b"}},
		{{Name: "b"}, {Name: "a"}},
		{{Name: "a"}, {Name: "b", Lost: true}},
		{{Name: "a"}, {Name: "b", Bytes: []byte{3}}},
		{{Name: "a"}, {Name: "b"}, {Name: "c"}},
		{{Name: "a"}, {}},
		{{Name: "A"}},
		{{Name: "a\x00"}},
	}
	for i, a := range lists {
		for j, b := range lists {
			wantHolds(t, fmt.Sprint(a, " and ", b), impl.SameThings(a, deepCopy(b, 1)), i == j)
		}
	}
	empty := []impl.Thing{{Name: "a", Bytes: []byte{}}}
	wantHolds(t, "nil and empty", impl.SameThings(nil, []impl.Thing{}) && impl.SameThings([]impl.Thing{}, nil), true)
	wantHolds(t, "nil and empty bytes", impl.SameThings(lists[2], empty) && impl.SameThings(empty, lists[2]), true)
}

// One that differs in the last place of a long list is seen.
func TestThingsThatDifferInOnePlace(t *testing.T) {
	var names []string
	for i := range 30 {
		names = append(names, fmt.Sprint("n", i))
	}
	list := things(names...)
	for i := range list {
		for change, spoil := range []func(thing *impl.Thing){
			func(thing *impl.Thing) { thing.Name += "0" },
			func(thing *impl.Thing) { thing.Lost = !thing.Lost },
			func(thing *impl.Thing) { thing.Bytes = append(thing.Bytes, 0) },
			func(thing *impl.Thing) { thing.Bytes = []byte{77, 0} },
		} {
			other := deepCopy(list, 0)
			spoil(&other[i])
			wantHolds(t, fmt.Sprint("place ", i, ", change ", change), impl.SameThings(list, other) || impl.SameThings(other, list), false)
		}
		wantHolds(t, "shorter", impl.SameThings(list, list[:i]) || impl.SameThings(list[:i], list), false)
	}
}

func TestThingsAreNew(t *testing.T) {
	for extra := range 3 {
		for _, names := range [][]string{nil, {"a"}, {"a", "b", "c"}, {"c", "b", "b", "a"}} {
			list, other := deepCopy(things(names...), extra), deepCopy(things(names...), extra)
			bytes := deepCopy([]byte{1, 2, 3}, extra)
			for _, name := range []string{"", "a", "b", "bb", "z"} {
				what := fmt.Sprint(names, " and ", name)
				wantNew(t, "PutThing, "+what, func() []impl.Thing { return impl.PutThing(list, name, bytes) }, list, bytes)
				wantNew(t, "DropThing, "+what, func() []impl.Thing { return impl.DropThing(list, name) }, list)
			}
			wantNew(t, "SameThings", func() bool { return impl.SameThings(list, other) }, list, other)
		}
	}
}

// What is put is told once, and what is dropped no more, in whatever order.
func TestThingsPutAndDropped(t *testing.T) {
	q := &sequence{state: 149}
	for range 60 {
		var list []impl.Thing
		truth := map[string][]byte{}
		for range 80 {
			name := strings.Repeat("a", int(q.pick(4))) + string(rune('a'+q.pick(4)))
			if q.pick(3) == 0 {
				list = impl.DropThing(list, name)
				delete(truth, name)
			} else {
				bytes := q.list(int(q.pick(4)))
				list = impl.PutThing(list, name, bytes)
				truth[name] = bytes
			}
			if len(list) != len(truth) {
				t.Fatalf("%d things, want %d", len(list), len(truth))
			}
			for i, thing := range list {
				bytes, there := truth[thing.Name]
				if !there || thing.Lost || !slices.Equal(thing.Bytes, bytes) || i > 0 && list[i-1].Name >= thing.Name {
					t.Fatalf("%v, want %v", list, truth)
				}
			}
		}
	}
}
