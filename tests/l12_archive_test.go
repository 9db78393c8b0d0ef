package tests

import (
	"fmt"
	"sync"
	"testing"

	"loop.example/g00089/impl"
)

// Every function of the archive answers what the document says, at archives of
// which each has something to be done in its turn.
func TestManyArchives(t *testing.T) {
	all := keepers()
	eachArchive(1200, 60, func(what string, q *sequence, r archiveRequest) {
		wantArchiveCode(t, what, r.Archive, impl.OK)
		wantAllKeepers(t, what, all, r)
	})
}

func TestManyArchivesWithoutPower(t *testing.T) {
	all := keepers()
	eachArchive(1210, 10, func(what string, q *sequence, r archiveRequest) {
		r.Archive = impl.CutArchive(r.Archive).Archive
		wantArchiveCode(t, what, r.Archive, impl.OK)
		wantAllKeepers(t, what, all, r)
	})
}

func TestManyArchivesKeepTheirArguments(t *testing.T) {
	all := keepers()
	eachArchive(1220, 12, func(what string, q *sequence, r archiveRequest) {
		r = deepCopy(r, int(q.pick(3)))
		if q.pick(2) == 0 {
			r.Archive.World.Stop = r.Archive.World.Writes + q.pick(12)
		}
		for _, k := range all {
			wantNew(t, k.name+", "+what, func() archiveReply { return k.call(r) }, r)
		}
	})
}

// wantCutArchive lets power fail at each raw write of a call, and at the one
// that would come behind the last. What was done ahead of it stays done, all
// that waited are answered, and nothing further is done.
func wantCutArchive(t *testing.T, what string, call func(a impl.Archive) archiveReply, a impl.Archive, plain func(a impl.Archive) archiveReply) int64 {
	t.Helper()
	a = deepCopy(a, 0)
	a.World.Writes, a.World.Stop = 0, -1
	whole := call(a)
	if whole.Code != impl.OK {
		t.Fatalf("%s: code %d", what, whole.Code)
	}
	for stop := range whole.Archive.World.Writes {
		a.World.Stop = stop
		got := call(a)
		w, d := got.Archive.World, got.Archive.Desk
		if got.Code != impl.ErrDown || got.Id != 0 || !w.Down || len(w.On) != 0 || w.Writes != stop {
			t.Errorf("%s, stop %d: code %d, id %d, down %v, on %v, writes %d", what, stop, got.Code, got.Id, w.Down, w.On, w.Writes)
		}
		if wait := idsIn(d); len(flat(wait)) != 0 {
			t.Errorf("%s, stop %d: %v wait", what, stop, wait)
		}
		wantArchiveCode(t, fmt.Sprint(what, ", stop ", stop), got.Archive, impl.OK)
		wantArchive(t, fmt.Sprint(what, ", stop ", stop), got, plain(a))
	}
	a.World.Stop = whole.Archive.World.Writes
	whole.Archive.World.Stop = a.World.Stop
	wantArchive(t, what+", no further write", call(a), whole)
	return whole.Archive.World.Writes
}

func flat(lists [][]int64) []int64 {
	var all []int64
	for _, list := range lists {
		all = append(all, list...)
	}
	return all
}

// wantCutTurn plans the turn once for all its writes.
func wantCutTurn(t *testing.T, what string, a impl.Archive) int64 {
	t.Helper()
	bare := deepCopy(a, 0)
	bare.World.Writes, bare.World.Stop = 0, -1
	p := turnedBy(bare, rightOrder())
	return wantCutArchive(t, what, func(a impl.Archive) archiveReply { return turnCall(archiveRequest{Archive: a}) }, a,
		func(a impl.Archive) archiveReply {
			p.start.Stop = a.World.Stop
			return p.reply()
		})
}

func TestTurnsCutAtEachWrite(t *testing.T) {
	writes := int64(0)
	eachArchive(1230, 12, func(what string, q *sequence, r archiveRequest) {
		// The many writes that clean full tapes are all alike.
		if r.Archive.Desk.Turn < 1000000000 && mostRecs(r.Archive.World) < 100 {
			writes += wantCutTurn(t, what, r.Archive)
		}
	})
	if writes < 1000 {
		t.Errorf("only %d writes", writes)
	}
}

// A put and a drop have two raw writes each, a read and a rebuild none.
func TestSubmitsCutAtEachWrite(t *testing.T) {
	eachArchive(1240, 25, func(what string, q *sequence, r archiveRequest) {
		for _, k := range submitters() {
			r.Archive.World.Stop = -1
			if k.plain(r).Code != impl.OK {
				continue
			}
			put := func(call func(q archiveRequest) archiveReply) func(a impl.Archive) archiveReply {
				return func(a impl.Archive) archiveReply {
					asked := r
					asked.Archive = a
					return call(asked)
				}
			}
			want := int64(2)
			if k.name == "SubmitRead" || k.name == "SubmitRebuild" {
				want = 0
			}
			if writes := wantCutArchive(t, k.name+", "+what, put(k.call), r.Archive, put(k.plain)); writes != want {
				t.Errorf("%s, %s: %d writes", k.name, what, writes)
			}
		}
	})
}

// One archive may be asked from many sides at once.
func TestArchiveFromManySides(t *testing.T) {
	eachArchive(1250, 2, func(what string, q *sequence, r archiveRequest) {
		var sides sync.WaitGroup
		for _, k := range keepers() {
			want := k.plain(r)
			for range 3 {
				sides.Add(1)
				go func() {
					defer sides.Done()
					if got := k.call(r); !same(got, want) {
						t.Errorf("%s, %s: %+v, want %+v", k.name, what, got, want)
					}
				}()
			}
		}
		sides.Wait()
	})
}
