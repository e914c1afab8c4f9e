package tests

import (
	"slices"
	"testing"

	"loop.example/pannier/impl"
)

var (
	mapMarkDisk = impl.MapDisk{Id: -7, Size: -7, Epoch: -7, Frozen: -7, Client: -7, Call: -7}
	mapMarkView = impl.MapView{Num: -7, A: -7, B: -7}
	mapMarkDone = impl.MapDone{Client: -7, Call: -7, Code: -7, Value: -7}
	mapOverDisk = impl.MapDisk{Id: -9, Size: -9, Epoch: -9, Frozen: -9, Client: -9, Call: -9}
	mapOverView = impl.MapView{Num: -9, A: -9, B: -9}
	mapOverDone = impl.MapDone{Client: -9, Call: -9, Code: -9, Value: -9}
)

// mapRoomy is a map with lists of its own, each with marked room behind its end.
func mapRoomy(m impl.MapState) impl.MapState {
	m.Disks, m.Views, m.Done = walRoom(m.Disks, mapMarkDisk), walRoom(m.Views, mapMarkView), walRoom(m.Done, mapMarkDone)
	for at := range m.Disks {
		m.Disks[at].Acks = walRoom(m.Disks[at].Acks, -7)
	}
	return m
}

// mapHeld says whether a map is as it was given, and the room behind each of its lists as it was marked.
func mapHeld(m, was impl.MapState) bool {
	held := mapSame(m, was) && walHeld(m.Views, was.Views, mapMarkView) && walHeld(m.Done, was.Done, mapMarkDone)
	for _, d := range m.Disks[len(m.Disks):cap(m.Disks)] {
		held = held && mapDiskSame(d, mapMarkDisk)
	}
	for at := 0; held && at < len(m.Disks); at++ {
		held = walHeld(m.Disks[at].Acks, was.Disks[at].Acks, -7)
	}
	return held
}

// mapScrawl writes over all lists of a map, the inner ones first.
func mapScrawl(m impl.MapState) {
	for _, d := range m.Disks[:cap(m.Disks)] {
		walScrawl(d.Acks, -9)
	}
	walScrawl(m.Disks, mapOverDisk)
	walScrawl(m.Views, mapOverView)
	walScrawl(m.Done, mapOverDone)
}

// mapSpans is where all lists of a map lie, also those of disks in the room behind its end; those without any room are left out.
func mapSpans(m impl.MapState) []councilSpan {
	out := []councilSpan{councilSpanOf("Disks", m.Disks), councilSpanOf("Views", m.Views), councilSpanOf("Done", m.Done)}
	for _, d := range m.Disks[:cap(m.Disks)] {
		out = append(out, councilSpanOf("Acks", d.Acks))
	}
	return slices.DeleteFunc(out, func(s councilSpan) bool { return s.start == s.end })
}

// mapsHeld keeps what is asked about alive, and where it is.
var mapsHeld []impl.MapState

// mapApart asks that no two lists of these maps share memory.
func mapApart(t *testing.T, name string, maps ...impl.MapState) {
	t.Helper()
	mapsHeld = maps
	var all []councilSpan
	for _, m := range maps {
		all = append(all, mapSpans(m)...)
	}
	spansApart(t, name, all)
}

// mapMemory is maps that are ok and that are not, with lists at every place, and such that each is empty.
func mapMemory() []impl.MapState {
	out := []impl.MapState{mapNew(), mapSome(), mapRoom(), mapToEnd(1), mapToEnd(2), mapLast(1, 2, 0), {}}
	for _, n := range []int{60, 61} {
		out = append(out, mapWith(mapSome(), func(m *impl.MapState) { m.Slots = n }))
	}
	for _, name := range []string{"a disk too many", "a view fewer", "a view more", "one of Done too many", "not frozen, with Acks", "Acks of all ranges of 1", "Slots -1"} {
		out = append(out, mapWith(mapSome(), mapSpoils()[name]))
	}
	return out
}

// mapMemoryCmds is commands that change every part of a map, and such that change nothing.
func mapMemoryCmds(m impl.MapState) []impl.Cmd {
	out := append(mapWorks(), voteCmds()...)
	out = append(out, impl.Cmd{Kind: 9}, impl.Cmd{Kind: 2, Client: -2}, impl.Cmd{Kind: 3, Client: 0, Call: 7, Disk: 2}, impl.Cmd{Kind: 4, Client: 3, Call: 10})
	if len(m.Views) == 3 {
		out = append(out, mapOwnCmds(m)...)
	}
	return out
}

func TestMapNothingIsWrittenIntoAnArgument(t *testing.T) {
	for _, m := range mapMemory() {
		given := mapRoomy(m)
		for _, c := range mapMemoryCmds(m) {
			if impl.MapDo(given, c); !mapHeld(given, m) {
				t.Fatalf("%+v writes into %+v", c, m)
			}
		}
		for disk := range 6 {
			impl.MapJudge(given, disk, disk, disk, disk%2 == 0)
		}
		if impl.MapOk(given) != mapGood(m) || !mapHeld(given, m) {
			t.Fatalf("%+v is written into", m)
		}
	}
}

func TestMapAnAnswerSharesNoMemory(t *testing.T) {
	for _, m := range mapMemory() {
		for _, c := range mapMemoryCmds(m) {
			given := mapRoomy(m)
			first, second := impl.MapDo(given, c), impl.MapDo(given, c)
			mapApart(t, "MapDo", given, first, second)
			want := mapCopied(first)
			mapScrawl(given)
			if !mapSame(first, want) {
				t.Fatalf("%+v\n%+v: what is written into the argument is seen in the answer", m, c)
			}
			mapScrawl(first)
			if !mapSame(second, want) {
				t.Fatalf("%+v\n%+v: what is written into the one answer is seen in the other", m, c)
			}
			given = mapRoomy(m)
			mapScrawl(impl.MapDo(given, c))
			if !mapHeld(given, m) || !mapSame(impl.MapDo(given, c), want) {
				t.Fatalf("%+v\n%+v: what is written into the answer is seen in the argument, or in another answer", m, c)
			}
		}
	}
}

func TestMapStartMemory(t *testing.T) {
	first, second, of := impl.MapStart(), impl.MapStart(), impl.MapOf(nil)
	mapApart(t, "MapStart", first, second, of)
	mapScrawl(first)
	mapScrawl(of)
	if !mapSame(second, mapNew()) || !mapSame(impl.MapStart(), mapNew()) || !mapSame(impl.MapOf(nil), mapNew()) {
		t.Error("what is written into the one start is seen in another one")
	}
}

func TestMapOfMemory(t *testing.T) {
	list := []impl.Cmd{{Kind: 1, Client: 1, Call: 1, Arg: 2}, {Kind: 2, Client: 0, Call: 1, Disk: 1}, {Kind: 6, Disk: 1, Epoch: 1, Range: 2, Num: 1}, {Kind: 4, Client: 3, Call: 1}, {Kind: 5, Range: 0, Num: 2, A: 1, B: -1}}
	mark := impl.Cmd{Kind: 1, Client: 2, Call: 1, Arg: 3}
	for n := range len(list) + 1 {
		given := walRoom(list[:n], mark)
		first, second := impl.MapOf(given), impl.MapOf(given)
		mapApart(t, "MapOf", first, second)
		// What stands behind the end of the list is not of it.
		want := mapRun(mapNew(), list[:n]...)
		if !mapSame(first, want) || !walHeld(given, list[:n], mark) {
			t.Fatalf("%d: %+v, not %+v", n, first, want)
		}
		mapScrawl(first)
		walScrawl(given, mark)
		if !mapSame(second, want) {
			t.Fatalf("%d: what is written elsewhere is seen in the answer", n)
		}
	}
}

// What stands behind the end of a list is not of the map, though it would be in order there.
func TestMapReadsNothingBehindAnEnd(t *testing.T) {
	full := mapWith(mapSome(), func(m *impl.MapState) {
		m.Disks[0] = impl.MapDisk{Id: 1, Size: 8, Epoch: 5, Frozen: 1, Client: 0, Call: 9, Acks: []int{0, 1, 2}}
		m.Next, m.Views = 5, append(m.Views, m.Views[0])
	})
	full.Views, full.Disks[0].Acks = full.Views[:3], full.Disks[0].Acks[:1]
	for disks := range 4 {
		for done := range 4 {
			short := full
			short.Disks, short.Done = full.Disks[:disks], full.Done[:done]
			if !impl.MapOk(short) {
				t.Fatalf("%+v is not ok", short)
			}
			for _, c := range append(mapWorks(), mapOwnCmds(short)...) {
				mapAsked(t, short, c)
			}
			for disk := range 6 {
				if code := impl.MapJudge(short, disk, 0, 1, false); code != mapJudged(short, disk, 0, 1, false) {
					t.Errorf("of %d disks: the disk %d is judged %d", disks, disk, code)
				}
			}
		}
	}
	full.Views = full.Views[:2]
	if impl.MapOk(full) {
		t.Error("a view is read behind the end")
	}
	full.Views = full.Views[:4]
	if impl.MapOk(full) {
		t.Error("a view too many is not seen")
	}
}
