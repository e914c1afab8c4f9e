package tests

import (
	"math/rand/v2"
	"slices"
	"testing"

	"loop.example/pannier/impl"
)

func TestMapRange(t *testing.T) {
	for _, c := range []struct{ disk, block, r int }{
		{1, 0, 1}, {1, 1, 2}, {1, 2, 0}, {1, 7, 2},
		{2, 0, 2}, {2, 1, 0}, {3, 0, 0}, {4, 7, 2},
		{0, 0, 0}, {0, 1, 1}, {0, 2, 2}, {0, 5, 2}, {7, 0, 1}, {8, 8, 1},
		{0, 99999, 0}, {99999, 0, 0}, {99999, 99999, 0}, {1, 99999, 1}, {99999, 1, 1}, {2, 99999, 2}, {99999, 2, 2},
		{0, 99998, 2}, {99998, 0, 2}, {99998, 99998, 1}, {99998, 99999, 2}, {99999, 99998, 2},
		{-1, 0, 0}, {0, -1, 0}, {-1, -1, 0}, {-1, 2, 0}, {2, -1, 0}, {-1, 99999, 0}, {99999, -1, 0}, {-2, 1, 0}, {1, -2, 0}, {-2, 3, 0}, {3, -2, 0},
		{100000, 0, 0}, {0, 100000, 0}, {100000, 100000, 0}, {100000, 1, 0}, {1, 100000, 0}, {100000, 99999, 0}, {99999, 100000, 0},
		{100000, -2, 0}, {-2, 100000, 0}, {100001, 0, 0}, {0, 100001, 0}, {-1, 100000, 0}, {100000, -1, 0},
		{secHighest, secHighest, 0}, {secHighest, 0, 0}, {0, secHighest, 0}, {secHighest, 1, 0}, {1, secHighest, 0},
		{secLowest, secLowest, 0}, {secLowest, 0, 0}, {0, secLowest, 0}, {secLowest, 1, 0}, {1, secLowest, 0}, {secLowest, secHighest, 0}, {secHighest, secLowest, 0},
	} {
		if r := impl.MapRange(c.disk, c.block); r != c.r || r != placeRange(c.disk, c.block) {
			t.Errorf("the block %d of the disk %d: %d, not %d", c.block, c.disk, r, c.r)
		}
	}
}

// Each number there is stands once for the disk and once for the block, beside numbers at all ends.
func TestMapRangeOfEachNumber(t *testing.T) {
	var count [3]int
	others := []int{secLowest, -3, -2, -1, 0, 1, 2, 3, 7, 8, 50000, 99997, 99998, 99999, 100000, 100001, 100002, secHighest}
	for n := -10; n <= 100010; n++ {
		for _, other := range others {
			for _, c := range [2][2]int{{n, other}, {other, n}} {
				r := impl.MapRange(c[0], c[1])
				if r != placeRange(c[0], c[1]) {
					t.Fatalf("the block %d of the disk %d: %d", c[1], c[0], r)
				}
				count[r]++
			}
		}
	}
	for r, n := range count {
		if n < 600000 {
			t.Errorf("of the range %d are only %d", r, n)
		}
	}
}

func TestMapTarget(t *testing.T) {
	for servers, table := range placeTable() {
		for _, m := range []impl.MapState{mapNew(), placeGood(), mapSome(), mapRoom()} {
			m = mapWith(m, func(m *impl.MapState) {
				m.Servers, m.Views = servers, []impl.MapView{{Num: 2, A: 2, B: 1}, {Num: 3, A: 0, B: -1}, {Num: 9, A: servers - 1, B: 0}}
			})
			for r, want := range table {
				if first, second := impl.MapTarget(m, r); first != want[0] || second != want[1] {
					t.Errorf("of %d servers, the range %d: %d and %d, not %v", servers, r, first, second, want)
				}
			}
			for _, r := range placeFar() {
				if first, second := impl.MapTarget(m, r); first != 0 || second != 0 {
					t.Errorf("of %d servers, the range %d: %d and %d", servers, r, first, second)
				}
			}
		}
	}
}

// At the ends of each part, and of any maps; some are settled, and some would be but for a freeze.
func TestPlacesOfEachMap(t *testing.T) {
	for _, m := range mapsOk() {
		placeAsked(t, m)
	}
	for _, m := range mapsBad() {
		placeAsked(t, m)
	}
	r := rand.New(rand.NewPCG(111, 112))
	var count [2][2]int
	for range 20000 {
		m := mapAny(r)
		placeAsked(t, m)
		for at, both := range placeTable()[m.Servers] {
			turn := r.IntN(2)
			m.Views[at].A, m.Views[at].B = both[turn], both[1-turn]
		}
		if r.IntN(4) == 0 {
			m.Views[r.IntN(3)].B = -1
		}
		frozen, settled := 0, 0
		if slices.ContainsFunc(m.Disks, func(d impl.MapDisk) bool { return d.Frozen > 0 }) {
			frozen = 1
		}
		if placeAsked(t, m) {
			settled = 1
		}
		count[frozen][settled]++
	}
	if count[0][0] < 1000 || count[0][1] < 4000 || count[1][0] < 8000 || count[1][1] != 0 {
		t.Error(count)
	}
}

func TestSettledByServers(t *testing.T) {
	placeIs(t, "at first", impl.MapStart(), true)
	for servers := 3; servers <= 5; servers++ {
		placeIs(t, "as at first", mapWith(mapNew(), func(m *impl.MapState) { m.Servers = servers }), servers == 3)
		placeIs(t, "as wanted", placeOf(servers), true)
	}
	// Of four and of five the same are wanted, of three another one.
	placeIs(t, "one more than four", mapWith(placeOf(4), func(m *impl.MapState) { m.Servers = 5 }), true)
	placeIs(t, "one less than five", mapWith(placeOf(5), func(m *impl.MapState) { m.Servers = 4 }), true)
	grown := impl.MapDo(impl.MapStart(), impl.Cmd{Kind: impl.CmdGrow, Client: 2, Call: 1})
	placeIs(t, "a further server came", grown, false)
}

func TestSettledByViews(t *testing.T) {
	for servers := 3; servers <= 5; servers++ {
		for r, both := range placeTable()[servers] {
			first, second := both[0], both[1]
			with := func(a, b int) impl.MapState {
				return mapWith(placeOf(servers), func(m *impl.MapState) { m.Views[r].A, m.Views[r].B = a, b })
			}
			placeIs(t, "in this order", with(first, second), true)
			placeIs(t, "in that order", with(second, first), true)
			placeIs(t, "the first alone", with(first, -1), false)
			placeIs(t, "the second alone", with(second, -1), false)
			for other := range servers {
				if other == first || other == second {
					continue
				}
				placeIs(t, "the first, and a wrong second", with(first, other), false)
				placeIs(t, "the first behind a wrong one", with(other, first), false)
				placeIs(t, "the second, and a wrong first", with(other, second), false)
				placeIs(t, "the second ahead of a wrong one", with(second, other), false)
				placeIs(t, "another one alone", with(other, -1), false)
			}
		}
	}
}

// All views of all ranges: those who are right in each range are eight of all.
func TestSettledOfAllViews(t *testing.T) {
	for servers := 3; servers <= 5; servers++ {
		m, settled := placeOf(servers), 0
		for _, m.Views[0] = range placeViews(servers, 1) {
			for _, m.Views[1] = range placeViews(servers, 2) {
				for _, m.Views[2] = range placeViews(servers, 1) {
					is := impl.MapSettled(m)
					if is != placeSettled(m) {
						t.Fatalf("%+v: settled is %v", m, is)
					}
					if is {
						settled++
					}
				}
			}
		}
		if settled != 8 {
			t.Errorf("of %d servers: %d", servers, settled)
		}
	}
}

// One range that is right, or two, are not all.
func TestSettledOfSomeRanges(t *testing.T) {
	for servers := 3; servers <= 5; servers++ {
		for right := range 8 {
			m := placeOf(servers)
			for r := range 3 {
				if right>>r&1 == 0 {
					m.Views[r].A, m.Views[r].B = m.Views[r].B, -1
				}
			}
			placeIs(t, "some ranges", m, right == 7)
		}
	}
	// All ranges are kept, each by two who shall keep another one.
	for by := 1; by < 3; by++ {
		m := placeOf(4)
		for r, both := range placeTable()[4] {
			m.Views[(r+by)%3] = impl.MapView{Num: 1, A: both[0], B: both[1]}
		}
		placeIs(t, "turned", m, false)
	}
}

func TestSettledByDisks(t *testing.T) {
	placeIs(t, "all that there can be", placeGood(), true)
	for disks := range 5 {
		var all []impl.MapDisk
		for id := 1; id <= disks; id++ {
			all = append(all, impl.MapDisk{Id: id, Size: 9 - id, Epoch: 25000 * id / disks})
		}
		m := mapWith(mapNew(), func(m *impl.MapState) { m.Next, m.Disks = 5, all })
		placeIs(t, "none is frozen", m, true)
		for place := range disks {
			for frozen := 1; frozen <= 2; frozen++ {
				for _, acks := range [][]int{nil, {}, {0}, {2}, {1, 2}, {2, 0}} {
					placeIs(t, "one is frozen", mapWith(m, func(m *impl.MapState) {
						d := &m.Disks[place]
						d.Frozen, d.Client, d.Call, d.Acks = frozen, place, 1, acks
					}), false)
				}
			}
		}
	}
	placeIs(t, "each is frozen", mapWith(placeGood(), func(m *impl.MapState) {
		for place := range m.Disks {
			m.Disks[place].Frozen, m.Disks[place].Client, m.Disks[place].Call = 1+place%2, 3, 99999
		}
	}), false)
}

// A freeze that ends leaves the map settled.
func TestSettledBehindAFreeze(t *testing.T) {
	for kind := impl.CmdSnap; kind <= impl.CmdDelete; kind++ {
		m := mapRun(mapNew(), impl.Cmd{Kind: impl.CmdCreate, Client: 1, Call: 1, Arg: 4})
		placeIs(t, "with a disk", m, true)
		m = mapRun(m, impl.Cmd{Kind: kind, Client: 1, Call: 2, Disk: 1})
		for _, r := range []int{2, 0, 1} {
			placeIs(t, "frozen", m, false)
			m = impl.MapDo(m, mapAck(m, 1, r))
		}
		placeIs(t, "behind the freeze", m, true)
	}
}

// Nothing else of a map makes it settled, or not: numbers of views that differ, slots, what was told.
func TestSettledByNothingElse(t *testing.T) {
	for _, settled := range []bool{true, false} {
		m := placeGood()
		if !settled {
			m.Views[1].B = 0
		}
		placeIs(t, "as it is", m, settled)
		for _, nums := range [][3]int{{1, 1, 1}, {1, 2, 3}, {99999, 1, 99999}, {99999, 99999, 99999}, {5, 5, 4}} {
			placeIs(t, "numbers of views", mapWith(m, func(m *impl.MapState) {
				for r, num := range nums {
					m.Views[r].Num = num
				}
			}), settled)
		}
		for _, slots := range []int{0, 1, 59, 60} {
			placeIs(t, "Slots", mapWith(m, func(m *impl.MapState) { m.Slots = slots }), settled)
		}
		placeIs(t, "Next", mapWith(m, func(m *impl.MapState) { m.Next, m.Disks = 1, nil }), settled)
		placeIs(t, "lists that are empty", mapWith(m, func(m *impl.MapState) { m.Disks, m.Done = []impl.MapDisk{}, []impl.MapDone{} }), settled)
		for code := range 7 {
			placeIs(t, "Done", mapWith(m, func(m *impl.MapState) { m.Done = []impl.MapDone{{Client: 2, Call: 99999, Code: code, Value: -1}} }), settled)
		}
	}
}

// A map that would be settled but for being not ok: nobody shall keep its ranges, and it is not settled.
func TestPlacesOfMapsThatAreNotOk(t *testing.T) {
	bad := 0
	for name, change := range mapSpoils() {
		m := mapWith(placeGood(), change)
		if mapGood(m) {
			continue
		}
		bad++
		if placeAsked(t, m) || impl.MapSettled(m) {
			t.Errorf("%s: %+v is settled", name, m)
		}
	}
	if bad < 150 {
		t.Errorf("only %d", bad)
	}
	for name, m := range mapsBad() {
		if impl.MapSettled(m) {
			t.Errorf("%s: %+v is settled", name, m)
		}
		for r := -1; r <= 3; r++ {
			if first, second := impl.MapTarget(m, r); first != 0 || second != 0 {
				t.Errorf("%s: the range %d: %d and %d", name, r, first, second)
			}
		}
	}
	placeNotOk(t)
}

// placeNotOk is maps that are not ok, each at a limit just passed, which nothing but MapOk can see.
func placeNotOk(t *testing.T) {
	t.Helper()
	for name, change := range map[string]func(m *impl.MapState){
		"nothing":                func(m *impl.MapState) { *m = impl.MapState{} },
		"a slot too many":        func(m *impl.MapState) { m.Slots = 61 },
		"a server too many":      func(m *impl.MapState) { m.Servers = 6 },
		"a server too few":       func(m *impl.MapState) { m.Servers, m.Views = 2, slices.Repeat([]impl.MapView{{Num: 1, A: 0, B: 1}}, 3) },
		"no server":              func(m *impl.MapState) { m.Servers = 0 },
		"a number too great":     func(m *impl.MapState) { m.Next = 6 },
		"a view more":            func(m *impl.MapState) { m.Views = append(m.Views, impl.MapView{Num: 1, A: 0, B: 1}) },
		"a view fewer":           func(m *impl.MapState) { m.Views = m.Views[:2] },
		"no view":                func(m *impl.MapState) { m.Views = nil },
		"a view of no number":    func(m *impl.MapState) { m.Views[0].Num = 0 },
		"a view behind the last": func(m *impl.MapState) { m.Views[2].Num = 100000 },
		"a disk of no size":      func(m *impl.MapState) { m.Disks[0].Size = 0 },
		"a disk not made":        func(m *impl.MapState) { m.Disks[2].Id = 5 },
		"acknowledged":           func(m *impl.MapState) { m.Disks[1].Acks = []int{0} },
		"a call of no freeze":    func(m *impl.MapState) { m.Disks[1].Call = 1 },
		"a code too great":       func(m *impl.MapState) { m.Done[1].Code = 7 },
		"told falling":           func(m *impl.MapState) { slices.Reverse(m.Done) },
	} {
		m := mapWith(placeGood(), change)
		for r := -1; r <= 3; r++ {
			if first, second := impl.MapTarget(m, r); first != 0 || second != 0 {
				t.Errorf("%s: the range %d: %d and %d", name, r, first, second)
			}
		}
		if impl.MapSettled(m) || impl.MapOk(m) {
			t.Errorf("%s: %+v is settled", name, m)
		}
	}
}

// placeNext is the view that brings a range nearer to those who shall keep it.
func placeNext(v impl.MapView, first, second int) (int, int) {
	wanted := []int{first, second}
	switch {
	case v.B >= 0 && slices.Contains(wanted, v.A):
		return v.A, -1
	case v.B >= 0:
		return v.B, -1
	case v.A == first:
		return v.A, second
	}
	return v.A, first
}

// Whoever keeps the ranges, views that go on one by one bring each to those who shall keep it; then all is settled, and not before.
func TestRangesMoveToWhoShallKeepThem(t *testing.T) {
	r := rand.New(rand.NewPCG(113, 114))
	for range 2000 {
		m := mapAny(r)
		m.Slots, m.Disks = 0, nil
		for at := range m.Views {
			m.Views[at].Num = 1 + r.IntN(100)
		}
		for at := range 3 {
			first, second := impl.MapTarget(m, at)
			for steps := 0; m.Views[at].A+m.Views[at].B != first+second || !slices.Contains([]int{first, second}, m.Views[at].A); steps++ {
				if impl.MapSettled(m) || steps > 4 {
					t.Fatalf("the range %d behind %d steps: %+v", at, steps, m)
				}
				c := impl.Cmd{Kind: impl.CmdView, Range: at, Num: m.Views[at].Num + 1}
				c.A, c.B = placeNext(m.Views[at], first, second)
				m = impl.MapDo(m, c)
			}
		}
		placeIs(t, "moved", m, true)
	}
}
