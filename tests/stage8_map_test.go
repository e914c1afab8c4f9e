package tests

import (
	"math/rand/v2"
	"slices"
	"testing"

	"loop.example/pannier/impl"
)

func TestMapLimits(t *testing.T) {
	if impl.MapRanges != 3 || impl.MapMaxDisks != 4 || impl.MapMaxSize != 8 || impl.MapServers != 5 || impl.SynVoters != 3 || impl.BlkClients != 4 || impl.SynMaxSlots != 60 {
		t.Error(impl.MapRanges, impl.MapMaxDisks, impl.MapMaxSize, impl.MapServers, impl.SynVoters, impl.BlkClients, impl.SynMaxSlots)
	}
	codes := []int{impl.MapFine, impl.MapNoDisk, impl.MapBeyond, impl.MapNoSnap, impl.MapFull, impl.MapBusy, impl.MapAgain}
	kinds := []int{impl.CmdNone, impl.CmdCreate, impl.CmdSnap, impl.CmdDelete, impl.CmdGrow, impl.CmdView, impl.CmdAck, impl.CmdJudge}
	if !slices.Equal(codes, []int{0, 1, 2, 3, 4, 5, 6}) || !slices.Equal(kinds, []int{0, 1, 2, 3, 4, 5, 6, 7}) {
		t.Error(codes, kinds)
	}
	if impl.FreezeNone != 0 || impl.FreezeSnap != 1 || impl.FreezeDelete != 2 {
		t.Error(impl.FreezeNone, impl.FreezeSnap, impl.FreezeDelete)
	}
}

func TestMapStart(t *testing.T) {
	if m := impl.MapStart(); !mapSame(m, mapNew()) || !impl.MapOk(m) {
		t.Errorf("%+v", m)
	}
}

func TestMapOkOfMapsThatAre(t *testing.T) {
	for _, m := range mapsOk() {
		if !mapGood(m) || !impl.MapOk(m) {
			t.Errorf("%+v", m)
		}
	}
	for at := range 3 {
		if !impl.MapOk(mapWith(mapSome(), func(m *impl.MapState) { m.Disks[at].Epoch = 99999 })) {
			t.Errorf("the disk %d in the last epoch", at)
		}
	}
	full := mapWith(mapSome(), func(m *impl.MapState) { m.Slots = 60 })
	empty := mapWith(mapNew(), func(m *impl.MapState) { m.Disks, m.Done = []impl.MapDisk{}, []impl.MapDone{} })
	unfrozen := mapWith(mapSome(), func(m *impl.MapState) { m.Disks[0].Acks = []int{} })
	if !impl.MapOk(full) || !impl.MapOk(empty) || !impl.MapOk(unfrozen) {
		t.Error("Slots of SynMaxSlots, or lists that are empty")
	}
	for _, order := range mapOrders() {
		if !impl.MapOk(mapWith(mapSome(), func(m *impl.MapState) { m.Disks[1].Acks = order[:2] })) {
			t.Errorf("Acks of %v", order[:2])
		}
	}
}

// mapRefuses asks for the fixed answers of a map that is not ok.
func mapRefuses(t *testing.T, name string, m impl.MapState) {
	t.Helper()
	if mapGood(m) || impl.MapOk(m) {
		t.Errorf("%s: %+v is ok", name, m)
	}
	for disk := range 6 {
		for _, write := range []bool{false, true} {
			if code := impl.MapJudge(m, disk, 9*disk, disk, write); code != 1 || impl.MapJudge(m, disk, 0, 0, write) != 1 {
				t.Errorf("%s: judged %d", name, code)
			}
		}
	}
	for _, c := range append(mapWorks(), impl.Cmd{}, impl.Cmd{Kind: 6, Disk: 4, Epoch: 9, Range: 1, Num: 7}, impl.Cmd{Kind: 9}) {
		if after := impl.MapDo(m, c); !mapNothing(after) {
			t.Errorf("%s: %+v: %+v", name, c, after)
		}
	}
}

func TestMapsThatAreNotOk(t *testing.T) {
	for name, m := range mapsBad() {
		mapRefuses(t, name, m)
	}
	for name, change := range mapSpoils() {
		mapRefuses(t, name+", of as many as there may be", mapWith(mapSome(), func(m *impl.MapState) {
			m.Slots, m.Done = 59, append(m.Done, impl.MapDone{})
			m.Done[3] = m.Done[2]
			m.Done[2] = impl.MapDone{Client: 2, Call: 4}
			change(m)
		}))
	}
}

// Each number of a map that has limits is asked for at all of them.
func TestMapOkOfEachNumber(t *testing.T) {
	for n := -2; n <= 70; n++ {
		for name, c := range map[string]struct {
			set       func(m *impl.MapState)
			low, high int
		}{
			"Slots":   {func(m *impl.MapState) { m.Slots = n }, 0, 60},
			"Servers": {func(m *impl.MapState) { m.Servers, m.Views = n, slices.Repeat(m.Views[:1], 3) }, 3, 5},
			"Next":    {func(m *impl.MapState) { m.Next = n }, 1, 5},
			"A":       {func(m *impl.MapState) { m.Servers, m.Views[2].A, m.Views[2].B = 5, n, -1 }, 0, 4},
			"B":       {func(m *impl.MapState) { m.Views[0].B = n; m.Views[0].A = 2 }, -1, 1},
			"Size":    {func(m *impl.MapState) { m.Next, m.Disks = 2, []impl.MapDisk{{Id: 1, Size: n, Epoch: 1}} }, 1, 8},
			"Id":      {func(m *impl.MapState) { m.Next, m.Disks = 4, []impl.MapDisk{{Id: n, Size: 1, Epoch: 1}} }, 1, 3},
			"Code":    {func(m *impl.MapState) { m.Done = []impl.MapDone{{Client: 1, Call: 1, Code: n}} }, 0, 6},
			"Client":  {func(m *impl.MapState) { m.Done = []impl.MapDone{{Client: n, Call: 1}} }, 0, 3},
			"Frozen": {func(m *impl.MapState) {
				m.Next, m.Disks = 2, []impl.MapDisk{{Id: 1, Size: 1, Epoch: 1, Frozen: n, Call: 1}}
			}, 1, 2},
			"Acks": {func(m *impl.MapState) {
				m.Next, m.Disks = 2, []impl.MapDisk{{Id: 1, Size: 1, Epoch: 1, Frozen: 2, Call: 1, Acks: []int{n}}}
			}, 0, 2},
		} {
			if ok := impl.MapOk(mapWith(mapNew(), c.set)); ok != (n >= c.low && n <= c.high) {
				t.Errorf("%s %d: %v", name, n, ok)
			}
		}
	}
}

func TestJudgeOfEachMap(t *testing.T) {
	for _, m := range mapsOk() {
		for disk := -1; disk <= 6; disk++ {
			for block := -1; block <= 9; block++ {
				for _, epoch := range []int{secLowest, -2, -1, 0, 1, 2, 3, 4, 5, 6, 8, 9, 10, 99997, 99998, 99999, 100000, secHighest} {
					for _, write := range []bool{false, true} {
						if code, want := impl.MapJudge(m, disk, block, epoch, write), mapJudged(m, disk, block, epoch, write); code != want {
							t.Fatalf("%+v\n%d %d %d %v: %d, not %d", m, disk, block, epoch, write, code, want)
						}
					}
				}
			}
		}
	}
}

func TestDoOfEachMapAndCommand(t *testing.T) {
	cmds := mapCmds()
	for place, m := range mapsOk() {
		step := 1
		if place > 2 {
			step = 7
		}
		for at := place % step; at < len(cmds); at += step {
			mapAsked(t, m, cmds[at])
		}
	}
}

func TestDoOfAnyMaps(t *testing.T) {
	r := rand.New(rand.NewPCG(93, 94))
	var changed [8]int
	for range 60000 {
		m := mapAny(r)
		c := mapNear(r, m)
		after := mapAsked(t, m, c)
		after.Slots--
		if !mapSame(after, m) {
			changed[c.Kind]++
		}
	}
	for kind, n := range changed[1:] {
		if n < 300 {
			t.Errorf("of the kind %d only %d do anything", kind+1, n)
		}
	}
}

// A command that is nothing, or not in form, takes a slot, and does nothing else.
func TestDoOfCommandsNotInForm(t *testing.T) {
	works := append(mapWorks(), mapAck(mapSome(), 2, 0))
	for _, c := range works {
		for _, f := range mapCmdFields() {
			bad := c
			for _, *f.at(&bad) = range []int{secLowest, -1000, -3, -2, 100000, 100001, 1 << 40, secHighest} {
				mapStays(t, mapRoom(), bad)
				mapStays(t, mapSome(), bad)
			}
		}
		for _, kind := range []int{-1, 0, 8, 9, 15, 99999} {
			bad := c
			bad.Kind = kind
			mapStays(t, mapRoom(), bad)
			mapStays(t, mapSome(), bad)
		}
	}
	for _, c := range voteCmdsBad() {
		mapStays(t, mapRoom(), c)
	}
}

// What a command of a kind does not name may be any number that is in form.
func TestDoLooksAtItsOwnNumbers(t *testing.T) {
	own := [8][]string{
		1: {"Kind", "Client", "Call", "Arg"}, 2: {"Kind", "Client", "Call", "Disk"}, 3: {"Kind", "Client", "Call", "Disk"}, 4: {"Kind", "Client", "Call"},
		5: {"Kind", "Range", "Num", "A", "B"}, 6: {"Kind", "Disk", "Epoch", "Range", "Num"}, 7: {"Kind", "Client", "Call", "Disk", "Arg", "Epoch", "A"},
	}
	judge := impl.Cmd{Kind: 7, Client: 1, Call: 8, Disk: 1, Arg: 7, Epoch: 9, A: 1, Range: 2, Num: 4}
	m := mapWith(mapRoom(), func(m *impl.MapState) {
		m.Disks[1].Frozen, m.Disks[1].Call = 2, 9
	})
	for _, c := range append(mapWorks(), mapAck(m, 2, 0), judge) {
		want := impl.MapDo(m, c)
		for _, f := range mapCmdFields() {
			if slices.Contains(own[c.Kind], f.name) || c.A == 1 && c.Kind == 7 && (f.name == "Range" || f.name == "Num") {
				continue
			}
			loud := c
			for _, *f.at(&loud) = range []int{-1, 0, 1, 2, 3, 4, 7, 8, 99999} {
				if after := impl.MapDo(m, loud); !mapSame(after, want) {
					t.Errorf("%+v\n%+v, not\n%+v", loud, after, want)
				}
			}
		}
	}
	// A write has no epoch to be wrong in.
	for _, epoch := range []int{-1, 0, 1, 4, 5, 6, 99999} {
		judge.Epoch = epoch
		mapTells(t, m, judge, 6, 0)
	}
}

func TestDoTakesSlots(t *testing.T) {
	for _, c := range []impl.Cmd{{}, {Kind: 8}, {Kind: 5, Range: 9}, mapWorks()[0], mapWorks()[1], mapWorks()[5]} {
		for slots := range 60 {
			m := mapWith(mapRoom(), func(m *impl.MapState) { m.Slots = slots })
			if after := impl.MapDo(m, c); after.Slots != slots+1 || !mapSame(after, mapDone(m, c)) {
				t.Errorf("%d: %+v", slots, after)
			}
		}
		for _, slots := range []int{60, 61, -1} {
			if after := impl.MapDo(mapWith(mapRoom(), func(m *impl.MapState) { m.Slots = slots }), c); !mapNothing(after) {
				t.Errorf("%d: %+v", slots, after)
			}
		}
	}
}

func TestDoCreate(t *testing.T) {
	for size := 1; size <= 8; size++ {
		mapGoes(t, mapRoom(), impl.Cmd{Kind: impl.CmdCreate, Client: 2, Call: 1, Arg: size}, func(m *impl.MapState) {
			m.Disks, m.Next = append(m.Disks, impl.MapDisk{Id: 4, Size: size, Epoch: 1}), 5
			m.Done = slices.Insert(m.Done, 2, impl.MapDone{Client: 2, Call: 1, Value: 4})
		})
	}
	for _, size := range []int{-1, 0, 9, 10, 99999} {
		mapTells(t, mapRoom(), impl.Cmd{Kind: impl.CmdCreate, Client: 2, Call: 1, Arg: size}, 4, 0)
	}
	// Disks that have gone leave no room: their numbers are not given again.
	gone := mapWith(mapSome(), func(m *impl.MapState) { m.Disks = nil })
	for _, m := range []impl.MapState{mapSome(), gone} {
		mapTells(t, m, impl.Cmd{Kind: impl.CmdCreate, Client: 2, Call: 1, Arg: 4}, 4, 0)
	}
	m := mapNew()
	for id := 1; id <= 4; id++ {
		m = mapGoes(t, m, impl.Cmd{Kind: impl.CmdCreate, Client: id % 2, Call: id, Arg: id}, func(m *impl.MapState) {
			m.Disks, m.Next = append(m.Disks, impl.MapDisk{Id: id, Size: id, Epoch: 1}), id+1
			mapTold(m, impl.MapDone{Client: id % 2, Call: id, Value: id})
		})
	}
	mapTells(t, m, impl.Cmd{Kind: impl.CmdCreate, Client: 3, Call: 1, Arg: 1}, 4, 0)
}

func TestDoGrow(t *testing.T) {
	m := mapNew()
	for servers := 4; servers <= 5; servers++ {
		m = mapGoes(t, m, impl.Cmd{Kind: impl.CmdGrow, Client: 1, Call: servers}, func(m *impl.MapState) {
			m.Servers = servers
			m.Done = []impl.MapDone{{Client: 1, Call: servers, Value: servers}}
		})
	}
	mapTells(t, m, impl.Cmd{Kind: impl.CmdGrow, Client: 1, Call: 6}, 4, 0)
	mapTells(t, m, impl.Cmd{Kind: impl.CmdGrow, Client: 0, Call: 1}, 4, 0)
}

func TestDoFreeze(t *testing.T) {
	for kind := impl.CmdSnap; kind <= impl.CmdDelete; kind++ {
		for client := range 4 {
			// What was told of a call before stays told: of this one nothing has come yet.
			mapGoes(t, mapRoom(), impl.Cmd{Kind: kind, Client: client, Call: 10, Disk: 1}, func(m *impl.MapState) {
				m.Disks[0] = impl.MapDisk{Id: 1, Size: 8, Epoch: 5, Frozen: kind - 1, Client: client, Call: 10}
			})
			for _, disk := range []int{-1, 0, 3, 5, 99999} {
				mapTells(t, mapSome(), impl.Cmd{Kind: kind, Client: client, Call: 10, Disk: disk}, 1, 0)
			}
			for _, disk := range []int{2, 4} {
				mapTells(t, mapSome(), impl.Cmd{Kind: kind, Client: client, Call: 10, Disk: disk}, 5, 0)
			}
		}
	}
}

// mapLast is mapSome with a disk in the last epoch, frozen for a call that was not told yet.
func mapLast(frozen int, acks ...int) impl.MapState {
	return mapWith(mapSome(), func(m *impl.MapState) {
		m.Disks[1] = impl.MapDisk{Id: 2, Size: 3, Epoch: 99999, Frozen: frozen, Client: 1, Call: 7, Acks: acks}
	})
}

// Behind the last epoch there is none: the freeze of a snapshot goes on there, as the map would be spoilt by its end; a disk goes as any other one.
func TestDoAckInTheLastEpoch(t *testing.T) {
	for _, order := range mapOrders() {
		for _, frozen := range []int{1, 2} {
			m := mapLast(frozen)
			for n, r := range order[:2] {
				m = mapGoes(t, m, mapAck(m, 2, r), func(m *impl.MapState) { m.Disks[1].Acks = slices.Clone(order[:n+1]) })
			}
		}
		mapStays(t, mapLast(1, order[:2]...), mapAck(mapLast(1), 2, order[2]))
		mapGoes(t, mapLast(2, order[:2]...), mapAck(mapLast(2), 2, order[2]), func(m *impl.MapState) {
			m.Disks = slices.Delete(m.Disks, 1, 2)
			m.Done[1] = impl.MapDone{Client: 1, Call: 7}
		})
		ahead := mapWith(mapLast(1, order[:2]...), func(m *impl.MapState) { m.Disks[1].Epoch = 99998 })
		mapGoes(t, ahead, mapAck(ahead, 2, order[2]), func(m *impl.MapState) {
			m.Disks[1] = impl.MapDisk{Id: 2, Size: 3, Epoch: 99999}
			m.Done[1] = impl.MapDone{Client: 1, Call: 7, Value: 99998}
		})
	}
	unfrozen := mapWith(mapRoom(), func(m *impl.MapState) { m.Disks[1].Epoch = 99999 })
	mapGoes(t, unfrozen, impl.Cmd{Kind: impl.CmdSnap, Client: 2, Call: 1, Disk: 2}, func(m *impl.MapState) {
		m.Disks[1].Frozen, m.Disks[1].Client, m.Disks[1].Call = 1, 2, 1
	})
}

// mapToEnd is mapSome in which the range 1 is the last one to stop for a freeze of the client 1's call 7, this being told of the client.
func mapToEnd(frozen int, told ...impl.MapDone) impl.MapState {
	return mapWith(mapSome(), func(m *impl.MapState) {
		m.Disks[1].Frozen, m.Disks[1].Acks = frozen, []int{2, 0}
		m.Done = slices.Concat(m.Done[:1], told, m.Done[2:])
	})
}

// What comes of a freeze is told of the call that it was for, with the old epoch or 0, unless a later call of the client was told.
func TestDoAckEnds(t *testing.T) {
	for frozen, done := range map[int]impl.MapDone{1: {Client: 1, Call: 7, Value: 2}, 2: {Client: 1, Call: 7}} {
		end := func(told ...impl.MapDone) func(m *impl.MapState) {
			return func(m *impl.MapState) {
				if frozen == 1 {
					m.Disks[1] = impl.MapDisk{Id: 2, Size: 3, Epoch: 3}
				} else {
					m.Disks = slices.Delete(m.Disks, 1, 2)
				}
				m.Done = slices.Concat(m.Done[:1], told, m.Done[len(m.Done)-1:])
			}
		}
		ack := mapAck(mapSome(), 2, 1)
		mapGoes(t, mapToEnd(frozen), ack, end(done))
		for code := range 7 {
			for _, call := range []int{1, 6, 7} {
				mapGoes(t, mapToEnd(frozen, impl.MapDone{Client: 1, Call: call, Code: code, Value: 1}), ack, end(done))
			}
			for _, call := range []int{8, 9, 99999} {
				later := impl.MapDone{Client: 1, Call: call, Code: code, Value: 1}
				mapGoes(t, mapToEnd(frozen, later), ack, end(later))
			}
		}
		// A later call of the client that is not told yet, as a disk is frozen for it, changes nothing.
		both := mapWith(mapToEnd(frozen), func(m *impl.MapState) { m.Disks[2].Client, m.Disks[2].Call = 1, 8 })
		mapGoes(t, both, ack, end(done))
	}
}

// An acknowledgement comes behind the others, whatever their order, if all that it says is so.
func TestDoAckOfWhatIsNotSo(t *testing.T) {
	m := mapSome()
	mapGoes(t, m, mapAck(m, 2, 0), func(m *impl.MapState) { m.Disks[1].Acks = []int{2, 0} })
	mapGoes(t, m, mapAck(m, 2, 1), func(m *impl.MapState) { m.Disks[1].Acks = []int{2, 1} })
	mapStays(t, m, mapAck(m, 2, 2))
	mapStays(t, m, mapAck(m, 4, 0))
	mapStays(t, m, mapAck(m, 4, 2))
	for r := range 3 {
		mapStays(t, m, mapAck(m, 1, r))
	}
	for name, n := range map[string][]int{"Disk": {-1, 0, 1, 3, 5, 99999}, "Epoch": {-1, 0, 1, 3, 9, 99999}, "Range": {-1, 3, 4, 99999}, "Num": {-1, 0, 2, 4, 7, 99999}} {
		for _, f := range mapCmdFields() {
			if f.name != name {
				continue
			}
			bad := mapAck(m, 2, 0)
			for _, *f.at(&bad) = range n {
				mapStays(t, m, bad)
			}
		}
	}
}

// mapToldAs is mapRoom with a call of the client 1 told by a code.
func mapToldAs(call, code int) impl.MapState {
	return mapWith(mapRoom(), func(m *impl.MapState) { m.Done[1] = impl.MapDone{Client: 1, Call: call, Code: code, Value: 2} })
}

// mapAsksOf is a client's command of each kind, of a call, that changes mapRoom if the call is not past.
func mapAsksOf(client, call int) []impl.Cmd {
	return []impl.Cmd{
		{Kind: 1, Client: client, Call: call, Arg: 2}, {Kind: 1, Client: client, Call: call, Arg: 9},
		{Kind: 2, Client: client, Call: call, Disk: 2}, {Kind: 2, Client: client, Call: call, Disk: 3},
		{Kind: 3, Client: client, Call: call, Disk: 2}, {Kind: 3, Client: client, Call: call, Disk: 3},
		{Kind: 4, Client: client, Call: call},
		{Kind: 7, Client: client, Call: call, Disk: 1, Arg: 9}, {Kind: 7, Client: client, Call: call, Disk: 1, Arg: 9, A: 1, Range: 1, Num: 7},
	}
}

// mapMoves says whether a command does more than take a slot.
func mapMoves(t *testing.T, m impl.MapState, c impl.Cmd) bool {
	t.Helper()
	after := mapAsked(t, m, c)
	after.Slots--
	return !mapSame(after, m)
}

func TestDoOfCallsThatWereTold(t *testing.T) {
	for code := range 7 {
		for _, told := range []int{1, 5, 99999} {
			for _, call := range []int{1, 4, 5, 6, 99998, 99999} {
				want := call > told || call == told && code == 6
				for _, c := range mapAsksOf(1, call) {
					if mapMoves(t, mapToldAs(told, code), c) != want {
						t.Errorf("told %d with %d: %+v", told, code, c)
					}
				}
				for _, c := range mapAsksOf(2, call) {
					if !mapMoves(t, mapToldAs(told, code), c) {
						t.Errorf("told another client: %+v", c)
					}
				}
			}
		}
	}
}

func TestDoOfCallsThatADiskIsFrozenFor(t *testing.T) {
	for frozen := 1; frozen <= 2; frozen++ {
		for _, call := range []int{1, 4, 5, 6, 7, 99999} {
			m := mapWith(mapRoom(), func(m *impl.MapState) {
				m.Done = nil
				m.Disks[0].Frozen, m.Disks[0].Client, m.Disks[0].Call = frozen, 1, 5
			})
			for _, c := range mapAsksOf(1, call) {
				if mapMoves(t, m, c) != (call > 5) {
					t.Errorf("frozen for the call 5: %+v", c)
				}
			}
			for _, c := range mapAsksOf(2, call) {
				if !mapMoves(t, m, c) {
					t.Errorf("frozen for another client: %+v", c)
				}
			}
			// Also if MapAgain was told of the call that it is frozen for.
			m.Done = []impl.MapDone{{Client: 1, Call: 5, Code: 6}}
			for _, c := range mapAsksOf(1, call) {
				if mapMoves(t, m, c) != (call > 5) {
					t.Errorf("frozen for the call 5, which was told MapAgain: %+v", c)
				}
			}
		}
	}
}

// A command of no client, or of no call, does nothing.
func TestDoOfNoClientAndNoCall(t *testing.T) {
	for call := -1; call <= 1; call++ {
		for _, client := range []int{-1, 0, 1, 2, 3, 4, 5, 99999} {
			m := mapWith(mapRoom(), func(m *impl.MapState) { m.Done = nil })
			for _, c := range mapAsksOf(client, call) {
				if want := call == 1 && client >= 0 && client <= 3; mapMoves(t, m, c) != want {
					t.Errorf("%+v: it does something: %v", c, !want)
				}
			}
		}
	}
}

func TestDoJudge(t *testing.T) {
	for _, c := range []struct{ disk, block, epoch, read, write int }{
		{1, 0, 0, 6, 6}, {1, 7, 0, 6, 6}, {1, 8, 0, 2, 2}, {1, -1, 0, 2, 2}, {1, 99999, 9, 2, 2}, {3, 9, 9, 1, 1}, {0, 0, 0, 1, 1}, {-1, 0, 0, 1, 1}, {5, 0, 0, 1, 1},
		{1, 0, -1, 3, 6}, {1, 0, 1, 6, 6}, {1, 0, 4, 6, 6}, {1, 0, 5, 3, 6}, {1, 0, 6, 3, 6}, {1, 0, 99999, 3, 6}, {2, 2, 1, 6, 6}, {2, 2, 2, 3, 6}, {2, 3, 2, 2, 2},
	} {
		judge := impl.Cmd{Kind: impl.CmdJudge, Client: 0, Call: 6, Disk: c.disk, Arg: c.block, Epoch: c.epoch, Range: 1, Num: 7}
		for _, judge.A = range []int{-1, 0, 2, 3, 99999} {
			mapTells(t, mapSome(), judge, c.read, 0)
		}
		judge.A = 1
		mapTells(t, mapSome(), judge, c.write, 0)
	}
}

// Of a write nothing comes, if whoever wanted it judged did so in a view that is not the range's; of a read that is not asked.
func TestDoJudgeInAView(t *testing.T) {
	for r := -1; r <= 4; r++ {
		for num := -1; num <= 9; num++ {
			judge := impl.Cmd{Kind: impl.CmdJudge, Client: 2, Call: 1, Disk: 1, Arg: 8, A: 1, Range: r, Num: num}
			if r == 0 && num == 3 || r == 1 && num == 7 || r == 2 && num == 4 {
				mapTells(t, mapSome(), judge, 2, 0)
			} else {
				mapStays(t, mapSome(), judge)
			}
			for _, judge.A = range []int{-1, 0, 2} {
				mapTells(t, mapSome(), judge, 2, 0)
			}
		}
	}
}

func TestMapOf(t *testing.T) {
	if m := impl.MapOf(nil); !mapSame(m, mapNew()) {
		t.Errorf("of no commands: %+v", m)
	}
	create := func(n int) impl.Cmd { return impl.Cmd{Kind: impl.CmdCreate, Client: n % 4, Call: 1 + n, Arg: 3} }
	for n := range 63 {
		var list []impl.Cmd
		for at := range n {
			list = append(list, create(at))
		}
		m := impl.MapOf(list)
		if n > 60 {
			if !mapNothing(m) {
				t.Errorf("%d: %+v", n, m)
			}
			continue
		}
		if m.Slots != n || len(m.Disks) != min(n, 4) || len(m.Done) != min(n, 4) || !impl.MapOk(m) {
			t.Errorf("%d: %+v", n, m)
		}
	}
	for _, n := range []int{61, 100, 1000, 100000} {
		if m := impl.MapOf(make([]impl.Cmd, n)); !mapNothing(m) {
			t.Errorf("%d: %+v", n, m)
		}
	}
}
