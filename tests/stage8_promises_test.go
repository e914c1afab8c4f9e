package tests

import (
	"math/rand/v2"
	"slices"
	"testing"

	"loop.example/pannier/impl"
)

// mapUnspoilt is P24, of one command at a map that is ok and has a slot left.
func mapUnspoilt(t *testing.T, m impl.MapState, c impl.Cmd, after impl.MapState) {
	t.Helper()
	if !impl.MapOk(after) || !mapGood(after) {
		t.Fatalf("%+v\n%+v: it is not ok any more: %+v", m, c, after)
	}
	if after.Slots != m.Slots+1 || after.Servers < m.Servers || after.Next < m.Next {
		t.Fatalf("%+v\n%+v: no slot more, or something falls: %+v", m, c, after)
	}
	for _, d := range after.Disks {
		before, there := mapDiskOf(m, d.Id)
		if there && before.Epoch > d.Epoch || !there && (d.Id != m.Next || after.Next != m.Next+1) {
			t.Fatalf("%+v\n%+v: the disk %d comes, or its epoch falls: %+v", m, c, d.Id, after)
		}
	}
	for _, d := range m.Done {
		if mapCallTold(after, d.Client) < d.Call {
			t.Fatalf("%+v\n%+v: what was told of the client %d falls: %+v", m, c, d.Client, after)
		}
	}
}

func mapDiskOf(m impl.MapState, id int) (impl.MapDisk, bool) {
	for _, d := range m.Disks {
		if d.Id == id {
			return d, true
		}
	}
	return impl.MapDisk{}, false
}

func mapDoneFor(m impl.MapState, client int) impl.MapDone {
	for _, d := range m.Done {
		if d.Client == client {
			return d
		}
	}
	return impl.MapDone{}
}

func mapCallTold(m impl.MapState, client int) int {
	return mapDoneFor(m, client).Call
}

// mapsToGoOn is maps that are ok, with all slots left.
func mapsToGoOn(r *rand.Rand, n int) []impl.MapState {
	out := []impl.MapState{mapNew(), mapSome(), mapRoom()}
	for range n {
		out = append(out, mapAny(r))
	}
	for at := range out {
		out[at].Slots = 0
	}
	return out
}

// P24 in rows of commands of every kind up to SynMaxSlots, and one more, behind which there is nothing.
func TestP24InLongRows(t *testing.T) {
	r := rand.New(rand.NewPCG(101, 102))
	for _, m := range mapsToGoOn(r, 300) {
		for m.Slots < 60 {
			c := mapNear(r, m)
			after := impl.MapDo(m, c)
			mapUnspoilt(t, m, c, after)
			m = after
		}
		if after := impl.MapDo(m, mapNear(r, m)); !mapNothing(after) {
			t.Fatalf("behind all slots: %+v", after)
		}
	}
}

// mapOwnCmds is acknowledgements and views that have to do with a map.
func mapOwnCmds(m impl.MapState) []impl.Cmd {
	var out []impl.Cmd
	for r, v := range m.Views {
		for disk := 1; disk <= 4; disk++ {
			out = append(out, mapAck(m, disk, r))
		}
		next := impl.Cmd{Kind: impl.CmdView, Range: r, Num: v.Num + 1}
		for next.A = range m.Servers {
			for next.B = -1; next.B < m.Servers; next.B++ {
				out = append(out, next)
			}
		}
	}
	return out
}

// P24 of each command, at each map that is ok, those in the last epoch, and at the ends of all else, among them.
func TestP24OfEachCommand(t *testing.T) {
	all := mapCmds()
	for _, m := range mapsOk() {
		for _, c := range slices.Concat(all, mapOwnCmds(m)) {
			mapUnspoilt(t, m, c, impl.MapDo(m, c))
		}
	}
	for _, order := range mapOrders() {
		for frozen := 1; frozen <= 2; frozen++ {
			m := mapLast(frozen)
			for _, r := range order {
				c := mapAck(m, 2, r)
				after := impl.MapDo(m, c)
				mapUnspoilt(t, m, c, after)
				m = after
			}
		}
	}
}

// mapMayTurn says whether a range's view may go on by a command: by one, by who was of it, and not from two to two.
func mapMayTurn(m impl.MapState, c impl.Cmd) bool {
	v := m.Views[c.Range]
	first := c.A >= 0 && (c.A == v.A || c.A == v.B)
	second := c.B == -1 || v.B == -1 && c.B < m.Servers && c.B != c.A
	return c.Num == v.Num+1 && first && second
}

// P25 of every view of small numbers, and every command.
func TestP25OfEachView(t *testing.T) {
	turned := 0
	for servers := 3; servers <= 5; servers++ {
		for a := range servers {
			for b := -1; b < servers; b++ {
				for r := range 3 {
					m := mapWith(mapSome(), func(m *impl.MapState) {
						m.Servers, m.Views = servers, []impl.MapView{{Num: 3, A: 0, B: 1}, {Num: 7, A: 2, B: -1}, {Num: 4, A: 1, B: 2}}
						m.Views[r].A, m.Views[r].B = a, b
					})
					if a != b {
						turned += mapTurnsOf(t, m, r)
					}
				}
			}
		}
	}
	// Of n servers, each alone goes on alone, or with each other one, and each two go on as the one or the other alone: 3n², and 2n less, of each range.
	if turned != 3*(21+40+65) {
		t.Errorf("%d go on", turned)
	}
}

// mapTurnsOf asks for P25 of every command for a range, and answers at how many its view goes on.
func mapTurnsOf(t *testing.T, m impl.MapState, r int) int {
	t.Helper()
	turned := 0
	for num := -1; num <= 3; num++ {
		for a := -1; a <= 5; a++ {
			for b := -1; b <= 5; b++ {
				c := impl.Cmd{Kind: impl.CmdView, Range: r, Num: m.Views[r].Num + num, A: a, B: b}
				if !mapMayTurn(m, c) {
					mapStays(t, m, c)
					continue
				}
				turned++
				mapGoes(t, m, c, func(m *impl.MapState) { m.Views[r] = impl.MapView{Num: c.Num, A: a, B: b} })
			}
		}
	}
	return turned
}

// P25 by hand: from two to one, from one to two, from two to two, to another first, by one that is not of the view.
func TestP25ByHand(t *testing.T) {
	view := func(r, num, a, b int) impl.Cmd {
		return impl.Cmd{Kind: impl.CmdView, Range: r, Num: num, A: a, B: b}
	}
	for _, c := range []impl.Cmd{
		view(0, 4, 0, -1), view(0, 4, 1, -1), view(1, 8, 3, 0), view(1, 8, 3, 1), view(1, 8, 3, 2), view(1, 8, 3, -1), view(2, 5, 3, -1),
	} {
		mapGoes(t, mapSome(), c, func(m *impl.MapState) { m.Views[c.Range] = impl.MapView{Num: c.Num, A: c.A, B: c.B} })
	}
	for _, c := range []impl.Cmd{
		view(0, 2, 0, -1), view(0, 3, 0, -1), view(0, 5, 0, -1), view(0, 0, 0, -1), view(0, -1, 0, -1), view(0, 99999, 0, -1), view(0, 8, 0, -1),
		view(0, 4, 2, -1), view(0, 4, 3, -1), view(0, 4, 4, -1), view(0, 4, -1, -1), view(0, 4, 0, 1), view(0, 4, 1, 0), view(0, 4, 0, 2), view(0, 4, 1, 3),
		view(1, 8, 0, -1), view(1, 8, -1, 0), view(1, 8, -1, -1), view(1, 8, -1, 3), view(1, 8, 3, 3), view(1, 8, 3, 4), view(1, 8, 3, 5), view(1, 8, 3, 99999), view(1, 8, 0, 3),
		view(-1, 8, 3, -1), view(3, 8, 3, -1), view(3, 1, 0, -1), view(99999, 1, 0, -1),
	} {
		mapStays(t, mapSome(), c)
	}
}

// P25 at the last number of a view: there is none behind it, and that ahead of it goes on.
func TestP25AtTheLastNumber(t *testing.T) {
	for _, num := range []int{99997, 99998, 99999} {
		m := mapWith(mapSome(), func(m *impl.MapState) { m.Views[0].Num = num })
		for _, next := range []int{num - 1, num, num + 1, num + 2, 1} {
			c := impl.Cmd{Kind: impl.CmdView, Range: 0, Num: next, A: 1, B: -1}
			if next == num+1 && next <= 99999 {
				mapGoes(t, m, c, func(m *impl.MapState) { m.Views[0] = impl.MapView{Num: next, A: 1, B: -1} })
			} else {
				mapStays(t, m, c)
			}
		}
	}
}

// P25 in rows of commands.
func TestP25InLongRows(t *testing.T) {
	r := rand.New(rand.NewPCG(103, 104))
	turned := 0
	for _, m := range mapsToGoOn(r, 200) {
		for m.Slots < 60 {
			c := mapNear(r, m)
			after := impl.MapDo(m, c)
			for at, v := range after.Views {
				if v == m.Views[at] {
					continue
				}
				turned++
				if c.Kind != impl.CmdView || c.Range != at || v != (impl.MapView{Num: c.Num, A: c.A, B: c.B}) || !mapMayTurn(m, c) {
					t.Fatalf("%+v\n%+v: the view of the range %d is %v", m, c, at, v)
				}
			}
			m = after
		}
	}
	if turned < 500 {
		t.Errorf("only %d go on", turned)
	}
}

// mapIsOver says whether what comes of a client's call is settled, by what is told and by what is frozen.
func mapIsOver(m impl.MapState, c impl.Cmd) bool {
	return slices.Contains([]int{1, 2, 3, 4, 7}, c.Kind) && mapCmdGood(c) && c.Client >= 0 && c.Client <= 3 && c.Call >= 1 && mapPast(m, c)
}

// P26 at once: each kind of a client's command, at each map.
func TestP26AtOnce(t *testing.T) {
	r := rand.New(rand.NewPCG(105, 106))
	var over [8]int
	maps := append(mapsOk(), mapsToGoOn(r, 200)...)
	for _, m := range maps {
		for n := range 40 {
			c := mapNear(r, m)
			if n < 9 {
				c = mapWorks()[n]
			}
			if c.Kind == 5 || c.Kind == 6 || m.Slots > 57 {
				continue
			}
			once := impl.MapDo(m, c)
			if mapIsOver(once, c) {
				over[c.Kind]++
			}
			for range 2 {
				twice := impl.MapDo(once, c)
				if once.Slots++; !mapSame(twice, once) {
					t.Fatalf("%+v\n%+v: %+v, not %+v", m, c, twice, once)
				}
			}
		}
	}
	for _, kind := range []int{1, 2, 3, 4, 7} {
		if over[kind] < 100 {
			t.Errorf("of the kind %d only %d are done", kind, over[kind])
		}
	}
}

// P26 with other commands between: what is over stays so, whatever comes, and is never done again.
func TestP26WithOthersBetween(t *testing.T) {
	r := rand.New(rand.NewPCG(107, 108))
	asked := 0
	for _, m := range mapsToGoOn(r, 120) {
		var over []impl.Cmd
		for m.Slots < 59 {
			c := mapNear(r, m)
			if m = impl.MapDo(m, c); mapIsOver(m, c) {
				over = append(over, c)
			}
			for _, c := range over {
				asked++
				mapStays(t, m, c)
			}
		}
	}
	if asked < 20000 {
		t.Errorf("asked again %d times", asked)
	}
}

// P26 by hand: what was created, frozen, let into service is so once, and a freeze that has ended does not begin again.
func TestP26ByHand(t *testing.T) {
	create := impl.Cmd{Kind: impl.CmdCreate, Client: 1, Call: 1, Arg: 4}
	snap := impl.Cmd{Kind: impl.CmdSnap, Client: 1, Call: 2, Disk: 1}
	grow := impl.Cmd{Kind: impl.CmdGrow, Client: 1, Call: 3}
	remove := impl.Cmd{Kind: impl.CmdDelete, Client: 1, Call: 4, Disk: 1}
	acks := func(m impl.MapState) []impl.Cmd {
		return []impl.Cmd{mapAck(m, 1, 0), mapAck(m, 1, 1), mapAck(m, 1, 2)}
	}
	m := mapRun(mapNew(), create, create, snap, create, snap)
	for _, ack := range acks(m) {
		m = mapRun(m, ack, snap, ack, create)
	}
	m = mapRun(m, snap, grow, snap, grow, create)
	if len(m.Disks) != 1 || m.Disks[0].Epoch != 2 || m.Disks[0].Frozen != 0 || m.Servers != 4 || m.Next != 2 || m.Slots != 22 {
		t.Errorf("%+v", m)
	}
	m = mapRun(m, remove, snap)
	for _, ack := range acks(m) {
		m = mapRun(m, ack, remove, snap, ack)
	}
	m = mapRun(m, remove, snap, create, grow)
	if len(m.Disks) != 0 || m.Next != 2 || m.Servers != 4 || !slices.Equal(m.Done, []impl.MapDone{{Client: 1, Call: 4}}) {
		t.Errorf("%+v", m)
	}
}

// A call that was told MapAgain is judged anew, and what came of it then is told instead.
func TestP26OfACallThatIsJudgedAgain(t *testing.T) {
	judge := impl.Cmd{Kind: impl.CmdJudge, Client: 2, Call: 3, Disk: 2, Arg: 1}
	m := mapRun(mapRoom(), judge, judge)
	if mapDoneFor(m, 2) != (impl.MapDone{Client: 2, Call: 3, Code: 6}) {
		t.Fatalf("%+v", m)
	}
	m = mapRun(m, impl.Cmd{Kind: impl.CmdDelete, Client: 3, Call: 10, Disk: 2})
	for r := range 3 {
		m = mapRun(m, judge, mapAck(m, 2, r))
	}
	if mapDoneFor(m, 2).Code != 6 {
		t.Fatalf("%+v", m)
	}
	m = mapRun(m, judge)
	if mapDoneFor(m, 2) != (impl.MapDone{Client: 2, Call: 3, Code: 1}) {
		t.Fatalf("%+v", m)
	}
	mapStays(t, m, judge)
	mapStays(t, m, impl.Cmd{Kind: impl.CmdGrow, Client: 2, Call: 3})
}

// mapEndedRightly is P27, of one command: a freeze ends, and an epoch, and a disk goes, by the last range's acknowledgement alone; how many end.
func mapEndedRightly(t *testing.T, m impl.MapState, c impl.Cmd, after impl.MapState) int {
	t.Helper()
	ended := 0
	for _, d := range m.Disks {
		next, there := mapDiskOf(after, d.Id)
		if there && next.Epoch == d.Epoch && (d.Frozen == 0 || next.Frozen == d.Frozen) {
			continue
		}
		ended++
		others := !slices.Contains(d.Acks, c.Range) && len(d.Acks) == 2
		if c.Kind != impl.CmdAck || c.Disk != d.Id || c.Epoch != d.Epoch || !others || c.Num != m.Views[c.Range].Num {
			t.Fatalf("%+v\n%+v: a freeze of the disk %d ends: %+v", m, c, d.Id, after)
		}
		if d.Frozen == 0 || there != (d.Frozen == 1) || there && !mapDiskSame(next, impl.MapDisk{Id: d.Id, Size: d.Size, Epoch: d.Epoch + 1}) {
			t.Fatalf("%+v\n%+v: the disk %d is %+v then", m, c, d.Id, next)
		}
	}
	return ended
}

// P27 in rows of commands, many of which are acknowledgements.
func TestP27InLongRows(t *testing.T) {
	r := rand.New(rand.NewPCG(109, 110))
	ended := 0
	for _, m := range mapsToGoOn(r, 600) {
		for m.Slots < 60 {
			c := mapNear(r, m)
			if d := 1 + r.IntN(4); r.IntN(2) == 0 {
				c = mapAck(m, d, r.IntN(3))
				c.Epoch, c.Num = max(c.Epoch-r.IntN(8)/6, 0), max(c.Num-r.IntN(8)/6, 0)
			}
			after := impl.MapDo(m, c)
			ended += mapEndedRightly(t, m, c, after)
			m = after
		}
	}
	if ended < 500 {
		t.Errorf("only %d end", ended)
	}
}

// P27 in every order of acknowledgements, with those between that count for nothing: of a range twice, of an earlier epoch and the next one, of another disk, of a view that went on.
func TestP27InEveryOrder(t *testing.T) {
	for frozen := 1; frozen <= 2; frozen++ {
		for _, order := range mapOrders() {
			m := mapRun(mapRoom(), impl.Cmd{Kind: frozen + 1, Client: 2, Call: 1, Disk: 2})
			for n, r := range order {
				ack := mapAck(m, 2, r)
				for _, done := range order[:n] {
					mapStays(t, m, mapAck(m, 2, done))
				}
				for _, f := range mapCmdFields() {
					late := ack
					*f.at(&late)--
					if f.name == "Epoch" || f.name == "Disk" || f.name == "Num" {
						mapStays(t, m, late)
					}
					*f.at(&late) += 2
					if f.name == "Epoch" || f.name == "Disk" || f.name == "Num" {
						mapStays(t, m, late)
					}
				}
				after := impl.MapDo(m, ack)
				if n < 2 && mapEndedRightly(t, m, ack, after) != 0 || n == 2 && mapEndedRightly(t, m, ack, after) != 1 {
					t.Fatalf("%v: behind %d: %+v", order, n, after)
				}
				m = after
				mapStays(t, m, ack)
			}
		}
	}
}

// P27: a view that went on stops anew if it did not stop before, and not twice if it did.
func TestP27OfAViewThatWentOn(t *testing.T) {
	for frozen := 1; frozen <= 2; frozen++ {
		for r := range 3 {
			m := mapRun(mapNew(), impl.Cmd{Kind: 1, Client: 0, Call: 1, Arg: 2}, impl.Cmd{Kind: frozen + 1, Client: 2, Call: 1, Disk: 1})
			old := mapAck(m, 1, r)
			turn := impl.Cmd{Kind: impl.CmdView, Range: r, Num: 2, A: m.Views[r].B, B: -1}
			before := mapRun(m, turn)
			mapStays(t, before, old)
			mapGoes(t, before, mapAck(before, 1, r), func(m *impl.MapState) { m.Disks[0].Acks = []int{r} })
			behind := mapRun(m, old, turn)
			mapStays(t, behind, old)
			mapStays(t, behind, mapAck(behind, 1, r))
			last := mapRun(behind, mapAck(m, 1, (r+1)%3))
			ack := mapAck(m, 1, (r+2)%3)
			if mapEndedRightly(t, last, ack, impl.MapDo(last, ack)) != 1 {
				t.Errorf("%+v", last)
			}
		}
	}
}

// P27: what was acknowledged for an earlier freeze counts for no later one, of the same disk or of another.
func TestP27OfAnEarlierFreeze(t *testing.T) {
	for second := 1; second <= 2; second++ {
		m := mapRun(mapRoom(), impl.Cmd{Kind: 2, Client: 2, Call: 1, Disk: 2})
		var old []impl.Cmd
		for r := range 3 {
			old = append(old, mapAck(m, 2, r))
			m = mapRun(m, old[r])
		}
		m = mapRun(m, impl.Cmd{Kind: second + 1, Client: 3, Call: 10, Disk: 2}, impl.Cmd{Kind: 3, Client: 2, Call: 2, Disk: 1})
		for n := range 3 {
			for _, ack := range old {
				mapStays(t, m, ack)
			}
			if d, there := mapDiskOf(m, 2); !there || d.Frozen != second || d.Epoch != 3 || len(d.Acks) != n {
				t.Fatalf("%+v", m)
			}
			m = mapRun(m, mapAck(m, 2, n))
		}
		for _, ack := range old {
			mapStays(t, m, ack)
		}
		if d, there := mapDiskOf(m, 2); there != (second == 1) || there && (d.Epoch != 4 || d.Frozen != 0) {
			t.Fatalf("%+v", m)
		}
		if d, _ := mapDiskOf(m, 1); d.Frozen != 2 || len(d.Acks) != 0 {
			t.Fatalf("%+v", m)
		}
	}
}

// P28: the whole, and each first part with the rest behind it.
func TestP28OfRows(t *testing.T) {
	r := rand.New(rand.NewPCG(111, 112))
	for n := range 300 {
		var list []impl.Cmd
		m := mapNew()
		for len(list) < 60 && (n > 100 || r.IntN(30) > 0) {
			c := mapNear(r, m)
			list = append(list, c)
			m = mapAsked(t, m, c)
		}
		if whole := impl.MapOf(list); !mapSame(whole, m) || !mapSame(impl.MapOf(list), whole) {
			t.Fatalf("%v: %+v, not %+v", list, whole, m)
		}
		first := r.IntN(len(list) + 1)
		if parts := mapRun(impl.MapOf(list[:first]), list[first:]...); !mapSame(parts, m) {
			t.Fatalf("%v, cut at %d: %+v, not %+v", list, first, parts, m)
		}
	}
}

// P28 of each part of a row in which all kinds of commands do something.
func TestP28OfEachPart(t *testing.T) {
	var list []impl.Cmd
	m := mapNew()
	say := func(c impl.Cmd) {
		list = append(list, c)
		m = mapAsked(t, m, c)
	}
	for round := range 4 {
		say(impl.Cmd{Kind: 1, Client: round, Call: 1, Arg: 2 * round})
		say(impl.Cmd{Kind: 4, Client: round, Call: 2})
		say(impl.Cmd{Kind: 2 + round%2, Client: round, Call: 3, Disk: 1 + round/2})
		say(impl.Cmd{Kind: 7, Client: 3 - round, Call: 9, Disk: 1, Arg: 1})
		for r := range 3 {
			say(mapAck(m, 1+round/2, r))
			say(impl.Cmd{Kind: 5, Range: r, Num: m.Views[r].Num + 1, A: m.Views[r].A, B: []int{-1, (m.Views[r].A + 1) % 3}[round%2]})
		}
		say(impl.Cmd{Kind: 8})
	}
	whole := impl.MapOf(list)
	if !mapSame(whole, m) || whole.Slots != len(list) {
		t.Fatalf("%+v, not %+v", whole, m)
	}
	for first := range len(list) + 1 {
		if parts := mapRun(impl.MapOf(list[:first]), list[first:]...); !mapSame(parts, whole) {
			t.Errorf("cut at %d: %+v, not %+v", first, parts, whole)
		}
	}
}

// mapFresh is a call of a client that nobody has spoken of yet.
func mapFresh(m impl.MapState, client int) int {
	call := mapCallTold(m, client)
	for _, d := range m.Disks {
		if d.Client == client {
			call = max(call, d.Call)
		}
	}
	return call + 1
}

// P29 at each map, of each disk that is not frozen: by each range being the last, the epoch ends, and the call is answered by it.
func TestP29OfEachDisk(t *testing.T) {
	r := rand.New(rand.NewPCG(113, 114))
	made := 0
	for _, m := range append(mapsOk(), mapsToGoOn(r, 100)...) {
		m.Slots = 0
		for _, d := range m.Disks {
			client := r.IntN(4)
			call := mapFresh(m, client)
			if d.Frozen != 0 || call > 99999 {
				continue
			}
			for _, order := range mapOrders() {
				made++
				snap := impl.Cmd{Kind: impl.CmdSnap, Client: client, Call: call, Disk: d.Id}
				mapSnapped(t, impl.MapDo(m, snap), m, snap, order, nil)
			}
		}
	}
	if made < 500 {
		t.Errorf("only %d are made", made)
	}
}

// mapSnapped asks that a freeze that has begun ends by acknowledgements in an order, just with the last one, and not ahead; between them happens what is given.
func mapSnapped(t *testing.T, m, before impl.MapState, snap impl.Cmd, order []int, between func(m impl.MapState) impl.MapState) {
	t.Helper()
	was, _ := mapDiskOf(before, snap.Disk)
	for n, r := range order {
		if d, _ := mapDiskOf(m, snap.Disk); d.Frozen != 1 || d.Epoch != was.Epoch || !slices.Equal(d.Acks, order[:n]) || mapDoneFor(m, snap.Client) != mapDoneFor(before, snap.Client) {
			t.Fatalf("%+v\nbehind %d of %v: %+v", before, n, order, m)
		}
		if between != nil {
			m = between(m)
		}
		m = impl.MapDo(m, mapAck(m, snap.Disk, r))
	}
	d, there := mapDiskOf(m, snap.Disk)
	if !there || !mapDiskSame(d, impl.MapDisk{Id: was.Id, Size: was.Size, Epoch: was.Epoch + 1}) {
		t.Fatalf("%+v\nbehind %v: %+v", before, order, m)
	}
	if mapDoneFor(m, snap.Client) != (impl.MapDone{Client: snap.Client, Call: snap.Call, Value: was.Epoch}) {
		t.Fatalf("%+v\nbehind %v it is told %+v", before, order, m.Done)
	}
}

// P29 with other things between: views that go on, other disks, calls of others, and the same call that is asked for again.
func TestP29WithOthersBetween(t *testing.T) {
	r := rand.New(rand.NewPCG(115, 116))
	for range 300 {
		m := mapWith(mapRoom(), func(m *impl.MapState) { m.Slots = 0 })
		snap := impl.Cmd{Kind: impl.CmdSnap, Client: r.IntN(4), Call: 10 + r.IntN(5), Disk: 1 + r.IntN(2)}
		mapSnapped(t, impl.MapDo(m, snap), m, snap, mapOrders()[r.IntN(6)], func(m impl.MapState) impl.MapState {
			for range r.IntN(8) {
				c := mapNear(r, m)
				if c.Kind == 6 && c.Disk == snap.Disk || c.Client == snap.Client {
					c = snap
				}
				m = impl.MapDo(m, c)
			}
			return m
		})
	}
}

// P29: a client that went on is not told of its freeze any more, but the epoch ends.
func TestP29OfAClientThatWentOn(t *testing.T) {
	for _, order := range mapOrders() {
		m := mapRun(mapRoom(), impl.Cmd{Kind: impl.CmdSnap, Client: 2, Call: 3, Disk: 2})
		mapStays(t, m, impl.Cmd{Kind: impl.CmdGrow, Client: 2, Call: 2})
		m = mapRun(m, mapAck(m, 2, order[0]), impl.Cmd{Kind: impl.CmdGrow, Client: 2, Call: 4}, mapAck(m, 2, order[1]), mapAck(m, 2, order[2]))
		if d, _ := mapDiskOf(m, 2); d.Epoch != 3 || d.Frozen != 0 || mapDoneFor(m, 2) != (impl.MapDone{Client: 2, Call: 4, Value: 5}) {
			t.Errorf("%v: %+v", order, m)
		}
	}
}

// P29: a call that was told MapAgain is not past; what was told stays until the epoch ends.
func TestP29OfACallThatWasToldMapAgain(t *testing.T) {
	for code := range 7 {
		m := mapToldAs(9, code)
		snap := impl.Cmd{Kind: impl.CmdSnap, Client: 1, Call: 9, Disk: 2}
		if code != impl.MapAgain {
			mapStays(t, m, snap)
			continue
		}
		for _, order := range mapOrders() {
			mapSnapped(t, impl.MapDo(m, snap), m, snap, order, nil)
		}
	}
}

// P30: who comes to a disk that is frozen is told that it is busy, and the freeze goes on to its end.
func TestP30OfEachFreeze(t *testing.T) {
	for frozen := 1; frozen <= 2; frozen++ {
		for kind := impl.CmdSnap; kind <= impl.CmdDelete; kind++ {
			for client := range 4 {
				for acks := range 3 {
					m := mapRun(mapRoom(), impl.Cmd{Kind: frozen + 1, Client: 2, Call: 5, Disk: 2})
					for r := range acks {
						m = mapRun(m, mapAck(m, 2, r))
					}
					further := impl.Cmd{Kind: kind, Client: client, Call: 11, Disk: 2}
					mapTells(t, m, further, impl.MapBusy, 0)
					// Asked again it is told the same, also when the disk is not frozen any more.
					busy := mapRun(m, further)
					mapStays(t, busy, further)
					for r := acks; r < 3; r++ {
						busy = mapRun(busy, mapAck(busy, 2, r))
					}
					mapStays(t, busy, further)
					mapFrozenOnce(t, busy, frozen, further)
				}
			}
		}
	}
}

// mapFrozenOnce asks that the freeze of the client 2's call 5 has ended as it began, though another call came to it.
func mapFrozenOnce(t *testing.T, m impl.MapState, frozen int, further impl.Cmd) {
	t.Helper()
	want := impl.MapDone{Client: 2, Call: 5, Value: []int{0, 2, 0}[frozen]}
	if further.Client == 2 {
		want = impl.MapDone{Client: 2, Call: 11, Code: 5}
	}
	d, there := mapDiskOf(m, 2)
	if mapDoneFor(m, 2) != want || there != (frozen == 1) || there && !mapDiskSame(d, impl.MapDisk{Id: 2, Size: 3, Epoch: 3}) {
		t.Errorf("behind %+v: %+v", further, m)
	}
}

// P30 in rows: what a disk is frozen for stays, as long as it is frozen.
func TestP30InLongRows(t *testing.T) {
	r := rand.New(rand.NewPCG(117, 118))
	busy := 0
	for _, m := range mapsToGoOn(r, 200) {
		for m.Slots < 60 {
			c := mapNear(r, m)
			after := impl.MapDo(m, c)
			for _, d := range m.Disks {
				next, there := mapDiskOf(after, d.Id)
				if c.Kind == 6 || d.Frozen == 0 {
					continue
				}
				if !there || !mapDiskSame(d, next) {
					t.Fatalf("%+v\n%+v: the freeze of %d is another one: %+v", m, c, d.Id, after)
				}
				if (c.Kind == 2 || c.Kind == 3) && c.Disk == d.Id && mapDoneFor(after, c.Client) != mapDoneFor(m, c.Client) {
					busy++
					if mapDoneFor(after, c.Client) != (impl.MapDone{Client: c.Client, Call: c.Call, Code: 5}) {
						t.Fatalf("%+v\n%+v: %+v", m, c, after)
					}
				}
			}
			m = after
		}
	}
	if busy < 200 {
		t.Errorf("only %d are busy", busy)
	}
}

// P31: each code, and which comes first where several hold.
func TestP31EachCode(t *testing.T) {
	for _, c := range []struct{ disk, block, epoch, read, write int }{
		{1, 0, 0, 0, 0}, {1, 7, 0, 0, 0}, {1, 7, 1, 0, 0}, {1, 7, 4, 0, 0}, {1, 7, 5, 3, 0}, {1, 7, 6, 3, 0}, {1, 7, -1, 3, 0}, {1, 0, 99999, 3, 0}, {1, 0, 100000, 3, 0}, {1, 0, secLowest, 3, 0}, {1, 0, secHighest, 3, 0},
		{1, -1, 0, 2, 2}, {1, 8, 0, 2, 2}, {1, 8, 4, 2, 2}, {1, 8, 5, 2, 2}, {1, -1, -1, 2, 2}, {1, secHighest, 9, 2, 2}, {1, secLowest, 9, 2, 2},
		{2, 2, 0, 0, 0}, {2, 2, 1, 0, 0}, {2, 2, 2, 3, 0}, {2, 3, 2, 2, 2}, {4, 0, 8, 0, 0}, {4, 0, 9, 3, 0}, {4, 1, 9, 2, 2},
		{3, 0, 0, 1, 1}, {3, 9, 9, 1, 1}, {0, 0, 0, 1, 1}, {-1, -1, -1, 1, 1}, {5, 0, 0, 1, 1}, {5, 8, 99999, 1, 1}, {secHighest, 0, 0, 1, 1}, {secLowest, 8, 9, 1, 1},
	} {
		m := mapSome()
		if code := impl.MapJudge(m, c.disk, c.block, c.epoch, false); code != c.read {
			t.Errorf("a read of %d %d %d: %d, not %d", c.disk, c.block, c.epoch, code, c.read)
		}
		if code := impl.MapJudge(m, c.disk, c.block, c.epoch, true); code != c.write {
			t.Errorf("a write of %d %d %d: %d, not %d", c.disk, c.block, c.epoch, code, c.write)
		}
	}
}

// P31: a block is there at every place below the size, and is read in every epoch that has ended; no freeze, view or call changes that.
func TestP31OfNothingElse(t *testing.T) {
	r := rand.New(rand.NewPCG(119, 120))
	for range 400 {
		m := mapAny(r)
		for id := 0; id <= 5; id++ {
			d, there := mapDiskOf(m, id)
			alone := mapWith(mapNew(), func(m *impl.MapState) {
				if m.Next = 5; there {
					m.Disks = []impl.MapDisk{{Id: id, Size: d.Size, Epoch: d.Epoch}}
				}
			})
			for n := range 60 {
				block, epoch, write := r.IntN(11)-1, r.IntN(10)-1, n%2 == 0
				if n%3 == 0 {
					epoch = d.Epoch + r.IntN(3) - 1
				}
				if code, want := impl.MapJudge(m, id, block, epoch, write), impl.MapJudge(alone, id, block, epoch, write); code != want {
					t.Fatalf("%+v\n%d %d %d %v: %d, not %d", m, id, block, epoch, write, code, want)
				}
			}
		}
	}
	for slots := range 61 {
		m := mapWith(mapSome(), func(m *impl.MapState) { m.Slots = slots })
		if impl.MapJudge(m, 1, 7, 4, false) != 0 || impl.MapJudge(m, 1, 8, 4, false) != 2 {
			t.Errorf("%d slots", slots)
		}
	}
}
