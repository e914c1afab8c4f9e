package tests

import (
	"math/rand/v2"
	"slices"
	"strconv"
	"testing"

	"loop.example/pannier/impl"
)

func mapDiskSame(a, b impl.MapDisk) bool {
	return mapDiskNumbers(a) == mapDiskNumbers(b) && slices.Equal(a.Acks, b.Acks)
}

func mapDiskNumbers(d impl.MapDisk) [6]int {
	return [6]int{d.Id, d.Size, d.Epoch, d.Frozen, d.Client, d.Call}
}

func mapSame(a, b impl.MapState) bool {
	return a.Slots == b.Slots && a.Servers == b.Servers && a.Next == b.Next &&
		slices.EqualFunc(a.Disks, b.Disks, mapDiskSame) && slices.Equal(a.Views, b.Views) && slices.Equal(a.Done, b.Done)
}

func mapNothing(m impl.MapState) bool {
	return mapSame(m, impl.MapState{})
}

func mapCopied(m impl.MapState) impl.MapState {
	m.Disks, m.Views, m.Done = slices.Clone(m.Disks), slices.Clone(m.Views), slices.Clone(m.Done)
	for at := range m.Disks {
		m.Disks[at].Acks = slices.Clone(m.Disks[at].Acks)
	}
	return m
}

// mapWith is a map with some things that are other ones.
func mapWith(m impl.MapState, change func(m *impl.MapState)) impl.MapState {
	m = mapCopied(m)
	change(&m)
	return m
}

// mapNew is the map at first, written out.
func mapNew() impl.MapState {
	return impl.MapState{Servers: 3, Next: 1, Views: []impl.MapView{{Num: 1, A: 0, B: 1}, {Num: 1, A: 1, B: 2}, {Num: 1, A: 2, B: 0}}}
}

// mapSome is a map with something of everything: a disk that is not frozen, two that are, for a later call than was told and for an earlier one, one that has gone; views of two and of one.
func mapSome() impl.MapState {
	return impl.MapState{
		Slots: 20, Servers: 4, Next: 5,
		Disks: []impl.MapDisk{
			{Id: 1, Size: 8, Epoch: 5},
			{Id: 2, Size: 3, Epoch: 2, Frozen: 1, Client: 1, Call: 7, Acks: []int{2}},
			{Id: 4, Size: 1, Epoch: 9, Frozen: 2, Client: 3, Call: 4, Acks: []int{2, 0}},
		},
		Views: []impl.MapView{{Num: 3, A: 0, B: 1}, {Num: 7, A: 3, B: -1}, {Num: 4, A: 2, B: 3}},
		Done:  []impl.MapDone{{Client: 0, Call: 5, Code: 4}, {Client: 1, Call: 6, Value: 3}, {Client: 3, Call: 9, Code: 6}},
	}
}

// mapRoom is mapSome with a number of a disk left, a further server to come, and its second disk not frozen.
func mapRoom() impl.MapState {
	return mapWith(mapSome(), func(m *impl.MapState) {
		m.Next, m.Disks = 4, []impl.MapDisk{{Id: 1, Size: 8, Epoch: 5}, {Id: 2, Size: 3, Epoch: 2}}
	})
}

func mapCmdGood(c impl.Cmd) bool {
	for _, n := range []int{c.Kind, c.Client, c.Call, c.Disk, c.Arg, c.Epoch, c.Range, c.Num, c.A, c.B} {
		if n < -1 || n > 99999 {
			return false
		}
	}
	return c.Kind >= 0 && c.Kind <= 7
}

// mapGood is what MapOk is to answer.
func mapGood(m impl.MapState) bool {
	if m.Slots < 0 || m.Slots > 60 || m.Servers < 3 || m.Servers > 5 || m.Next < 1 || m.Next > 5 || len(m.Views) != 3 {
		return false
	}
	id, client := 0, -1
	for _, d := range m.Disks {
		if d.Id <= id || d.Id >= m.Next || d.Size < 1 || d.Size > 8 || d.Epoch < 1 || d.Epoch > 99999 || !mapFreezeGood(d) {
			return false
		}
		id = d.Id
	}
	for _, d := range m.Done {
		if d.Client <= client || d.Client > 3 || d.Call < 1 || d.Call > 99999 || d.Code < 0 || d.Code > 6 || d.Value < -1 || d.Value > 99999 {
			return false
		}
		client = d.Client
	}
	return !slices.ContainsFunc(m.Views, func(v impl.MapView) bool { return !mapViewGood(m, v) })
}

func mapFreezeGood(d impl.MapDisk) bool {
	switch d.Frozen {
	case 0:
		return d.Client == 0 && d.Call == 0 && len(d.Acks) == 0
	case 1, 2:
		return d.Client >= 0 && d.Client <= 3 && d.Call >= 1 && d.Call <= 99999 && mapAcksGood(d.Acks)
	}
	return false
}

func mapAcksGood(acks []int) bool {
	var count [3]int
	for _, r := range acks {
		if r < 0 || r > 2 || count[r] > 0 {
			return false
		}
		count[r]++
	}
	return len(acks) <= 2
}

func mapViewGood(m impl.MapState, v impl.MapView) bool {
	return v.Num >= 1 && v.Num <= 99999 && v.A >= 0 && v.A < m.Servers && v.B >= -1 && v.B < m.Servers && v.A != v.B
}

// mapJudged is what MapJudge is to answer.
func mapJudged(m impl.MapState, disk, block, epoch int, write bool) int {
	if !mapGood(m) {
		return 1
	}
	for _, d := range m.Disks {
		switch {
		case d.Id != disk:
			continue
		case block < 0 || block >= d.Size:
			return 2
		case write || epoch == 0 || epoch >= 1 && epoch < d.Epoch:
			return 0
		}
		return 3
	}
	return 1
}

// mapDone is what MapDo is to answer.
func mapDone(m impl.MapState, c impl.Cmd) impl.MapState {
	if !mapGood(m) || m.Slots == 60 {
		return impl.MapState{}
	}
	m = mapCopied(m)
	m.Slots++
	if !mapCmdGood(c) {
		return m
	}
	switch c.Kind {
	case 5:
		mapTurned(&m, c)
	case 6:
		mapStopped(&m, c)
	case 1, 2, 3, 4, 7:
		if c.Client >= 0 && c.Client <= 3 && c.Call >= 1 && !mapPast(m, c) {
			mapCalled(&m, c)
		}
	}
	return m
}

// mapPast says whether the call of a client's command is past.
func mapPast(m impl.MapState, c impl.Cmd) bool {
	for _, d := range m.Done {
		if d.Client == c.Client && (d.Call > c.Call || d.Call == c.Call && d.Code != 6) {
			return true
		}
	}
	return slices.ContainsFunc(m.Disks, func(d impl.MapDisk) bool { return d.Frozen > 0 && d.Client == c.Client && d.Call >= c.Call })
}

func mapTurned(m *impl.MapState, c impl.Cmd) {
	if c.Range < 0 || c.Range > 2 || c.A == -1 || c.B >= m.Servers || c.A == c.B {
		return
	}
	v := &m.Views[c.Range]
	if c.Num == v.Num+1 && slices.Contains([]int{v.A, v.B}, c.A) && (c.B == -1 || v.B == -1) {
		*v = impl.MapView{Num: c.Num, A: c.A, B: c.B}
	}
}

func mapStopped(m *impl.MapState, c impl.Cmd) {
	at := slices.IndexFunc(m.Disks, func(d impl.MapDisk) bool { return d.Id == c.Disk && d.Frozen > 0 && d.Epoch == c.Epoch })
	if at < 0 || c.Range < 0 || c.Range > 2 || m.Views[c.Range].Num != c.Num || slices.Contains(m.Disks[at].Acks, c.Range) {
		return
	}
	d := m.Disks[at]
	switch {
	case len(d.Acks) < 2:
		m.Disks[at].Acks = append(m.Disks[at].Acks, c.Range)
		return
	case d.Frozen == 2:
		m.Disks = append(m.Disks[:at], m.Disks[at+1:]...)
		mapTold(m, impl.MapDone{Client: d.Client, Call: d.Call})
	case d.Epoch < 99999:
		m.Disks[at] = impl.MapDisk{Id: d.Id, Size: d.Size, Epoch: d.Epoch + 1}
		mapTold(m, impl.MapDone{Client: d.Client, Call: d.Call, Value: d.Epoch})
	}
}

// mapTold puts what came of a call in its place, unless a later one was told.
func mapTold(m *impl.MapState, done impl.MapDone) {
	var table [4]impl.MapDone
	for _, d := range m.Done {
		table[d.Client] = d
	}
	if table[done.Client].Call <= done.Call {
		table[done.Client] = done
	}
	m.Done = slices.DeleteFunc(table[:], func(d impl.MapDone) bool { return d.Call == 0 })
}

// mapCalled is a client's command whose call is not past.
func mapCalled(m *impl.MapState, c impl.Cmd) {
	at := slices.IndexFunc(m.Disks, func(d impl.MapDisk) bool { return d.Id == c.Disk })
	done := impl.MapDone{Client: c.Client, Call: c.Call}
	switch {
	case c.Kind == 1 && (c.Arg < 1 || c.Arg > 8 || m.Next == 5), c.Kind == 4 && m.Servers == 5:
		done.Code = 4
	case c.Kind == 1:
		done.Value = m.Next
		m.Disks = append(m.Disks, impl.MapDisk{Id: m.Next, Size: c.Arg, Epoch: 1})
		m.Next++
	case c.Kind == 4:
		m.Servers++
		done.Value = m.Servers
	case c.Kind == 7 && c.A == 1 && (c.Range < 0 || c.Range > 2 || m.Views[c.Range].Num != c.Num):
		return
	case c.Kind == 7:
		if done.Code = mapJudged(*m, c.Disk, c.Arg, c.Epoch, c.A == 1); done.Code == 0 {
			done.Code = 6
		}
	case at < 0:
		done.Code = 1
	case m.Disks[at].Frozen > 0:
		done.Code = 5
	default:
		d := &m.Disks[at]
		d.Frozen, d.Client, d.Call = c.Kind-1, c.Client, c.Call
		return
	}
	mapTold(m, done)
}

// mapAsked asks of a command what the document asks of it.
func mapAsked(t *testing.T, m impl.MapState, c impl.Cmd) impl.MapState {
	t.Helper()
	after := impl.MapDo(m, c)
	if want := mapDone(m, c); !mapSame(after, want) {
		t.Fatalf("%+v\n%+v:\n%+v, not\n%+v", m, c, after, want)
	}
	return after
}

// mapGoes asks that a command changes just this, and takes a slot.
func mapGoes(t *testing.T, m impl.MapState, c impl.Cmd, change func(m *impl.MapState)) impl.MapState {
	t.Helper()
	want := mapWith(m, change)
	want.Slots++
	after := impl.MapDo(m, c)
	if !mapSame(after, want) {
		t.Errorf("%+v\n%+v:\n%+v, not\n%+v", m, c, after, want)
	}
	return after
}

// mapStays asks that a command takes a slot, and changes nothing.
func mapStays(t *testing.T, m impl.MapState, c impl.Cmd) {
	t.Helper()
	mapGoes(t, m, c, func(*impl.MapState) {})
}

// mapTells asks that a command changes what is told, and nothing else.
func mapTells(t *testing.T, m impl.MapState, c impl.Cmd, code, value int) {
	t.Helper()
	mapGoes(t, m, c, func(m *impl.MapState) {
		mapTold(m, impl.MapDone{Client: c.Client, Call: c.Call, Code: code, Value: value})
	})
}

// mapRun is commands one behind the other.
func mapRun(m impl.MapState, list ...impl.Cmd) impl.MapState {
	for _, c := range list {
		m = impl.MapDo(m, c)
	}
	return m
}

// mapAck is that a range stops for the freeze of a disk, as both are.
func mapAck(m impl.MapState, disk, r int) impl.Cmd {
	c := impl.Cmd{Kind: impl.CmdAck, Disk: disk, Range: r, Num: m.Views[r].Num}
	for _, d := range m.Disks {
		if d.Id == disk {
			c.Epoch = d.Epoch
		}
	}
	return c
}

// mapOrders is all orders of the ranges.
func mapOrders() [][]int {
	return [][]int{{0, 1, 2}, {0, 2, 1}, {1, 0, 2}, {1, 2, 0}, {2, 0, 1}, {2, 1, 0}}
}

// mapAny is any map that is ok, of small numbers and of the greatest, so that commands have much to do with it.
func mapAny(r *rand.Rand) impl.MapState {
	m := impl.MapState{Slots: []int{0, 1, 30, 58, 59}[r.IntN(5)], Servers: 3 + r.IntN(3), Next: 1 + r.IntN(5)}
	for id := 1; id < m.Next; id++ {
		if r.IntN(4) > 0 {
			m.Disks = append(m.Disks, mapAnyDisk(r, id))
		}
	}
	for range 3 {
		both := r.Perm(m.Servers)
		v := impl.MapView{Num: []int{1, 2, 3, 9, 99998, 99999}[r.IntN(6)], A: both[0], B: both[1]}
		if r.IntN(2) == 0 {
			v.B = -1
		}
		m.Views = append(m.Views, v)
	}
	for client := range 4 {
		if r.IntN(2) == 0 {
			m.Done = append(m.Done, impl.MapDone{Client: client, Call: mapAnyCall(r), Code: r.IntN(7), Value: r.IntN(9) - 1})
		}
	}
	return m
}

func mapAnyDisk(r *rand.Rand, id int) impl.MapDisk {
	d := impl.MapDisk{Id: id, Size: 1 + r.IntN(8), Epoch: []int{1, 2, 3, 7, 99998}[r.IntN(5)], Frozen: r.IntN(3)}
	if d.Frozen > 0 {
		d.Client, d.Call, d.Acks = r.IntN(4), mapAnyCall(r), r.Perm(3)[:[]int{0, 1, 2, 2}[r.IntN(4)]]
	}
	return d
}

func mapAnyCall(r *rand.Rand) int {
	return []int{1, 2, 3, 4, 5, 6, 99998, 99999}[r.IntN(8)]
}

// mapNear is a command that has to do with what a map says; now and then one of its numbers is any.
func mapNear(r *rand.Rand, m impl.MapState) impl.Cmd {
	c := impl.Cmd{Kind: 1 + r.IntN(7), Client: r.IntN(4), Call: 1 + r.IntN(7), Disk: 1 + r.IntN(4), Arg: r.IntN(10), Range: r.IntN(3), B: r.IntN(6) - 1}
	if r.IntN(8) == 0 {
		c.Call = mapAnyCall(r)
	}
	if len(m.Disks) > 0 && r.IntN(6) > 0 {
		d := m.Disks[r.IntN(len(m.Disks))]
		c.Disk, c.Epoch = d.Id, d.Epoch
		if c.Kind == 7 {
			c.Epoch = r.IntN(d.Epoch+2) - 1
		}
	}
	v := m.Views[c.Range]
	c.Num, c.A = v.Num, []int{v.A, v.B}[r.IntN(2)]
	if c.Kind == 5 {
		c.Num = min(v.Num+1, 99999)
		if r.IntN(2) == 0 {
			c.B = -1
		}
	}
	if c.Kind == 7 {
		c.A = r.IntN(3)
	}
	if r.IntN(8) == 0 {
		ends := []int{-2, -1, 0, 1, 2, 3, 4, 5, 7, 8, 9, 60, 99998, 99999, 100000, secLowest, secHighest}
		*mapCmdFields()[r.IntN(10)].at(&c) = ends[r.IntN(len(ends))]
	}
	return c
}

// mapCmdField is a number of a command, by its name in the document.
type mapCmdField struct {
	name string
	at   func(c *impl.Cmd) *int
}

func mapCmdFields() []mapCmdField {
	return []mapCmdField{
		{"Kind", func(c *impl.Cmd) *int { return &c.Kind }},
		{"Client", func(c *impl.Cmd) *int { return &c.Client }},
		{"Call", func(c *impl.Cmd) *int { return &c.Call }},
		{"Disk", func(c *impl.Cmd) *int { return &c.Disk }},
		{"Arg", func(c *impl.Cmd) *int { return &c.Arg }},
		{"Epoch", func(c *impl.Cmd) *int { return &c.Epoch }},
		{"Range", func(c *impl.Cmd) *int { return &c.Range }},
		{"Num", func(c *impl.Cmd) *int { return &c.Num }},
		{"A", func(c *impl.Cmd) *int { return &c.A }},
		{"B", func(c *impl.Cmd) *int { return &c.B }},
	}
}

// mapWorks is a command of each kind that changes mapRoom, in every way that it can.
func mapWorks() []impl.Cmd {
	return []impl.Cmd{
		{Kind: 1, Client: 0, Call: 6, Arg: 8},
		{Kind: 2, Client: 1, Call: 7, Disk: 1},
		{Kind: 3, Client: 2, Call: 1, Disk: 2},
		{Kind: 3, Client: 3, Call: 9, Disk: 3},
		{Kind: 4, Client: 2, Call: 4},
		{Kind: 5, Range: 0, Num: 4, A: 1, B: -1},
		{Kind: 5, Range: 1, Num: 8, A: 3, B: 0},
		{Kind: 7, Client: 1, Call: 8, Disk: 1, Arg: 7, Epoch: 4},
		{Kind: 7, Client: 1, Call: 8, Disk: 1, Arg: 8, A: 1, Range: 2, Num: 4},
	}
}

// mapCmds is commands that do something at mapRoom, each also with every of its numbers at every end, and commands that are nothing and not in form.
func mapCmds() []impl.Cmd {
	out := append(mapWorks(), voteCmds()...)
	for _, c := range append(mapWorks(), impl.Cmd{}, impl.Cmd{Kind: 6, Disk: 2, Epoch: 2, Range: 0, Num: 3}, impl.Cmd{Kind: 6, Disk: 4, Epoch: 9, Range: 1, Num: 7}) {
		out = append(out, c)
		for _, f := range mapCmdFields() {
			for _, n := range []int{secLowest, -2, -1, 0, 1, 2, 3, 4, 5, 6, 7, 8, 9, 99998, 99999, 100000, secHighest} {
				other := c
				*f.at(&other) = n
				out = append(out, other)
			}
		}
	}
	return out
}

// mapAt is a map as the document's ends have it.
type mapAt struct {
	name   string
	change func(m *impl.MapState)
}

// mapEnds is what changes mapSome to a map that is ok, at the ends of each of its parts.
func mapEnds() []mapAt {
	out := []mapAt{
		{"no Disks", func(m *impl.MapState) { m.Disks = nil }},
		{"no Disks, none ever", func(m *impl.MapState) { m.Disks, m.Next = nil, 1 }},
		{"MapMaxDisks Disks", func(m *impl.MapState) { m.Disks = slices.Insert(m.Disks, 2, impl.MapDisk{Id: 3, Size: 1, Epoch: 1}) }},
		{"no Done", func(m *impl.MapState) { m.Done = nil }},
		{"BlkClients of Done", func(m *impl.MapState) { m.Done = slices.Insert(m.Done, 2, impl.MapDone{Client: 2, Call: 1}) }},
		{"the last client alone", func(m *impl.MapState) { m.Done = m.Done[2:] }},
		{"two that are to end now", func(m *impl.MapState) { m.Disks[1].Acks = []int{2, 0} }},
	}
	add := func(name string, set func(m *impl.MapState, n int), numbers ...int) {
		for _, n := range numbers {
			out = append(out, mapAt{name + " " + strconv.Itoa(n), func(m *impl.MapState) { set(m, n) }})
		}
	}
	add("Slots", func(m *impl.MapState, n int) { m.Slots = n }, 0, 1, 58, 59)
	add("Servers", func(m *impl.MapState, n int) { m.Servers = n }, 4, 5)
	add("Servers, with A and B at the end", func(m *impl.MapState, n int) {
		m.Servers, m.Views = n, []impl.MapView{{Num: 1, A: n - 1, B: 0}, {Num: 1, A: 0, B: n - 1}, {Num: 1, A: n - 1, B: -1}}
	}, 3, 4, 5)
	add("Next, with the disk ahead of it", func(m *impl.MapState, n int) {
		m.Next, m.Disks = n, []impl.MapDisk{{Id: n - 1, Size: 2, Epoch: 3}}
	}, 2, 3, 4, 5)
	for at := range 3 {
		of := " of the disk " + strconv.Itoa(at)
		add("Size"+of, func(m *impl.MapState, n int) { m.Disks[at].Size = n }, 1, 8)
		add("Epoch"+of, func(m *impl.MapState, n int) { m.Disks[at].Epoch = n }, 1, 99998)
		add("Num of the view "+strconv.Itoa(at), func(m *impl.MapState, n int) { m.Views[at].Num = n }, 1, 2, 99998, 99999)
		add("Call of Done "+strconv.Itoa(at), func(m *impl.MapState, n int) { m.Done[at].Call = n }, 1, 7, 99999)
		add("Code of Done "+strconv.Itoa(at), func(m *impl.MapState, n int) { m.Done[at].Code = n }, 0, 1, 2, 3, 4, 5, 6)
		add("Value of Done "+strconv.Itoa(at), func(m *impl.MapState, n int) { m.Done[at].Value = n }, -1, 0, 99999)
	}
	for at := 1; at < 3; at++ {
		of := " of the frozen disk " + strconv.Itoa(at)
		add("Frozen"+of, func(m *impl.MapState, n int) { m.Disks[at].Frozen = n }, 1, 2)
		add("Client"+of, func(m *impl.MapState, n int) { m.Disks[at].Client = n }, 0, 1, 2, 3)
		add("Call"+of, func(m *impl.MapState, n int) { m.Disks[at].Call = n }, 1, 6, 7, 9, 99999)
		add("how many Acks"+of, func(m *impl.MapState, n int) { m.Disks[at].Acks = []int{1, 0}[:n] }, 0, 1, 2)
	}
	return out
}

// mapsOk is maps that are ok: at first, with something of everything, at the ends of what is, and any.
func mapsOk() []impl.MapState {
	out := []impl.MapState{mapNew(), mapSome(), mapRoom()}
	for _, end := range mapEnds() {
		out = append(out, mapWith(mapSome(), end.change))
	}
	r := rand.New(rand.NewPCG(91, 92))
	for range 60 {
		out = append(out, mapAny(r))
	}
	return out
}

// mapSpoils is what spoils mapSome, each by one thing alone.
func mapSpoils() map[string]func(m *impl.MapState) {
	out := map[string]func(m *impl.MapState){
		"a disk too many":           func(m *impl.MapState) { m.Disks = mapDisksOf(1, 2, 3, 4, 5) },
		"all disks, the last twice": func(m *impl.MapState) { m.Disks = mapDisksOf(1, 2, 3, 4, 4) },
		"a disk twice":              func(m *impl.MapState) { m.Disks = mapDisksOf(1, 2, 2) },
		"falling":                   func(m *impl.MapState) { m.Disks = mapDisksOf(2, 1, 4) },
		"falling in the end":        func(m *impl.MapState) { m.Disks = mapDisksOf(1, 4, 3) },
		"nothing for a disk":        func(m *impl.MapState) { m.Disks[0] = impl.MapDisk{} },
		"no Views":                  func(m *impl.MapState) { m.Views = nil },
		"a view fewer":              func(m *impl.MapState) { m.Views = m.Views[:2] },
		"a view more":               func(m *impl.MapState) { m.Views = append(m.Views, m.Views[0]) },
		"nothing for a view":        func(m *impl.MapState) { m.Views[1] = impl.MapView{} },
		"one of Done too many":      func(m *impl.MapState) { m.Done = mapDoneOf(0, 1, 2, 3, 4) },
		"all of Done, one twice":    func(m *impl.MapState) { m.Done = mapDoneOf(0, 1, 2, 3, 3) },
		"a client twice":            func(m *impl.MapState) { m.Done = mapDoneOf(0, 2, 2) },
		"clients falling":           func(m *impl.MapState) { m.Done = mapDoneOf(1, 0, 3) },
		"clients falling, the end":  func(m *impl.MapState) { m.Done = mapDoneOf(0, 3, 2) },
		"nothing for one of Done":   func(m *impl.MapState) { m.Done[0] = impl.MapDone{} },
	}
	add := func(name string, at func(m *impl.MapState) *int, numbers ...int) {
		for _, n := range append(numbers, secLowest, secHighest) {
			out[name+" "+strconv.Itoa(n)] = func(m *impl.MapState) { *at(m) = n }
		}
	}
	add("Slots", func(m *impl.MapState) *int { return &m.Slots }, -1, 61)
	add("Servers", func(m *impl.MapState) *int { return &m.Servers }, -1, 0, 2, 3, 6)
	add("Next", func(m *impl.MapState) *int { return &m.Next }, -1, 0, 1, 3, 4, 6)
	for place := range 3 {
		of := " " + strconv.Itoa(place)
		add("Id"+of, func(m *impl.MapState) *int { return &m.Disks[place].Id }, -1, 0, 5, 6)
		add("Size"+of, func(m *impl.MapState) *int { return &m.Disks[place].Size }, -1, 0, 9)
		add("Epoch"+of, func(m *impl.MapState) *int { return &m.Disks[place].Epoch }, -1, 0, 100000)
		add("Frozen"+of, func(m *impl.MapState) *int { return &m.Disks[place].Frozen }, -1, 3)
		add("Client"+of, func(m *impl.MapState) *int { return &m.Disks[place].Client }, -1, 4)
		add("Call"+of, func(m *impl.MapState) *int { return &m.Disks[place].Call }, -1, 100000)
		add("Num"+of, func(m *impl.MapState) *int { return &m.Views[place].Num }, -1, 0, 100000)
		add("A"+of, func(m *impl.MapState) *int { return &m.Views[place].A }, -1, 4, 5)
		add("B"+of, func(m *impl.MapState) *int { return &m.Views[place].B }, -2, 4, 5)
		add("Client told"+of, func(m *impl.MapState) *int { return &m.Done[place].Client }, -1, 4)
		add("Call told"+of, func(m *impl.MapState) *int { return &m.Done[place].Call }, -1, 0, 100000)
		add("Code told"+of, func(m *impl.MapState) *int { return &m.Done[place].Code }, -1, 7)
		add("Value told"+of, func(m *impl.MapState) *int { return &m.Done[place].Value }, -2, 100000)
		out["A and B alike"+of] = func(m *impl.MapState) { m.Views[place].B = m.Views[place].A }
	}
	mapFreezesBad(out)
	return out
}

// mapFreezesBad is what spoils the freezes of mapSome.
func mapFreezesBad(out map[string]func(m *impl.MapState)) {
	out["not frozen, with Client"] = func(m *impl.MapState) { m.Disks[0].Client = 1 }
	out["not frozen, with Call"] = func(m *impl.MapState) { m.Disks[0].Call = 1 }
	out["not frozen, with Acks"] = func(m *impl.MapState) { m.Disks[0].Acks = []int{0} }
	for place := 1; place < 3; place++ {
		of := " of " + strconv.Itoa(place)
		out["no more frozen, all left"+of] = func(m *impl.MapState) { m.Disks[place].Frozen = 0 }
		out["frozen, without Call"+of] = func(m *impl.MapState) { m.Disks[place].Call = 0 }
		for name, acks := range map[string][]int{
			"all ranges": {0, 1, 2}, "all ranges, turned": {2, 0, 1}, "more than all": {0, 1, 2, 0}, "one twice": {1, 1}, "the first twice": {0, 0},
			"none ahead": {-1}, "none behind": {3}, "none ahead, in the end": {2, -1}, "none behind, in the end": {1, 3}, "far ahead": {secLowest}, "far behind": {secHighest, 0},
		} {
			out["Acks of "+name+of] = func(m *impl.MapState) { m.Disks[place].Acks = acks }
		}
	}
}

func mapDisksOf(ids ...int) []impl.MapDisk {
	var out []impl.MapDisk
	for _, id := range ids {
		out = append(out, impl.MapDisk{Id: id, Size: 2, Epoch: 3})
	}
	return out
}

func mapDoneOf(clients ...int) []impl.MapDone {
	var out []impl.MapDone
	for _, client := range clients {
		out = append(out, impl.MapDone{Client: client, Call: 3, Value: 1})
	}
	return out
}

// mapsBad is maps that are not ok, each by one thing alone.
func mapsBad() map[string]impl.MapState {
	out := map[string]impl.MapState{"nothing": {}}
	for name, change := range mapSpoils() {
		out[name] = mapWith(mapSome(), change)
	}
	return out
}
