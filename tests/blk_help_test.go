package tests

import (
	"math/rand/v2"
	"slices"
	"testing"

	"loop.example/pannier/impl"
)

// blkAt is where a piece stands: disk, block, epoch.
type blkAt [3]int

// blkListed is the pieces of a table in their order, laid out by a sort, so that it is not the program's own way.
func blkListed(table map[blkAt]int) []impl.BlkPiece {
	var keys []blkAt
	for at := range table {
		keys = append(keys, at)
	}
	slices.SortFunc(keys, func(a, b blkAt) int { return slices.Compare(a[:], b[:]) })
	var out []impl.BlkPiece
	for _, at := range keys {
		out = append(out, blkPiece(at, table[at]))
	}
	return out
}

func blkPiece(at blkAt, data int) impl.BlkPiece {
	return impl.BlkPiece{Disk: at[0], Block: at[1], Epoch: at[2], Data: data}
}

func blkTable(list []impl.BlkPiece) map[blkAt]int {
	out := map[blkAt]int{}
	for _, p := range list {
		out[blkAt{p.Disk, p.Block, p.Epoch}] = p.Data
	}
	return out
}

// blkWritten is what BlkPut is to answer of pieces that are ok.
func blkWritten(list []impl.BlkPiece, p impl.BlkPiece) ([]impl.BlkPiece, bool) {
	table := blkTable(list)
	table[blkAt{p.Disk, p.Block, p.Epoch}] = p.Data
	if len(table) > 60 || !blkGood(p) {
		return list, false
	}
	return blkListed(table), true
}

func blkGood(p impl.BlkPiece) bool {
	return p.Disk >= 1 && p.Disk <= 99999 && p.Epoch >= 1 && p.Epoch <= 99999 &&
		p.Block >= 0 && p.Block <= 99999 && p.Data >= 0 && p.Data <= 99999
}

// blkSays is what BlkGet is to answer of pieces that are ok: all of them are looked at.
func blkSays(list []impl.BlkPiece, disk, block, epoch int) int {
	newest := impl.BlkPiece{}
	for _, p := range list {
		if p.Disk == disk && p.Block == block && p.Epoch <= epoch && p.Epoch > newest.Epoch {
			newest = p
		}
	}
	return newest.Data
}

func blkPut(list []impl.BlkPiece, p impl.BlkPiece) ([]impl.BlkPiece, bool) {
	return impl.BlkPut(list, p.Disk, p.Block, p.Epoch, p.Data)
}

func blkMustPut(t *testing.T, list []impl.BlkPiece, p impl.BlkPiece) []impl.BlkPiece {
	t.Helper()
	out, ok := blkPut(list, p)
	if !ok {
		t.Fatalf("a put of %v is refused by %v", p, list)
	}
	return out
}

// blkFull is so many pieces of two disks, of several blocks and epochs each, with gaps between.
func blkFull(n int) []impl.BlkPiece {
	var out []impl.BlkPiece
	for i := range n {
		out = append(out, impl.BlkPiece{Disk: 2 + i/30*3, Block: i / 5 % 6 * 2, Epoch: 2 + i%5*2, Data: 100 + i})
	}
	return out
}

// blkEdges is pieces at the ends of what is ok.
func blkEdges() []impl.BlkPiece {
	return []impl.BlkPiece{
		{Disk: 1, Block: 0, Epoch: 1, Data: 0},
		{Disk: 1, Block: 0, Epoch: 99999, Data: 99999},
		{Disk: 1, Block: 99999, Epoch: 1, Data: 7},
		{Disk: 99999, Block: 0, Epoch: 1, Data: 8},
		{Disk: 99999, Block: 99999, Epoch: 99999, Data: 99999},
	}
}

// blkSmall is all lists with pieces of two disks, of two blocks and two epochs each.
func blkSmall() [][]impl.BlkPiece {
	var out [][]impl.BlkPiece
	for mask := range 1 << 8 {
		var list []impl.BlkPiece
		for i := range 8 {
			if mask>>i&1 == 1 {
				list = append(list, impl.BlkPiece{Disk: 1 + i/4, Block: i / 2 % 2, Epoch: 2 + i%2*2, Data: 10 + i})
			}
		}
		out = append(out, list)
	}
	return out
}

func blkRandom(r *rand.Rand) []impl.BlkPiece {
	table := map[blkAt]int{}
	for range r.IntN(impl.BlkPieces + 1) {
		p := blkRandomPiece(r)
		table[blkAt{p.Disk, p.Block, p.Epoch}] = p.Data
	}
	return blkListed(table)
}

func blkRandomPiece(r *rand.Rand) impl.BlkPiece {
	return impl.BlkPiece{Disk: 1 + r.IntN(4), Block: r.IntN(5), Epoch: 1 + r.IntN(6), Data: r.IntN(1000)}
}

// blkLists is pieces that are ok, of every kind.
func blkLists() [][]impl.BlkPiece {
	out := append(blkSmall(), blkEdges(), blkFull(impl.BlkPieces-1), blkFull(impl.BlkPieces))
	r := rand.New(rand.NewPCG(31, 32))
	for range 200 {
		out = append(out, blkRandom(r))
	}
	return out
}

// blkWrites is writes to blocks that lists of blkLists have or have not, ahead of, between and behind their pieces.
func blkWrites(list []impl.BlkPiece) []impl.BlkPiece {
	out := []impl.BlkPiece{
		{Disk: 1, Block: 0, Epoch: 1, Data: 901}, {Disk: 1, Block: 1, Epoch: 3, Data: 902}, {Disk: 2, Block: 0, Epoch: 2, Data: 903},
		{Disk: 2, Block: 1, Epoch: 5, Data: 904}, {Disk: 3, Block: 4, Epoch: 1, Data: 0}, {Disk: 99999, Block: 99999, Epoch: 99999, Data: 905},
	}
	for place := 0; place < len(list); place += 1 + len(list)/4 {
		p := list[place]
		out = append(out, impl.BlkPiece{Disk: p.Disk, Block: p.Block, Epoch: p.Epoch, Data: 906})
	}
	return out
}

// blkBad is pieces that are not ok, each by one thing alone.
func blkBad() map[string][]impl.BlkPiece {
	good := impl.BlkPiece{Disk: 5, Block: 5, Epoch: 5, Data: 5}
	with := func(change func(p *impl.BlkPiece)) impl.BlkPiece {
		p := good
		change(&p)
		return p
	}
	return map[string][]impl.BlkPiece{
		"one piece too many":        blkFull(impl.BlkPieces + 1),
		"a disk of 0":               {with(func(p *impl.BlkPiece) { p.Disk = 0 }), good},
		"a disk below 0":            {with(func(p *impl.BlkPiece) { p.Disk = secLowest }), good},
		"a disk above":              {good, with(func(p *impl.BlkPiece) { p.Disk = 100000 })},
		"a block below 0":           {with(func(p *impl.BlkPiece) { p.Block = -1 }), good},
		"a block above":             {good, with(func(p *impl.BlkPiece) { p.Block = 100000 })},
		"an epoch of 0":             {with(func(p *impl.BlkPiece) { p.Epoch = 0 }), good},
		"an epoch below 0":          {with(func(p *impl.BlkPiece) { p.Epoch = -1 }), good},
		"an epoch above":            {good, with(func(p *impl.BlkPiece) { p.Epoch = 100000 })},
		"data below 0":              {with(func(p *impl.BlkPiece) { p.Data = -1 })},
		"data above":                {with(func(p *impl.BlkPiece) { p.Data = 100000 })},
		"data far above":            {good, with(func(p *impl.BlkPiece) { p.Epoch, p.Data = 6, secHighest })},
		"falling by disk":           {good, with(func(p *impl.BlkPiece) { p.Disk, p.Block, p.Epoch = 4, 6, 6 })},
		"falling by block":          {good, with(func(p *impl.BlkPiece) { p.Block, p.Epoch = 4, 6 })},
		"falling by epoch":          {good, with(func(p *impl.BlkPiece) { p.Epoch = 4 })},
		"the same twice":            {good, good},
		"the same with other data":  {good, with(func(p *impl.BlkPiece) { p.Data = 6 })},
		"falling in the end":        {with(func(p *impl.BlkPiece) { p.Disk = 1 }), with(func(p *impl.BlkPiece) { p.Disk = 3 }), with(func(p *impl.BlkPiece) { p.Disk = 2 })},
		"falling in the beginning":  {with(func(p *impl.BlkPiece) { p.Disk = 2 }), with(func(p *impl.BlkPiece) { p.Disk = 1 }), good},
		"nothing where a piece was": {{}, good},
	}
}

// lastForms is last calls that are in form: each choice of the clients, with calls in both orders, at the ends and between.
func lastForms() [][]impl.BlkLast {
	var out [][]impl.BlkLast
	for mask := range 1 << impl.BlkClients {
		for _, calls := range [][4]int{{1, 1, 1, 1}, {99999, 99999, 99999, 99999}, {2, 9, 4, 7}, {9, 3, 8, 2}} {
			var list []impl.BlkLast
			for client, call := range calls {
				if mask>>client&1 == 1 {
					list = append(list, impl.BlkLast{Client: client, Call: call})
				}
			}
			out = append(out, list)
		}
	}
	return out
}

// lastBad is last calls that are not in form, each by one thing alone.
func lastBad() map[string][]impl.BlkLast {
	return map[string][]impl.BlkLast{
		"one too many":             {{Client: 0, Call: 1}, {Client: 1, Call: 1}, {Client: 2, Call: 1}, {Client: 3, Call: 1}, {Client: 4, Call: 1}},
		"one too many, one twice":  {{Client: 0, Call: 1}, {Client: 1, Call: 1}, {Client: 2, Call: 1}, {Client: 3, Call: 1}, {Client: 3, Call: 2}},
		"a client of BlkClients":   {{Client: 1, Call: 2}, {Client: 4, Call: 2}},
		"a client far above":       {{Client: secHighest, Call: 2}},
		"a client below 0":         {{Client: -1, Call: 2}, {Client: 1, Call: 2}},
		"a client far below 0":     {{Client: secLowest, Call: 2}, {Client: 1, Call: 2}},
		"a call of 0":              {{Client: 1, Call: 0}, {Client: 2, Call: 2}},
		"a call below 0":           {{Client: 1, Call: 1}, {Client: 2, Call: -1}},
		"a call above":             {{Client: 1, Call: 1}, {Client: 2, Call: 100000}},
		"falling":                  {{Client: 2, Call: 1}, {Client: 1, Call: 2}},
		"falling in the end":       {{Client: 0, Call: 1}, {Client: 3, Call: 2}, {Client: 2, Call: 3}},
		"a client twice":           {{Client: 1, Call: 2}, {Client: 1, Call: 2}},
		"a client twice, growing":  {{Client: 1, Call: 2}, {Client: 1, Call: 3}},
		"nothing where a call was": {{}, {Client: 1, Call: 2}},
	}
}

// lastCall is what BlkCall is to answer of last calls that are in form: all of them are looked at.
func lastCall(list []impl.BlkLast, client int) int {
	call := 0
	for _, l := range list {
		if l.Client == client {
			call = l.Call
		}
	}
	return call
}

// lastMarked is what BlkMark is to answer of last calls that are in form, laid out client by client.
func lastMarked(list []impl.BlkLast, client, call int) []impl.BlkLast {
	var out []impl.BlkLast
	for c := range 4 {
		n := lastCall(list, c)
		if c == client && call > n && call <= 99999 {
			n = call
		}
		if n > 0 {
			out = append(out, impl.BlkLast{Client: c, Call: n})
		}
	}
	return out
}
