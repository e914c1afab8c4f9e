package tests

import (
	"math/rand/v2"
	"slices"
	"testing"

	"loop.example/pannier/impl"
)

func TestBlkLimitsAreThoseOfTheTable(t *testing.T) {
	if impl.WordMax != 99999 || impl.BlkPieces != 60 || impl.BlkClients != 4 {
		t.Error(impl.WordMax, impl.BlkPieces, impl.BlkClients)
	}
}

func TestBlkOkOfPiecesThatAre(t *testing.T) {
	if !impl.BlkOk(nil) || !impl.BlkOk([]impl.BlkPiece{}) {
		t.Error("no piece")
	}
	for _, list := range blkLists() {
		if !impl.BlkOk(list) {
			t.Errorf("%v", list)
		}
	}
}

func TestBlkOkOfOneNumberAtItsEnds(t *testing.T) {
	set := map[string]func(p *impl.BlkPiece, n int){
		"disk":  func(p *impl.BlkPiece, n int) { p.Disk = n },
		"block": func(p *impl.BlkPiece, n int) { p.Block = n },
		"epoch": func(p *impl.BlkPiece, n int) { p.Epoch = n },
		"data":  func(p *impl.BlkPiece, n int) { p.Data = n },
	}
	for name, change := range set {
		for _, n := range []int{secLowest, -1, 0, 1, 99998, 99999, 100000, secHighest} {
			p := impl.BlkPiece{Disk: 3, Block: 3, Epoch: 3, Data: 3}
			change(&p, n)
			good := n >= 1 && n <= 99999 || n == 0 && (name == "block" || name == "data")
			if impl.BlkOk([]impl.BlkPiece{p}) != good {
				t.Errorf("%s %d: ok is not %v", name, n, good)
			}
			list, ok := blkPut(nil, p)
			if ok != good || good && !slices.Equal(list, []impl.BlkPiece{p}) || !good && len(list) != 0 {
				t.Errorf("%s %d is put: %v %v", name, n, list, ok)
			}
			full := blkFull(10)
			list, ok = blkPut(full, p)
			if want, _ := blkWritten(full, p); ok != good || !slices.Equal(list, want) {
				t.Errorf("%s %d is put to others: %v %v", name, n, list, ok)
			}
		}
	}
}

// Of the three that order pieces the first one that differs decides, whatever the others say.
func TestBlkOkIsByDiskThenBlockThenEpoch(t *testing.T) {
	var all []impl.BlkPiece
	for i := range 27 {
		all = append(all, impl.BlkPiece{Disk: 1 + i/9, Block: i / 3 % 3, Epoch: 1 + i%3, Data: 27 - i})
	}
	for i, p := range all {
		for j, q := range all {
			if impl.BlkOk([]impl.BlkPiece{p, q}) != (i < j) {
				t.Errorf("%v ahead of %v", p, q)
			}
		}
	}
	if !impl.BlkOk(all) {
		t.Error("all in order")
	}
}

func TestBlkFixedAnswersOfPiecesThatAreNotOk(t *testing.T) {
	for name, list := range blkBad() {
		if impl.BlkOk(list) {
			t.Errorf("%s: ok", name)
		}
		for _, p := range append(blkWrites(list), impl.BlkPiece{Disk: 5, Block: 5, Epoch: 5, Data: 5}, impl.BlkPiece{}) {
			if out, ok := blkPut(list, p); ok || len(out) != 0 {
				t.Errorf("%s: a put answers %v %v", name, out, ok)
			}
			if data := impl.BlkGet(list, p.Disk, p.Block, p.Epoch); data != 0 {
				t.Errorf("%s: %v reads %d", name, p, data)
			}
			if out := impl.BlkDrop(list, p.Disk); len(out) != 0 {
				t.Errorf("%s: without %d it is %v", name, p.Disk, out)
			}
		}
		if out := impl.BlkDrop(list, 77); len(out) != 0 {
			t.Errorf("%s: without a disk that has no piece it is %v", name, out)
		}
	}
}

func TestBlkPutStandsInOrder(t *testing.T) {
	for _, list := range blkLists() {
		for _, p := range blkWrites(list) {
			got, ok := blkPut(list, p)
			want, fine := blkWritten(list, p)
			if ok != fine || !slices.Equal(got, want) || !impl.BlkOk(got) {
				t.Fatalf("%v put to %v: %v %v, not %v %v", p, list, got, ok, want, fine)
			}
		}
	}
}

func TestBlkPutOfWhatIsThereAlready(t *testing.T) {
	for _, list := range [][]impl.BlkPiece{blkFull(1), blkFull(17), blkFull(impl.BlkPieces), blkEdges()} {
		for place, p := range list {
			p.Data = 4321
			want := slices.Clone(list)
			want[place] = p
			if got, ok := blkPut(list, p); !ok || !slices.Equal(got, want) {
				t.Errorf("%v put to %d pieces: %v %v", p, len(list), got, ok)
			}
			for _, data := range []int{-1, 100000} {
				p.Data = data
				if got, ok := blkPut(list, p); ok || !slices.Equal(got, list) {
					t.Errorf("%v put to %d pieces: %v %v", p, len(list), got, ok)
				}
			}
		}
	}
}

func TestBlkPutOfOnePieceTooMany(t *testing.T) {
	full := blkFull(impl.BlkPieces)
	for _, p := range []impl.BlkPiece{
		{Disk: 1, Epoch: 1}, {Disk: 2, Block: 0, Epoch: 1}, {Disk: 2, Block: 0, Epoch: 3}, {Disk: 2, Block: 1, Epoch: 2},
		{Disk: 3, Epoch: 1}, {Disk: 5, Block: 10, Epoch: 11}, {Disk: 99999, Block: 99999, Epoch: 99999, Data: 99999},
	} {
		if got, ok := blkPut(full, p); ok || !slices.Equal(got, full) {
			t.Errorf("%v: %v %v", p, got, ok)
		}
		less := full[:impl.BlkPieces-1]
		if got := blkMustPut(t, less, p); len(got) != impl.BlkPieces || !impl.BlkOk(got) {
			t.Errorf("%v: %v", p, got)
		}
	}
	var list []impl.BlkPiece
	for n := range impl.BlkPieces {
		list = blkMustPut(t, list, impl.BlkPiece{Disk: 1, Block: (n * 7) % impl.BlkPieces, Epoch: 1, Data: n})
	}
	if got, ok := impl.BlkPut(list, 1, impl.BlkPieces, 1, 0); ok || !slices.Equal(got, list) || len(got) != impl.BlkPieces {
		t.Errorf("one more is put: %v %v", got, ok)
	}
}

func TestBlkGetTakesTheNewestThatIsNotAbove(t *testing.T) {
	list := []impl.BlkPiece{
		{Disk: 1, Block: 9, Epoch: 1, Data: 11}, {Disk: 2, Block: 0, Epoch: 1, Data: 12},
		{Disk: 2, Block: 1, Epoch: 3, Data: 13}, {Disk: 2, Block: 1, Epoch: 7, Data: 14}, {Disk: 2, Block: 1, Epoch: 8, Data: 0},
		{Disk: 2, Block: 2, Epoch: 1, Data: 15}, {Disk: 3, Block: 1, Epoch: 1, Data: 16},
	}
	for epoch, want := range map[int]int{
		secLowest: 0, -1: 0, 0: 0, 1: 0, 2: 0, 3: 13, 4: 13, 6: 13, 7: 14, 8: 0, 9: 0, 99999: 0, 100000: 0, secHighest: 0,
	} {
		if got := impl.BlkGet(list, 2, 1, epoch); got != want {
			t.Errorf("in the epoch %d it is %d, not %d", epoch, got, want)
		}
	}
	for _, epoch := range []int{1, 2, 99999, 100000, secHighest} {
		if got := impl.BlkGet(list, 3, 1, epoch); got != 16 {
			t.Errorf("the last piece, in the epoch %d: %d", epoch, got)
		}
		if got := impl.BlkGet(list, 1, 9, epoch); got != 11 {
			t.Errorf("the first piece, in the epoch %d: %d", epoch, got)
		}
	}
	// None of these blocks has a piece, though others stand right ahead or behind.
	for _, at := range []blkAt{
		{0, 0, 1}, {1, 0, 9}, {1, 8, 9}, {1, 10, 9}, {2, -1, 9}, {2, 3, 9}, {3, 0, 9}, {3, 2, 9}, {4, 1, 9}, {-1, 1, 9},
		{secLowest, secLowest, secLowest}, {secHighest, secHighest, secHighest}, {100000, 1, 9}, {2, 100000, 9},
	} {
		if got := impl.BlkGet(list, at[0], at[1], at[2]); got != 0 {
			t.Errorf("%v: %d", at, got)
		}
	}
	if got := impl.BlkGet(nil, 1, 0, 1); got != 0 {
		t.Errorf("no piece: %d", got)
	}
}

func TestBlkGetAgainstThePlainReading(t *testing.T) {
	for _, list := range blkLists() {
		for disk := range 7 {
			for block := -1; block < 12; block++ {
				for epoch := range 12 {
					if got, want := impl.BlkGet(list, disk, block, epoch), blkSays(list, disk, block, epoch); got != want {
						t.Fatalf("%d.%d.%d of %v: %d, not %d", disk, block, epoch, list, got, want)
					}
				}
			}
		}
	}
	for _, p := range blkEdges() {
		if got := impl.BlkGet(blkEdges(), p.Disk, p.Block, p.Epoch); got != p.Data {
			t.Errorf("%v: %d", p, got)
		}
	}
}

func TestBlkDropOfDisks(t *testing.T) {
	list := []impl.BlkPiece{
		{Disk: 1, Block: 0, Epoch: 1, Data: 1}, {Disk: 2, Block: 0, Epoch: 1, Data: 2}, {Disk: 2, Block: 0, Epoch: 2, Data: 3},
		{Disk: 2, Block: 5, Epoch: 1, Data: 4}, {Disk: 99999, Block: 2, Epoch: 2, Data: 5},
	}
	for disk, want := range map[int][]impl.BlkPiece{
		1: list[1:], 2: {list[0], list[4]}, 99999: list[:4], 3: list, 0: list, -1: list, 100000: list, secLowest: list, secHighest: list,
	} {
		if got := impl.BlkDrop(list, disk); !slices.Equal(got, want) {
			t.Errorf("without %d: %v", disk, got)
		}
	}
	if got := impl.BlkDrop(list[1:4], 2); len(got) != 0 {
		t.Errorf("a disk that has all: %v", got)
	}
	if got := impl.BlkDrop(nil, 1); len(got) != 0 {
		t.Errorf("no piece: %v", got)
	}
}

func TestLastCallsThatAreInForm(t *testing.T) {
	for _, list := range lastForms() {
		for _, client := range []int{secLowest, -1, 0, 1, 2, 3, 4, secHighest} {
			if got, want := impl.BlkCall(list, client), lastCall(list, client); got != want {
				t.Errorf("the client %d of %v: %d, not %d", client, list, got, want)
			}
			for _, call := range []int{secLowest, -1, 0, 1, 2, 3, 4, 5, 7, 8, 9, 10, 99998, 99999, 100000, secHighest} {
				if got, want := impl.BlkMark(list, client, call), lastMarked(list, client, call); !slices.Equal(got, want) {
					t.Errorf("%d of the client %d in %v: %v, not %v", call, client, list, got, want)
				}
			}
		}
	}
}

func TestLastCallsThatAreNotInForm(t *testing.T) {
	for name, list := range lastBad() {
		for client := -1; client <= 4; client++ {
			if got := impl.BlkCall(list, client); got != 0 {
				t.Errorf("%s: the client %d has %d", name, client, got)
			}
			for _, call := range []int{0, 1, 3, 99999, 100000} {
				if got := impl.BlkMark(list, client, call); len(got) != 0 {
					t.Errorf("%s: %d of %d answers %v", name, call, client, got)
				}
			}
		}
	}
}

func TestBlkMarkOfAClientThatHasNotCalled(t *testing.T) {
	two := []impl.BlkLast{{Client: 1, Call: 5}, {Client: 2, Call: 6}}
	apart := []impl.BlkLast{{Client: 0, Call: 5}, {Client: 3, Call: 6}}
	for name, c := range map[string]struct {
		list   []impl.BlkLast
		client int
		want   []impl.BlkLast
	}{
		"alone":           {nil, 2, []impl.BlkLast{{Client: 2, Call: 1}}},
		"ahead":           {two, 0, []impl.BlkLast{{Client: 0, Call: 1}, two[0], two[1]}},
		"between":         {apart, 1, []impl.BlkLast{apart[0], {Client: 1, Call: 1}, apart[1]}},
		"between, behind": {apart, 2, []impl.BlkLast{apart[0], {Client: 2, Call: 1}, apart[1]}},
		"behind":          {two, 3, []impl.BlkLast{two[0], two[1], {Client: 3, Call: 1}}},
	} {
		if got := impl.BlkCall(c.list, c.client); got != 0 {
			t.Errorf("%s: it has called: %d", name, got)
		}
		if got := impl.BlkMark(c.list, c.client, 1); !slices.Equal(got, c.want) {
			t.Errorf("%s: %v", name, got)
		}
		for _, call := range []int{0, -1, 100000} {
			if got := impl.BlkMark(c.list, c.client, call); !slices.Equal(got, c.list) {
				t.Errorf("%s: %d is marked: %v", name, call, got)
			}
		}
	}
}

// Many writes one behind the other, each answer being the next argument, until there is no more room.
func TestBlkLongRows(t *testing.T) {
	r := rand.New(rand.NewPCG(33, 34))
	for range 30 {
		var list, want []impl.BlkPiece
		refused := 0
		for range 300 {
			p := blkRandomPiece(r)
			var got, should bool
			list, got = blkPut(list, p)
			want, should = blkWritten(want, p)
			if got != should || !slices.Equal(list, want) {
				t.Fatalf("%v: %v %v, not %v %v", p, list, got, want, should)
			}
			if !got {
				refused++
			}
		}
		if refused == 0 {
			t.Error("nothing was refused: the rows are too short")
		}
	}
}
