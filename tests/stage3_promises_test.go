package tests

import (
	"math/rand/v2"
	"slices"
	"testing"

	"loop.example/pannier/impl"
)

// blkLook calls look at each block and epoch about which pieces or a write may say something.
func blkLook(list []impl.BlkPiece, p impl.BlkPiece, look func(at blkAt)) {
	near := append(slices.Clone(list), p)
	for _, q := range near {
		for _, epoch := range []int{0, 1, q.Epoch - 1, q.Epoch, q.Epoch + 1, p.Epoch - 1, p.Epoch, p.Epoch + 1, 99999, 100000} {
			for _, block := range []int{q.Block - 1, q.Block, q.Block + 1} {
				look(blkAt{q.Disk, block, epoch})
			}
			look(blkAt{q.Disk - 1, q.Block, epoch})
			look(blkAt{q.Disk + 1, q.Block, epoch})
		}
	}
}

// P9. What was written is read, and no other block says anything else.
func TestP9WhatWasWrittenIsRead(t *testing.T) {
	for _, list := range blkLists() {
		for _, p := range blkWrites(list) {
			got, ok := blkPut(list, p)
			if !ok {
				continue
			}
			if data := impl.BlkGet(got, p.Disk, p.Block, p.Epoch); data != p.Data {
				t.Fatalf("%v put to %v reads %d", p, list, data)
			}
			blkLook(list, p, func(at blkAt) {
				if at[0] == p.Disk && at[1] == p.Block {
					return
				}
				if now, was := impl.BlkGet(got, at[0], at[1], at[2]), impl.BlkGet(list, at[0], at[1], at[2]); now != was {
					t.Fatalf("%v put to %v: %v reads %d, not %d", p, list, at, now, was)
				}
			})
		}
	}
}

// P9. What was written is read as long as nothing newer is written, and in later epochs too.
func TestP9WhatWasWrittenIsReadOn(t *testing.T) {
	for _, list := range blkLists() {
		for _, p := range blkWrites(list) {
			got, ok := blkPut(list, p)
			if !ok {
				continue
			}
			next := 100001
			for _, q := range list {
				if q.Disk == p.Disk && q.Block == p.Block && q.Epoch > p.Epoch {
					next = min(next, q.Epoch)
				}
			}
			for _, epoch := range []int{p.Epoch, p.Epoch + 1, next - 1} {
				if data := impl.BlkGet(got, p.Disk, p.Block, epoch); epoch < next && data != p.Data {
					t.Fatalf("%v put to %v reads %d in the epoch %d", p, list, data, epoch)
				}
			}
			blkLook(list, p, func(at blkAt) {
				if at[0] != p.Disk || at[1] != p.Block || at[2] < next {
					return
				}
				if now, was := impl.BlkGet(got, at[0], at[1], at[2]), impl.BlkGet(list, at[0], at[1], at[2]); now != was {
					t.Fatalf("%v put to %v: the later epoch %d reads %d, not %d", p, list, at[2], now, was)
				}
			})
		}
	}
}

// P9. What cannot be written changes nothing.
func TestP9WhatCannotBeWrittenChangesNothing(t *testing.T) {
	wrong := []impl.BlkPiece{
		{Disk: 0, Block: 1, Epoch: 1, Data: 1}, {Disk: -1, Block: 1, Epoch: 1, Data: 1}, {Disk: 100000, Block: 1, Epoch: 1, Data: 1},
		{Disk: 1, Block: -1, Epoch: 1, Data: 1}, {Disk: 1, Block: 100000, Epoch: 1, Data: 1},
		{Disk: 1, Block: 1, Epoch: 0, Data: 1}, {Disk: 1, Block: 1, Epoch: -1, Data: 1}, {Disk: 1, Block: 1, Epoch: 100000, Data: 1},
		{Disk: 1, Block: 1, Epoch: 1, Data: -1}, {Disk: 1, Block: 1, Epoch: 1, Data: 100000},
		{Disk: secLowest, Block: secLowest, Epoch: secLowest, Data: secLowest}, {Disk: secHighest, Block: secHighest, Epoch: secHighest, Data: secHighest},
	}
	for _, list := range blkLists() {
		for _, p := range wrong {
			if got, ok := blkPut(list, p); ok || !slices.Equal(got, list) {
				t.Fatalf("%v put to %v: %v %v", p, list, got, ok)
			}
		}
	}
	full := blkFull(impl.BlkPieces)
	for _, p := range blkWrites(nil) {
		_, there := blkTable(full)[blkAt{p.Disk, p.Block, p.Epoch}]
		if got, ok := blkPut(full, p); ok != there || !there && !slices.Equal(got, full) {
			t.Fatalf("%v put where there is no room: %v %v", p, got, ok)
		}
	}
}

// P10. A write in an epoch never changes what earlier epochs say.
func TestP10AWriteNeverChangesEarlierEpochs(t *testing.T) {
	for _, list := range blkLists() {
		for _, p := range blkWrites(list) {
			got, _ := blkPut(list, p)
			blkLook(list, p, func(at blkAt) {
				if at[2] >= p.Epoch {
					return
				}
				if now, was := impl.BlkGet(got, at[0], at[1], at[2]), impl.BlkGet(list, at[0], at[1], at[2]); now != was {
					t.Fatalf("%v put to %v: %v reads %d, not %d", p, list, at, now, was)
				}
			})
		}
	}
}

// P10, epoch behind epoch: what each said when it ended it says for good, whatever is written behind.
func TestP10EpochsThatEndedStay(t *testing.T) {
	r := rand.New(rand.NewPCG(35, 36))
	for range 50 {
		var list []impl.BlkPiece
		var ended [][4]int
		for epoch := 1; epoch <= 6; epoch++ {
			var now [4]int
			for range 5 {
				block := r.IntN(4)
				list = blkMustPut(t, list, impl.BlkPiece{Disk: 1, Block: block, Epoch: epoch, Data: 1 + r.IntN(9999)})
			}
			for block := range now {
				now[block] = impl.BlkGet(list, 1, block, epoch)
			}
			ended = append(ended, now)
			for past, said := range ended {
				for block, data := range said {
					if got := impl.BlkGet(list, 1, block, past+1); got != data {
						t.Fatalf("in the epoch %d the block %d of the epoch %d reads %d, not %d", epoch, block, past+1, got, data)
					}
				}
			}
		}
	}
}

// P11. A disk that is gone costs no room, and all others stay.
func TestP11ADiskThatIsGoneCostsNoRoom(t *testing.T) {
	for _, list := range blkLists() {
		for _, disk := range []int{0, 1, 2, 3, 4, 5, 6, 99999, 100000} {
			var want []impl.BlkPiece
			for _, p := range list {
				if p.Disk != disk {
					want = append(want, p)
				}
			}
			got := impl.BlkDrop(list, disk)
			if !slices.Equal(got, want) || !impl.BlkOk(got) {
				t.Fatalf("%v without %d: %v", list, disk, got)
			}
			if again := impl.BlkDrop(got, disk); !slices.Equal(again, got) {
				t.Fatalf("%v without %d once more: %v", list, disk, again)
			}
			for _, p := range list {
				data := p.Data
				if p.Disk == disk {
					data = 0
				}
				if now := impl.BlkGet(got, p.Disk, p.Block, p.Epoch); now != data {
					t.Fatalf("%v without %d: %v reads %d", list, disk, p, now)
				}
			}
		}
	}
}

// P11: a list that is full has room for just as many pieces as the disk had.
func TestP11TheRoomIsFreeAgain(t *testing.T) {
	full := blkFull(impl.BlkPieces)
	for _, disk := range []int{2, 5, 77} {
		list := impl.BlkDrop(full, disk)
		put := 0
		for block := range impl.BlkPieces + 1 {
			next, ok := impl.BlkPut(list, 9, block, 1, block)
			if !ok {
				break
			}
			list = next
			put++
		}
		had := 0
		for _, p := range full {
			if p.Disk == disk {
				had++
			}
		}
		if put != had || len(list) != impl.BlkPieces {
			t.Errorf("the disk %d had %d pieces, and there is room for %d", disk, had, put)
		}
	}
}

// P12. The last call of a client never falls; those of others stay.
func TestP12TheLastCallNeverFalls(t *testing.T) {
	for _, list := range lastForms() {
		for client := range impl.BlkClients {
			was := impl.BlkCall(list, client)
			for _, call := range []int{secLowest, -1, 0, 1, 2, was - 1, was, was + 1, 50, 99998, 99999, 100000, secHighest} {
				got := impl.BlkMark(list, client, call)
				want := was
				if call > was && call <= 99999 {
					want = call
				}
				if now := impl.BlkCall(got, client); now != want || now < was {
					t.Fatalf("%d of the client %d in %v: %d, not %d", call, client, list, now, want)
				}
				lastOthersStay(t, list, got, client)
			}
		}
		for _, client := range []int{secLowest, -1, impl.BlkClients, secHighest} {
			if got := impl.BlkMark(list, client, 99999); !slices.Equal(got, list) {
				t.Fatalf("the client %d is marked in %v: %v", client, list, got)
			}
		}
	}
}

func lastOthersStay(t *testing.T, list, got []impl.BlkLast, client int) {
	t.Helper()
	for other := range impl.BlkClients {
		if now, was := impl.BlkCall(got, other), impl.BlkCall(list, other); other != client && now != was {
			t.Fatalf("%v of %v, marked by %d: the client %d has %d, not %d", got, list, client, other, now, was)
		}
	}
}

// P12, over many marks that come in any order: the greatest of each client is what is left.
func TestP12TheGreatestCallIsLeft(t *testing.T) {
	r := rand.New(rand.NewPCG(37, 38))
	for range 50 {
		var list []impl.BlkLast
		var greatest [4]int
		for range 40 {
			client, call := r.IntN(6)-1, r.IntN(30)-2
			list = impl.BlkMark(list, client, call)
			if client >= 0 && client < 4 {
				greatest[client] = max(greatest[client], call)
			}
			for c, want := range greatest {
				if got := impl.BlkCall(list, c); got != want {
					t.Fatalf("the client %d has %d, not %d", c, got, want)
				}
			}
		}
	}
}

// P13. Writes of different blocks can change places, if there is room for both.
func TestP13WritesOfDifferentBlocksChangePlaces(t *testing.T) {
	swapped := 0
	for _, list := range blkLists() {
		writes := blkWrites(list)
		for _, p := range writes {
			for _, q := range writes {
				if p.Disk == q.Disk && p.Block == q.Block {
					continue
				}
				one, fits := blkPut(list, p)
				both, fit := blkPut(one, q)
				if !fits || !fit {
					continue
				}
				other := blkMustPut(t, blkMustPut(t, list, q), p)
				if !slices.Equal(other, both) {
					t.Fatalf("%v and %v put to %v: %v, the other way round %v", p, q, list, both, other)
				}
				swapped++
			}
		}
	}
	if swapped < 1000 {
		t.Errorf("only %d pairs were looked at", swapped)
	}
}

// P13: with room for both just at the limit it holds; with room for one the first one has it.
func TestP13RoomForBothOrForOne(t *testing.T) {
	p, q := impl.BlkPiece{Disk: 3, Block: 1, Epoch: 1, Data: 1}, impl.BlkPiece{Disk: 1, Block: 4, Epoch: 2, Data: 2}
	list := blkFull(impl.BlkPieces - 2)
	one := blkMustPut(t, blkMustPut(t, list, p), q)
	other := blkMustPut(t, blkMustPut(t, list, q), p)
	if len(one) != impl.BlkPieces || !slices.Equal(one, other) {
		t.Errorf("%v and %v", one, other)
	}
	list = blkFull(impl.BlkPieces - 1)
	for _, pair := range [][2]impl.BlkPiece{{p, q}, {q, p}} {
		first := blkMustPut(t, list, pair[0])
		if got, ok := blkPut(first, pair[1]); ok || !slices.Equal(got, first) {
			t.Errorf("%v has room behind %v", pair[1], pair[0])
		}
	}
	// A piece that is there already needs no room.
	there := impl.BlkPiece{Disk: list[7].Disk, Block: list[7].Block, Epoch: list[7].Epoch, Data: 3}
	one = blkMustPut(t, blkMustPut(t, list, p), there)
	other = blkMustPut(t, blkMustPut(t, list, there), p)
	if !slices.Equal(one, other) {
		t.Errorf("%v and %v", one, other)
	}
}

// P14. A write that is done twice is done once.
func TestP14AWriteDoneTwiceIsDoneOnce(t *testing.T) {
	for _, list := range blkLists() {
		for _, p := range blkWrites(list) {
			once, ok := blkPut(list, p)
			twice, again := blkPut(once, p)
			if ok != again || !slices.Equal(once, twice) {
				t.Fatalf("%v put to %v: %v %v, once more %v %v", p, list, once, ok, twice, again)
			}
		}
	}
	for _, list := range lastForms() {
		for client := -1; client <= impl.BlkClients; client++ {
			for _, call := range []int{0, 1, 2, 5, 9, 99999, 100000} {
				once := impl.BlkMark(list, client, call)
				if twice := impl.BlkMark(once, client, call); !slices.Equal(once, twice) {
					t.Fatalf("%d of the client %d in %v: %v, once more %v", call, client, list, once, twice)
				}
			}
		}
	}
}

// P14, where the last piece that there is room for is written: once more it is taken, though nothing else is.
func TestP14AtTheLimit(t *testing.T) {
	p := impl.BlkPiece{Disk: 4, Block: 2, Epoch: 3, Data: 9}
	once := blkMustPut(t, blkFull(impl.BlkPieces-1), p)
	twice := blkMustPut(t, once, p)
	if !slices.Equal(once, twice) || len(twice) != impl.BlkPieces {
		t.Errorf("%v", twice)
	}
	p.Epoch++
	if got, ok := blkPut(twice, p); ok || !slices.Equal(got, twice) {
		t.Errorf("another epoch is put: %v %v", got, ok)
	}
}
