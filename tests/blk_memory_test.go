package tests

import (
	"slices"
	"strconv"
	"testing"

	"loop.example/pannier/impl"
)

var (
	blkMark  = impl.BlkPiece{Disk: -7, Block: -7, Epoch: -7, Data: -7}
	blkOver  = impl.BlkPiece{Disk: -9, Block: -9, Epoch: -9, Data: -9}
	lastMark = impl.BlkLast{Client: -7, Call: -7}
	lastOver = impl.BlkLast{Client: -9, Call: -9}
)

// blkCalls is each function that answers pieces, at what it does and at what it refuses, at a write of one that is there among them.
func blkCalls(list []impl.BlkPiece) map[string]func([]impl.BlkPiece) []impl.BlkPiece {
	there := impl.BlkPiece{Disk: 1, Epoch: 1, Data: 44}
	if len(list) > 0 {
		there.Disk, there.Block, there.Epoch = list[len(list)/2].Disk, list[len(list)/2].Block, list[len(list)/2].Epoch
	}
	put := func(p impl.BlkPiece) func([]impl.BlkPiece) []impl.BlkPiece {
		return func(list []impl.BlkPiece) []impl.BlkPiece {
			out, _ := blkPut(list, p)
			return out
		}
	}
	drop := func(disk int) func([]impl.BlkPiece) []impl.BlkPiece {
		return func(list []impl.BlkPiece) []impl.BlkPiece { return impl.BlkDrop(list, disk) }
	}
	return map[string]func([]impl.BlkPiece) []impl.BlkPiece{
		"BlkPut":                  put(impl.BlkPiece{Disk: 1, Block: 1, Epoch: 3, Data: 41}),
		"BlkPut ahead of all":     put(impl.BlkPiece{Disk: 1, Epoch: 1, Data: 42}),
		"BlkPut behind all":       put(impl.BlkPiece{Disk: 99999, Block: 99999, Epoch: 99999, Data: 43}),
		"BlkPut of what is there": put(there),
		"BlkPut of a wrong disk":  put(impl.BlkPiece{Epoch: 1}),
		"BlkPut of wrong data":    put(impl.BlkPiece{Disk: there.Disk, Block: there.Block, Epoch: there.Epoch, Data: -1}),
		"BlkDrop":                 drop(there.Disk),
		"BlkDrop of the first":    drop(1),
		"BlkDrop of none":         drop(77),
	}
}

func lastCalls() map[string]func([]impl.BlkLast) []impl.BlkLast {
	out := map[string]func([]impl.BlkLast) []impl.BlkLast{}
	for _, call := range []int{0, 1, 5, 99999, 100000} {
		for client := -1; client <= impl.BlkClients; client++ {
			out["BlkMark of "+strconv.Itoa(client)+", "+strconv.Itoa(call)] = func(list []impl.BlkLast) []impl.BlkLast {
				return impl.BlkMark(list, client, call)
			}
		}
	}
	return out
}

func blkMemoryLists() [][]impl.BlkPiece {
	out := append(blkLists(), []impl.BlkPiece{})
	for _, list := range blkBad() {
		out = append(out, list)
	}
	return out
}

func lastMemoryLists() [][]impl.BlkLast {
	out := append(lastForms(), []impl.BlkLast{})
	for _, list := range lastBad() {
		out = append(out, list)
	}
	return out
}

// listMemory asks of one call what is said once for all chapters: what it is given stays, spare room included,
// its answer is memory of its own, and a second call answers as the first one did.
func listMemory[T comparable](t *testing.T, name string, list []T, mark, over T, call func([]T) []T) {
	t.Helper()
	given := walRoom(list, mark)
	answer := call(given)
	if !walHeld(given, list, mark) {
		t.Fatalf("%s writes into its argument %v", name, list)
	}
	want := slices.Clone(answer)
	walScrawl(given, over)
	if !slices.Equal(answer, want) {
		t.Fatalf("%s: what is written into the argument %v is seen in the answer", name, list)
	}
	given = walRoom(list, mark)
	walScrawl(call(given), over)
	if !walHeld(given, list, mark) {
		t.Fatalf("%s: what is written into the answer is seen in the argument %v", name, list)
	}
	if again := call(given); !slices.Equal(again, want) {
		t.Fatalf("%s: called again on %v it answers otherwise", name, list)
	}
}

func TestBlkMemory(t *testing.T) {
	for _, list := range blkMemoryLists() {
		for name, call := range blkCalls(list) {
			listMemory(t, name, list, blkMark, blkOver, call)
		}
	}
}

func TestLastMemory(t *testing.T) {
	for _, list := range lastMemoryLists() {
		for name, call := range lastCalls() {
			listMemory(t, name, list, lastMark, lastOver, call)
		}
	}
}

func TestBlkLookingWritesNothing(t *testing.T) {
	for _, list := range blkMemoryLists() {
		given := walRoom(list, blkMark)
		impl.BlkOk(given)
		for _, p := range blkWrites(list) {
			impl.BlkGet(given, p.Disk, p.Block, p.Epoch)
		}
		if !walHeld(given, list, blkMark) {
			t.Fatalf("looking writes into %v", list)
		}
	}
	for _, list := range lastMemoryLists() {
		given := walRoom(list, lastMark)
		for client := -1; client <= impl.BlkClients; client++ {
			impl.BlkCall(given, client)
		}
		if !walHeld(given, list, lastMark) {
			t.Fatalf("looking writes into %v", list)
		}
	}
}

// What lies behind the end of a list is not of it, though it would be a piece, or a last call, in order.
func TestBlkNothingIsReadBehindAnEnd(t *testing.T) {
	full := blkFull(8)
	for n := range full {
		list := full[:n]
		if got := impl.BlkGet(list, full[n].Disk, full[n].Block, full[n].Epoch); got != blkSays(list, full[n].Disk, full[n].Block, full[n].Epoch) {
			t.Errorf("behind %d pieces %d is read", n, got)
		}
		if got := impl.BlkDrop(list, 77); !slices.Equal(got, full[:n]) {
			t.Errorf("behind %d pieces: %v", n, got)
		}
	}
	calls := []impl.BlkLast{{Client: 0, Call: 3}, {Client: 1, Call: 4}, {Client: 2, Call: 5}, {Client: 3, Call: 6}}
	for n := range calls {
		if got := impl.BlkCall(calls[:n], n); got != 0 {
			t.Errorf("behind %d last calls %d is read", n, got)
		}
		if got := impl.BlkMark(calls[:n], n, 1); !slices.Equal(got, append(slices.Clone(calls[:n]), impl.BlkLast{Client: n, Call: 1})) {
			t.Errorf("behind %d last calls: %v", n, got)
		}
	}
}
