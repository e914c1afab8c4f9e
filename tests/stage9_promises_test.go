package tests

import (
	"math/rand/v2"
	"testing"

	"loop.example/pannier/impl"
)

// placeUnlike is P32, of a map that is ok.
func placeUnlike(t *testing.T, m impl.MapState) {
	t.Helper()
	var firsts, kept [5]int
	for r := range 3 {
		first, second := impl.MapTarget(m, r)
		if first < 0 || first >= m.Servers || second < 0 || second >= m.Servers {
			t.Fatalf("%+v: the range %d: %d and %d are not in service", m, r, first, second)
		}
		if first == second {
			t.Fatalf("%+v: the range %d: %d twice", m, r, first)
		}
		firsts[first]++
		kept[first]++
		kept[second]++
	}
	// Three ranges, and three servers at least: nobody must be first of two.
	for server := range 5 {
		if firsts[server] > 1 || kept[server] > 2 {
			t.Fatalf("%+v: the server %d is first of %d, and keeps %d", m, server, firsts[server], kept[server])
		}
	}
}

func TestP32OfEachNumberOfServers(t *testing.T) {
	for servers := 3; servers <= 5; servers++ {
		m := mapWith(mapNew(), func(m *impl.MapState) { m.Servers = servers })
		placeUnlike(t, m)
		// The first one of a range is the server of its number, and the second one the next, in this order.
		for r, second := range []int{1, 2, 3 % servers} {
			if a, b := impl.MapTarget(m, r); a != r || b != second {
				t.Errorf("of %d servers, the range %d: %d and %d", servers, r, a, b)
			}
		}
	}
}

func TestP32OfEachMap(t *testing.T) {
	for _, m := range mapsOk() {
		placeUnlike(t, m)
	}
	r := rand.New(rand.NewPCG(115, 116))
	for range 3000 {
		placeUnlike(t, mapAny(r))
	}
}

// Servers that come while commands are done: the ranges are to be kept by others then.
func TestP32BehindCommands(t *testing.T) {
	r := rand.New(rand.NewPCG(117, 118))
	grown := 0
	for range 200 {
		m := impl.MapStart()
		for m.Slots < 60 {
			m = impl.MapDo(m, mapNear(r, m))
			placeUnlike(t, m)
			placeAsked(t, m)
		}
		if m.Servers == 5 {
			grown++
		}
	}
	if grown < 100 {
		t.Errorf("only %d have all servers in the end", grown)
	}
}

// placeSpread is P33, of three blocks in a row.
func placeSpread(t *testing.T, disk, block int) {
	t.Helper()
	var count [3]int
	for at := block; at < block+3; at++ {
		r := impl.MapRange(disk, at)
		if r < 0 || r > 2 {
			t.Fatalf("the block %d of the disk %d: %d", at, disk, r)
		}
		count[r]++
	}
	if count != [3]int{1, 1, 1} {
		t.Fatalf("from the block %d of the disk %d on: %v", block, disk, count)
	}
}

func TestP33OfEachDisk(t *testing.T) {
	for disk := 0; disk <= 99999; disk++ {
		for _, block := range []int{0, 1, 2, 3, 4, 5, 6, 50000, 99995, 99996, 99997} {
			placeSpread(t, disk, block)
		}
	}
}

func TestP33OfEachBlock(t *testing.T) {
	for _, disk := range []int{0, 1, 2, 3, 4, 5, 33333, 99997, 99998, 99999} {
		for block := 0; block <= 99997; block++ {
			placeSpread(t, disk, block)
		}
	}
}

// The blocks of a disk of each size that there is: no range has more than one block more than another one.
func TestP33OfEachSize(t *testing.T) {
	for disk := 1; disk <= 4; disk++ {
		for size := 1; size <= 8; size++ {
			var count [3]int
			for block := range size {
				count[impl.MapRange(disk, block)]++
			}
			if most, least := max(count[0], count[1], count[2]), min(count[0], count[1], count[2]); most-least > 1 {
				t.Errorf("%d blocks of the disk %d: %v", size, disk, count)
			}
		}
	}
}

// The first blocks of disks are of three ranges as well, for three disks in a row.
func TestP33FirstBlocks(t *testing.T) {
	for disk := range 99998 {
		sum := impl.MapRange(disk, 0) + 3*impl.MapRange(disk+1, 0) + 9*impl.MapRange(disk+2, 0)
		// 0, 1 and 2 in turn, from each of them on.
		if sum != 21 && sum != 7 && sum != 11 {
			t.Fatalf("from the disk %d on: %d", disk, sum)
		}
	}
}
