package tests

import (
	"math/rand/v2"
	"slices"
	"strconv"
	"strings"
	"testing"

	"loop.example/pannier/impl"
)

const (
	secHighest = int(^uint(0) >> 1)
	secLowest  = -secHighest - 1
)

// secSame holds disks against each other; an empty list and no list are the same.
func secSame(a, b impl.SecDisk) bool {
	return slices.Equal(a.Kept, b.Kept) && slices.Equal(a.Wait, b.Wait)
}

func secNothing(d impl.SecDisk) bool {
	return len(d.Kept) == 0 && len(d.Wait) == 0
}

func secCopy(d impl.SecDisk) impl.SecDisk {
	return impl.SecDisk{Kept: slices.Clone(d.Kept), Wait: slices.Clone(d.Wait)}
}

// secWaits is n writes, all to the sector at.
func secWaits(n, at int, data string) []impl.SecWrite {
	return slices.Repeat([]impl.SecWrite{{At: at, Data: data}}, n)
}

// secReads is what all sectors of a disk read, by SecLook.
func secReads(d impl.SecDisk) []string {
	var out []string
	for at := range d.Kept {
		out = append(out, impl.SecLook(d, at))
	}
	return out
}

// secDone is what is kept when just the writes with these places are done, in order: worked out backwards,
// from the last write of each sector, so that it is not the program's own way.
func secDone(d impl.SecDisk, done func(place int) bool) []string {
	out := slices.Clone(d.Kept)
	settled := make([]bool, len(out))
	for place := len(d.Wait) - 1; place >= 0; place-- {
		w := d.Wait[place]
		if done(place) && !settled[w.At] {
			out[w.At], settled[w.At] = w.Data, true
		}
	}
	return out
}

func secKeeps(keep []int) func(place int) bool {
	return func(place int) bool { return place < len(keep) && keep[place] != 0 }
}

func secAll(int) bool { return true }

// secMasks is every way to keep n writes or not, the kept ones with numbers that are not 1 among them.
func secMasks(n int) [][]int {
	marks := []int{1, -1, 7, secLowest, secHighest}
	var out [][]int
	for m := range 1 << n {
		keep := make([]int, n)
		for i := range keep {
			if m>>i&1 == 1 {
				keep[i] = marks[(m+i)%len(marks)]
			}
		}
		out = append(out, keep)
	}
	return out
}

// secSmall is disks on which writes of one sector wait twice, out of turn, and beside those of others.
func secSmall() []impl.SecDisk {
	return []impl.SecDisk{
		{},
		{Kept: []string{""}},
		{Kept: []string{"a"}, Wait: []impl.SecWrite{{At: 0, Data: "b"}, {At: 0, Data: "c"}}},
		{Kept: []string{"a"}, Wait: []impl.SecWrite{{At: 0, Data: "b"}, {At: 0, Data: ""}, {At: 0, Data: "a"}}},
		{Kept: []string{"a", "b", "c"}, Wait: []impl.SecWrite{{At: 1, Data: "x"}, {At: 2, Data: "y"}, {At: 1, Data: "z"}, {At: 0, Data: ""}}},
		{Kept: []string{"", "0123456789abcdef", "\x00\xff"}, Wait: []impl.SecWrite{{At: 2, Data: "fedcba9876543210"}, {At: 1, Data: ""}, {At: 2, Data: "\xff"}, {At: 2, Data: "m"}, {At: 1, Data: "n"}}},
	}
}

// secBad is disks that are not ok, each by one thing alone.
func secBad() map[string]impl.SecDisk {
	long := strings.Repeat("x", impl.SecSize+1)
	full := make([]string, impl.SecMax)
	return map[string]impl.SecDisk{
		"one sector too many":        {Kept: make([]string, impl.SecMax+1)},
		"one write too many":         {Kept: full, Wait: secWaits(impl.SecMaxWait+1, 3, "x")},
		"a sector that is too long":  {Kept: []string{"", "", long}},
		"a first sector too long":    {Kept: []string{long, ""}},
		"a write that is too long":   {Kept: []string{"", ""}, Wait: []impl.SecWrite{{At: 1, Data: long}}},
		"a long write behind others": {Kept: []string{"", ""}, Wait: []impl.SecWrite{{At: 1, Data: "a"}, {At: 1, Data: long}, {At: 1, Data: "b"}}},
		"a write behind the end":     {Kept: []string{"", ""}, Wait: []impl.SecWrite{{At: 2, Data: "a"}}},
		"a write below 0":            {Kept: []string{"", ""}, Wait: []impl.SecWrite{{At: 0, Data: "a"}, {At: -1, Data: "a"}}},
		"a write far behind the end": {Kept: []string{"", ""}, Wait: []impl.SecWrite{{At: secHighest}}},
		"a write far below 0":        {Kept: []string{"", ""}, Wait: []impl.SecWrite{{At: secLowest}}},
		"a write without sectors":    {Wait: []impl.SecWrite{{}}},
	}
}

// secRandom is a disk that is ok, made by a generator with a fixed seed.
func secRandom(r *rand.Rand) impl.SecDisk {
	d := impl.SecDisk{Kept: make([]string, 1+r.IntN(9))}
	for at := range d.Kept {
		d.Kept[at] = "k" + strconv.Itoa(r.IntN(5))
	}
	for n := range r.IntN(20) {
		d.Wait = append(d.Wait, impl.SecWrite{At: r.IntN(len(d.Kept)), Data: "w" + strconv.Itoa(n)})
	}
	return d
}

func secRandomKeep(r *rand.Rand) []int {
	keep := make([]int, r.IntN(25))
	for i := range keep {
		keep[i] = r.IntN(4) - 1
	}
	return keep
}

func secDisks() []impl.SecDisk {
	out := secSmall()
	r := rand.New(rand.NewPCG(1, 2))
	for range 300 {
		out = append(out, secRandom(r))
	}
	return out
}

func secMustPut(t *testing.T, d impl.SecDisk, at int, data string) impl.SecDisk {
	t.Helper()
	e, ok := impl.SecPut(d, at, data)
	if !ok {
		t.Fatalf("SecPut of %d, %q is refused", at, data)
	}
	return e
}
