package tests

import (
	"math/rand/v2"
	"slices"
	"strconv"
	"strings"
	"testing"

	"loop.example/pannier/impl"
)

func TestSecLimitsAreThoseOfTheTable(t *testing.T) {
	if impl.SecMax != 512 || impl.SecSize != 16 || impl.SecMaxWait != 600 {
		t.Error(impl.SecMax, impl.SecSize, impl.SecMaxWait)
	}
}

func TestSecOkMeetsEachLimitExactly(t *testing.T) {
	long := strings.Repeat("x", impl.SecSize)
	good := append(secDisks(),
		impl.SecDisk{Kept: []string{}, Wait: []impl.SecWrite{}},
		impl.SecDisk{Kept: slices.Repeat([]string{long}, impl.SecMax)},
		impl.SecDisk{Kept: make([]string, impl.SecMax), Wait: secWaits(impl.SecMaxWait, impl.SecMax-1, long)},
		impl.SecDisk{Kept: []string{strings.Repeat("\xff", impl.SecSize)}, Wait: []impl.SecWrite{{At: 0, Data: strings.Repeat("\x00", impl.SecSize)}}},
	)
	for i, d := range good {
		if !impl.SecOk(d) {
			t.Errorf("disk %d is ok: %v", i, d)
		}
	}
	for name, d := range secBad() {
		if impl.SecOk(d) {
			t.Errorf("%s: not ok", name)
		}
	}
}

func TestSecSizeIsCountedInBytes(t *testing.T) {
	fits, over := strings.Repeat("\u00e9", impl.SecSize/2), strings.Repeat("\u00e9", impl.SecSize/2)+"e"
	if !impl.SecOk(impl.SecDisk{Kept: []string{fits}}) || impl.SecOk(impl.SecDisk{Kept: []string{over}}) {
		t.Error("SecOk does not count bytes")
	}
	if _, ok := impl.SecPut(impl.SecNew(1), 0, fits); !ok {
		t.Error("16 bytes are refused")
	}
	if _, ok := impl.SecPut(impl.SecNew(1), 0, over); ok {
		t.Error("17 bytes of 9 letters are taken")
	}
}

func TestSecNew(t *testing.T) {
	for _, n := range []int{0, 1, 2, impl.SecMax - 1, impl.SecMax} {
		d := impl.SecNew(n)
		if len(d.Kept) != n || len(d.Wait) != 0 || !impl.SecOk(d) {
			t.Errorf("SecNew(%d): %d sectors, %d waiting", n, len(d.Kept), len(d.Wait))
		}
		for at, text := range d.Kept {
			if text != "" || impl.SecLook(d, at) != "" {
				t.Errorf("SecNew(%d): sector %d is %q", n, at, text)
			}
		}
	}
	for _, n := range []int{-1, impl.SecMax + 1, secLowest, secHighest} {
		if d := impl.SecNew(n); !secNothing(d) {
			t.Errorf("SecNew(%d): %d sectors", n, len(d.Kept))
		}
	}
}

func TestSecEveryFunctionHasItsFixedAnswerOfADiskThatIsNotOk(t *testing.T) {
	for name, d := range secBad() {
		for _, at := range []int{0, 1, 2, 3, -1, impl.SecMax, secLowest, secHighest} {
			if e, ok := impl.SecPut(d, at, "x"); ok || !secNothing(e) {
				t.Errorf("%s: SecPut at %d: %v", name, at, ok)
			}
			if text := impl.SecLook(d, at); text != "" {
				t.Errorf("%s: SecLook at %d: %q", name, at, text)
			}
		}
		if e := impl.SecFlush(d); !secNothing(e) {
			t.Errorf("%s: SecFlush", name)
		}
		for _, keep := range [][]int{nil, {0}, {1}, slices.Repeat([]int{1}, impl.SecMaxWait+1)} {
			if e := impl.SecCut(d, keep); !secNothing(e) {
				t.Errorf("%s: SecCut of %d", name, len(keep))
			}
		}
	}
}

// A bad disk with something in it must not be told by SecLook.
func TestSecLookOfABadDiskTellsNothingThatIsThere(t *testing.T) {
	d := impl.SecDisk{Kept: []string{"a", "b"}, Wait: []impl.SecWrite{{At: 0, Data: "c"}, {At: 2, Data: "d"}}}
	if impl.SecLook(d, 0) != "" || impl.SecLook(d, 1) != "" || impl.SecLook(d, 2) != "" {
		t.Error("something is told")
	}
}

func TestSecLookOfASectorThatIsNone(t *testing.T) {
	for i, d := range secDisks() {
		for _, at := range []int{-1, len(d.Kept), len(d.Kept) + 1, secLowest, secHighest} {
			if text := impl.SecLook(d, at); text != "" {
				t.Errorf("disk %d, sector %d: %q", i, at, text)
			}
		}
	}
}

func TestSecLookReadsTheLastThatWaits(t *testing.T) {
	d := impl.SecDisk{Kept: []string{"a", "b"}, Wait: []impl.SecWrite{{At: 0, Data: "c"}, {At: 1, Data: "d"}, {At: 0, Data: ""}}}
	if got := secReads(d); !slices.Equal(got, []string{"", "d"}) {
		t.Errorf("%q", got)
	}
	for i, d := range secDisks() {
		if got, want := secReads(d), secDone(d, secAll); !slices.Equal(got, want) {
			t.Errorf("disk %d reads %q, not %q", i, got, want)
		}
	}
}

func TestSecFlushWritesAllInOrder(t *testing.T) {
	for i, d := range secDisks() {
		want := impl.SecDisk{Kept: secDone(d, secAll)}
		e := impl.SecFlush(d)
		if !secSame(e, want) || !impl.SecOk(e) {
			t.Errorf("disk %d: %v, not %v", i, e, want)
		}
		if !slices.Equal(secReads(e), secReads(d)) {
			t.Errorf("disk %d reads other than before", i)
		}
		if !secSame(impl.SecFlush(e), e) {
			t.Errorf("disk %d: flushed twice is not flushed once", i)
		}
	}
	full := impl.SecDisk{Kept: make([]string, impl.SecMax)}
	for n := range impl.SecMaxWait {
		full.Wait = append(full.Wait, impl.SecWrite{At: n % impl.SecMax, Data: strconv.Itoa(n)})
	}
	if e := impl.SecFlush(full); e.Kept[0] != "512" || e.Kept[87] != "599" || e.Kept[88] != "88" || e.Kept[511] != "511" || len(e.Wait) != 0 {
		t.Error("a full disk is flushed otherwise")
	}
}

func TestSecCutDoesJustWhatIsKept(t *testing.T) {
	d := impl.SecDisk{Kept: []string{"a", "b"}, Wait: []impl.SecWrite{{At: 0, Data: "c"}, {At: 1, Data: "d"}, {At: 0, Data: "e"}}}
	for i, x := range []struct {
		keep []int
		want []string
	}{
		{nil, []string{"a", "b"}},
		{[]int{}, []string{"a", "b"}},
		{[]int{0, 0, 0}, []string{"a", "b"}},
		{[]int{1}, []string{"c", "b"}},
		{[]int{0, 1}, []string{"a", "d"}},
		{[]int{0, 0, 1}, []string{"e", "b"}},
		{[]int{1, 0, 1}, []string{"e", "b"}},
		{[]int{1, 1, 0}, []string{"c", "d"}},
		{[]int{0, 1, 1}, []string{"e", "d"}},
		{[]int{1, 1, 1}, []string{"e", "d"}},
		{[]int{-1, 2, 0}, []string{"c", "d"}},
		{[]int{secLowest, 0, secHighest}, []string{"e", "b"}},
		{[]int{0, 0, 0, 1, 1}, []string{"a", "b"}},
		{[]int{0, 2, 0, 1}, []string{"a", "d"}},
	} {
		if e := impl.SecCut(d, x.keep); !slices.Equal(e.Kept, x.want) || len(e.Wait) != 0 {
			t.Errorf("%d: %v leaves %v, not %q", i, x.keep, e, x.want)
		}
	}
}

func TestSecCutOfAFullDisk(t *testing.T) {
	d := impl.SecDisk{Kept: make([]string, impl.SecMax), Wait: secWaits(impl.SecMaxWait, 511, "x")}
	d.Wait[impl.SecMaxWait-1].Data = "last"
	keep := make([]int, impl.SecMaxWait+1)
	keep[impl.SecMaxWait] = 1
	if e := impl.SecCut(d, keep); e.Kept[511] != "" || len(e.Wait) != 0 || len(e.Kept) != impl.SecMax {
		t.Error("a number behind the end keeps something")
	}
	keep[impl.SecMaxWait-1] = 1
	if e := impl.SecCut(d, keep); e.Kept[511] != "last" || len(e.Wait) != 0 {
		t.Error("the last write is not kept")
	}
}

// P1. A loss of power leaves each sector as it was, or as it was written, never in part.
func TestP1PowerLeavesSectorsWhole(t *testing.T) {
	check := func(d impl.SecDisk, keep []int) {
		t.Helper()
		e := impl.SecCut(d, keep)
		if len(e.Wait) != 0 || len(e.Kept) != len(d.Kept) || !impl.SecOk(e) {
			t.Fatalf("%v cut by %v: %v", d, keep, e)
		}
		for at := range d.Kept {
			may := []string{d.Kept[at]}
			for _, w := range d.Wait {
				if w.At == at {
					may = append(may, w.Data)
				}
			}
			if text := impl.SecLook(e, at); !slices.Contains(may, text) || text != e.Kept[at] {
				t.Fatalf("%v cut by %v: sector %d reads %q", d, keep, at, text)
			}
		}
		if want := secDone(d, secKeeps(keep)); !slices.Equal(e.Kept, want) {
			t.Fatalf("%v cut by %v: %q, not %q", d, keep, e.Kept, want)
		}
	}
	for _, d := range secSmall() {
		for _, keep := range secMasks(len(d.Wait)) {
			check(d, keep)
			check(d, append(slices.Clone(keep), 1, 0, -3))
			for short := range keep {
				check(d, keep[:short])
			}
		}
	}
	r := rand.New(rand.NewPCG(3, 4))
	for range 3000 {
		check(secRandom(r), secRandomKeep(r))
	}
}

// P2. What was flushed outlives any loss of power.
func TestP2FlushedOutlivesPower(t *testing.T) {
	r := rand.New(rand.NewPCG(5, 6))
	for _, d := range secDisks() {
		want := secReads(d)
		flushed := impl.SecFlush(d)
		keeps := [][]int{nil, {0}, {1, 1, 1}, secRandomKeep(r), slices.Repeat([]int{-1}, impl.SecMaxWait)}
		for _, keep := range keeps {
			e := impl.SecCut(flushed, keep)
			if !secSame(e, flushed) || !slices.Equal(secReads(e), want) {
				t.Fatalf("%v flushed and cut by %v: %v", d, keep, e)
			}
			if f := impl.SecCut(e, keep); !secSame(f, e) {
				t.Fatalf("%v cut twice: %v", d, f)
			}
		}
		if len(d.Kept) == 0 {
			continue
		}
		at := r.IntN(len(d.Kept))
		later := secMustPut(t, flushed, at, "later")
		for _, keep := range keeps {
			e := impl.SecCut(later, keep)
			for other := range want {
				if text := impl.SecLook(e, other); text != want[other] && (other != at || text != "later") {
					t.Fatalf("%v: what was flushed to %d is gone: %q", d, other, text)
				}
			}
		}
	}
}

// P3. A write changes what its sector reads, and no other one.
func TestP3AWriteChangesItsSectorAlone(t *testing.T) {
	for _, d := range secDisks() {
		for at := range d.Kept {
			for _, data := range []string{"", "new", "0123456789abcdef", "\x00\xff\n"} {
				e, ok := impl.SecPut(d, at, data)
				want := secReads(d)
				want[at] = data
				if !ok || !impl.SecOk(e) || !slices.Equal(secReads(e), want) {
					t.Fatalf("%v, %q to %d: %v %v", d, data, at, e, ok)
				}
				waits := append(slices.Clone(d.Wait), impl.SecWrite{At: at, Data: data})
				if !secSame(e, impl.SecDisk{Kept: d.Kept, Wait: waits}) {
					t.Fatalf("%v, %q to %d: it does not wait behind the others: %v", d, data, at, e)
				}
			}
		}
	}
}

// P3. One that cannot be changes nothing.
func TestP3AWriteThatCannotBeChangesNothing(t *testing.T) {
	for _, d := range append(secDisks(), impl.SecNew(impl.SecMax)) {
		n := len(d.Kept)
		for _, w := range []impl.SecWrite{
			{At: -1, Data: "x"}, {At: n, Data: "x"}, {At: n + 1}, {At: secLowest}, {At: secHighest},
			{At: 0, Data: "0123456789abcdefg"}, {At: n - 1, Data: strings.Repeat("y", 5000)},
		} {
			if e, ok := impl.SecPut(d, w.At, w.Data); ok || !secSame(e, d) {
				t.Fatalf("%v, %q to %d: %v %v", d, w.Data, w.At, e, ok)
			}
		}
	}
}

func TestP3TheLastWriteThatMayWait(t *testing.T) {
	d := impl.SecDisk{Kept: []string{"a", "b"}, Wait: secWaits(impl.SecMaxWait-1, 0, "c")}
	d = secMustPut(t, d, 1, "d")
	if len(d.Wait) != impl.SecMaxWait || !impl.SecOk(d) || impl.SecLook(d, 1) != "d" {
		t.Fatal("the 600th write does not wait")
	}
	e, ok := impl.SecPut(d, 1, "e")
	if ok || !secSame(e, d) || impl.SecLook(e, 1) != "d" {
		t.Error("the 601st write waits")
	}
	if e, ok = impl.SecPut(impl.SecFlush(d), 1, "e"); !ok || len(e.Wait) != 1 || impl.SecLook(e, 1) != "e" {
		t.Error("behind a flush there is no room")
	}
	for n := range impl.SecMaxWait {
		d = secMustPut(t, impl.SecDisk{Kept: d.Kept, Wait: d.Wait[:n]}, n%2, strconv.Itoa(n))
	}
	if got := secReads(d); !slices.Equal(got, []string{"598", "599"}) {
		t.Errorf("%q", got)
	}
}

// P4. Writes to different sectors can change places.
func TestP4WritesToDifferentSectorsChangePlaces(t *testing.T) {
	for _, d := range secDisks() {
		for a := range d.Kept {
			for b := range d.Kept {
				if a == b {
					continue
				}
				one := secMustPut(t, secMustPut(t, d, a, "left"), b, "right")
				two := secMustPut(t, secMustPut(t, d, b, "right"), a, "left")
				if !slices.Equal(secReads(one), secReads(two)) || !secSame(impl.SecFlush(one), impl.SecFlush(two)) {
					t.Fatalf("%v: %d and %d cannot change places", d, a, b)
				}
				secChangedCuts(t, one, two)
			}
		}
	}
}

// secChangedCuts holds cuts against each other, of disks whose last two writes have changed places.
func secChangedCuts(t *testing.T, one, two impl.SecDisk) {
	t.Helper()
	n := len(one.Wait)
	for m := range 4 {
		keep := make([]int, n)
		for i := range n - 2 {
			keep[i] = (i + m) % 2
		}
		other := slices.Clone(keep)
		keep[n-2], keep[n-1] = m&1, m>>1
		other[n-2], other[n-1] = m>>1, m&1
		if !secSame(impl.SecCut(one, keep), impl.SecCut(two, other)) {
			t.Fatalf("%v and %v are cut otherwise by %v and %v", one, two, keep, other)
		}
	}
}

// P4 says nothing of writes to one sector: there the later one holds.
func TestP4WritesToOneSectorKeepTheirPlaces(t *testing.T) {
	d := secMustPut(t, secMustPut(t, impl.SecNew(2), 1, "x"), 1, "y")
	e := secMustPut(t, secMustPut(t, impl.SecNew(2), 1, "y"), 1, "x")
	if impl.SecLook(d, 1) != "y" || impl.SecLook(e, 1) != "x" || impl.SecFlush(d).Kept[1] != "y" || impl.SecFlush(e).Kept[1] != "x" {
		t.Error("the later write does not hold")
	}
}

// What is done by a row of calls is held against a plain tally of kept and waiting texts.
func TestSecRowsOfCalls(t *testing.T) {
	r := rand.New(rand.NewPCG(7, 8))
	for range 200 {
		d := impl.SecNew(r.IntN(6))
		want := secCopy(d)
		for range 60 {
			at, data := r.IntN(8)-1, strings.Repeat("z", r.IntN(19))
			switch r.IntN(8) {
			case 0:
				d, want = impl.SecFlush(d), impl.SecDisk{Kept: secDone(want, secAll)}
			case 1:
				keep := secRandomKeep(r)
				d, want = impl.SecCut(d, keep), impl.SecDisk{Kept: secDone(want, secKeeps(keep))}
			default:
				var ok bool
				d, ok = impl.SecPut(d, at, data)
				if may := at >= 0 && at < len(want.Kept) && len(data) <= 16; ok != may {
					t.Fatalf("%q to %d of %v: %v", data, at, want, ok)
				} else if may {
					want.Wait = append(want.Wait, impl.SecWrite{At: at, Data: data})
				}
			}
			if !secSame(d, want) || !slices.Equal(secReads(d), secDone(want, secAll)) {
				t.Fatalf("%v, not %v", d, want)
			}
		}
	}
}
