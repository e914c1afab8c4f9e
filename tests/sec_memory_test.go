package tests

import (
	"slices"
	"testing"

	"loop.example/pannier/impl"
)

const secSpare = 5

// secRoomy is a disk with lists of its own, and room behind their ends that is marked.
func secRoomy(d impl.SecDisk) impl.SecDisk {
	kept := make([]string, 0, len(d.Kept)+secSpare)
	kept = append(kept, d.Kept...)
	wait := make([]impl.SecWrite, 0, len(d.Wait)+secSpare)
	wait = append(wait, d.Wait...)
	out := impl.SecDisk{Kept: kept, Wait: wait}
	secScrawl(impl.SecDisk{Kept: kept[len(kept):], Wait: wait[len(wait):]}, "spare")
	return out
}

// secScrawl writes over lists, and over all room behind their ends.
func secScrawl(d impl.SecDisk, mark string) {
	for i := range d.Kept[:cap(d.Kept)] {
		d.Kept[:cap(d.Kept)][i] = mark
	}
	for i := range d.Wait[:cap(d.Wait)] {
		d.Wait[:cap(d.Wait)][i] = impl.SecWrite{At: -7, Data: mark}
	}
}

func secSpareStays(d impl.SecDisk) bool {
	for _, text := range d.Kept[len(d.Kept):cap(d.Kept)] {
		if text != "spare" {
			return false
		}
	}
	for _, w := range d.Wait[len(d.Wait):cap(d.Wait)] {
		if w != (impl.SecWrite{At: -7, Data: "spare"}) {
			return false
		}
	}
	return true
}

// secCalls is each function that answers a disk, at what it does and at what it refuses.
func secCalls(keep []int) map[string]func(impl.SecDisk) impl.SecDisk {
	put := func(at int, data string) func(impl.SecDisk) impl.SecDisk {
		return func(d impl.SecDisk) impl.SecDisk {
			e, _ := impl.SecPut(d, at, data)
			return e
		}
	}
	return map[string]func(impl.SecDisk) impl.SecDisk{
		"SecPut":             put(0, "put"),
		"SecPut beyond":      put(99, "put"),
		"SecPut of too much": put(0, "0123456789abcdefg"),
		"SecFlush":           impl.SecFlush,
		"SecCut":             func(d impl.SecDisk) impl.SecDisk { return impl.SecCut(d, keep) },
	}
}

func secMemoryDisks() []impl.SecDisk {
	out := secDisks()
	for _, d := range secBad() {
		out = append(out, d)
	}
	full := impl.SecDisk{Kept: make([]string, impl.SecMax), Wait: secWaits(impl.SecMaxWait, 1, "w")}
	empty := impl.SecDisk{Kept: []string{}, Wait: []impl.SecWrite{}}
	return append(out, full, empty)
}

func TestSecNothingIsWrittenIntoAnArgument(t *testing.T) {
	room := []int{1, 0, 2, 77, 77}
	keep := room[:3]
	for _, d := range secMemoryDisks() {
		given := secRoomy(d)
		for name, call := range secCalls(keep) {
			call(given)
			if !secSame(given, d) || !secSpareStays(given) {
				t.Fatalf("%s writes into %v", name, d)
			}
		}
		impl.SecOk(given)
		impl.SecLook(given, 0)
		if !secSame(given, d) || !secSpareStays(given) {
			t.Fatalf("looking writes into %v", d)
		}
	}
	if !slices.Equal(room, []int{1, 0, 2, 77, 77}) {
		t.Error("keep is written into")
	}
}

func TestSecAnAnswerSharesNoMemoryWithAnArgument(t *testing.T) {
	for _, d := range secMemoryDisks() {
		keep := []int{1, 0, 2}
		for name, call := range secCalls(keep) {
			given := secRoomy(d)
			answer := call(given)
			want := secCopy(answer)
			secScrawl(given, "over")
			if !secSame(answer, want) {
				t.Fatalf("%s: what is written into the argument is seen in the answer of %v", name, d)
			}
			given = secRoomy(d)
			secScrawl(call(given), "over")
			if !secSame(given, d) || !secSpareStays(given) {
				t.Fatalf("%s: what is written into the answer is seen in the argument %v", name, d)
			}
		}
	}
}

func TestSecNothingIsKeptBetweenCalls(t *testing.T) {
	one := impl.SecNew(3)
	secScrawl(one, "over")
	if two := impl.SecNew(3); !slices.Equal(two.Kept, []string{"", "", ""}) {
		t.Errorf("%q", two.Kept)
	}
	d := secSmall()[4]
	for name, call := range secCalls([]int{1, 0, 2}) {
		first := call(d)
		want := secCopy(first)
		secScrawl(first, "over")
		if second := call(d); !secSame(second, want) {
			t.Errorf("%s: called again it answers %v, not %v", name, second, want)
		}
	}
}
