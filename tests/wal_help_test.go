package tests

import (
	"math/rand/v2"
	"slices"
	"strconv"
	"strings"
	"testing"

	"loop.example/pannier/impl"
)

// walHomeAt is the sector of a home, counted here by hand: the sign, and 250 of the log, stand ahead.
const walHomeAt = 251

// walTexts is WalHomes empty texts, but for these.
func walTexts(set map[int]string) []string {
	out := make([]string, impl.WalHomes)
	for home, text := range set {
		out[home] = text
	}
	return out
}

// walWith is a disk with transactions on which nothing waits, all sectors empty but these.
func walWith(set map[int]string) impl.SecDisk {
	d := impl.SecDisk{Kept: make([]string, impl.WalAll)}
	for at, text := range set {
		d.Kept[at] = text
	}
	return d
}

// walWaiting reads as the disk does, but all that it says waits still, over sectors that say something else.
func walWaiting(d impl.SecDisk) impl.SecDisk {
	out := impl.SecDisk{Kept: slices.Repeat([]string{"\xffold"}, len(d.Kept))}
	for at, text := range secDone(d, secAll) {
		out.Wait = append(out.Wait, impl.SecWrite{At: at, Data: text})
	}
	return out
}

// walSays is what a readable disk's homes say, worked out from the last sector of the log back; false, if it is not readable.
func walSays(d impl.SecDisk) ([]string, bool) {
	if !impl.SecOk(d) || len(d.Kept) != 501 {
		return nil, false
	}
	all := secDone(d, secAll)
	sign, homes := all[0], slices.Clone(all[walHomeAt:])
	if len(sign) > 1 || sign > "\xfa" {
		return nil, false
	}
	if sign == "" {
		return homes, true
	}
	settled := make([]bool, 250)
	for at := int(sign[0]); at >= 1; at-- {
		if all[at] == "" || all[at] >= "\xfa" {
			return nil, false
		}
		if home := all[at][0]; !settled[home] {
			homes[home], settled[home] = all[at][1:], true
		}
	}
	return homes, true
}

func walPut(at int, data string) impl.SecStep { return impl.SecStep{At: at, Data: data} }

func walFlush() impl.SecStep { return impl.SecStep{Flush: true} }

// walPutsOf are the puts among steps, as far as the first flush.
func walPutsOf(steps []impl.SecStep) []impl.SecStep {
	for i, s := range steps {
		if s.Flush {
			return steps[:i]
		}
	}
	return steps
}

// walOneByOne does steps by the functions of chapter 1 alone.
func walOneByOne(d impl.SecDisk, steps []impl.SecStep) impl.SecDisk {
	for _, s := range steps {
		if s.Flush {
			d = impl.SecFlush(d)
		} else {
			d, _ = impl.SecPut(d, s.At, s.Data)
		}
	}
	return d
}

func walAll(d impl.SecDisk, steps []impl.SecStep) impl.SecDisk {
	return impl.WalDo(d, steps, false, 0, nil)
}

func walMustRead(t *testing.T, d impl.SecDisk) []string {
	t.Helper()
	homes, ok := impl.WalRead(d)
	if !ok || len(homes) != impl.WalHomes {
		t.Fatalf("not readable: %v, %d homes, sign %q", ok, len(homes), impl.SecLook(d, 0))
	}
	return homes
}

func walMustSteps(t *testing.T, d impl.SecDisk, homes []string) []impl.SecStep {
	t.Helper()
	steps, ok := impl.WalSteps(d, homes)
	if !ok {
		t.Fatal("WalSteps is refused")
	}
	return steps
}

func walMustMend(t *testing.T, d impl.SecDisk) []impl.SecStep {
	t.Helper()
	steps, ok := impl.WalMend(d)
	if !ok {
		t.Fatal("WalMend is refused")
	}
	return steps
}

// walLoud is homes that all say something, each something else, of WalData bytes.
func walLoud(mark string) []string {
	out := make([]string, impl.WalHomes)
	for home := range out {
		text := mark + strconv.Itoa(home)
		out[home] = text + strings.Repeat(".", impl.WalData-len(text))
	}
	return out
}

// walClean is readable disks with an empty sign, on which nothing waits.
func walClean() map[string]impl.SecDisk {
	old := walWith(map[int]string{1: "\x07left", 2: "\xffover", 3: "", walHomeAt: "a", walHomeAt + 249: "b"})
	for home, text := range walLoud("o") {
		if home%3 == 1 {
			old.Kept[walHomeAt+home] = text
		}
	}
	long := walWith(map[int]string{walHomeAt + 2: "0123456789abcdef", 250: "\x02"})
	return map[string]impl.SecDisk{"new": walWith(nil), "an old log": old, "a home of a whole sector": long}
}

// walSigned is readable disks with a sign, on which nothing waits.
func walSigned() map[string]impl.SecDisk {
	full := walWith(map[int]string{0: "\xfa", walHomeAt + 9: "nine"})
	for home, text := range walLoud("f") {
		full.Kept[1+home] = string([]byte{byte(249 - home)}) + text
	}
	same := walWith(map[int]string{0: "\xfa"})
	for at := 1; at <= 250; at++ {
		same.Kept[at] = "\x11" + strconv.Itoa(at)
	}
	return map[string]impl.SecDisk{
		"a sign of 0":             walWith(map[int]string{0: "\x00", 1: "\x00a", walHomeAt: "kept"}),
		"a sign of 0, a bad log":  walWith(map[int]string{0: "\x00", 1: "\xff"}),
		"one":                     walWith(map[int]string{0: "\x01", 1: "\xf9z", 2: "\x00a", walHomeAt: "kept"}),
		"one, of an empty text":   walWith(map[int]string{0: "\x01", 1: "\x05", walHomeAt + 5: "gone"}),
		"one home twice":          walWith(map[int]string{0: "\x03", 1: "\x04a", 2: "\x06b", 3: "\x04c", 4: "\x04d", walHomeAt + 4: "e"}),
		"one home twice, to none": walWith(map[int]string{0: "\x02", 1: "\x04a", 2: "\x04"}),
		"said already":            walWith(map[int]string{0: "\x01", 1: "\x04a", walHomeAt + 4: "a"}),
		"a bad sector behind":     walWith(map[int]string{0: "\x02", 1: "\x00a", 2: "\xf9b", 3: "\xfa"}),
		"all":                     full,
		"one home 250 times":      same,
	}
}

// walUnreadable is disks that are ok, but not readable, each by one thing alone.
func walUnreadable() map[string]impl.SecDisk {
	full := walSigned()["all"]
	last, empty := secCopy(full), secCopy(full)
	last.Kept[250], empty.Kept[250] = "\xfax", ""
	// Here all sectors would do as the log's, the homes too, so that it is the sign alone.
	over := walWith(nil)
	for at := range over.Kept {
		over.Kept[at] = "\x01as a note"
	}
	over.Kept[0] = "\xfb"
	most := secCopy(over)
	most.Kept[0] = "\xff"
	return map[string]impl.SecDisk{
		"no sectors":               {},
		"three sectors":            impl.SecNew(3),
		"one sector fewer":         impl.SecNew(500),
		"one sector more":          impl.SecNew(502),
		"a sign of one too many":   over,
		"a sign of 255":            most,
		"a sign of two bytes":      walWith(map[int]string{0: "\x00\x00"}),
		"a sign of two, as one":    walWith(map[int]string{0: "\x01\x00", 1: "\x00a"}),
		"a sign of 16 bytes":       walWith(map[int]string{0: "\x01 is not a sign.", 1: "\x00a"}),
		"an empty sector":          walWith(map[int]string{0: "\x01", 2: "\x00a"}),
		"an empty second sector":   walWith(map[int]string{0: "\x02", 1: "\x00a"}),
		"a home that is none":      walWith(map[int]string{0: "\x01", 1: "\xfaa"}),
		"a home of 255":            walWith(map[int]string{0: "\x02", 1: "\x00a", 2: "\xff"}),
		"a last home that is none": last,
		"a last sector is empty":   empty,
		"a full sign of nothing":   walWith(map[int]string{0: "\xfa"}),
	}
}

// walNotOk is disks of WalAll sectors, and others, that are not ok.
func walNotOk() map[string]impl.SecDisk {
	out := secBad()
	wide := walWith(map[int]string{walHomeAt: "0123456789abcdefg"})
	out["a home that is too long"] = wide
	out["a write behind all"] = impl.SecDisk{Kept: make([]string, impl.WalAll), Wait: secWaits(1, impl.WalAll, "a")}
	out["a home waits that is too long"] = impl.SecDisk{Kept: make([]string, impl.WalAll), Wait: secWaits(1, walHomeAt, "0123456789abcdefg")}
	out["too many wait"] = impl.SecDisk{Kept: make([]string, impl.WalAll), Wait: secWaits(impl.SecMaxWait+1, walHomeAt, "a")}
	return out
}

// walReadables is all disks above that are readable, and the same with writes that wait.
func walReadables() map[string]impl.SecDisk {
	out := map[string]impl.SecDisk{}
	for _, some := range []map[string]impl.SecDisk{walClean(), walSigned()} {
		for name, d := range some {
			out[name] = d
			out[name+", waiting"] = walWaiting(d)
		}
	}
	return out
}

// walRandomDisk is a disk of WalAll sectors that is ok, often readable, with a few writes that wait anywhere.
func walRandomDisk(r *rand.Rand) impl.SecDisk {
	d := walWith(nil)
	for range r.IntN(40) {
		d.Kept[walHomeAt+r.IntN(250)] = "h" + strconv.Itoa(r.IntN(99))
	}
	for at := 1; at <= 8; at++ {
		d.Kept[at] = walRandomNote(r)
	}
	d.Kept[0] = []string{"", "\x00", "\x01", "\x02", "\x05", "\x08", "\x09", "\xfb", "xy"}[r.IntN(9)]
	for range r.IntN(12) {
		w := impl.SecWrite{At: r.IntN(9), Data: walRandomNote(r)}
		switch r.IntN(4) {
		case 0:
			w = impl.SecWrite{At: 0, Data: []string{"", "\x03", "\x04", "\x06"}[r.IntN(4)]}
		case 1:
			w = impl.SecWrite{At: walHomeAt + r.IntN(12), Data: "w" + strconv.Itoa(r.IntN(9))}
		}
		if w.At > 0 || len(w.Data) < 2 {
			d.Wait = append(d.Wait, w)
		}
	}
	return d
}

func walRandomNote(r *rand.Rand) string {
	if r.IntN(40) == 0 {
		return []string{"", "\xfa", "\xffx"}[r.IntN(3)]
	}
	home := []byte{byte(r.IntN(12))}
	if r.IntN(5) == 0 {
		home[0] = byte(249 - r.IntN(5))
	}
	return string(home) + strings.Repeat("n", r.IntN(impl.WalData+1))
}

// walRandomTexts is homes of which a few, or none, or all, are to say something else.
func walRandomTexts(r *rand.Rand, homes []string) []string {
	out := slices.Clone(homes)
	for home, text := range out {
		out[home] = text[:min(len(text), impl.WalData)]
	}
	n := []int{0, 1, 2, 5, 250, 700}[r.IntN(6)]
	for range n {
		out[r.IntN(len(out))] = strings.Repeat(strconv.Itoa(r.IntN(10)), r.IntN(impl.WalData+1))
	}
	return out
}
