package tests

import (
	"math/rand/v2"
	"slices"
	"strconv"
	"strings"
	"testing"

	"loop.example/pannier/impl"
)

func TestWalLimitsAreThoseOfTheTable(t *testing.T) {
	if impl.WalHomes != 250 || impl.WalData != 15 || impl.WalAll != 501 {
		t.Error(impl.WalHomes, impl.WalData, impl.WalAll)
	}
}

func TestWalNewIsEmpty(t *testing.T) {
	d := impl.WalNew()
	if !secSame(d, walWith(nil)) || !impl.SecOk(d) {
		t.Errorf("%d sectors, %d waiting", len(d.Kept), len(d.Wait))
	}
	for home, text := range walMustRead(t, d) {
		if text != "" {
			t.Errorf("home %d says %q", home, text)
		}
	}
	if steps := walMustMend(t, d); len(steps) != 0 {
		t.Errorf("there is something to mend: %v", steps)
	}
}

func TestWalReadPutsWhatIsCommittedOver(t *testing.T) {
	for name, want := range map[string]map[int]string{
		"a sign of 0":             {0: "kept"},
		"one":                     {0: "kept", 249: "z"},
		"one, of an empty text":   {},
		"one home twice":          {4: "c", 6: "b"},
		"one home twice, to none": {},
		"said already":            {4: "a"},
		"a bad sector behind":     {0: "a", 249: "b"},
		"one home 250 times":      {17: "250"},
	} {
		for kind, d := range map[string]impl.SecDisk{"kept": walSigned()[name], "waiting": walWaiting(walSigned()[name])} {
			if got := walMustRead(t, d); !slices.Equal(got, walTexts(want)) {
				t.Errorf("%s, %s: %q", name, kind, got)
			}
		}
	}
	homes := walMustRead(t, walSigned()["all"])
	for home, text := range walLoud("f") {
		if homes[249-home] != text {
			t.Errorf("home %d says %q, not %q", 249-home, homes[249-home], text)
		}
	}
}

func TestWalReadOfAnEmptySignIsTheHomes(t *testing.T) {
	for name, d := range walClean() {
		if got := walMustRead(t, d); !slices.Equal(got, d.Kept[walHomeAt:]) {
			t.Errorf("%s: %q", name, got)
		}
	}
}

// A sign, a sector of the log and a home may wait: the last write of each is the one that is read.
func TestWalReadsThroughWhatWaits(t *testing.T) {
	d := walWith(map[int]string{0: "\x02", 1: "\x00a", 2: "\xfaworse", walHomeAt: "k"})
	if _, ok := impl.WalRead(d); ok {
		t.Fatal("readable")
	}
	d.Wait = []impl.SecWrite{{At: 2, Data: "\xf9b"}}
	if got := walMustRead(t, d); got[0] != "a" || got[249] != "b" {
		t.Errorf("%q %q", got[0], got[249])
	}
	d.Wait = append(d.Wait, impl.SecWrite{At: 0, Data: "xy"}, impl.SecWrite{At: 0, Data: "\x01"})
	if got := walMustRead(t, d); got[0] != "a" || got[249] != "" {
		t.Errorf("%q %q", got[0], got[249])
	}
	d.Wait = append(d.Wait, impl.SecWrite{At: 0, Data: ""}, impl.SecWrite{At: walHomeAt, Data: "w"})
	if got := walMustRead(t, d); got[0] != "w" || got[249] != "" {
		t.Errorf("%q %q", got[0], got[249])
	}
	if steps := walMustSteps(t, d, walTexts(map[int]string{0: "w"})); len(steps) != 0 {
		t.Errorf("what waits is written again: %v", steps)
	}
	if steps := walMustMend(t, d); len(steps) != 0 {
		t.Errorf("the sign that waits is empty: %v", steps)
	}
	d.Wait = append(d.Wait, impl.SecWrite{At: 0, Data: "xy"})
	if _, ok := impl.WalRead(d); ok {
		t.Error("a sign of two bytes that waits is read")
	}
	e := walWith(nil)
	e.Wait = []impl.SecWrite{{At: 0, Data: "\x00"}}
	if _, ok := impl.WalSteps(e, walTexts(nil)); ok {
		t.Error("a sign that waits does not bar a transaction")
	}
}

// As much waits as may: all is read and told as ever, though a put of these steps cannot be ahead of a flush.
func TestWalReadsWhereNoMoreMayWait(t *testing.T) {
	d := walWith(map[int]string{1: "\x04a"})
	d.Wait = append(secWaits(impl.SecMaxWait-1, walHomeAt+9, "w"), impl.SecWrite{At: 0, Data: "\x01"})
	if got := walMustRead(t, d); !slices.Equal(got, walTexts(map[int]string{4: "a", 9: "w"})) {
		t.Errorf("%q", got)
	}
	if got := walMustMend(t, d); !slices.Equal(got, []impl.SecStep{walPut(255, "a"), walFlush(), walPut(0, ""), walFlush()}) {
		t.Errorf("%v", got)
	}
	d.Wait[impl.SecMaxWait-1].Data = ""
	if got := walMustSteps(t, d, walTexts(map[int]string{4: "b", 9: "w"})); !slices.Equal(walPutsOf(got), []impl.SecStep{walPut(1, "\x04b")}) {
		t.Errorf("%v", got)
	}
	d.Wait = append(d.Wait, d.Wait[0])
	walRefuses(t, "one more waits", d)
}

func TestWalReadAgainstThePlainReading(t *testing.T) {
	r := rand.New(rand.NewPCG(11, 12))
	readable := 0
	for range 4000 {
		d := walRandomDisk(r)
		want, may := walSays(d)
		got, ok := impl.WalRead(d)
		if ok != may || !slices.Equal(got, want) {
			t.Fatalf("sign %q, log %q, waiting %v: %v %q, not %v %q", d.Kept[0], d.Kept[1:9], d.Wait, ok, got, may, want)
		}
		if ok {
			readable++
		}
	}
	if readable < 1000 || readable > 3900 {
		t.Errorf("%d of 4000 are readable: the test looks at one kind alone", readable)
	}
}

func walRefuses(t *testing.T, name string, d impl.SecDisk) {
	t.Helper()
	if homes, ok := impl.WalRead(d); ok || len(homes) != 0 {
		t.Errorf("%s: WalRead: %v, %d homes", name, ok, len(homes))
	}
	for _, homes := range [][]string{walTexts(nil), walLoud("n"), nil} {
		if steps, ok := impl.WalSteps(d, homes); ok || len(steps) != 0 {
			t.Errorf("%s: WalSteps: %v, %v", name, ok, steps)
		}
	}
	if steps, ok := impl.WalMend(d); ok || len(steps) != 0 {
		t.Errorf("%s: WalMend: %v, %v", name, ok, steps)
	}
}

func TestWalFixedAnswersOfADiskThatIsNotReadable(t *testing.T) {
	for name, d := range walUnreadable() {
		if !impl.SecOk(d) {
			t.Errorf("%s: the test means a disk that is ok", name)
		}
		walRefuses(t, name, d)
		if len(d.Kept) == impl.WalAll {
			walRefuses(t, name+", waiting", walWaiting(d))
		}
	}
}

func TestWalFixedAnswersOfADiskThatIsNotOk(t *testing.T) {
	for name, d := range walNotOk() {
		walRefuses(t, name, d)
		for _, steps := range [][]impl.SecStep{nil, {walFlush()}, {walPut(0, "a"), walFlush()}} {
			for _, cut := range []bool{false, true} {
				if e := impl.WalDo(d, steps, cut, 1, []int{1, 1}); !secNothing(e) {
					t.Errorf("%s: WalDo, cut %v: %d sectors, %d waiting", name, cut, len(e.Kept), len(e.Wait))
				}
			}
		}
	}
}

func TestWalStepsAreRefusedUnderASign(t *testing.T) {
	for name, d := range walSigned() {
		said := walMustRead(t, d)
		for _, homes := range [][]string{said, walLoud("n"), d.Kept[walHomeAt:]} {
			if steps, ok := impl.WalSteps(d, homes); ok || len(steps) != 0 {
				t.Errorf("%s: %v %v", name, ok, steps)
			}
			if steps, ok := impl.WalSteps(walWaiting(d), homes); ok || len(steps) != 0 {
				t.Errorf("%s, waiting: %v %v", name, ok, steps)
			}
		}
	}
}

func TestWalStepsAskForJustWalHomesTexts(t *testing.T) {
	for name, d := range walClean() {
		for _, n := range []int{0, 1, 249, 251, 500, 501} {
			for _, text := range []string{"", "x"} {
				if steps, ok := impl.WalSteps(d, slices.Repeat([]string{text}, n)); ok || len(steps) != 0 {
					t.Errorf("%s: %d texts: %v %v", name, n, ok, steps)
				}
			}
		}
	}
	if steps := walMustSteps(t, impl.WalNew(), make([]string, 250)); len(steps) != 0 {
		t.Errorf("nothing to do: %v", steps)
	}
}

func TestWalStepsAskForTextsThatFit(t *testing.T) {
	fits, over := strings.Repeat("\xff", 15), strings.Repeat("x", 16)
	for _, home := range []int{0, 1, 124, 248, 249} {
		steps := walMustSteps(t, impl.WalNew(), walTexts(map[int]string{home: fits}))
		want := []impl.SecStep{walPut(1, string([]byte{byte(home)})+fits), walFlush(), walPut(0, "\x01"), walFlush(), walPut(walHomeAt+home, fits), walFlush(), walPut(0, ""), walFlush()}
		if !slices.Equal(steps, want) {
			t.Errorf("home %d: %v", home, steps)
		}
		for _, text := range []string{over, strings.Repeat("\u00e9", 8), strings.Repeat("x", 5000)} {
			if steps, ok := impl.WalSteps(impl.WalNew(), walTexts(map[int]string{home: text})); ok || len(steps) != 0 {
				t.Errorf("home %d, %d bytes: %v", home, len(text), ok)
			}
		}
	}
	// A home that says more than WalData bytes already is not to be asked for either.
	d := walClean()["a home of a whole sector"]
	if steps, ok := impl.WalSteps(d, walMustRead(t, d)); ok || len(steps) != 0 {
		t.Errorf("%v %v", ok, steps)
	}
}

func TestWalStepsOfEachCountOfChanges(t *testing.T) {
	d := walWith(map[int]string{walHomeAt + 7: "seven", walHomeAt + 8: "eight", 1: "\x09old"})
	if steps := walMustSteps(t, d, walTexts(map[int]string{7: "seven", 8: "eight"})); len(steps) != 0 {
		t.Errorf("none changes: %v", steps)
	}
	steps := walMustSteps(t, d, walTexts(map[int]string{8: "eight"}))
	want := []impl.SecStep{walPut(1, "\x07"), walFlush(), walPut(0, "\x01"), walFlush(), walPut(walHomeAt+7, ""), walFlush(), walPut(0, ""), walFlush()}
	if !slices.Equal(steps, want) {
		t.Errorf("one changes: %v", steps)
	}
	steps = walMustSteps(t, d, walTexts(map[int]string{200: "c", 8: "b", 7: "seven", 0: "a"}))
	want = []impl.SecStep{walPut(1, "\x00a"), walPut(2, "\x08b"), walPut(3, "\xc8c"), walFlush(), walPut(0, "\x03"), walFlush(),
		walPut(251, "a"), walPut(259, "b"), walPut(451, "c"), walFlush(), walPut(0, ""), walFlush()}
	if !slices.Equal(steps, want) {
		t.Errorf("three change: %v", steps)
	}
}

func TestWalStepsWhenAllHomesChange(t *testing.T) {
	for name, d := range walClean() {
		homes := walLoud("n")
		steps := walMustSteps(t, d, homes)
		if len(steps) != 506 {
			t.Fatalf("%s: %d steps", name, len(steps))
		}
		for home, text := range homes {
			if steps[home] != walPut(1+home, string([]byte{byte(home)})+text) || steps[253+home] != walPut(251+home, text) {
				t.Fatalf("%s: home %d: %v %v", name, home, steps[home], steps[253+home])
			}
		}
		if !slices.Equal(steps[250:253], []impl.SecStep{walFlush(), walPut(0, "\xfa"), walFlush()}) {
			t.Errorf("%s: %v", name, steps[250:253])
		}
		if !slices.Equal(steps[503:], []impl.SecStep{walFlush(), walPut(0, ""), walFlush()}) {
			t.Errorf("%s: %v", name, steps[503:])
		}
	}
}

func TestWalMendSteps(t *testing.T) {
	end := []impl.SecStep{walFlush(), walPut(0, ""), walFlush()}
	for name, puts := range map[string][]impl.SecStep{
		"a sign of 0":             nil,
		"a sign of 0, a bad log":  nil,
		"one":                     {walPut(500, "z")},
		"one, of an empty text":   {walPut(256, "")},
		"one home twice":          {walPut(255, "a"), walPut(257, "b"), walPut(255, "c")},
		"one home twice, to none": {walPut(255, "a"), walPut(255, "")},
		"said already":            {walPut(255, "a")},
		"a bad sector behind":     {walPut(251, "a"), walPut(500, "b")},
	} {
		want := append(slices.Clone(puts), end...)
		d := walSigned()[name]
		if steps := walMustMend(t, d); !slices.Equal(steps, want) {
			t.Errorf("%s: %v", name, steps)
		}
		if steps := walMustMend(t, walWaiting(d)); !slices.Equal(steps, want) {
			t.Errorf("%s, waiting: %v", name, steps)
		}
	}
	for name, d := range walClean() {
		if steps := walMustMend(t, d); len(steps) != 0 {
			t.Errorf("%s: %v", name, steps)
		}
		if steps := walMustMend(t, walWaiting(d)); len(steps) != 0 {
			t.Errorf("%s, waiting: %v", name, steps)
		}
	}
	for _, name := range []string{"all", "one home 250 times"} {
		d := walSigned()[name]
		steps := walMustMend(t, d)
		if len(steps) != 253 || !slices.Equal(steps[250:], end) {
			t.Fatalf("%s: %d steps", name, len(steps))
		}
		for i, s := range steps[:250] {
			if note := d.Kept[1+i]; s != walPut(walHomeAt+int(note[0]), note[1:]) {
				t.Errorf("%s: step %d: %v", name, i, s)
			}
		}
	}
}

func TestWalDoDoesStepsInOrder(t *testing.T) {
	d := impl.SecDisk{Kept: []string{"a", "b", "c"}, Wait: []impl.SecWrite{{At: 2, Data: "w"}}}
	for i, x := range []struct {
		steps []impl.SecStep
		want  impl.SecDisk
	}{
		{nil, d},
		{[]impl.SecStep{walFlush()}, impl.SecDisk{Kept: []string{"a", "b", "w"}}},
		{[]impl.SecStep{walPut(0, "x")}, impl.SecDisk{Kept: d.Kept, Wait: []impl.SecWrite{{At: 2, Data: "w"}, {At: 0, Data: "x"}}}},
		{[]impl.SecStep{walPut(2, "x"), walFlush(), walPut(2, "y")}, impl.SecDisk{Kept: []string{"a", "b", "x"}, Wait: []impl.SecWrite{{At: 2, Data: "y"}}}},
		{[]impl.SecStep{{}}, impl.SecDisk{Kept: d.Kept, Wait: []impl.SecWrite{{At: 2, Data: "w"}, {At: 0, Data: ""}}}},
		// A flush is a flush, whatever else stands in it.
		{[]impl.SecStep{{Flush: true, At: 1, Data: "x"}, {Flush: true, At: -9, Data: strings.Repeat("y", 99)}}, impl.SecDisk{Kept: []string{"a", "b", "w"}}},
		// A step that cannot be is passed over, and those behind it are done.
		{[]impl.SecStep{walPut(3, "x"), walPut(-1, "x"), walPut(0, "0123456789abcdefg"), walPut(1, "y"), walPut(secHighest, ""), walPut(secLowest, "")},
			impl.SecDisk{Kept: d.Kept, Wait: []impl.SecWrite{{At: 2, Data: "w"}, {At: 1, Data: "y"}}}},
	} {
		for _, after := range []int{-1, 0, 1, 99} {
			if e := impl.WalDo(d, x.steps, false, after, []int{1, 0}); !secSame(e, x.want) {
				t.Errorf("%d, not cut: %v, not %v", i, e, x.want)
			}
		}
	}
}

func TestWalDoCutsBehindEveryCount(t *testing.T) {
	d := impl.SecDisk{Kept: []string{"a", "b", "c"}, Wait: []impl.SecWrite{{At: 2, Data: "w"}}}
	steps := []impl.SecStep{walPut(0, "d"), walPut(9, "none"), walPut(2, "e"), walFlush(), walPut(0, "f"), walPut(1, "g")}
	for i, x := range []struct {
		after int
		keep  []int
		want  []string
	}{
		{secLowest, nil, []string{"a", "b", "c"}}, {-1, []int{1, 1, 1}, []string{"a", "b", "w"}},
		{0, nil, []string{"a", "b", "c"}}, {0, []int{7}, []string{"a", "b", "w"}}, {0, []int{0, 1, 1}, []string{"a", "b", "c"}},
		{1, []int{1}, []string{"a", "b", "w"}}, {1, []int{0, 1}, []string{"d", "b", "c"}}, {1, []int{0, 0, 1}, []string{"a", "b", "c"}},
		{2, []int{1, 1, 1}, []string{"d", "b", "w"}},
		{3, []int{0, 1}, []string{"d", "b", "c"}}, {3, []int{1, 0, 1}, []string{"a", "b", "e"}}, {3, []int{1, 0, 0, 1}, []string{"a", "b", "w"}},
		{4, nil, []string{"d", "b", "e"}}, {4, []int{1, 1, 1}, []string{"d", "b", "e"}},
		{5, nil, []string{"d", "b", "e"}}, {5, []int{-1, 1}, []string{"f", "b", "e"}},
		{6, nil, []string{"d", "b", "e"}}, {6, []int{0, 1}, []string{"d", "g", "e"}}, {6, []int{1, 1}, []string{"f", "g", "e"}},
		{7, []int{0, 1}, []string{"d", "g", "e"}}, {secHighest, []int{1, 0, 1}, []string{"f", "b", "e"}},
	} {
		if e := impl.WalDo(d, steps, true, x.after, x.keep); !secSame(e, impl.SecDisk{Kept: x.want}) {
			t.Errorf("%d: behind %d by %v: %v, not %q", i, x.after, x.keep, e, x.want)
		}
	}
	for _, after := range []int{-1, 0, 1} {
		if e := impl.WalDo(d, nil, true, after, []int{1}); !secSame(e, impl.SecDisk{Kept: []string{"a", "b", "w"}}) {
			t.Errorf("no steps, behind %d: %v", after, e)
		}
	}
}

func TestWalDoAtItsLimits(t *testing.T) {
	d := impl.SecDisk{Kept: []string{"a", "b"}}
	var steps []impl.SecStep
	for n := range impl.SecMaxWait + 1 {
		steps = append(steps, walPut(n%2, strconv.Itoa(n)))
	}
	if e := walAll(d, steps[:600]); len(e.Wait) != 600 || impl.SecLook(e, 1) != "599" || !impl.SecOk(e) {
		t.Errorf("600 steps: %d wait", len(e.Wait))
	}
	if e := impl.WalDo(d, steps[:600], true, 600, slices.Repeat([]int{1}, 600)); !secSame(e, impl.SecDisk{Kept: []string{"598", "599"}}) {
		t.Errorf("600 steps, cut: %v", e)
	}
	for _, after := range []int{-1, 0, 1, 600, 601, 602} {
		if e := impl.WalDo(d, steps, true, after, []int{1}); !secNothing(e) {
			t.Errorf("601 steps, cut behind %d: %v", after, e)
		}
	}
	if e := walAll(d, steps); !secNothing(e) {
		t.Error("601 steps are done")
	}
	if e := walAll(d, slices.Repeat([]impl.SecStep{walPut(9, "none")}, 601)); !secNothing(e) {
		t.Error("601 steps that cannot be are done")
	}
	// There is no room for a write: it cannot be, but behind a flush the next one can.
	full := impl.SecDisk{Kept: d.Kept, Wait: secWaits(600, 0, "w")}
	e := walAll(full, []impl.SecStep{walPut(1, "x"), walPut(0, "x"), walFlush(), walPut(1, "y")})
	if !secSame(e, impl.SecDisk{Kept: []string{"w", "b"}, Wait: []impl.SecWrite{{At: 1, Data: "y"}}}) {
		t.Errorf("%v", e)
	}
}

func TestWalDoAgainstChapterOne(t *testing.T) {
	r := rand.New(rand.NewPCG(13, 14))
	for range 3000 {
		d := secRandom(r)
		var steps []impl.SecStep
		for range r.IntN(30) {
			steps = append(steps, impl.SecStep{Flush: r.IntN(6) == 0, At: r.IntN(12) - 1, Data: strings.Repeat("s", r.IntN(19))})
		}
		if e, want := walAll(d, steps), walOneByOne(d, steps); !secSame(e, want) {
			t.Fatalf("%v by %v: %v, not %v", d, steps, e, want)
		}
		after, keep := r.IntN(len(steps)+4)-2, secRandomKeep(r)
		want := impl.SecCut(walOneByOne(d, steps[:max(0, min(after, len(steps)))]), keep)
		if e := impl.WalDo(d, steps, true, after, keep); !secSame(e, want) {
			t.Fatalf("%v by %v behind %d by %v: %v, not %v", d, steps, after, keep, e, want)
		}
	}
}
