package tests

import (
	"math/rand/v2"
	"slices"
	"testing"

	"loop.example/pannier/impl"
)

// walEveryCut calls look with what is left of each loss of power in the steps: behind every count, by every way to keep what waits.
func walEveryCut(d impl.SecDisk, steps []impl.SecStep, look func(left impl.SecDisk)) {
	for after := -1; after <= len(steps)+1; after++ {
		waits := len(walAll(d, steps[:max(0, min(after, len(steps)))]).Wait)
		for _, keep := range secMasks(waits) {
			look(impl.WalDo(d, steps, true, after, keep))
			look(impl.WalDo(d, steps, true, after, append(slices.Clone(keep), 1, 0, 1)))
			if waits > 0 {
				look(impl.WalDo(d, steps, true, after, keep[:waits-1]))
			}
		}
	}
}

// walWhole mends a disk to its end, and asks that it says one of two things, with nothing left to do.
func walWhole(t *testing.T, d impl.SecDisk, before, behind []string) {
	t.Helper()
	mended := walAll(d, walMustMend(t, d))
	got := walMustRead(t, mended)
	if !slices.Equal(got, before) && !slices.Equal(got, behind) {
		t.Fatalf("neither as before nor as they were to: %q", got)
	}
	if !slices.Equal(got, mended.Kept[walHomeAt:]) || mended.Kept[0] != "" || len(mended.Wait) != 0 {
		t.Fatalf("not mended: sign %q, %d wait", mended.Kept[0], len(mended.Wait))
	}
}

// walFew is transactions of a few homes, among them the first and the last one, and texts that go.
func walFew(homes []string) [][]string {
	var out [][]string
	for _, set := range []map[int]string{
		{0: "one"}, {249: "a text of all 15"[:15]}, {0: "x", 249: "y"}, {1: "", 4: "p", 7: "q"}, {0: "", 3: "\x00\xff", 249: ""},
	} {
		to := slices.Clone(homes)
		for home, text := range homes {
			to[home] = text[:min(len(text), impl.WalData)]
		}
		for home, text := range set {
			to[home] = text
		}
		out = append(out, to)
	}
	return out
}

// P5. A transaction is done whole, or not at all, wherever power is lost, also while it is done again.
func TestP5ATransactionIsDoneWholeOrNotAtAll(t *testing.T) {
	for _, d := range walClean() {
		before := walMustRead(t, d)
		for _, to := range walFew(before) {
			walEveryCut(d, walMustSteps(t, d, to), func(left impl.SecDisk) {
				walWhole(t, left, before, to)
				said := walMustRead(t, left)
				walEveryCut(left, walMustMend(t, left), func(again impl.SecDisk) {
					walWhole(t, again, said, said)
				})
			})
		}
	}
}

// P5, with all homes, a few, or none changing, power being lost time and again.
func TestP5PowerIsLostTimeAndAgain(t *testing.T) {
	r := rand.New(rand.NewPCG(21, 22))
	both := [2]int{}
	for round := range 1500 {
		d := walClean()[[]string{"new", "an old log", "a home of a whole sector"}[round%3]]
		before := walMustRead(t, d)
		to := walRandomTexts(r, before)
		steps := walMustSteps(t, d, to)
		left := impl.WalDo(d, steps, true, r.IntN(len(steps)+3)-1, walRandomMask(r))
		said := walMustRead(t, left)
		for range r.IntN(4) {
			mend := walMustMend(t, left)
			left = impl.WalDo(left, mend, true, r.IntN(len(mend)+3)-1, walRandomMask(r))
			walWhole(t, left, said, said)
		}
		walWhole(t, left, before, to)
		if !slices.Equal(before, to) {
			if slices.Equal(said, to) {
				both[1]++
			} else {
				both[0]++
			}
		}
	}
	if both[0] < 100 || both[1] < 100 {
		t.Errorf("not done %d times, done %d times: the test looks at one kind alone", both[0], both[1])
	}
}

func walRandomMask(r *rand.Rand) []int {
	keep := make([]int, r.IntN(300))
	for i := range keep {
		keep[i] = r.IntN(2)
	}
	return keep
}

// P5: it is the sign that decides, and it stands behind the log that it speaks of.
func TestP5TheSignDecides(t *testing.T) {
	for _, d := range walClean() {
		before := walMustRead(t, d)
		to := walLoud("n")
		steps := walMustSteps(t, d, to)
		signed := slices.Index(steps, walPut(0, "\xfa")) + 1
		for after := range len(steps) + 1 {
			want := before
			if after > signed {
				want = to
			}
			if got := walMustRead(t, impl.WalDo(d, steps, true, after, nil)); !slices.Equal(got, want) {
				t.Fatalf("cut behind %d, nothing being kept: %q", after, got)
			}
		}
		if got := walMustRead(t, impl.WalDo(d, steps, true, signed, []int{1})); !slices.Equal(got, to) {
			t.Errorf("the sign is kept: %q", got)
		}
	}
}

// P6. Behind all steps of a transaction the homes say what they were to say, and nothing waits.
func TestP6BehindAllStepsTheHomesSayIt(t *testing.T) {
	r := rand.New(rand.NewPCG(23, 24))
	var disks []impl.SecDisk
	for _, d := range walClean() {
		few := secCopy(d)
		few.Wait = []impl.SecWrite{{At: walHomeAt + 3, Data: "w"}, {At: 0, Data: "\x01"}, {At: 1, Data: "\xffw"}, {At: 0, Data: ""}}
		disks = append(disks, d, few)
	}
	for _, d := range disks {
		before := walMustRead(t, d)
		tos := append(walFew(before), walLoud("n"), walTexts(nil))
		for range 40 {
			tos = append(tos, walRandomTexts(r, before))
		}
		for _, to := range tos {
			steps := walMustSteps(t, d, to)
			e := walAll(d, steps)
			if got := walMustRead(t, e); !slices.Equal(got, to) {
				t.Fatalf("%q, not %q", got, to)
			}
			if len(steps) == 0 {
				if !secSame(e, d) {
					t.Fatal("no steps change something")
				}
				continue
			}
			if len(e.Wait) != 0 || e.Kept[0] != "" || !slices.Equal(e.Kept[walHomeAt:], to) {
				t.Fatalf("%d wait, sign %q", len(e.Wait), e.Kept[0])
			}
		}
	}
}

// P7. Mending changes nothing that is read; mended once more there is nothing to do.
func TestP7MendingChangesNothingThatIsRead(t *testing.T) {
	for name, d := range walReadables() {
		// The steps have no room where so much waits that a put cannot be.
		if len(d.Wait)+len(walPutsOf(walMustMend(t, d))) <= impl.SecMaxWait {
			walMends(t, name, d)
		}
	}
	r := rand.New(rand.NewPCG(25, 26))
	for range 2000 {
		d := walRandomDisk(r)
		if _, readable := walSays(d); readable {
			walMends(t, "random", d)
		}
	}
}

func walMends(t *testing.T, name string, d impl.SecDisk) {
	t.Helper()
	before := walMustRead(t, d)
	steps := walMustMend(t, d)
	e := walAll(d, steps)
	if got := walMustRead(t, e); !slices.Equal(got, before) {
		t.Fatalf("%s: %q, not %q", name, got, before)
	}
	if impl.SecLook(e, 0) != "" || len(steps) > 0 && len(e.Wait) != 0 {
		t.Fatalf("%s: sign %q, %d wait", name, impl.SecLook(e, 0), len(e.Wait))
	}
	if (len(steps) == 0) != (impl.SecLook(d, 0) == "") {
		t.Fatalf("%s: %d steps under the sign %q", name, len(steps), impl.SecLook(d, 0))
	}
	if again := walMustMend(t, e); len(again) != 0 {
		t.Fatalf("%s: mended once more: %v", name, again)
	}
	if len(steps) > 0 && !slices.Equal(e.Kept[walHomeAt:], before) {
		t.Fatalf("%s: the homes do not say it themselves", name)
	}
}

// P8. What is said already is not written again.
func TestP8WhatIsSaidIsNotWrittenAgain(t *testing.T) {
	r := rand.New(rand.NewPCG(27, 28))
	for _, d := range walClean() {
		for range 60 {
			before := walMustRead(t, d)
			to := walRandomTexts(r, before)
			steps := walMustSteps(t, d, to)
			var changed []impl.SecStep
			for home := range to {
				if to[home] != before[home] {
					changed = append(changed, walPut(1+len(changed), string([]byte{byte(home)})+to[home]))
				}
			}
			if !slices.Equal(walPutsOf(steps), changed) || (len(steps) == 0) != (len(changed) == 0) {
				t.Fatalf("%v, not %v", walPutsOf(steps), changed)
			}
			if len(changed) > 0 && len(steps) != 2*len(changed)+6 {
				t.Fatalf("%d steps for %d homes", len(steps), len(changed))
			}
			d = walAll(d, steps)
			if again := walMustSteps(t, d, to); len(again) != 0 {
				t.Fatalf("written again: %v", again)
			}
		}
	}
}

// P8. Another transaction behind makes its own homes: what the log still holds of the first one does not come back.
func TestP8AnotherTransactionMakesItsOwnHomes(t *testing.T) {
	for _, d := range walClean() {
		rows := append(walFew(walTexts(nil)), walLoud("n"), walTexts(map[int]string{5: "b"}), walLoud("m"), walTexts(nil))
		for _, first := range rows {
			for _, second := range rows {
				e := walAll(d, walMustSteps(t, d, first))
				e = walAll(e, walMustSteps(t, e, second))
				if got := walMustRead(t, e); !slices.Equal(got, second) {
					t.Fatalf("%q, not %q", got, second)
				}
				if got := walMustMend(t, e); len(got) != 0 {
					t.Fatalf("%v", got)
				}
			}
		}
	}
}

// P8, behind a loss of power: the second one begins where the first one was mended to.
func TestP8AnotherTransactionBehindALossOfPower(t *testing.T) {
	d := impl.WalNew()
	first, second := walTexts(map[int]string{0: "a", 1: "b", 249: "c"}), walTexts(map[int]string{1: "d", 2: "e"})
	walEveryCut(d, walMustSteps(t, d, first), func(left impl.SecDisk) {
		if impl.SecLook(left, 0) != "" {
			if steps, ok := impl.WalSteps(left, second); ok || len(steps) != 0 {
				t.Fatal("a transaction begins under a sign")
			}
		}
		e := walAll(left, walMustMend(t, left))
		e = walAll(e, walMustSteps(t, e, second))
		if got := walMustRead(t, e); !slices.Equal(got, second) || len(e.Wait) != 0 {
			t.Fatalf("%q", got)
		}
	})
}
