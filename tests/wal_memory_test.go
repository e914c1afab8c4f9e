package tests

import (
	"slices"
	"testing"

	"loop.example/pannier/impl"
)

// walArgs is all that a call of chapter 2 is given, each list with marked room behind its end.
type walArgs struct {
	disk  impl.SecDisk
	homes []string
	steps []impl.SecStep
	keep  []int
}

// walAnswer is all lists that a call answers.
type walAnswer struct {
	disk  impl.SecDisk
	homes []string
	steps []impl.SecStep
}

// walRoom is a list of its own with marked room behind its end.
func walRoom[T any](list []T, mark T) []T {
	out := make([]T, 0, len(list)+secSpare)
	out = append(out, list...)
	walScrawl(out[len(out):], mark)
	return out
}

// walScrawl writes over a list, and over all room behind its end.
func walScrawl[T any](list []T, mark T) {
	list = list[:cap(list)]
	for i := range list {
		list[i] = mark
	}
}

// walHeld says whether a list is as it was given, and the room behind its end as it was marked.
func walHeld[T comparable](list, was []T, mark T) bool {
	for _, x := range list[len(list):cap(list)] {
		if x != mark {
			return false
		}
	}
	return slices.Equal(list, was)
}

var walMarkStep = impl.SecStep{Flush: true, At: -7, Data: "spare"}

func (a walArgs) roomy() walArgs {
	return walArgs{secRoomy(a.disk), walRoom(a.homes, "spare"), walRoom(a.steps, walMarkStep), walRoom(a.keep, 77)}
}

func (a walArgs) stays(was walArgs) bool {
	return secSame(a.disk, was.disk) && secSpareStays(a.disk) && walHeld(a.homes, was.homes, "spare") &&
		walHeld(a.steps, was.steps, walMarkStep) && walHeld(a.keep, was.keep, 77)
}

func (a walArgs) scrawl() {
	secScrawl(a.disk, "over")
	walScrawl(a.homes, "over")
	walScrawl(a.steps, impl.SecStep{At: -9, Data: "over"})
	walScrawl(a.keep, 99)
}

func (a walAnswer) scrawl() {
	secScrawl(a.disk, "over")
	walScrawl(a.homes, "over")
	walScrawl(a.steps, impl.SecStep{At: -9, Data: "over"})
}

func (a walAnswer) copied() walAnswer {
	return walAnswer{secCopy(a.disk), slices.Clone(a.homes), slices.Clone(a.steps)}
}

func (a walAnswer) same(b walAnswer) bool {
	return secSame(a.disk, b.disk) && slices.Equal(a.homes, b.homes) && slices.Equal(a.steps, b.steps)
}

func walCalls() map[string]func(walArgs) walAnswer {
	do := func(cut bool, after int) func(walArgs) walAnswer {
		return func(a walArgs) walAnswer {
			return walAnswer{disk: impl.WalDo(a.disk, a.steps, cut, after, a.keep)}
		}
	}
	return map[string]func(walArgs) walAnswer{
		"WalNew": func(walArgs) walAnswer { return walAnswer{disk: impl.WalNew()} },
		"WalRead": func(a walArgs) walAnswer {
			homes, _ := impl.WalRead(a.disk)
			return walAnswer{homes: homes}
		},
		"WalSteps": func(a walArgs) walAnswer {
			steps, _ := impl.WalSteps(a.disk, a.homes)
			return walAnswer{steps: steps}
		},
		"WalMend": func(a walArgs) walAnswer {
			steps, _ := impl.WalMend(a.disk)
			return walAnswer{steps: steps}
		},
		"WalDo":                   do(false, 0),
		"WalDo, cut":              do(true, 3),
		"WalDo, cut ahead of all": do(true, 0),
		"WalDo, cut behind all":   do(true, secHighest),
	}
}

// walMemoryArgs is disks of every kind, with texts and steps that are taken, change nothing, and are refused.
func walMemoryArgs() []walArgs {
	var disks []impl.SecDisk
	for _, some := range []map[string]impl.SecDisk{walReadables(), walUnreadable(), walNotOk()} {
		for _, d := range some {
			disks = append(disks, d)
		}
	}
	rows := [][]impl.SecStep{nil, {walPut(1, "\x00a"), walPut(9999, "none"), walPut(252, "b"), walFlush(), walPut(0, "")}, slices.Repeat([]impl.SecStep{walFlush()}, 601)}
	texts := [][]string{walTexts(nil), walLoud("n"), walTexts(map[int]string{3: "0123456789abcdef"}), make([]string, 249), nil}
	var out []walArgs
	for _, d := range disks {
		for i, homes := range texts {
			out = append(out, walArgs{d, homes, rows[i%len(rows)], []int{1, 0, 2}})
		}
		if said, ok := walSays(d); ok {
			out = append(out, walArgs{d, said, nil, nil})
		}
	}
	return out
}

func TestWalNothingIsWrittenIntoAnArgument(t *testing.T) {
	for _, args := range walMemoryArgs() {
		for name, call := range walCalls() {
			given := args.roomy()
			call(given)
			if !given.stays(args) {
				t.Fatalf("%s writes into its argument", name)
			}
		}
	}
}

func TestWalAnAnswerSharesNoMemoryWithAnArgument(t *testing.T) {
	for _, args := range walMemoryArgs() {
		for name, call := range walCalls() {
			given := args.roomy()
			answer := call(given)
			want := answer.copied()
			given.scrawl()
			if !answer.same(want) {
				t.Fatalf("%s: what is written into the argument is seen in the answer", name)
			}
			given = args.roomy()
			call(given).scrawl()
			if !given.stays(args) {
				t.Fatalf("%s: what is written into the answer is seen in the argument", name)
			}
		}
	}
}

func TestWalNothingIsKeptBetweenCalls(t *testing.T) {
	for _, args := range walMemoryArgs() {
		for name, call := range walCalls() {
			first := call(args)
			want := first.copied()
			first.scrawl()
			if second := call(args); !second.same(want) {
				t.Fatalf("%s: called again it answers otherwise", name)
			}
		}
	}
}
