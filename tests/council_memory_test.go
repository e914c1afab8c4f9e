package tests

import (
	"cmp"
	"slices"
	"testing"
	"unsafe"

	"loop.example/pannier/impl"
)

// councilCall is a call that is given a council, and answers one.
type councilCall struct {
	name string
	call func(c impl.SynCouncil) impl.SynCouncil
}

// councilCalls is calls by which the council goes on, and by which it stays.
func councilCalls() []councilCall {
	out := []councilCall{
		{"SynCalm", func(c impl.SynCouncil) impl.SynCouncil { return councilOf(impl.SynCalm(c, 1, seekSlot, seekMine)) }},
		{"SynCalm, of nobody", func(c impl.SynCouncil) impl.SynCouncil { return councilOf(impl.SynCalm(c, 3, seekSlot, seekMine)) }},
		{"SynCalm, of no slot", func(c impl.SynCouncil) impl.SynCouncil { return councilOf(impl.SynCalm(c, 0, 0, seekMine)) }},
	}
	for _, e := range councilFew(councilSome()) {
		out = append(out, councilCall{"SynDo", func(c impl.SynCouncil) impl.SynCouncil { return councilOf(impl.SynDo(c, e)) }})
	}
	return out
}

func councilOf(c impl.SynCouncil, _ bool) impl.SynCouncil {
	return c
}

// councilMemory is councils that are ok and that are not, each with lists at every place.
func councilMemory() []impl.SynCouncil {
	alike := councilWith(councilSome(), func(c *impl.SynCouncil) { c.Voters[2] = voteSome() })
	out := []impl.SynCouncil{councilNew(), councilSome(), alike, councilFull(councilSome(), 57), councilFull(councilSome(), 60), councilFullOfTold(councilSome(), 240), {}}
	for _, name := range []string{"two voters", "four rounds", "no seekers", "a word too many", "told too much", "word of nothing", "told of nothing", "round -1 of 1"} {
		out = append(out, councilWith(councilSome(), councilSpoils()[name]))
	}
	return out
}

var (
	councilMarkVoter  = impl.SynVoter{Promised: -7}
	councilMarkSeeker = impl.SynSeeker{Slot: -7, Phase: -7}
)

// councilRoomy is a council with lists of its own, each with marked room behind its end.
func councilRoomy(c impl.SynCouncil) impl.SynCouncil {
	c = impl.SynCouncil{
		Voters: walRoom(c.Voters, councilMarkVoter), Rounds: walRoom(c.Rounds, -7), Seekers: walRoom(c.Seekers, councilMarkSeeker),
		Radio: walRoom(c.Radio, impl.Word{Kind: -7}), Told: walRoom(c.Told, voteMark),
	}
	for who := range c.Voters {
		c.Voters[who].Papers = walRoom(c.Voters[who].Papers, voteMark)
	}
	for who := range c.Seekers {
		c.Seekers[who].Yes = walRoom(c.Seekers[who].Yes, seekMark)
	}
	for place := range c.Radio {
		c.Radio[place] = wordRoomy(c.Radio[place])
	}
	return c
}

// councilHeld says whether a council is as it was given, and the room behind each of its lists as it was marked.
func councilHeld(c, was impl.SynCouncil) bool {
	held := councilSame(c, was) && walHeld(c.Rounds, was.Rounds, -7) && walHeld(c.Told, was.Told, voteMark)
	for _, v := range c.Voters[len(c.Voters):cap(c.Voters)] {
		held = held && voteSame(v, councilMarkVoter)
	}
	for _, s := range c.Seekers[len(c.Seekers):cap(c.Seekers)] {
		held = held && seekSame(s, councilMarkSeeker)
	}
	for _, w := range c.Radio[len(c.Radio):cap(c.Radio)] {
		held = held && wordSame(w, impl.Word{Kind: -7})
	}
	if !held {
		return false
	}
	for who, v := range c.Voters {
		held = held && walHeld(v.Papers, was.Voters[who].Papers, voteMark)
	}
	for who, s := range c.Seekers {
		held = held && walHeld(s.Yes, was.Seekers[who].Yes, seekMark)
	}
	for place, w := range c.Radio {
		held = held && wordHeld(w, was.Radio[place])
	}
	return held
}

// councilScrawl writes over all lists of a council, the inner ones first.
func councilScrawl(c impl.SynCouncil) {
	for _, v := range c.Voters {
		walScrawl(v.Papers, voteOver)
	}
	for _, s := range c.Seekers {
		walScrawl(s.Yes, seekOver)
	}
	for _, w := range c.Radio {
		wordScrawl(w)
	}
	walScrawl(c.Voters, impl.SynVoter{Promised: -9})
	walScrawl(c.Rounds, -9)
	walScrawl(c.Seekers, impl.SynSeeker{Slot: -9})
	walScrawl(c.Radio, impl.Word{Kind: -9})
	walScrawl(c.Told, voteOver)
}

// councilSpan is where a list lies, spare room included.
type councilSpan struct {
	name       string
	start, end uintptr
}

func councilSpanOf[T any](name string, list []T) councilSpan {
	var item T
	start := uintptr(unsafe.Pointer(unsafe.SliceData(list)))
	return councilSpan{name, start, start + uintptr(cap(list))*unsafe.Sizeof(item)}
}

// councilSpans is where all lists of a council lie, those without any room left out.
func councilSpans(c impl.SynCouncil) []councilSpan {
	out := []councilSpan{
		councilSpanOf("Voters", c.Voters), councilSpanOf("Rounds", c.Rounds), councilSpanOf("Seekers", c.Seekers),
		councilSpanOf("Radio", c.Radio), councilSpanOf("Told", c.Told),
	}
	for _, v := range c.Voters {
		out = append(out, councilSpanOf("Papers", v.Papers))
	}
	for _, s := range c.Seekers {
		out = append(out, councilSpanOf("Yes", s.Yes))
	}
	for _, w := range c.Radio {
		out = append(out, councilSpanOf("Pieces", w.Pieces), councilSpanOf("Last", w.Last))
	}
	return slices.DeleteFunc(out, func(s councilSpan) bool { return s.start == s.end })
}

// councilsHeld keeps what is asked about alive, and where it is: lists that nobody holds may lie where others lay.
var councilsHeld []impl.SynCouncil

// councilApart asks that no two lists of these councils share memory.
func councilApart(t *testing.T, name string, councils ...impl.SynCouncil) {
	t.Helper()
	councilsHeld = councils
	var all []councilSpan
	for _, c := range councils {
		all = append(all, councilSpans(c)...)
	}
	spansApart(t, name, all)
}

func spansApart(t *testing.T, name string, all []councilSpan) {
	t.Helper()
	slices.SortFunc(all, func(a, b councilSpan) int { return cmp.Compare(a.start, b.start) })
	for place := 1; place < len(all); place++ {
		if all[place].start < all[place-1].end {
			t.Fatalf("%s: %s and %s share memory", name, all[place-1].name, all[place].name)
		}
	}
}

func TestCouncilNothingIsWrittenIntoAnArgument(t *testing.T) {
	for _, c := range councilMemory() {
		given := councilRoomy(c)
		for _, do := range councilCalls() {
			if do.call(given); !councilHeld(given, c) {
				t.Fatalf("%s writes into %+v", do.name, c)
			}
		}
		for slot := range 62 {
			impl.SynChosen(given, slot)
		}
		if impl.SynCouncilOk(given) != councilGood(c) || !councilHeld(given, c) {
			t.Fatalf("%+v is written into", c)
		}
	}
}

func TestCouncilAnAnswerSharesNoMemory(t *testing.T) {
	for _, c := range councilMemory() {
		for _, do := range councilCalls() {
			given := councilRoomy(c)
			answer := do.call(given)
			councilApart(t, do.name, given, answer)
			want := councilCopied(answer)
			councilScrawl(given)
			if !councilSame(answer, want) {
				t.Fatalf("%s: what is written into the argument is seen in the answer", do.name)
			}
			given = councilRoomy(c)
			councilScrawl(do.call(given))
			if !councilHeld(given, c) {
				t.Fatalf("%s: what is written into the answer is seen in the argument", do.name)
			}
		}
	}
}

func TestCouncilNothingIsKeptBetweenCalls(t *testing.T) {
	for _, c := range councilMemory() {
		for _, do := range councilCalls() {
			first, second := do.call(c), do.call(c)
			councilApart(t, do.name, c, first, second)
			want := councilCopied(first)
			councilScrawl(first)
			if !councilSame(second, want) || !councilSame(do.call(c), want) {
				t.Fatalf("%s: called again it answers otherwise", do.name)
			}
		}
	}
}

func TestPlayMemory(t *testing.T) {
	list := []impl.SynEvent{{Kind: 1, Slot: seekSlot, Cmd: seekMine}, {Kind: 2}, {Kind: 2, Keep: true}, {Kind: 9}, {Kind: 1, Who: 2, Slot: 1}, {Kind: 3, Word: 1}, {Kind: 2, Word: 1}}
	mark := impl.SynEvent{Kind: 1, Who: 1, Slot: 9, Word: -7}
	for n := range len(list) + 1 {
		given := walRoom(list[:n], mark)
		first, second := impl.SynPlay(given), impl.SynPlay(given)
		councilApart(t, "SynPlay", first, second)
		// What stands behind the end of the list has not happened.
		if want := councilRun(councilNew(), list[:n]...); !councilSame(first, want) || !walHeld(given, list[:n], mark) {
			t.Fatalf("%d: %+v, not %+v", n, first, want)
		}
		councilScrawl(first)
		walScrawl(given, mark)
		if !councilSame(second, councilRun(councilNew(), list[:n]...)) {
			t.Fatalf("%d: what is written elsewhere is seen in the answer", n)
		}
	}
	councilApart(t, "SynPlay of too much", impl.SynPlay(make([]impl.SynEvent, 1001)), impl.SynPlay(make([]impl.SynEvent, 1001)))
}

func TestCouncilStartMemory(t *testing.T) {
	first, second := impl.SynStart(), impl.SynStart()
	councilApart(t, "SynStart", first, second)
	councilScrawl(first)
	if !councilSame(second, councilNew()) || !councilSame(impl.SynStart(), councilNew()) {
		t.Error("what is written into the one start is seen in another one")
	}
}

// What stands behind the end of a list is not of the council.
func TestCouncilReadsNothingBehindAnEnd(t *testing.T) {
	full := councilFullOfTold(councilFull(councilSome(), 60), 240)
	for n := range 61 {
		short := full
		short.Radio, short.Told = full.Radio[:n], full.Told[:4*n]
		for _, place := range []int{n - 1, n} {
			for kind := 2; kind <= 3; kind++ {
				councilAsked(t, short, impl.SynEvent{Kind: kind, Word: place})
			}
		}
		councilAsked(t, short, impl.SynEvent{Kind: 1, Who: 1, Slot: 1})
	}
	if want := councilFullOfTold(councilFull(councilSome(), 60), 240); !councilSame(full, want) {
		t.Error("what stands behind an end is written into")
	}
	alike := councilOfPapers(votePaper(5, 9), votePaper(5, 9), impl.SynPaper{})
	alike.Voters[1].Papers = alike.Voters[1].Papers[:1]
	if cmd, ok := impl.SynChosen(alike, 5); ok || cmd != (impl.Cmd{}) {
		t.Errorf("%v is chosen behind the end of papers", cmd)
	}
}
