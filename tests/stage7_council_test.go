package tests

import (
	"math/rand/v2"
	"slices"
	"testing"

	"loop.example/pannier/impl"
)

func TestCouncilLimits(t *testing.T) {
	if impl.SynMaxRadio != 60 || impl.SynMaxSlots != 60 || impl.SynStride != 8 || impl.SynVoters != 3 || impl.WordMax != 99999 {
		t.Error(impl.SynMaxRadio, impl.SynMaxSlots, impl.SynStride, impl.SynVoters, impl.WordMax)
	}
	if impl.SynBegins != 1 || impl.SynBrings != 2 || impl.SynLoses != 3 || impl.SynForgets != 4 {
		t.Error(impl.SynBegins, impl.SynBrings, impl.SynLoses, impl.SynForgets)
	}
}

func TestCouncilStart(t *testing.T) {
	if c := impl.SynStart(); !councilSame(c, councilNew()) || !impl.SynCouncilOk(c) {
		t.Errorf("%v", c)
	}
}

func TestCouncilOkOfCouncilsThatAre(t *testing.T) {
	for _, c := range councilsOk() {
		if !councilGood(c) || !impl.SynCouncilOk(c) {
			t.Fatalf("%v", c)
		}
	}
	// Lists that are empty are as those that are not there.
	c := councilWith(councilNew(), func(c *impl.SynCouncil) {
		c.Radio, c.Told = []impl.Word{}, []impl.SynPaper{}
		c.Voters[1].Papers, c.Seekers[1].Yes = []impl.SynPaper{}, []int{}
	})
	if !impl.SynCouncilOk(c) || !councilSame(c, councilNew()) {
		t.Errorf("%v", c)
	}
}

func TestCouncilOkOfCouncilsThatAreNot(t *testing.T) {
	for name, c := range councilsBad() {
		if councilGood(c) || impl.SynCouncilOk(c) {
			t.Errorf("%s: %v", name, c)
		}
	}
}

// Each word, each paper and each member is asked for, not the first or the last alone.
func TestCouncilOkAtEachPlace(t *testing.T) {
	full := councilFullOfTold(councilFull(councilSome(), 60), 240)
	if !impl.SynCouncilOk(full) {
		t.Fatal("what is full is ok")
	}
	for place := range full.Radio {
		if impl.SynCouncilOk(councilWith(full, func(c *impl.SynCouncil) { c.Radio[place].Slot = -2 })) {
			t.Errorf("word %d", place)
		}
	}
	for place := range full.Told {
		if impl.SynCouncilOk(councilWith(full, func(c *impl.SynCouncil) { c.Told[place].Ballot = 0 })) {
			t.Errorf("told %d", place)
		}
	}
	for who := range 3 {
		for n := -1; n <= 12500; n++ {
			if impl.SynCouncilOk(councilWith(councilNew(), func(c *impl.SynCouncil) { c.Rounds[who] = n })) != (n >= 0 && n <= 12498) {
				t.Fatalf("round %d of %d", n, who)
			}
		}
	}
}

// councilRefuses asks for the fixed answers of a council that is not ok.
func councilRefuses(t *testing.T, name string, c impl.SynCouncil) {
	t.Helper()
	for _, e := range []impl.SynEvent{{}, {Kind: 1, Slot: 1}, {Kind: 2}, {Kind: 2, Keep: true}, {Kind: 3}, {Kind: 4}, {Kind: 9}} {
		if after, ok := impl.SynDo(c, e); ok || !councilNothing(after) {
			t.Errorf("%s: %v: %v %v", name, e, after, ok)
		}
	}
	for _, slot := range []int{0, 1, 3, seekSlot} {
		if cmd, ok := impl.SynChosen(c, slot); ok || cmd != (impl.Cmd{}) {
			t.Errorf("%s: chosen is %v %v", name, cmd, ok)
		}
	}
	for _, who := range []int{-1, 0, 2} {
		if after, ok := impl.SynCalm(c, who, 1, seekMine); ok || !councilNothing(after) {
			t.Errorf("%s: calm is %v %v", name, after, ok)
		}
	}
}

func TestCouncilsThatAreNotOk(t *testing.T) {
	for name, c := range councilsBad() {
		councilRefuses(t, name, c)
	}
	// Also if two have voted alike, and the word that would be brought is a good one.
	alike := councilWith(councilSome(), func(c *impl.SynCouncil) { c.Voters[1], c.Voters[2] = voteSome(), voteSome() })
	if cmd, ok := impl.SynChosen(alike, 3); !ok || cmd != votePaper(3, 20).Cmd {
		t.Fatal(cmd, ok)
	}
	for name, change := range councilSpoils() {
		councilRefuses(t, name+", all alike", councilWith(alike, change))
	}
}

// councilAsked asks of an event what the document asks of it.
func councilAsked(t *testing.T, c impl.SynCouncil, e impl.SynEvent) impl.SynCouncil {
	t.Helper()
	after, ok := impl.SynDo(c, e)
	wantAfter, wantOk := councilDone(c, e)
	if ok != wantOk || !councilSame(after, wantAfter) {
		t.Fatalf("%+v\n%+v:\n%+v %v, not\n%+v %v", c, e, after, ok, wantAfter, wantOk)
	}
	return after
}

func TestDoOfEachCouncilAndEvent(t *testing.T) {
	for place, c := range councilsOk() {
		some := councilFew(c)
		if place%8 == 0 {
			some = councilEvents(c)
		}
		for _, e := range some {
			councilAsked(t, c, e)
		}
	}
}

func TestDoOfAnyCouncils(t *testing.T) {
	r := rand.New(rand.NewPCG(73, 74))
	told, denied := 0, 0
	for range 3000 {
		c := councilTight(r)
		e := impl.SynEvent{Kind: 2, Word: r.IntN(len(c.Radio)), Keep: r.IntN(2) == 0}
		after := councilAsked(t, c, e)
		told += len(after.Told) - len(c.Told)
		if !slices.Equal(after.Rounds, c.Rounds) {
			denied++
		}
	}
	if told < 30 || denied < 30 {
		t.Errorf("told %d, denied %d of 3000", told, denied)
	}
}

// Of an event that cannot be the council is as it is, and the answer false.
func TestDoOfWhatCannotBe(t *testing.T) {
	some := councilSome()
	n := len(some.Radio)
	var list []impl.SynEvent
	for _, kind := range []int{secLowest, -1, 0, 5, 6, secHighest} {
		list = append(list, impl.SynEvent{Kind: kind, Slot: 1, Cmd: seekMine})
	}
	for _, who := range []int{secLowest, -2, -1, 3, 4, 5, 100, secHighest} {
		list = append(list, impl.SynEvent{Kind: 1, Who: who, Slot: 1}, impl.SynEvent{Kind: 4, Who: who, Slot: 1})
	}
	for _, slot := range []int{secLowest, -1, 0, 61, 62, secHighest} {
		list = append(list, impl.SynEvent{Kind: 1, Slot: slot, Cmd: seekMine})
	}
	for _, cmd := range voteCmdsBad() {
		list = append(list, impl.SynEvent{Kind: 1, Slot: 1, Cmd: cmd})
	}
	for _, place := range []int{secLowest, -2, -1, n, n + 1, 60, secHighest} {
		list = append(list, impl.SynEvent{Kind: 2, Word: place, Slot: 1}, impl.SynEvent{Kind: 3, Word: place, Slot: 1}, impl.SynEvent{Kind: 2, Word: place, Keep: true})
	}
	for _, e := range list {
		if after, ok := impl.SynDo(some, e); ok || !councilSame(after, councilSome()) {
			t.Errorf("%+v: %v %v", e, after, ok)
		}
	}
	for _, kind := range []int{2, 3} {
		for place := -1; place <= 1; place++ {
			if after, ok := impl.SynDo(impl.SynStart(), impl.SynEvent{Kind: kind, Word: place}); ok || !councilSame(after, councilNew()) {
				t.Errorf("%d of no words", kind)
			}
		}
	}
}

// Each kind asks for its own parts of an event, and looks at no other.
func TestDoAsksForItsOwnParts(t *testing.T) {
	bad := impl.SynEvent{Who: 3, Slot: 61, Cmd: impl.Cmd{Kind: 8}, Word: 99, Keep: true}
	begins, brings, loses, forgets := bad, bad, bad, bad
	begins.Kind, begins.Who, begins.Slot, begins.Cmd = 1, 2, 60, seekMine
	brings.Kind, brings.Word, brings.Keep = 2, 6, false
	loses.Kind, loses.Word = 3, 6
	forgets.Kind, forgets.Who = 4, 1
	for _, c := range []struct{ loud, plain impl.SynEvent }{
		{begins, impl.SynEvent{Kind: 1, Who: 2, Slot: 60, Cmd: seekMine}},
		{brings, impl.SynEvent{Kind: 2, Word: 6}},
		{loses, impl.SynEvent{Kind: 3, Word: 6}},
		{forgets, impl.SynEvent{Kind: 4, Who: 1}},
	} {
		loud, ok := impl.SynDo(councilSome(), c.loud)
		plain, same := impl.SynDo(councilSome(), c.plain)
		if !ok || !same || !councilSame(loud, plain) || councilSame(plain, councilSome()) {
			t.Errorf("%+v: %v %v", c.loud, ok, same)
		}
	}
}

// councilBecomes lets something happen that can be, and holds what comes of it against the council with a change.
func councilBecomes(t *testing.T, name string, c impl.SynCouncil, e impl.SynEvent, change func(c *impl.SynCouncil)) {
	t.Helper()
	after, ok := impl.SynDo(c, e)
	if want := councilWith(c, change); !ok || !councilSame(after, want) {
		t.Errorf("%s: %+v\n%+v %v, not\n%+v", name, e, after, ok, want)
	}
}

func TestBeginsOfEachMember(t *testing.T) {
	for who := range 3 {
		for _, slot := range []int{1, 2, 59, 60} {
			for _, round := range []int{0, 1, 2, 1000, 12496, 12497} {
				some := councilWith(councilSome(), func(c *impl.SynCouncil) { c.Rounds[who] = round })
				councilBecomes(t, "begins", some, impl.SynEvent{Kind: 1, Who: who, Slot: slot, Cmd: seekMine}, func(c *impl.SynCouncil) {
					ballot := 8*(round+1) + who
					c.Rounds[who] = round + 1
					c.Seekers[who] = impl.SynSeeker{Slot: slot, Ballot: ballot, Phase: 1, Mine: seekMine}
					c.Radio = append(c.Radio, seekToAll(1, who, ballot, slot, impl.Cmd{})...)
				})
			}
		}
	}
}

// In the last round there is no other one behind: a member begins no more, whatever else it does, and the others do as before.
func TestBeginsInTheLastRound(t *testing.T) {
	for who := range 3 {
		begins := impl.SynEvent{Kind: 1, Who: who, Slot: 60, Cmd: seekMine}
		last := func(c impl.SynCouncil) impl.SynCouncil {
			return councilWith(c, func(c *impl.SynCouncil) { c.Rounds[who] = 12498 })
		}
		forgot := councilRun(last(councilSome()), impl.SynEvent{Kind: 4, Who: who})
		for _, some := range []impl.SynCouncil{last(councilNew()), last(councilSome()), forgot, last(councilFull(councilSome(), 60)), last(councilFullOfTold(councilSome(), 240))} {
			if after, ok := impl.SynDo(some, begins); ok || !councilSame(after, some) {
				t.Errorf("%d begins in the last round: %v %+v", who, ok, after)
			}
			if after := councilRun(some, begins, begins, begins); !councilSame(after, some) {
				t.Errorf("%d begins in the last round: %+v", who, after)
			}
		}
		for other := range 3 {
			if begins.Who = other; other == who {
				continue
			}
			councilBecomes(t, "another one", last(councilNew()), begins, func(c *impl.SynCouncil) {
				c.Rounds[other] = 1
				c.Seekers[other] = impl.SynSeeker{Slot: 60, Ballot: 8 + other, Phase: 1, Mine: seekMine}
				c.Radio = seekToAll(1, other, 8+other, 60, impl.Cmd{})
			})
		}
	}
}

// The last round can be begun, once; by whichever way a member comes to it, it begins none behind it.
func TestBeginsUpToTheLastRound(t *testing.T) {
	for who := range 3 {
		begins := impl.SynEvent{Kind: 1, Who: who, Slot: 1, Cmd: seekMine}
		begun := councilWith(councilNew(), func(c *impl.SynCouncil) { c.Rounds[who] = 12496 })
		for round := 12497; round <= 12498; round++ {
			after, ok := impl.SynDo(begun, begins)
			if !ok || after.Rounds[who] != round || after.Seekers[who].Ballot != 8*round+who || len(after.Radio) != len(begun.Radio)+3 {
				t.Fatalf("%d begins the round %d: %v %+v", who, round, ok, after)
			}
			begun = after
		}
		denied := councilWith(councilNew(), func(c *impl.SynCouncil) { c.Radio = []impl.Word{councilSay(5, 1, who, 17, 1, 99984)} })
		denied = councilRun(denied, impl.SynEvent{Kind: 2})
		if denied.Rounds[who] != 12498 {
			t.Fatalf("a denial raises to %v", denied.Rounds)
		}
		for _, some := range []impl.SynCouncil{begun, denied} {
			if after, ok := impl.SynDo(some, begins); ok || !councilSame(after, some) {
				t.Errorf("%d begins behind the last round: %v %+v", who, ok, after)
			}
		}
	}
}

// Words for which there is no room are lost, the last ones first.
func TestBeginsWithLittleRoom(t *testing.T) {
	for words := 50; words <= 60; words++ {
		councilBecomes(t, "little room", councilFull(councilSome(), words), impl.SynEvent{Kind: 1, Who: 2, Slot: 5, Cmd: seekMine}, func(c *impl.SynCouncil) {
			c.Rounds[2] = 1
			c.Seekers[2] = impl.SynSeeker{Slot: 5, Ballot: 10, Phase: 1, Mine: seekMine}
			c.Radio = append(c.Radio, seekToAll(1, 2, 10, 5, impl.Cmd{})[:min(3, 60-words)]...)
		})
	}
}

func TestForgetsOfEachMember(t *testing.T) {
	for who := range 3 {
		councilBecomes(t, "forgets", councilSome(), impl.SynEvent{Kind: 4, Who: who}, func(c *impl.SynCouncil) { c.Seekers[who] = impl.SynSeeker{} })
	}
}

// A word that is lost is out of the radio, and nothing else is another one, whatever Keep says.
func TestLosesAtEachPlace(t *testing.T) {
	full := councilFull(councilSome(), 60)
	for _, some := range []impl.SynCouncil{councilSome(), full} {
		for place := range some.Radio {
			for _, keep := range []bool{false, true} {
				councilBecomes(t, "loses", some, impl.SynEvent{Kind: 3, Word: place, Keep: keep}, func(c *impl.SynCouncil) { c.Radio = slices.Delete(c.Radio, place, place+1) })
			}
		}
	}
}

// councilCase is a word that is brought to the council given by hand, and what comes of it beside its going.
type councilCase struct {
	name   string
	word   impl.Word
	change func(c *impl.SynCouncil)
}

func councilCases() []councilCase {
	nothing := func(*impl.SynCouncil) {}
	sends := func(words ...impl.Word) func(c *impl.SynCouncil) {
		return func(c *impl.SynCouncil) { c.Radio = append(c.Radio, words...) }
	}
	best := votePaper(seekSlot, 12)
	loud := wordLoud().Cmd
	return []councilCase{
		{"a prepare that is promised", councilSay(1, 1, 2, 17, seekSlot, 3), func(c *impl.SynCouncil) {
			c.Voters[2].Promised = 17
			sends(impl.Word{Kind: 2, From: 2, To: 1, Ballot: 17, Slot: seekSlot})(c)
		}},
		{"a prepare that is promised, and told of a paper", councilSay(1, 4, 1, 21, seekSlot, 3), func(c *impl.SynCouncil) {
			c.Voters[1].Promised = 21
			sends(impl.Word{Kind: 2, From: 1, To: 4, Ballot: 21, Slot: seekSlot, Was: 12, Cmd: best.Cmd})(c)
		}},
		{"a prepare that is denied", councilSay(1, 0, 1, 20, 9, 3), sends(impl.Word{Kind: 5, From: 1, To: 0, Ballot: 20, Slot: 9, Was: 20})},
		{"an accept that is voted for", councilSay(3, 103, 2, 9, 4, 0), func(c *impl.SynCouncil) {
			c.Voters[2] = impl.SynVoter{Promised: 9, Papers: []impl.SynPaper{{Slot: 4, Ballot: 9, Cmd: loud}}}
			sends(impl.Word{Kind: 4, From: 2, To: 103, Ballot: 9, Slot: 4})(c)
		}},
		{"an accept that is denied", councilSay(3, 1, 0, 49, 4, 0), sends(impl.Word{Kind: 5, From: 0, To: 1, Ballot: 49, Slot: 4, Was: 50})},
		{"a prepare of no slot", councilSay(1, 1, 2, 17, 0, 3), nothing},
		{"a prepare of the slot behind the last", councilSay(1, 1, 2, 17, 61, 3), nothing},
		{"an accept of no ballot", councilSay(3, 1, 2, 0, 4, 3), nothing},
		{"the second promise", councilSay(2, 2, 0, seekBallot, seekSlot, 0), func(c *impl.SynCouncil) {
			c.Seekers[0] = seekTold(2, 12)
			sends(seekToAll(3, 0, seekBallot, seekSlot, best.Cmd)...)(c)
		}},
		{"the second promise, told of more", councilSay(2, 0, 0, seekBallot, seekSlot, 13), func(c *impl.SynCouncil) {
			c.Seekers[0] = seekSome(2)
			c.Seekers[0].Best = impl.SynPaper{Slot: seekSlot, Ballot: 13, Cmd: loud}
			sends(seekToAll(3, 0, seekBallot, seekSlot, loud)...)(c)
		}},
		{"the first promise again", councilSay(2, 1, 0, seekBallot, seekSlot, 0), nothing},
		{"a promise to who waits for votes", councilSay(2, 2, 1, seekBallot, seekSlot, 0), nothing},
		{"a promise to who seeks nothing", councilSay(2, 0, 2, seekBallot, seekSlot, 0), nothing},
		{"the second vote", councilSay(4, 2, 1, seekBallot, seekSlot, 0), func(c *impl.SynCouncil) {
			c.Seekers[1] = impl.SynSeeker{}
			c.Told = append(c.Told, impl.SynPaper{Slot: seekSlot, Ballot: seekBallot, Cmd: best.Cmd})
		}},
		{"the first vote again", councilSay(4, 0, 1, seekBallot, seekSlot, 0), nothing},
		{"a vote for another slot", councilSay(4, 2, 1, seekBallot, seekSlot+1, 0), nothing},
		{"a vote by another ballot", councilSay(4, 2, 1, seekBallot+1, seekSlot, 0), nothing},
		{"a vote to who waits for promises", councilSay(4, 2, 0, seekBallot, seekSlot, 0), nothing},
		{"a denial to a client", councilSay(5, 0, 100, 17, seekSlot, 99999), nothing},
		{"a second vote to a client", councilSay(4, 2, 101, seekBallot, seekSlot, 0), nothing},
		{"a prepare to a server that is no voter", councilSay(1, 1, 3, 90, seekSlot, 0), nothing},
		{"an accept to a server that is no voter", councilSay(3, 1, 4, 90, seekSlot, 0), nothing},
		{"a chosen", councilSay(6, 0, 1, seekBallot, seekSlot, 0), nothing},
		{"an ask", councilSay(8, 100, 0, seekBallot, seekSlot, 0), nothing},
		{"a joined", councilSay(15, 2, 2, seekBallot, seekSlot, 0), nothing},
	}
}

func TestBringsCaseByCase(t *testing.T) {
	for _, c := range councilCases() {
		for place := range 3 {
			some := councilWith(councilFull(councilSome(), 2), func(x *impl.SynCouncil) { x.Radio = slices.Insert(x.Radio, place, c.word) })
			councilBecomes(t, c.name+", kept", some, impl.SynEvent{Kind: 2, Word: place, Keep: true}, c.change)
			councilBecomes(t, c.name, some, impl.SynEvent{Kind: 2, Word: place}, func(x *impl.SynCouncil) {
				x.Radio = slices.Delete(x.Radio, place, place+1)
				c.change(x)
			})
		}
	}
}

// With a full radio a word leaves room for one answer, but none if it is kept.
func TestBringsWithLittleRoom(t *testing.T) {
	for _, c := range councilCases() {
		for words := 56; words <= 59; words++ {
			for _, place := range []int{0, words / 2, words} {
				some := councilWith(councilFull(councilSome(), words), func(x *impl.SynCouncil) { x.Radio = slices.Insert(x.Radio, place, c.word) })
				councilBecomes(t, c.name+", kept", some, impl.SynEvent{Kind: 2, Word: place, Keep: true}, func(x *impl.SynCouncil) {
					c.change(x)
					x.Radio = x.Radio[:min(len(x.Radio), 60)]
				})
				councilBecomes(t, c.name, some, impl.SynEvent{Kind: 2, Word: place}, func(x *impl.SynCouncil) {
					x.Radio = slices.Delete(x.Radio, place, place+1)
					c.change(x)
					x.Radio = x.Radio[:min(len(x.Radio), 60)]
				})
			}
		}
	}
}

// A denial raises the round of whom it is to, if it says more, and no more than there is; by whichever ballot it comes.
func TestBringsDenials(t *testing.T) {
	for _, c := range []struct{ round, was, after int }{
		{5, -1, 5}, {5, 0, 5}, {5, 32, 5}, {5, 39, 5}, {5, 40, 5}, {5, 47, 5}, {5, 48, 6}, {5, 55, 6}, {5, 56, 7}, {5, 99983, 12497}, {5, 99984, 12498}, {5, 99991, 12498}, {5, 99992, 5}, {5, 99999, 5},
		{0, -1, 0}, {0, 0, 0}, {0, 7, 0}, {0, 8, 1}, {0, 99991, 12498}, {0, 99992, 0}, {12497, 99983, 12497}, {12497, 99984, 12498}, {12497, 99992, 12497}, {12498, 99984, 12498}, {12498, 99991, 12498}, {12498, 99992, 12498}, {12498, 99999, 12498},
	} {
		for who := range 3 {
			for _, ballot := range []int{-1, 0, 17, seekBallot, 99999} {
				some := councilWith(councilSome(), func(x *impl.SynCouncil) {
					x.Rounds[who], x.Radio = c.round, []impl.Word{councilSay(5, 4, who, ballot, seekSlot, c.was)}
				})
				councilBecomes(t, "a denial", some, impl.SynEvent{Kind: 2}, func(x *impl.SynCouncil) { x.Rounds[who], x.Radio = c.after, nil })
				councilBecomes(t, "a denial, kept", some, impl.SynEvent{Kind: 2, Keep: true}, func(x *impl.SynCouncil) { x.Rounds[who] = c.after })
			}
		}
	}
}

// What is chosen when no more can be told is told nobody, and its seeker is nothing all the same.
func TestBringsWhenToldIsFull(t *testing.T) {
	for told := 237; told <= 240; told++ {
		some := councilWith(councilFullOfTold(councilSome(), told), func(c *impl.SynCouncil) { c.Radio = c.Radio[2:3] })
		councilBecomes(t, "told is full", some, impl.SynEvent{Kind: 2}, func(c *impl.SynCouncil) {
			c.Seekers[1], c.Radio = impl.SynSeeker{}, nil
			if told < 240 {
				c.Told = append(c.Told, impl.SynPaper{Slot: seekSlot, Ballot: seekBallot, Cmd: votePaper(seekSlot, 12).Cmd})
			}
		})
	}
}

// councilOfPapers is a council of voters who promised enough, each with one paper of the slot 5, and with others beside; a paper by no ballot is left out.
func councilOfPapers(papers ...impl.SynPaper) impl.SynCouncil {
	c := councilNew()
	for who, p := range papers {
		c.Voters[who] = impl.SynVoter{Promised: 50, Papers: []impl.SynPaper{votePaper(1, 10+who), p, votePaper(60, 20+who)}}
		if p.Ballot == 0 {
			c.Voters[who].Papers = slices.Delete(c.Voters[who].Papers, 1, 2)
		}
	}
	return c
}

func TestChosenByHand(t *testing.T) {
	paper := func(ballot int, cmd int) impl.SynPaper {
		return impl.SynPaper{Slot: 5, Ballot: ballot, Cmd: voteCmd(cmd)}
	}
	none := impl.SynPaper{}
	for place, c := range []struct {
		papers [3]impl.SynPaper
		cmd    int
	}{
		{[3]impl.SynPaper{paper(9, 1), paper(9, 1), paper(9, 1)}, 1},
		{[3]impl.SynPaper{paper(9, 1), paper(9, 1), none}, 1},
		{[3]impl.SynPaper{paper(9, 1), none, paper(9, 1)}, 1},
		{[3]impl.SynPaper{none, paper(9, 1), paper(9, 1)}, 1},
		{[3]impl.SynPaper{paper(9, 1), paper(9, 1), paper(17, 2)}, 1},
		{[3]impl.SynPaper{paper(9, 1), paper(17, 2), paper(9, 1)}, 1},
		{[3]impl.SynPaper{paper(17, 2), paper(9, 1), paper(9, 1)}, 1},
		{[3]impl.SynPaper{paper(9, 1), paper(17, 2), paper(17, 2)}, 2},
		{[3]impl.SynPaper{paper(9, 1), paper(10, 1), paper(11, 1)}, -1},
		{[3]impl.SynPaper{paper(9, 1), paper(10, 1), none}, -1},
		{[3]impl.SynPaper{paper(9, 1), none, paper(10, 1)}, -1},
		{[3]impl.SynPaper{none, paper(9, 1), paper(10, 1)}, -1},
		{[3]impl.SynPaper{paper(9, 1), paper(9, 2), paper(9, 3)}, -1},
		{[3]impl.SynPaper{paper(9, 1), paper(9, 2), paper(9, 1)}, 1},
		{[3]impl.SynPaper{paper(9, 1), none, none}, -1},
		{[3]impl.SynPaper{none, paper(9, 1), none}, -1},
		{[3]impl.SynPaper{none, none, paper(9, 1)}, -1},
		{[3]impl.SynPaper{none, none, none}, -1},
	} {
		some := councilOfPapers(c.papers[:]...)
		cmd, ok := impl.SynChosen(some, 5)
		if want := voteCmd(max(c.cmd, 0)); ok != (c.cmd >= 0) || ok && cmd != want || !ok && cmd != (impl.Cmd{}) {
			t.Errorf("%d: %v %v", place, cmd, ok)
		}
		for _, slot := range []int{secLowest, -1, 0, 1, 2, 4, 6, 59, 60, 61, 62, secHighest} {
			if cmd, ok := impl.SynChosen(some, slot); ok || cmd != (impl.Cmd{}) {
				t.Errorf("%d: of the slot %d: %v %v", place, slot, cmd, ok)
			}
		}
	}
}

// Papers of the first slot and of the last one, and a command that is nothing, are chosen like others.
func TestChosenAtTheEnds(t *testing.T) {
	for _, slot := range []int{1, 60} {
		for _, cmd := range voteCmds() {
			p := impl.SynPaper{Slot: slot, Ballot: 99999, Cmd: cmd}
			c := councilNew()
			c.Voters[0], c.Voters[2] = impl.SynVoter{Promised: 99999, Papers: []impl.SynPaper{p}}, impl.SynVoter{Promised: 99999, Papers: []impl.SynPaper{p}}
			if got, ok := impl.SynChosen(c, slot); !ok || got != cmd {
				t.Errorf("%d: %v %v", slot, got, ok)
			}
			if got, ok := impl.SynChosen(c, 61-slot); ok || got != (impl.Cmd{}) {
				t.Errorf("%d: %v %v", 61-slot, got, ok)
			}
		}
	}
}

func TestChosenOfEachCouncil(t *testing.T) {
	r := rand.New(rand.NewPCG(75, 76))
	some := councilsOk()
	for range 300 {
		c := councilNew()
		for who := range c.Voters {
			c.Voters[who].Promised = 60
			for slot := 1; slot <= 60; slot++ {
				if r.IntN(3) > 0 {
					c.Voters[who].Papers = append(c.Voters[who].Papers, votePaper(slot, 1+r.IntN(3)))
				}
			}
		}
		some = append(some, c)
	}
	found := 0
	for _, c := range some {
		for slot := -1; slot <= 62; slot += 1 + r.IntN(4) {
			cmd, ok := impl.SynChosen(c, slot)
			if want, there := councilVoted(c, slot); ok != there || cmd != want {
				t.Fatalf("%+v: of the slot %d %v %v, not %v %v", c, slot, cmd, ok, want, there)
			}
			if ok {
				found++
			}
		}
	}
	if found < 1000 {
		t.Errorf("only %d are chosen", found)
	}
}

// councilSettles asks of a calm what the document asks of it.
func councilSettles(t *testing.T, c impl.SynCouncil, who, slot int, cmd impl.Cmd) bool {
	t.Helper()
	after, ok := impl.SynCalm(c, who, slot, cmd)
	wantAfter, wantOk := councilCalmed(c, who, slot, cmd)
	if ok != wantOk || !councilSame(after, wantAfter) {
		t.Fatalf("%+v\n%d seeks for the slot %d:\n%+v %v, not\n%+v %v", c, who, slot, after, ok, wantAfter, wantOk)
	}
	return ok
}

func TestCalmOfEachCouncil(t *testing.T) {
	found, not := 0, 0
	for _, c := range councilsOk() {
		for who := range 3 {
			for _, slot := range []int{1, 2, seekSlot, 60} {
				if councilSettles(t, c, who, slot, voteCmd(500+slot)) {
					found++
				} else {
					not++
				}
			}
		}
	}
	if found < 100 || not < 10 {
		t.Errorf("%d found, %d not", found, not)
	}
}

// If it cannot be begun, all words are lost, and nothing else happens.
func TestCalmThatCannotBegin(t *testing.T) {
	refused := func(name string, who, slot int, cmd impl.Cmd) {
		for _, c := range []impl.SynCouncil{councilNew(), councilSome(), councilFull(councilSome(), 60), councilFullOfTold(councilSome(), 240)} {
			after, ok := impl.SynCalm(c, who, slot, cmd)
			if want := councilWith(c, func(c *impl.SynCouncil) { c.Radio = nil }); ok || !councilSame(after, want) {
				t.Errorf("%s: %+v %v", name, after, ok)
			}
		}
	}
	for _, who := range []int{secLowest, -1, 3, 4, 100, secHighest} {
		refused("who", who, 1, seekMine)
	}
	for _, slot := range []int{secLowest, -1, 0, 61, secHighest} {
		refused("slot", 0, slot, seekMine)
	}
	for name, cmd := range voteCmdsBad() {
		refused(name, 0, 1, cmd)
	}
}

func TestPlayOfNothing(t *testing.T) {
	for _, list := range [][]impl.SynEvent{nil, {}, {{}}, {{Kind: 9}, {Kind: 2}, {Kind: 3}, {Kind: 1, Slot: 0}}, {{Kind: 4, Who: 2}}} {
		if c := impl.SynPlay(list); !councilSame(c, councilNew()) {
			t.Errorf("%v: %v", list, c)
		}
	}
}

// A thousand events are played, and one more are not, also if none of them can be.
func TestPlayOfManyEvents(t *testing.T) {
	begins := impl.SynEvent{Kind: 1, Who: 1, Slot: 3, Cmd: seekMine}
	for _, n := range []int{1, 2, 999, 1000} {
		c := impl.SynPlay(slices.Repeat([]impl.SynEvent{begins}, n))
		if c.Rounds[1] != n || c.Seekers[1].Ballot != 8*n+1 || len(c.Radio) != min(3*n, 60) || len(c.Told) != 0 {
			t.Errorf("%d: %+v", n, c)
		}
	}
	for _, n := range []int{1001, 1002, 5000} {
		if c := impl.SynPlay(slices.Repeat([]impl.SynEvent{begins}, n)); !councilSame(c, councilNew()) {
			t.Errorf("%d: %+v", n, c)
		}
	}
	list := slices.Concat(slices.Repeat([]impl.SynEvent{{Kind: 9}}, 999), []impl.SynEvent{begins})
	if c := impl.SynPlay(list); c.Rounds[1] != 1 {
		t.Errorf("%+v", c)
	}
	if c := impl.SynPlay(append(list, impl.SynEvent{Kind: 9})); !councilSame(c, councilNew()) {
		t.Errorf("%+v", c)
	}
}

// councilRow is a row of events of a style, with some between that cannot be, and the council behind it by the plain reading.
func councilRow(r *rand.Rand, style councilStyle, length int) ([]impl.SynEvent, impl.SynCouncil) {
	var list []impl.SynEvent
	c := councilNew()
	for n := range length {
		e := style.event(r, c, n)
		if r.IntN(10) == 0 {
			some := councilEvents(c)
			e = some[r.IntN(len(some))]
		}
		list = append(list, e)
		c, _ = councilDone(c, e)
	}
	return list, c
}

func TestPlayIsEachBehindTheOther(t *testing.T) {
	r := rand.New(rand.NewPCG(77, 78))
	for _, style := range councilStyles() {
		for _, length := range []int{10, 100, 400} {
			list, want := councilRow(r, style, length)
			if c := impl.SynPlay(list); !councilSame(c, want) {
				t.Fatalf("%s: %+v, not %+v", style.name, c, want)
			}
			if c := councilRun(impl.SynPlay(list[:length/2]), list[length/2:]...); !councilSame(c, want) {
				t.Fatalf("%s, from the middle on: %+v, not %+v", style.name, c, want)
			}
		}
	}
}
