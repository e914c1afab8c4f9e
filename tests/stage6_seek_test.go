package tests

import (
	"math/rand/v2"
	"testing"

	"loop.example/pannier/impl"
)

func TestSeekLimits(t *testing.T) {
	if impl.SynStride != 8 || impl.WordServer != 5 || impl.SynVoters != 3 || impl.SynMaxSlots != 60 || impl.WordMax != 99999 {
		t.Error(impl.SynStride, impl.WordServer, impl.SynVoters, impl.SynMaxSlots, impl.WordMax)
	}
}

func TestSeekerOkOfSeekersThatAre(t *testing.T) {
	for _, s := range seekersOk() {
		if !seekGood(s) || !impl.SynSeekerOk(s) {
			t.Fatalf("%v", s)
		}
	}
}

func TestSeekerOkOfSeekersThatAreNot(t *testing.T) {
	for name, s := range seekersBad() {
		if seekGood(s) || impl.SynSeekerOk(s) {
			t.Errorf("%s: %v", name, s)
		}
	}
}

// Each edge that the document names, with what is to be answered written out.
func TestSeekerOkByHand(t *testing.T) {
	if !impl.SynSeekerOk(impl.SynSeeker{}) || !impl.SynSeekerOk(impl.SynSeeker{Yes: []int{}}) || impl.SynSeekerOk(impl.SynSeeker{Yes: []int{0}}) {
		t.Error("a seeker that is nothing")
	}
	for _, c := range []struct {
		slot, ballot, phase int
		best                int
		yes                 []int
		ok                  bool
	}{
		{1, 1, 1, 0, nil, true}, {60, 99999, 2, 0, nil, true}, {0, 9, 1, 0, nil, false}, {61, 9, 1, 0, nil, false}, {1, 0, 1, 0, nil, false}, {1, 100000, 1, 0, nil, false},
		{5, 9, 0, 0, nil, false}, {5, 9, 1, 0, nil, true}, {5, 9, 2, 0, nil, true}, {5, 9, 3, 0, nil, false}, {5, 9, -1, 0, nil, false},
		{5, 9, 1, 1, nil, true}, {5, 9, 2, 8, nil, true}, {5, 9, 1, 9, nil, false}, {5, 9, 2, 10, nil, false}, {5, 1, 1, 1, nil, false}, {5, 2, 1, 1, nil, true}, {5, 99999, 1, 99998, nil, true},
		{5, 9, 1, 3, []int{0}, true}, {5, 9, 2, 3, []int{2}, true}, {5, 9, 1, 0, []int{1}, true}, {5, 9, 1, 3, []int{-1}, false}, {5, 9, 2, 3, []int{3}, false},
		{5, 9, 1, 3, []int{0, 1}, false}, {5, 9, 2, 3, []int{1, 2}, false}, {5, 9, 2, 0, []int{0, 0}, false}, {5, 9, 1, 0, []int{0, 1, 2}, false},
	} {
		s := impl.SynSeeker{Slot: c.slot, Ballot: c.ballot, Phase: c.phase, Mine: voteCmd(5), Yes: c.yes}
		if c.best != 0 {
			s.Best = votePaper(c.slot, c.best)
		}
		if impl.SynSeekerOk(s) != c.ok {
			t.Errorf("%v: %v", c, !c.ok)
		}
	}
}

// Any seekers, some of them wrong in one place.
func TestSeekerOkAsItIsRead(t *testing.T) {
	r := rand.New(rand.NewPCG(63, 64))
	wrong := []int{-2, -1, 0, 1, 2, 3, 7, 8, 30, 60, 61, 99999, 100000}
	good := 0
	for range 5000 {
		s := seekRandom(r)
		n := wrong[r.IntN(len(wrong))]
		at := []*int{&s.Slot, &s.Ballot, &s.Phase, &s.Mine.Kind, &s.Mine.Num, &s.Best.Slot, &s.Best.Ballot, &s.Best.Cmd.Kind, &s.Best.Cmd.A}
		if place := r.IntN(len(at) + 1); place < len(at) {
			*at[place] = n
		} else {
			s.Yes = append(s.Yes, n)
		}
		if impl.SynSeekerOk(s) != seekGood(s) {
			t.Fatalf("%v: %v", s, impl.SynSeekerOk(s))
		}
		if seekGood(s) {
			good++
		}
	}
	if good < 1000 || good > 4000 {
		t.Errorf("%d of 5000 are ok", good)
	}
}

// seekBegins asks of the beginning what the document asks of it.
func seekBegins(t *testing.T, me, round, slot int, cmd impl.Cmd) {
	t.Helper()
	s, words := impl.SynSeek(me, round, slot, cmd)
	wantSeeker, wantWords := seekBegun(me, round, slot, cmd)
	if !seekSame(s, wantSeeker) || !seekWordsSame(words, wantWords) {
		t.Fatalf("%d seeks in the round %d for the slot %d and %v:\n%v %v, not\n%v %v", me, round, slot, cmd, s, words, wantSeeker, wantWords)
	}
}

func TestSeekAtTheEnds(t *testing.T) {
	ends := []int{secLowest, -8, -2, -1, 0, 1, 2, 3, 4, 5, 8, 59, 60, 61, 100, 12497, 12498, 12499, 12500, 99999, 100000, secHighest / 8, secHighest/8 + 1, secHighest}
	for _, me := range ends {
		for _, round := range ends {
			for _, slot := range ends {
				seekBegins(t, me, round, slot, wordLoud().Cmd)
			}
		}
	}
}

func TestSeekOfEachServerAndSlot(t *testing.T) {
	for me := range 5 {
		for slot := 1; slot <= 60; slot++ {
			for _, cmd := range voteCmds() {
				seekBegins(t, me, 1+slot*200, slot, cmd)
			}
		}
	}
}

// Each end once more, with what is to be answered written out; a ballot of 0 is nothing of both.
func TestSeekByHand(t *testing.T) {
	for _, c := range []struct{ me, round, slot, ballot int }{
		{0, 1, 1, 8}, {4, 1, 1, 12}, {0, 2, 1, 16}, {3, 2, 60, 19}, {4, 2, 7, 20}, {0, 12498, 60, 99984}, {4, 12498, 60, 99988},
		{-1, 1, 1, 0}, {5, 1, 1, 0}, {0, 0, 1, 0}, {4, 0, 1, 0}, {0, -1, 1, 0}, {0, 12499, 1, 0}, {4, 12499, 60, 0},
		{0, 1, 0, 0}, {0, 1, -1, 0}, {0, 1, 61, 0}, {100, 1, 1, 0}, {-1, 2, 7, 0}, {5, 12498, 7, 0},
	} {
		s, words := impl.SynSeek(c.me, c.round, c.slot, voteCmd(40))
		if c.ballot == 0 {
			if !seekNothing(s) || len(words) != 0 {
				t.Errorf("%v: %v %v", c, s, words)
			}
			continue
		}
		if !impl.SynSeekerOk(s) || !seekSame(s, impl.SynSeeker{Slot: c.slot, Ballot: c.ballot, Phase: 1, Mine: voteCmd(40)}) {
			t.Errorf("%v: %v", c, s)
		}
		if !seekWordsSame(words, seekToAll(1, c.me, c.ballot, c.slot, impl.Cmd{})) {
			t.Errorf("%v: %v", c, words)
		}
	}
}

func TestSeekOfCommandsThatAreNotInForm(t *testing.T) {
	for name, c := range voteCmdsBad() {
		for me := range 5 {
			if s, words := impl.SynSeek(me, 1, 1, c); !seekNothing(s) || len(words) != 0 {
				t.Errorf("%s: %v %v", name, s, words)
			}
		}
	}
}

// No two servers ever seek by the same ballot, and in a later round all of them by a greater one.
func TestSeekOfServersByTheirOwnBallots(t *testing.T) {
	highest := 0
	for round := 1; round <= 12498; round += 17 {
		for me := range 5 {
			s, _ := impl.SynSeek(me, round, 1, impl.Cmd{})
			if s.Ballot <= highest {
				t.Fatalf("%d in the round %d: %d behind %d", me, round, s.Ballot, highest)
			}
			highest = s.Ballot
		}
	}
}

// seekCase is a word to a seeker, and what it is then; asked is how many words it sends.
type seekCase struct {
	name   string
	before impl.SynSeeker
	word   impl.Word
	after  impl.SynSeeker
	cmd    impl.Cmd
	asked  int
	chosen bool
}

// seekAfter is the seeker given by hand, with what was told by seekSay of a ballot.
func seekAfter(phase, was int, yes ...int) impl.SynSeeker {
	s := seekSome(phase, yes...)
	s.Best = impl.SynPaper{Slot: seekSlot, Ballot: was, Cmd: seekCmd(was)}
	return s
}

func seekCases() []seekCase {
	none, best := impl.Cmd{}, votePaper(seekSlot, 12).Cmd
	stays := func(name string, s impl.SynSeeker, w impl.Word) seekCase {
		return seekCase{name, s, w, s, none, 0, false}
	}
	return []seekCase{
		{"first promise, nothing told", seekSome(1), seekSay(2, 0, 0), seekSome(1, 0), none, 0, false},
		{"first promise, Was of -1", seekSome(1), seekSay(2, 2, -1), seekSome(1, 2), none, 0, false},
		{"first promise, told of the least ballot", seekSome(1), seekSay(2, 2, 1), seekAfter(1, 1, 2), none, 0, false},
		{"first promise, told of the ballot below", seekSome(1), seekSay(2, 1, 19), seekAfter(1, 19, 1), none, 0, false},
		stays("first promise, told of its ballot", seekSome(1), seekSay(2, 1, 20)),
		stays("first promise, told of one above", seekSome(1), seekSay(2, 1, 21)),
		stays("first promise, told of the greatest", seekSome(1), seekSay(2, 1, 99999)),
		{"first promise, though told already", seekTold(1, 12), seekSay(2, 1, 0), seekTold(1, 12, 1), none, 0, false},
		{"first promise, told of more", seekTold(1, 12), seekSay(2, 1, 13), seekAfter(1, 13, 1), none, 0, false},
		{"second promise, nothing told", seekSome(1, 1), seekSay(2, 0, 0), seekSome(2), seekMine, 3, false},
		{"second promise, Was of -1", seekSome(1, 1), seekSay(2, 0, -1), seekSome(2), seekMine, 3, false},
		{"second promise, told first of all", seekSome(1, 1), seekSay(2, 2, 1), seekAfter(2, 1), seekCmd(1), 3, false},
		{"second promise, told nothing", seekTold(1, 12, 1), seekSay(2, 0, 0), seekTold(2, 12), best, 3, false},
		{"second promise, told of one below", seekTold(1, 12, 1), seekSay(2, 0, 11), seekTold(2, 12), best, 3, false},
		{"second promise, told of the same", seekTold(1, 12, 1), seekSay(2, 0, 12), seekTold(2, 12), best, 3, false},
		{"second promise, told of one above", seekTold(1, 12, 1), seekSay(2, 0, 13), seekAfter(2, 13), seekCmd(13), 3, false},
		{"second promise, told of the ballot below", seekTold(1, 12, 1), seekSay(2, 0, 19), seekAfter(2, 19), seekCmd(19), 3, false},
		stays("second promise, told of its ballot", seekTold(1, 12, 1), seekSay(2, 0, 20)),
		stays("second promise, told of one above its ballot", seekTold(1, 12, 1), seekSay(2, 0, 21)),
		stays("the same promises again", seekTold(1, 12, 1), seekSay(2, 1, 0)),
		stays("the same promises again, told of more", seekTold(1, 12, 1), seekSay(2, 1, 13)),
		stays("the first one promises again", seekSome(1, 0), seekSay(2, 0, 0)),
		stays("the last one promises again", seekSome(1, 2), seekSay(2, 2, 0)),
		stays("a promise of no voter", seekTold(1, 12, 1), seekSay(2, 3, 0)),
		stays("a promise of a client", seekTold(1, 12, 1), seekSay(2, 100, 0)),
		stays("a vote in phase 1", seekSome(1), seekSay(4, 0, 0)),
		stays("a second vote in phase 1", seekTold(1, 12, 1), seekSay(4, 0, 0)),
		stays("a late promise", seekSome(2), seekSay(2, 0, 0)),
		stays("a late promise, told of more", seekTold(2, 12), seekSay(2, 2, 13)),
		stays("a late promise behind a vote", seekTold(2, 12, 1), seekSay(2, 2, 13)),
		{"first vote", seekTold(2, 12), seekSay(4, 2, 0), seekTold(2, 12, 2), none, 0, false},
		{"first vote, Was of its ballot", seekSome(2), seekSay(4, 0, 20), seekSome(2, 0), none, 0, false},
		{"second vote", seekTold(2, 12, 2), seekSay(4, 0, 0), seekTold(2, 12, 2, 0), none, 0, true},
		{"second vote, Was above its ballot", seekSome(2, 0), seekSay(4, 1, 99999), seekSome(2, 0, 1), none, 0, true},
		stays("the same votes again", seekTold(2, 12, 2), seekSay(4, 2, 0)),
		stays("a vote of no voter", seekTold(2, 12, 2), seekSay(4, 3, 0)),
		stays("a vote of a client", seekTold(2, 12, 2), seekSay(4, 101, 0)),
		stays("a no in phase 1", seekTold(1, 12, 2), seekSay(5, 0, 0)),
		stays("a no in phase 2", seekTold(2, 12, 2), seekSay(5, 0, 0)),
	}
}

func TestHearCaseByCase(t *testing.T) {
	for _, c := range seekCases() {
		for me := range 5 {
			after, words, chosen := impl.SynHear(c.before, me, c.word)
			if !seekSame(after, c.after) || chosen != c.chosen {
				t.Errorf("%s: %v hears %v, and is %v %v then, not %v %v", c.name, c.before, c.word, after, chosen, c.after, c.chosen)
			}
			if len(words) != c.asked || c.asked > 0 && !seekWordsSame(words, seekToAll(3, me, seekBallot, seekSlot, c.cmd)) {
				t.Errorf("%s: %v is sent", c.name, words)
			}
		}
	}
}

// seekHeard asks of a word what the document asks of it.
func seekHeard(t *testing.T, s impl.SynSeeker, me int, w impl.Word) {
	t.Helper()
	after, words, chosen := impl.SynHear(s, me, w)
	wantAfter, wantWords, wantChosen := seekDone(s, me, w)
	if chosen != wantChosen || !seekWordsSame(words, wantWords) || !seekSame(after, wantAfter) {
		t.Fatalf("%v of %d hears %v:\n%v %v %v, not\n%v %v %v", s, me, w, after, words, chosen, wantAfter, wantWords, wantChosen)
	}
}

func TestHearOfEachSeekerAndWord(t *testing.T) {
	for _, s := range seekersOk() {
		for place, w := range seekWords(s) {
			seekHeard(t, s, place%5, w)
		}
	}
}

// What a word says beside what the chapter names changes nothing: where it goes to among it.
func TestHearLooksAtNothingElse(t *testing.T) {
	for _, w := range wordsOk() {
		for place, s := range []impl.SynSeeker{seekSome(1), seekTold(1, 12, 1), seekSome(2), seekTold(2, 12, 2)} {
			w.Kind, w.From, w.Ballot, w.Slot = 2*s.Phase, 0, seekBallot, seekSlot
			seekHeard(t, s, place, w)
		}
	}
}

// A word counts at every ballot and slot that there are, and at no others.
func TestHearAtTheEnds(t *testing.T) {
	ends := []int{secLowest, -2, -1, 0, 1, 2, 59, 60, 61, 99998, 99999, 100000, secHighest}
	for _, slot := range ends {
		for _, ballot := range ends {
			for phase := range 4 {
				for _, yes := range [][]int{nil, {1}} {
					s := impl.SynSeeker{Slot: slot, Ballot: ballot, Phase: phase, Mine: seekMine, Yes: yes}
					for _, was := range []int{0, 1, ballot - 1, ballot} {
						w := seekSay(2*phase, 2, was)
						w.Slot, w.Ballot = slot, ballot
						seekHeard(t, s, 4, w)
					}
				}
			}
		}
	}
}

// seekRefused asks for the fixed answer: the seeker as it is, no words and false.
func seekRefused(t *testing.T, name string, s impl.SynSeeker, me int, w impl.Word) {
	t.Helper()
	if after, words, chosen := impl.SynHear(s, me, w); chosen || len(words) != 0 || !seekSame(after, s) {
		t.Errorf("%s: %v of %d hears %v: %v %v %v", name, s, me, w, after, words, chosen)
	}
}

// seekHand is seekers of both phases ahead of each yes.
func seekHand() []impl.SynSeeker {
	return []impl.SynSeeker{seekSome(1), seekSome(1, 0), seekSome(1, 1), seekTold(1, 12), seekTold(1, 12, 1), seekSome(2), seekSome(2, 0), seekSome(2, 1), seekTold(2, 12), seekTold(2, 12, 1)}
}

func TestHearOfSeekersThatAreNotOk(t *testing.T) {
	for name, s := range seekersBad() {
		for from := range 3 {
			for _, kind := range []int{2, 4} {
				w := seekSay(kind, from, 0)
				seekRefused(t, name, s, 0, w)
				w.Slot, w.Ballot = s.Slot, s.Ballot
				seekRefused(t, name, s, 4, w)
			}
		}
	}
}

func TestHearOfASeekerThatIsNothing(t *testing.T) {
	for _, s := range []impl.SynSeeker{{}, {Yes: []int{}}} {
		for kind := -1; kind <= 16; kind++ {
			for from := range 3 {
				seekRefused(t, "nothing", s, from, seekSay(kind, from, 0))
				seekRefused(t, "nothing", s, from, seekSay(kind, from, -1))
				seekRefused(t, "nothing, its own numbers", s, from, impl.Word{Kind: kind, From: from, Was: -1})
			}
		}
	}
}

func TestHearOfEachOtherKind(t *testing.T) {
	for _, s := range seekHand() {
		for kind := -1; kind <= 16; kind++ {
			for from := range 3 {
				if kind != 2*s.Phase {
					seekRefused(t, "another kind", s, 0, seekSay(kind, from, 0))
				}
			}
		}
	}
}

func TestHearOfWordsThatAreNotForASeeker(t *testing.T) {
	for name, w := range seekWordsBad() {
		for _, s := range seekHand() {
			seekRefused(t, name, s, 1, w)
		}
	}
	for name, w := range wordsBad() {
		seekRefused(t, name, seekSome(1, 0), 1, w)
	}
}

func TestHearOfWhoIsNoServer(t *testing.T) {
	for _, me := range []int{secLowest, -100, -2, -1, 5, 6, 100, 103, secHighest} {
		for _, s := range seekHand() {
			for from := range 3 {
				seekRefused(t, "no server", s, me, seekSay(2, from, 0))
				seekRefused(t, "no server", s, me, seekSay(4, from, 0))
			}
		}
	}
}
