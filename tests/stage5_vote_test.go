package tests

import (
	"math/rand/v2"
	"testing"

	"loop.example/pannier/impl"
)

func TestVoteLimits(t *testing.T) {
	if impl.SynVoters != 3 || impl.SynMaxSlots != 60 {
		t.Error(impl.SynVoters, impl.SynMaxSlots)
	}
}

func TestVoterOkOfVotersThatAre(t *testing.T) {
	for _, v := range votersOk() {
		if !voteGood(v) || !impl.SynVoterOk(v) {
			t.Fatalf("%v", v)
		}
	}
}

func TestVoterOkOfVotersThatAreNot(t *testing.T) {
	for name, v := range votersBad() {
		if voteGood(v) || impl.SynVoterOk(v) {
			t.Errorf("%s: %v", name, v)
		}
	}
}

// Any voters, some of them wrong in one place.
func TestVoterOkAsItIsRead(t *testing.T) {
	r := rand.New(rand.NewPCG(53, 54))
	wrong := []int{-2, -1, 0, 1, 7, 8, 30, 60, 61, 99999, 100000}
	good := 0
	for range 3000 {
		v := voteRandom(r)
		n := wrong[r.IntN(len(wrong))]
		place := r.IntN(len(v.Papers) + 1)
		switch field := r.IntN(5); {
		case field == 0 || place == len(v.Papers):
			v.Promised = n
		case field == 1:
			v.Papers[place].Slot = n
		case field == 2:
			v.Papers[place].Ballot = n
		case field == 3:
			v.Papers[place].Cmd.Kind = n
		default:
			v.Papers[place].Cmd.Range = n
		}
		if impl.SynVoterOk(v) != voteGood(v) {
			t.Fatalf("%v: %v", v, impl.SynVoterOk(v))
		}
		if voteGood(v) {
			good++
		}
	}
	if good < 500 || good > 2500 {
		t.Errorf("%d of 3000 are ok", good)
	}
}

// voteCase is a word to the voter of voteSome, what is answered, and what its paper of the word's slot is then.
type voteCase struct {
	name               string
	kind, ballot, slot int
	answer, was        int
	cmd                impl.Cmd
	promised           int
	paper              impl.SynPaper
}

func voteCases() []voteCase {
	mine := wordLoud().Cmd
	put := func(slot, ballot int) impl.SynPaper { return impl.SynPaper{Slot: slot, Ballot: ballot, Cmd: mine} }
	none, old := impl.Cmd{}, votePaper(3, 20)
	return []voteCase{
		{"prepare, a ballot below", 1, 49, 3, 5, 50, none, 50, old},
		{"prepare, a ballot below that of the paper", 1, 19, 3, 5, 50, none, 50, old},
		{"prepare, the ballot of the paper", 1, 20, 3, 5, 50, none, 50, old},
		{"prepare, the same ballot", 1, 50, 3, 5, 50, none, 50, old},
		{"prepare, the same ballot, no paper", 1, 50, 4, 5, 50, none, 50, impl.SynPaper{}},
		{"prepare, the same ballot, a paper by it", 1, 50, 5, 5, 50, none, 50, votePaper(5, 50)},
		{"prepare, the least ballot", 1, 1, 3, 5, 50, none, 50, old},
		{"prepare, one above", 1, 51, 3, 2, 20, old.Cmd, 51, old},
		{"prepare, far above", 1, 99999, 3, 2, 20, old.Cmd, 99999, old},
		{"prepare, a paper by the promise", 1, 51, 5, 2, 50, votePaper(5, 50).Cmd, 51, votePaper(5, 50)},
		{"prepare, a paper behind that", 1, 51, 6, 2, 1, votePaper(6, 1).Cmd, 51, votePaper(6, 1)},
		{"prepare, the last paper", 1, 51, 40, 2, 49, votePaper(40, 49).Cmd, 51, votePaper(40, 49)},
		{"prepare, ahead of all papers", 1, 51, 1, 2, 0, none, 51, impl.SynPaper{}},
		{"prepare, right ahead of a paper", 1, 51, 2, 2, 0, none, 51, impl.SynPaper{}},
		{"prepare, between papers", 1, 51, 4, 2, 0, none, 51, impl.SynPaper{}},
		{"prepare, right behind a paper", 1, 51, 7, 2, 0, none, 51, impl.SynPaper{}},
		{"prepare, behind all papers", 1, 51, 60, 2, 0, none, 51, impl.SynPaper{}},
		{"accept, a ballot below", 3, 49, 3, 5, 50, none, 50, old},
		{"accept, a ballot below, no paper", 3, 49, 4, 5, 50, none, 50, impl.SynPaper{}},
		{"accept, the ballot of the paper", 3, 20, 3, 5, 50, none, 50, old},
		{"accept, the least ballot", 3, 1, 6, 5, 50, none, 50, votePaper(6, 1)},
		{"accept, the same ballot", 3, 50, 3, 4, 0, none, 50, put(3, 50)},
		{"accept, the same ballot, a paper by it", 3, 50, 5, 4, 0, none, 50, put(5, 50)},
		{"accept, the same ballot, no paper", 3, 50, 4, 4, 0, none, 50, put(4, 50)},
		{"accept, one above", 3, 51, 3, 4, 0, none, 51, put(3, 51)},
		{"accept, far above", 3, 99999, 40, 4, 0, none, 99999, put(40, 99999)},
		{"accept, ahead of all papers", 3, 51, 1, 4, 0, none, 51, put(1, 51)},
		{"accept, between papers", 3, 51, 30, 4, 0, none, 51, put(30, 51)},
		{"accept, behind all papers", 3, 51, 60, 4, 0, none, 51, put(60, 51)},
	}
}

func TestVoteCaseByCase(t *testing.T) {
	for _, c := range voteCases() {
		for me := range 3 {
			after, answer, ok := impl.SynVote(voteSome(), me, voteAsk(c.kind, c.ballot, c.slot))
			want := impl.Word{Kind: c.answer, From: me, To: 3, Ballot: c.ballot, Slot: c.slot, Was: c.was, Cmd: c.cmd}
			if !ok || !wordSame(answer, want) {
				t.Errorf("%s: %v is answered, not %v", c.name, answer, want)
			}
			if after.Promised != c.promised || votePaperOf(after, c.slot) != c.paper {
				t.Errorf("%s: the voter is %v then", c.name, after)
			}
			voteOthersStay(t, c.name, voteSome(), after, c.slot)
		}
	}
}

// votePaperOf is the paper of a slot; nothing, if there is none.
func votePaperOf(v impl.SynVoter, slot int) impl.SynPaper {
	for _, p := range v.Papers {
		if p.Slot == slot {
			return p
		}
	}
	return impl.SynPaper{}
}

// voteOthersStay asks that the papers of all slots but one are as they were.
func voteOthersStay(t *testing.T, name string, before, after impl.SynVoter, slot int) {
	t.Helper()
	for other := 1; other <= 60; other++ {
		if other != slot && votePaperOf(before, other) != votePaperOf(after, other) {
			t.Fatalf("%s: the paper of the slot %d was %v, and is %v", name, other, votePaperOf(before, other), votePaperOf(after, other))
		}
	}
}

// voteAsked asks of a word what the document asks of it.
func voteAsked(t *testing.T, v impl.SynVoter, me int, w impl.Word) {
	t.Helper()
	after, answer, ok := impl.SynVote(v, me, w)
	wantAfter, wantAnswer, wantOk := voteDone(v, me, w)
	if ok != wantOk || !wordSame(answer, wantAnswer) || !voteSame(after, wantAfter) {
		t.Fatalf("%v of %d hears %v:\n%v %v %v, not\n%v %v %v", v, me, w, after, answer, ok, wantAfter, wantAnswer, wantOk)
	}
}

func TestVoteOfEachVoterAndWord(t *testing.T) {
	for _, v := range votersOk() {
		for place, w := range voteWords(v) {
			voteAsked(t, v, place%3, w)
		}
	}
}

// What a word says beside what the chapter names changes nothing: where it goes to among it.
func TestVoteLooksAtNothingElse(t *testing.T) {
	for _, w := range wordsOk() {
		for place, kind := range []int{1, 3, 1, 3} {
			w.Kind, w.Ballot, w.Slot = kind, 49+place, []int{3, 4, 60}[place%3]
			voteAsked(t, voteSome(), place%3, w)
		}
	}
}

func TestVoteAtTheEnds(t *testing.T) {
	ends := []int{secLowest, -2, -1, 0, 1, 2, 59, 60, 61, 99998, 99999, 100000, secHighest}
	voters := []impl.SynVoter{{}, voteSome(), {Promised: 99999}, {Promised: 99999, Papers: voteFull(60)}, {Promised: -1}, {Promised: 100000}}
	for _, v := range voters {
		for _, slot := range ends {
			for _, ballot := range ends {
				for _, kind := range []int{1, 3} {
					voteAsked(t, v, 0, voteAsk(kind, ballot, slot))
				}
			}
		}
	}
}

// Each end once more, with what is to be answered written out.
func TestVoteAtTheEndsByHand(t *testing.T) {
	for _, c := range []struct {
		promised, me, kind, ballot, slot int
		answer                           int
	}{
		{0, 0, 1, 1, 1, 2}, {0, 0, 3, 1, 1, 4}, {0, 2, 1, 99999, 60, 2}, {0, 2, 3, 99999, 60, 4},
		{99999, 1, 1, 99999, 1, 5}, {99999, 1, 3, 99999, 60, 4}, {99999, 1, 1, 99998, 1, 5}, {99999, 1, 3, 99998, 1, 5},
		{0, 0, 1, 0, 1, 0}, {0, 0, 3, 0, 1, 0}, {0, 0, 1, -1, 1, 0}, {0, 0, 3, -1, 1, 0}, {0, 0, 1, 100000, 1, 0}, {0, 0, 3, 100000, 1, 0},
		{0, 0, 1, 1, 0, 0}, {0, 0, 3, 1, 0, 0}, {0, 0, 1, 1, -1, 0}, {0, 0, 3, 1, 61, 0}, {0, 0, 1, 1, 61, 0},
		{0, -1, 1, 1, 1, 0}, {0, -1, 3, 1, 1, 0}, {0, 3, 1, 1, 1, 0}, {0, 3, 3, 1, 1, 0}, {0, 100, 1, 1, 1, 0},
		{-1, 0, 1, 1, 1, 0}, {-1, 0, 3, 1, 1, 0}, {100000, 0, 1, 1, 1, 0}, {100000, 0, 3, 99999, 1, 0},
	} {
		v := impl.SynVoter{Promised: c.promised}
		after, answer, ok := impl.SynVote(v, c.me, impl.Word{Kind: c.kind, From: 4, Ballot: c.ballot, Slot: c.slot})
		if ok != (c.answer != 0) || answer.Kind != c.answer {
			t.Errorf("%v: %v %v", c, answer, ok)
		}
		if !ok && (!wordNothing(answer) || !voteSame(after, v)) {
			t.Errorf("%v: %v %v beside a false", c, after, answer)
		}
	}
}

func TestVoteOfAVoterWithAllPapers(t *testing.T) {
	v := impl.SynVoter{Promised: 50, Papers: voteFull(60)}
	for slot := 1; slot <= 60; slot++ {
		after, answer, ok := impl.SynVote(v, 1, voteAsk(3, 50, slot))
		if !ok || answer.Kind != 4 || len(after.Papers) != 60 || after.Papers[slot-1] != (impl.SynPaper{Slot: slot, Ballot: 50, Cmd: wordLoud().Cmd}) {
			t.Fatalf("%d: %v %v", slot, answer, after)
		}
		voteOthersStay(t, "all papers", v, after, slot)
		_, answer, ok = impl.SynVote(v, 1, voteAsk(1, 51, slot))
		if !ok || answer.Kind != 2 || answer.Was != v.Papers[slot-1].Ballot || answer.Cmd != v.Papers[slot-1].Cmd {
			t.Fatalf("%d: %v", slot, answer)
		}
	}
}

// All slots are voted for, in any order.
func TestVoteFillsAllSlots(t *testing.T) {
	r := rand.New(rand.NewPCG(55, 56))
	for range 20 {
		v := impl.SynVoter{}
		for n, place := range r.Perm(60) {
			w := voteAsk(3, 7, place+1)
			w.Cmd = voteCmd(n)
			after, answer, ok := impl.SynVote(v, 0, w)
			if !ok || answer.Kind != 4 || len(after.Papers) != n+1 || votePaperOf(after, place+1).Cmd != w.Cmd || !impl.SynVoterOk(after) {
				t.Fatalf("%v hears %v: %v %v", v, w, after, answer)
			}
			voteOthersStay(t, "all slots", v, after, place+1)
			v = after
		}
	}
}

// voteRefused asks for the fixed answer: the voter as it is, nothing and false.
func voteRefused(t *testing.T, name string, v impl.SynVoter, me int, w impl.Word) {
	t.Helper()
	if after, answer, ok := impl.SynVote(v, me, w); ok || !wordNothing(answer) || !voteSame(after, v) {
		t.Errorf("%s: %v of %d hears %v: %v %v %v", name, v, me, w, after, answer, ok)
	}
}

func TestVoteOfVotersThatAreNotOk(t *testing.T) {
	for name, v := range votersBad() {
		for _, slot := range []int{1, 2, 3, 60} {
			for _, ballot := range []int{1, 50, 51, 99999} {
				voteRefused(t, name, v, 0, voteAsk(1, ballot, slot))
				voteRefused(t, name, v, 2, voteAsk(3, ballot, slot))
			}
		}
	}
}

func TestVoteOfWordsThatAreNotForAVoter(t *testing.T) {
	for name, w := range voteWordsBad() {
		for _, v := range []impl.SynVoter{{}, voteSome(), {Promised: 50, Papers: voteFull(60)}} {
			voteRefused(t, name, v, 1, w)
		}
	}
	for name, w := range wordsBad() {
		voteRefused(t, name, voteSome(), 1, w)
	}
}

func TestVoteOfEachOtherKind(t *testing.T) {
	for kind := -1; kind <= 16; kind++ {
		for _, ballot := range []int{1, 50, 51, 99999} {
			if kind != 1 && kind != 3 {
				voteRefused(t, "another kind", voteSome(), 0, voteAsk(kind, ballot, 3))
			}
		}
	}
}

func TestVoteOfWhoIsNoVoter(t *testing.T) {
	for _, me := range []int{secLowest, -100, -2, -1, 3, 4, 5, 100, 103, secHighest} {
		for _, v := range []impl.SynVoter{{}, voteSome()} {
			for _, ballot := range []int{1, 50, 51, 99999} {
				voteRefused(t, "no voter", v, me, voteAsk(1, ballot, 3))
				voteRefused(t, "no voter", v, me, voteAsk(3, ballot, 3))
			}
		}
	}
}
