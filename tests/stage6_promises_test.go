package tests

import (
	"maps"
	"math/rand/v2"
	"slices"
	"testing"

	"loop.example/pannier/impl"
)

// seekDiary is what a seeker of the slot and the ballot given by hand was told, by the words alone: who promised, what was voted for by the greatest ballot, and who voted behind that.
type seekDiary struct {
	promised, voted [3]bool
	best            impl.SynPaper
}

func seekCount(voters [3]bool) int {
	n := 0
	for _, yes := range voters {
		if yes {
			n++
		}
	}
	return n
}

// note takes a word into the diary; it says whether the word is the second promise, and whether it is the second vote.
func (d *seekDiary) note(w impl.Word) (bool, bool) {
	if w.From > 2 || w.Ballot != seekBallot || w.Slot != seekSlot || !wordGood(w) {
		return false, false
	}
	before := *d
	asked := seekCount(d.promised) == 2
	switch {
	case !asked && w.Kind == impl.WordPromise && w.Was < seekBallot && !d.promised[w.From]:
		d.promised[w.From] = true
		if w.Was > d.best.Ballot {
			d.best = impl.SynPaper{Slot: seekSlot, Ballot: w.Was, Cmd: w.Cmd}
		}
	case asked && w.Kind == impl.WordAccepted:
		d.voted[w.From] = true
	}
	return seekCount(d.promised) > seekCount(before.promised) && seekCount(d.promised) == 2, seekCount(d.voted) > seekCount(before.voted) && seekCount(d.voted) == 2
}

// seekFollow lets a seeker hear a word, and asks for all parts of P19; true, if its command is chosen.
func seekFollow(t *testing.T, d *seekDiary, s impl.SynSeeker, w impl.Word) (impl.SynSeeker, bool) {
	t.Helper()
	after, words, chosen := impl.SynHear(s, 4, w)
	asks, chooses := d.note(w)
	var want []impl.Word
	if asks {
		cmd := seekMine
		if d.best.Ballot > 0 {
			cmd = d.best.Cmd
		}
		want = seekToAll(impl.WordAccept, 4, seekBallot, seekSlot, cmd)
	}
	if !seekWordsSame(words, want) {
		t.Fatalf("%v hears %v: it asks %v, not %v", s, w, words, want)
	}
	if chosen != chooses {
		t.Fatalf("%v hears %v: chosen is %v", s, w, chosen)
	}
	if !chosen && !impl.SynSeekerOk(after) || after.Mine != seekMine || after.Slot != seekSlot || after.Ballot != seekBallot {
		t.Fatalf("%v hears %v, and is %v then", s, w, after)
	}
	return after, chosen
}

func seekStart(t *testing.T) impl.SynSeeker {
	t.Helper()
	s, words := impl.SynSeek(4, 2, seekSlot, seekMine)
	if s.Ballot != seekBallot || len(words) != 3 {
		t.Fatalf("%v %v", s, words)
	}
	return s
}

// seekTree lets a seeker hear all rows of words that are not longer than depth.
func seekTree(t *testing.T, d seekDiary, s impl.SynSeeker, words []impl.Word, depth int) int {
	t.Helper()
	if depth == 0 {
		return 0
	}
	found := 0
	for place, w := range words {
		w.Cmd = voteCmd(100*depth + place)
		next := d
		after, chosen := seekFollow(t, &next, s, w)
		if chosen {
			found++
			continue
		}
		found += seekTree(t, next, after, words, depth-1)
	}
	return found
}

// P19 in all rows of five words of both kinds, of all voters, told of nothing and of two ballots.
func TestP19InAllShortRows(t *testing.T) {
	var words []impl.Word
	for from := range 3 {
		for _, was := range []int{0, 5, 19} {
			words = append(words, seekSay(impl.WordPromise, from, was))
		}
		words = append(words, seekSay(impl.WordAccepted, from, 0))
	}
	if found := seekTree(t, seekDiary{}, seekStart(t), words, 5); found == 0 {
		t.Error("nothing was ever chosen")
	}
}

// P19: in each order of the voters, told of each ballots, what the first two were told is put forward, and two of them choose it.
func TestP19InEachOrderOfTheVoters(t *testing.T) {
	orders := [][]int{{0, 1, 2}, {0, 2, 1}, {1, 0, 2}, {1, 2, 0}, {2, 0, 1}, {2, 1, 0}}
	for _, order := range orders {
		for code := range 125 {
			wases := []int{0, 1, 12, 13, 19}
			was := []int{wases[code%5], wases[code/5%5], wases[code/25]}
			want := seekMine
			if most := max(was[0], was[1]); most > 0 {
				want = seekCmd(most)
			}
			s := seekStart(t)
			s, words, _ := impl.SynHear(s, 4, seekSay(2, order[0], was[0]))
			if len(words) != 0 || s.Phase != 1 {
				t.Fatalf("%v %v: %v behind one promise", order, was, words)
			}
			s, words, _ = impl.SynHear(s, 4, seekSay(2, order[1], was[1]))
			if !seekWordsSame(words, seekToAll(3, 4, seekBallot, seekSlot, want)) {
				t.Fatalf("%v %v: %v behind two promises, not %v", order, was, words, want)
			}
			late, words, chosen := impl.SynHear(s, 4, seekSay(2, order[2], was[2]))
			if len(words) != 0 || chosen || !seekSame(late, s) {
				t.Fatalf("%v %v: %v behind a late promise", order, was, late)
			}
			for _, votes := range orders {
				seekVotes(t, s, votes)
			}
		}
	}
}

// seekVotes lets all vote in an order: the second vote chooses, not the first, however often it comes.
func seekVotes(t *testing.T, s impl.SynSeeker, order []int) {
	t.Helper()
	one, words, chosen := impl.SynHear(s, 4, seekSay(4, order[0], 0))
	if chosen || len(words) != 0 {
		t.Fatalf("%v: one vote chooses", order)
	}
	again, words, chosen := impl.SynHear(one, 4, seekSay(4, order[0], 0))
	if chosen || len(words) != 0 || !seekSame(again, one) {
		t.Fatalf("%v: one vote is counted twice", order)
	}
	two, words, chosen := impl.SynHear(again, 4, seekSay(4, order[1], 0))
	if !chosen || len(words) != 0 || !slices.Equal(two.Yes, order[:2]) || two.Phase != 2 || two.Best != s.Best {
		t.Fatalf("%v: two votes do not choose: %v", order, two)
	}
	// What is chosen is told once: the seeker is not ok then.
	if after, words, chosen := impl.SynHear(two, 4, seekSay(4, order[2], 0)); chosen || len(words) != 0 || !seekSame(after, two) {
		t.Fatalf("%v: a third vote chooses once more: %v", order, after)
	}
}

// P19: each once: one voter alone never brings a seeker on, however often it says yes.
func TestP19OneVoterAlone(t *testing.T) {
	for from := range 3 {
		s := seekStart(t)
		for n := range 10 {
			after, words, chosen := impl.SynHear(s, 4, seekSay(2, from, n))
			if len(words) != 0 || chosen || after.Phase != 1 || after.Best.Ballot != 0 || !slices.Equal(after.Yes, []int{from}) {
				t.Fatalf("%d says yes %d times: %v %v", from, n+1, after, words)
			}
			s = after
		}
		s = seekSome(2)
		for n := range 10 {
			after, words, chosen := impl.SynHear(s, 4, seekSay(4, from, n))
			if len(words) != 0 || chosen || !slices.Equal(after.Yes, []int{from}) {
				t.Fatalf("%d votes %d times: %v %v", from, n+1, after, words)
			}
			s = after
		}
	}
}

// P19: who promised may vote as well, and a vote of who did not promise is as good.
func TestP19VotesAreCountedAnew(t *testing.T) {
	d, s := seekDiary{}, seekStart(t)
	for _, w := range []impl.Word{seekSay(2, 0, 0), seekSay(4, 1, 0), seekSay(4, 2, 0), seekSay(2, 2, 5), seekSay(2, 1, 9), seekSay(4, 2, 0), seekSay(4, 2, 0)} {
		after, chosen := seekFollow(t, &d, s, w)
		if chosen {
			t.Fatalf("chosen by %v", w)
		}
		s = after
	}
	if _, chosen := seekFollow(t, &d, s, seekSay(4, 1, 0)); !chosen {
		t.Error("two votes do not choose")
	}
}

// P19 in long rows: words of any voters, doubled and out of turn, and words that no seeker does anything with between.
func TestP19InLongRows(t *testing.T) {
	r := rand.New(rand.NewPCG(65, 66))
	bad := seekWordsBad()
	names := slices.Sorted(maps.Keys(bad))
	found := 0
	for range 3000 {
		d, s := seekDiary{}, seekStart(t)
		for range 30 {
			w := seekSay(2+2*r.IntN(2), r.IntN(4), r.IntN(seekBallot+2))
			w.Cmd = voteCmd(r.IntN(90000))
			switch r.IntN(4) {
			case 0:
				w = bad[names[r.IntN(len(names))]]
			case 1:
				w.Ballot += r.IntN(3) - 1
				w.Slot += r.IntN(3) - 1
			}
			after, chosen := seekFollow(t, &d, s, w)
			s = after
			if chosen {
				found++
				break
			}
		}
	}
	if found < 500 {
		t.Errorf("only %d of 3000 choose", found)
	}
}

// seekPoll lets two voters of three hear words and a seeker their answers, in order; the words that it sends then, and whether its command is chosen.
func seekPoll(t *testing.T, voters *[3]impl.SynVoter, s impl.SynSeeker, me int, words []impl.Word, pair [2]int) (impl.SynSeeker, []impl.Word, bool) {
	t.Helper()
	var sent []impl.Word
	chosen := false
	for _, voter := range pair {
		after, answer, ok := impl.SynVote(voters[voter], voter, words[voter])
		if !ok {
			t.Fatalf("%d does nothing with %v", voter, words[voter])
		}
		voters[voter] = after
		s, sent, chosen = impl.SynHear(s, me, answer)
	}
	return s, sent, chosen
}

// P19, with voters: what two of three have voted for is put forward by every later seeker, whichever two it asks.
func TestP19WhatWasChosenIsPutForward(t *testing.T) {
	pairs := [][2]int{{0, 1}, {1, 0}, {0, 2}, {2, 0}, {1, 2}, {2, 1}}
	for code := range 6 * 6 * 6 * 6 {
		var voters [3]impl.SynVoter
		rows := [][2][2]int{{pairs[code%6], pairs[code/6%6]}, {pairs[code/36%6], pairs[code/216]}}
		for round, row := range rows {
			me := 1 + 2*round
			s, words := impl.SynSeek(me, round+1, 5, voteCmd(10*me))
			s, words, _ = seekPoll(t, &voters, s, me, words, row[0])
			if len(words) != 3 || words[0].Cmd != voteCmd(10) || words[2].Cmd != voteCmd(10) {
				t.Fatalf("%v: %v is put forward", row, words)
			}
			if s, words, chosen := seekPoll(t, &voters, s, me, words, row[1]); !chosen || len(words) != 0 || s.Mine != voteCmd(10*me) {
				t.Fatalf("%v: %v %v", row, s, words)
			}
		}
	}
}
