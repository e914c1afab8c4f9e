package tests

import (
	"maps"
	"math/rand/v2"
	"slices"
	"testing"

	"loop.example/pannier/impl"
)

// voteDiary is what a voter said in a row of words, told by its answers alone.
type voteDiary struct {
	promised int
	votes    map[int]impl.SynPaper
}

// voteHeard lets a voter hear a word, asks for all parts of P18, and notes what it said.
func voteHeard(t *testing.T, diary *voteDiary, v impl.SynVoter, w impl.Word) impl.SynVoter {
	t.Helper()
	after, answer, ok := impl.SynVote(v, 1, w)
	voteHolds(t, v, w, after)
	switch {
	case !ok || answer.Kind == impl.WordDenied:
		if !voteSame(after, v) {
			t.Fatalf("%v says no to %v, and is %v then", v, w, after)
		}
	case answer.Kind == impl.WordPromise:
		if w.Ballot <= diary.promised || answer.Was != diary.votes[w.Slot].Ballot || answer.Cmd != diary.votes[w.Slot].Cmd {
			t.Fatalf("a promise by %d behind one by %d tells %v, where %v was voted for", w.Ballot, diary.promised, answer, diary.votes[w.Slot])
		}
		diary.promised = w.Ballot
	case answer.Kind == impl.WordAccepted:
		if w.Ballot < diary.promised || w.Ballot < diary.votes[w.Slot].Ballot {
			t.Fatalf("a vote by %d, behind a promise by %d and a vote for %v", w.Ballot, diary.promised, diary.votes[w.Slot])
		}
		diary.promised = w.Ballot
		diary.votes[w.Slot] = impl.SynPaper{Slot: w.Slot, Ballot: w.Ballot, Cmd: w.Cmd}
	}
	voteAsTold(t, *diary, after)
	return after
}

// voteHolds asks of one word: what was promised does not fall, what is voted for anew is by a ballot that is not below, and no paper goes.
func voteHolds(t *testing.T, before impl.SynVoter, w impl.Word, after impl.SynVoter) {
	t.Helper()
	if after.Promised < before.Promised || !impl.SynVoterOk(after) {
		t.Fatalf("%v hears %v, and is %v then", before, w, after)
	}
	for slot := 1; slot <= 60; slot++ {
		was, is := votePaperOf(before, slot), votePaperOf(after, slot)
		if was == is {
			continue
		}
		if w.Kind != impl.WordAccept || slot != w.Slot || is.Ballot < before.Promised || is.Ballot < was.Ballot || is.Ballot != w.Ballot || is.Cmd != w.Cmd {
			t.Fatalf("%v hears %v, and its paper %v is %v then", before, w, was, is)
		}
	}
}

// voteAsTold asks that a voter has just what it said.
func voteAsTold(t *testing.T, diary voteDiary, v impl.SynVoter) {
	t.Helper()
	if v.Promised != diary.promised || len(v.Papers) != len(diary.votes) {
		t.Fatalf("%v said %v", v, diary)
	}
	for slot, p := range diary.votes {
		if votePaperOf(v, slot) != p {
			t.Fatalf("%v said %v", v, diary)
		}
	}
}

// voteRow lets a voter that has not heard anything yet hear a row of words.
func voteRow(t *testing.T, row []impl.Word) (impl.SynVoter, voteDiary) {
	t.Helper()
	v, diary := impl.SynVoter{}, voteDiary{votes: map[int]impl.SynPaper{}}
	for _, w := range row {
		v = voteHeard(t, &diary, v, w)
	}
	return v, diary
}

// P18. A voter never takes back a promise: in all rows of four words of both kinds, of three ballots and two slots.
func TestP18InAllShortRows(t *testing.T) {
	var words []impl.Word
	for _, kind := range []int{impl.WordPrepare, impl.WordAccept} {
		for ballot := 1; ballot <= 3; ballot++ {
			for slot := 1; slot <= 2; slot++ {
				words = append(words, impl.Word{Kind: kind, From: 2, To: 1, Ballot: ballot, Slot: slot})
			}
		}
	}
	n := len(words)
	for code := range n * n * n * n {
		row := []impl.Word{words[code%n], words[code/n%n], words[code/n/n%n], words[code/n/n/n]}
		for place := range row {
			row[place].Cmd = voteCmd(100 * place)
		}
		voteRow(t, row)
	}
}

// P18 in long rows: few slots or all, ballots that grow, fall and are the same, and words that no voter does anything with between.
func TestP18InLongRows(t *testing.T) {
	r := rand.New(rand.NewPCG(57, 58))
	bad := voteWordsBad()
	names := slices.Sorted(maps.Keys(bad))
	votes := 0
	for range 200 {
		slots, height := []int{1, 3, 60}[r.IntN(3)], []int{4, 40, 99900}[r.IntN(3)]
		var row []impl.Word
		for place := range 200 {
			w := impl.Word{Kind: 1 + 2*r.IntN(2), From: r.IntN(5), To: 1, Ballot: 1 + r.IntN(1+place*height/200), Slot: 1 + r.IntN(slots), Cmd: voteCmd(r.IntN(90000))}
			if r.IntN(10) == 0 {
				w = bad[names[r.IntN(len(names))]]
			}
			row = append(row, w)
		}
		v, diary := voteRow(t, row)
		votes += len(diary.votes)
		if v.Promised == 0 {
			t.Fatal("nothing was promised")
		}
	}
	if votes < 1000 {
		t.Errorf("only %d votes stand", votes)
	}
}

// P18 from every voter on, by every word.
func TestP18OfEachVoter(t *testing.T) {
	for _, v := range votersOk() {
		diary := voteDiary{promised: v.Promised, votes: map[int]impl.SynPaper{}}
		for _, p := range v.Papers {
			diary.votes[p.Slot] = p
		}
		for _, w := range voteWords(v) {
			next := voteDiary{promised: diary.promised, votes: maps.Clone(diary.votes)}
			voteHeard(t, &next, v, w)
		}
	}
}

// P18: what was promised only grows, whichever the slot is that it was promised for.
func TestP18APromiseIsForAllSlots(t *testing.T) {
	v, _ := voteRow(t, []impl.Word{{Kind: impl.WordPrepare, Ballot: 9, Slot: 1}})
	for slot := 1; slot <= 60; slot++ {
		for _, w := range []impl.Word{{Kind: impl.WordPrepare, Ballot: 9, Slot: slot}, {Kind: impl.WordPrepare, Ballot: 8, Slot: slot}, {Kind: impl.WordAccept, Ballot: 8, Slot: slot}} {
			after, answer, ok := impl.SynVote(v, 0, w)
			if !ok || answer.Kind != impl.WordDenied || answer.Was != 9 || !voteSame(after, v) {
				t.Errorf("%v: %v %v", w, answer, after)
			}
		}
	}
}

// P18: a vote is a promise too, and what was voted for stays behind a promise by a greater ballot.
func TestP18WhatWasVotedForStays(t *testing.T) {
	first := impl.SynPaper{Slot: 4, Ballot: 12, Cmd: voteCmd(1)}
	v, _ := voteRow(t, []impl.Word{
		{Kind: impl.WordAccept, Ballot: 12, Slot: 4, Cmd: first.Cmd},
		{Kind: impl.WordAccept, Ballot: 11, Slot: 4, Cmd: voteCmd(2)},
		{Kind: impl.WordPrepare, Ballot: 12, Slot: 4},
		{Kind: impl.WordPrepare, Ballot: 20, Slot: 4},
		{Kind: impl.WordAccept, Ballot: 19, Slot: 4, Cmd: voteCmd(3)},
		{Kind: impl.WordAccept, Ballot: 20, Slot: 5, Cmd: voteCmd(4)},
		{Kind: impl.WordPrepare, Ballot: 30, Slot: 5},
	})
	if v.Promised != 30 || votePaperOf(v, 4) != first || votePaperOf(v, 5) != (impl.SynPaper{Slot: 5, Ballot: 20, Cmd: voteCmd(4)}) {
		t.Errorf("%v", v)
	}
}
