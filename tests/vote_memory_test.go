package tests

import (
	"testing"

	"loop.example/pannier/impl"
)

var (
	voteMark = impl.SynPaper{Slot: -7, Ballot: -7, Cmd: impl.Cmd{Kind: -7, B: -7}}
	voteOver = impl.SynPaper{Slot: -9, Ballot: -9, Cmd: impl.Cmd{Kind: -9, B: -9}}
)

// voteArgs is what SynVote is given.
type voteArgs struct {
	voter impl.SynVoter
	me    int
	word  impl.Word
}

func (a voteArgs) roomy() voteArgs {
	a.voter.Papers, a.word = walRoom(a.voter.Papers, voteMark), wordRoomy(a.word)
	return a
}

func (a voteArgs) stays(was voteArgs) bool {
	return a.voter.Promised == was.voter.Promised && walHeld(a.voter.Papers, was.voter.Papers, voteMark) && wordHeld(a.word, was.word)
}

func (a voteArgs) scrawl() {
	walScrawl(a.voter.Papers, voteOver)
	wordScrawl(a.word)
}

// voteMemoryArgs is words that are voted on, denied and refused, of voters that are ok and of those that are not.
func voteMemoryArgs() []voteArgs {
	var out []voteArgs
	for _, v := range votersOk() {
		for place, w := range voteWords(v) {
			out = append(out, voteArgs{v, place % 4, w})
		}
	}
	for _, v := range votersBad() {
		out = append(out, voteArgs{v, 0, voteAsk(1, 99999, 3)}, voteArgs{v, 2, voteAsk(3, 99999, 3)})
	}
	for _, w := range voteWordsBad() {
		out = append(out, voteArgs{voteSome(), 1, w}, voteArgs{impl.SynVoter{Promised: 50, Papers: voteFull(60)}, 1, w})
	}
	return out
}

func TestVoteNothingIsWrittenIntoAnArgument(t *testing.T) {
	for _, args := range voteMemoryArgs() {
		given := args.roomy()
		ok := impl.SynVoterOk(given.voter)
		impl.SynVote(given.voter, given.me, given.word)
		if !given.stays(args) || ok != impl.SynVoterOk(args.voter) {
			t.Fatalf("%v is written into", args)
		}
	}
}

func TestVoteAnAnswerSharesNoMemoryWithAnArgument(t *testing.T) {
	for _, args := range voteMemoryArgs() {
		given := args.roomy()
		after, answer, _ := impl.SynVote(given.voter, given.me, given.word)
		wantAfter, wantAnswer := voteCopied(after), wordCopied(answer)
		given.scrawl()
		if !voteSame(after, wantAfter) || !wordSame(answer, wantAnswer) {
			t.Fatalf("%v: what is written into the argument is seen in the answer", args)
		}
		given = args.roomy()
		after, answer, _ = impl.SynVote(given.voter, given.me, given.word)
		voteArgs{voter: after, word: answer}.scrawl()
		if !given.stays(args) {
			t.Fatalf("%v: what is written into the answer is seen in the argument", args)
		}
	}
}

func TestVoteNothingIsKeptBetweenCalls(t *testing.T) {
	for _, args := range voteMemoryArgs() {
		after, answer, ok := impl.SynVote(args.voter, args.me, args.word)
		wantAfter, wantAnswer := voteCopied(after), wordCopied(answer)
		voteArgs{voter: after, word: answer}.scrawl()
		again, second, same := impl.SynVote(args.voter, args.me, args.word)
		if same != ok || !voteSame(again, wantAfter) || !wordSame(second, wantAnswer) {
			t.Fatalf("%v: called again it answers otherwise", args)
		}
	}
}

// Papers behind the end of a list are not of it, though they would be just those of the word's slot.
func TestVoteReadsNothingBehindAnEnd(t *testing.T) {
	all := impl.SynVoter{Promised: 50, Papers: voteFull(60)}
	for n := range len(all.Papers) + 1 {
		v := impl.SynVoter{Promised: 50, Papers: all.Papers[:n]}
		for _, slot := range []int{1, max(n, 1), min(n+1, 60), 60} {
			voteAsked(t, v, 0, voteAsk(1, 51, slot))
			voteAsked(t, v, 0, voteAsk(3, 50, slot))
			voteAsked(t, v, 0, voteAsk(3, 49, slot))
		}
	}
	bad := append(voteFull(3), voteMark, voteFull(60)[0])
	if !impl.SynVoterOk(impl.SynVoter{Promised: 50, Papers: bad[:3]}) || impl.SynVoterOk(impl.SynVoter{Promised: 50, Papers: bad}) {
		t.Error("what lies behind the end is looked at, or what lies ahead of it is not")
	}
}
