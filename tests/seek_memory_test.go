package tests

import (
	"slices"
	"testing"

	"loop.example/pannier/impl"
)

// seekArgs is what SynHear is given.
type seekArgs struct {
	seeker impl.SynSeeker
	me     int
	word   impl.Word
}

// The room behind Yes is marked with a number that is no voter's, and written over with one that is.
const (
	seekMark = -7
	seekOver = 2
)

func (a seekArgs) roomy() seekArgs {
	a.seeker.Yes, a.word = walRoom(a.seeker.Yes, seekMark), wordRoomy(a.word)
	return a
}

func (a seekArgs) stays(was seekArgs) bool {
	return seekSame(a.seeker, was.seeker) && walHeld(a.seeker.Yes, was.seeker.Yes, seekMark) && wordHeld(a.word, was.word)
}

func (a seekArgs) scrawl() {
	walScrawl(a.seeker.Yes, seekOver)
	wordScrawl(a.word)
}

// seekScrawl writes over all that SynHear answers.
func seekScrawl(s impl.SynSeeker, words []impl.Word) {
	walScrawl(s.Yes, seekOver)
	for _, w := range words {
		wordScrawl(w)
	}
	walScrawl(words, wordLoud())
}

func seekWordsCopied(words []impl.Word) []impl.Word {
	var out []impl.Word
	for _, w := range words {
		out = append(out, wordCopied(w))
	}
	return out
}

// seekMemoryArgs is words that are counted and that are not, of seekers that are ok and of those that are not.
func seekMemoryArgs() []seekArgs {
	var out []seekArgs
	for _, s := range append(seekHand(), impl.SynSeeker{}, impl.SynSeeker{Yes: []int{}}) {
		for place, w := range seekWords(s) {
			out = append(out, seekArgs{s, place % 6, w})
		}
	}
	for _, s := range seekersBad() {
		out = append(out, seekArgs{s, 0, seekSay(2, 0, 0)}, seekArgs{s, 4, seekSay(4, 0, 0)})
	}
	for _, w := range seekWordsBad() {
		out = append(out, seekArgs{seekTold(1, 12, 1), 1, w}, seekArgs{seekTold(2, 12, 0), 1, w})
	}
	return out
}

func TestSeekNothingIsWrittenIntoAnArgument(t *testing.T) {
	for _, args := range seekMemoryArgs() {
		given := args.roomy()
		ok := impl.SynSeekerOk(given.seeker)
		impl.SynHear(given.seeker, given.me, given.word)
		if !given.stays(args) || ok != impl.SynSeekerOk(args.seeker) {
			t.Fatalf("%v is written into", args)
		}
	}
}

func TestSeekAnAnswerSharesNoMemoryWithAnArgument(t *testing.T) {
	for _, args := range seekMemoryArgs() {
		given := args.roomy()
		after, words, _ := impl.SynHear(given.seeker, given.me, given.word)
		wantAfter, wantWords := seekCopied(after), seekWordsCopied(words)
		given.scrawl()
		if !seekSame(after, wantAfter) || !seekWordsSame(words, wantWords) {
			t.Fatalf("%v: what is written into the argument is seen in the answer", args)
		}
		given = args.roomy()
		after, words, _ = impl.SynHear(given.seeker, given.me, given.word)
		seekScrawl(after, words)
		if !given.stays(args) {
			t.Fatalf("%v: what is written into the answer is seen in the argument", args)
		}
	}
}

// Lists of one answer are each other's no more than an argument's: Yes, and the lists of each word.
func TestSeekListsOfAnAnswerShareNoMemory(t *testing.T) {
	for _, args := range seekMemoryArgs() {
		_, words, _ := impl.SynHear(args.seeker, args.me, args.word)
		want := seekWordsCopied(words)
		for place, w := range words {
			wordScrawl(w)
			for other := place + 1; other < len(words); other++ {
				if !wordSame(words[other], want[other]) {
					t.Fatalf("%v: the words %d and %d share memory", args, place, other)
				}
			}
		}
	}
}

func TestSeekNothingIsKeptBetweenCalls(t *testing.T) {
	for _, args := range seekMemoryArgs() {
		after, words, chosen := impl.SynHear(args.seeker, args.me, args.word)
		wantAfter, wantWords := seekCopied(after), seekWordsCopied(words)
		seekScrawl(after, words)
		again, second, same := impl.SynHear(args.seeker, args.me, args.word)
		if same != chosen || !seekSame(again, wantAfter) || !seekWordsSame(second, wantWords) {
			t.Fatalf("%v: called again it answers otherwise", args)
		}
	}
	for me := range 6 {
		s, words := impl.SynSeek(me, 3, 5, seekMine)
		wantSeeker, wantWords := seekCopied(s), seekWordsCopied(words)
		seekScrawl(s, words)
		again, second := impl.SynSeek(me, 3, 5, seekMine)
		if !seekSame(again, wantSeeker) || !seekWordsSame(second, wantWords) {
			t.Fatalf("%d: called again it answers otherwise", me)
		}
	}
}

// Who stands behind the end of Yes has not said so.
func TestSeekReadsNothingBehindAnEnd(t *testing.T) {
	all := []int{1, 0, 2}
	for phase := 1; phase <= 2; phase++ {
		for n := range len(all) + 1 {
			s := seekSome(phase)
			s.Yes = all[:n]
			if impl.SynSeekerOk(s) != (n < 2) {
				t.Errorf("%v of %v", s.Yes, all)
			}
			for from := range 3 {
				seekHeard(t, s, 0, seekSay(2*phase, from, 0))
			}
		}
	}
	if !slices.Equal(all, []int{1, 0, 2}) {
		t.Errorf("%v is written into", all)
	}
}
