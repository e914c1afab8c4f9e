package tests

import (
	"fmt"
	"hash/maphash"
	"maps"
	"math/rand/v2"
	"slices"
	"testing"

	"loop.example/pannier/impl"
)

// councilDiary is who voted for what in a council, a bit each, and what two have voted for by one ballot, told by the voters' papers alone.
type councilDiary struct {
	votes  map[impl.SynPaper]int
	chosen map[int]impl.Cmd
}

func councilDiaryNew() councilDiary {
	return councilDiary{votes: map[impl.SynPaper]int{}, chosen: map[int]impl.Cmd{}}
}

func (d councilDiary) copied() councilDiary {
	return councilDiary{votes: maps.Clone(d.votes), chosen: maps.Clone(d.chosen)}
}

// note takes the papers of all voters into the diary; what two have voted for by one ballot must be one command for a slot.
func (d councilDiary) note(t *testing.T, c impl.SynCouncil) {
	t.Helper()
	for who, v := range c.Voters {
		for _, p := range v.Papers {
			d.votes[p] |= 1 << who
			if !d.isChosen(p) {
				continue
			}
			if before, there := d.chosen[p.Slot]; there && before != p.Cmd {
				t.Fatalf("two have voted for %v, behind two for %v", p, before)
			}
			d.chosen[p.Slot] = p.Cmd
		}
	}
}

// isChosen says whether two have voted for a paper, be it that they have other ones by now.
func (d councilDiary) isChosen(p impl.SynPaper) bool {
	return d.votes[p]&(d.votes[p]-1) != 0
}

// councilFollow lets something happen, and asks for all parts of P20, P22 and P23.
func councilFollow(t *testing.T, d councilDiary, c impl.SynCouncil, e impl.SynEvent) impl.SynCouncil {
	t.Helper()
	after, ok := impl.SynDo(c, e)
	councilUnspoilt(t, c, e, after, ok)
	councilAsFound(t, d, c, after)
	return after
}

// councilUnspoilt is P22, of one event.
func councilUnspoilt(t *testing.T, c impl.SynCouncil, e impl.SynEvent, after impl.SynCouncil, ok bool) {
	t.Helper()
	if !impl.SynCouncilOk(after) {
		t.Fatalf("%+v\n%+v: it is not ok any more: %+v", c, e, after)
	}
	if ok != councilMay(c, e) || !ok && !councilSame(after, c) {
		t.Fatalf("%+v\n%+v: %v\n%+v", c, e, ok, after)
	}
	if len(after.Told) < len(c.Told) || !slices.Equal(after.Told[:len(c.Told)], c.Told) {
		t.Fatalf("%+v\n%+v: told was %v, and is %v", c, e, c.Told, after.Told)
	}
	for who := range 3 {
		if after.Rounds[who] < c.Rounds[who] || after.Voters[who].Promised < c.Voters[who].Promised {
			t.Fatalf("%+v\n%+v: a round, or what was promised, falls: %+v", c, e, after)
		}
	}
}

// councilAsFound is P20 and P23: what is told, and what SynChosen tells, is what two have voted for by one ballot.
func councilAsFound(t *testing.T, d councilDiary, c, after impl.SynCouncil) {
	t.Helper()
	d.note(t, after)
	for _, p := range after.Told[len(c.Told):] {
		if cmd, there := d.chosen[p.Slot]; !there || cmd != p.Cmd || !d.isChosen(p) {
			t.Fatalf("%v is told, where %v was voted for, and is chosen: %v", p, d.votes, cmd)
		}
	}
	told := map[int]impl.Cmd{}
	for _, p := range after.Told {
		if cmd, there := told[p.Slot]; there && cmd != p.Cmd {
			t.Fatalf("of the slot %d both %v and %v are told", p.Slot, cmd, p.Cmd)
		}
		told[p.Slot] = p.Cmd
	}
	slots := slices.AppendSeq([]int{1, 2}, maps.Keys(d.chosen))
	for _, slot := range slots {
		cmd, found := impl.SynChosen(after, slot)
		want, there := councilVoted(after, slot)
		if before, ever := d.chosen[slot]; found != there || cmd != want || found && (!ever || cmd != before) {
			t.Fatalf("%+v: of the slot %d SynChosen finds %v %v, where %v was chosen", after, slot, cmd, found, d.chosen)
		}
	}
}

// councilFound is how often something was told in rows of events: first, and once more of a slot; and in how many rows another command was sought for a slot behind that.
type councilFound struct {
	first, again, others int
}

func (f *councilFound) count(c impl.SynCouncil) {
	slots := map[int]impl.Cmd{}
	for _, p := range c.Told {
		if _, there := slots[p.Slot]; there {
			f.again++
		} else {
			f.first++
		}
		slots[p.Slot] = p.Cmd
	}
	for _, s := range c.Seekers {
		if cmd, there := slots[s.Slot]; there && s.Phase > 0 && s.Mine != cmd {
			f.others++
		}
	}
}

// P20, P22 and P23 in long rows of events of each style: words are brought in any order, kept, lost, and late behind greater ballots, and seekers forget and begin anew.
func TestP20InLongRows(t *testing.T) {
	for at, style := range councilStyles() {
		r := rand.New(rand.NewPCG(81, uint64(at)))
		var found councilFound
		for range 25 {
			d, c := councilDiaryNew(), impl.SynStart()
			for n := range 250 {
				c = councilFollow(t, d, c, style.event(r, c, n))
			}
			found.count(c)
		}
		if found.first < 10 || found.again == 0 || found.others < 5 {
			t.Errorf("%s: %v", style.name, found)
		}
	}
}

// P20 with words that come very late: all that was ever sent may be brought again, at any time.
func TestP20WithAllThatWasEverSent(t *testing.T) {
	r := rand.New(rand.NewPCG(83, 84))
	var found councilFound
	for range 150 {
		var ever []impl.Word
		d, c := councilDiaryNew(), impl.SynStart()
		for n := range 150 {
			e := impl.SynEvent{Kind: 2}
			switch {
			case len(ever) == 0 || r.IntN(20) == 0:
				e = impl.SynEvent{Kind: 1, Who: r.IntN(3), Slot: 1, Cmd: voteCmd(50 + 9*n)}
			case r.IntN(3) == 0:
				c.Radio = []impl.Word{ever[r.IntN(len(ever))]}
			default:
				c.Radio = []impl.Word{ever[len(ever)-1-r.IntN(min(6, len(ever)))]}
			}
			c = councilFollow(t, d, c, e)
			for _, w := range c.Radio {
				if !slices.ContainsFunc(ever, func(x impl.Word) bool { return councilWordSame(x, w) }) {
					ever = append(ever, w)
				}
			}
			c.Radio = nil
		}
		found.count(c)
	}
	if found.first < 100 || found.again < 100 || found.others < 20 {
		t.Errorf("%v", found)
	}
}

// councilWalk is all that may come of words that are brought in every order.
type councilWalk struct {
	seed        maphash.Seed
	seen        map[uint64]bool
	told, again int
}

// councilWordKey is a word without lists.
type councilWordKey struct {
	numbers [14]int
	cmd     impl.Cmd
}

// key is the same for councils with the same words in another order: each of them may be brought next.
func (k *councilWalk) key(c impl.SynCouncil, d councilDiary) uint64 {
	sum := maphash.Comparable(k.seed, fmt.Sprint(c.Seekers, c.Rounds, c.Told))
	for who, v := range c.Voters {
		sum += maphash.Comparable(k.seed, [2]int{who, v.Promised})
		for _, p := range v.Papers {
			sum += maphash.Comparable(k.seed, [2]any{who, p})
		}
	}
	for p, who := range d.votes {
		sum += maphash.Comparable(k.seed, [2]any{p, who})
	}
	for _, w := range c.Radio {
		sum += maphash.Comparable(k.seed, councilWordKey{councilWordNumbers(w), w.Cmd})
	}
	return sum
}

// from goes on from a council by each word that is under way.
func (k *councilWalk) from(t *testing.T, d councilDiary, c impl.SynCouncil) {
	t.Helper()
	key := k.key(c, d)
	if k.seen[key] {
		return
	}
	k.seen[key] = true
	if len(c.Told) > 0 {
		k.told++
	}
	if len(c.Told) > 1 {
		k.again++
	}
	for place := range c.Radio {
		next := d.copied()
		after, _ := impl.SynDo(c, impl.SynEvent{Kind: 2, Word: place})
		councilAsFound(t, next, c, after)
		k.from(t, next, after)
	}
}

// P20 in every order of words: two seek for one slot, each of them deaf to one voter; what is left in the radio at the end of a row is lost.
func TestP20InEveryOrder(t *testing.T) {
	told, again := 0, 0
	for _, deaf := range []int{0, 1, 3, 5, 7} {
		c := councilRun(impl.SynStart(),
			impl.SynEvent{Kind: 1, Who: deaf % 2, Slot: 1, Cmd: voteCmd(1)}, impl.SynEvent{Kind: 3, Word: deaf / 3},
			impl.SynEvent{Kind: 1, Who: 2, Slot: 1, Cmd: voteCmd(2)}, impl.SynEvent{Kind: 3, Word: 2 + deaf%3})
		walk := councilWalk{seed: maphash.MakeSeed(), seen: map[uint64]bool{}}
		walk.from(t, councilDiaryNew(), c)
		told, again = told+walk.told, again+walk.again
	}
	if told < 5000 || again < 500 {
		t.Errorf("told in %d, twice in %d", told, again)
	}
}

// councilBegins is that who begins to seek for the slot 1, with a command of a number.
func councilBegins(who, cmd int) impl.SynEvent {
	return impl.SynEvent{Kind: impl.SynBegins, Who: who, Slot: 1, Cmd: voteCmd(cmd)}
}

// councilBring brings the first word of a kind from one to another, and asks for P20, P22 and P23.
func councilBring(t *testing.T, d councilDiary, c impl.SynCouncil, kind, from, to int, keep bool) impl.SynCouncil {
	t.Helper()
	place := slices.IndexFunc(c.Radio, func(w impl.Word) bool { return w.Kind == kind && w.From == from && w.To == to })
	if place < 0 {
		t.Fatalf("no word of the kind %d from %d to %d in %v", kind, from, to, c.Radio)
	}
	return councilFollow(t, d, c, impl.SynEvent{Kind: impl.SynBrings, Word: place, Keep: keep})
}

// councilPolls lets who has begun be promised by these voters, all words but its accepts being taken as they come.
func councilPolls(t *testing.T, d councilDiary, c impl.SynCouncil, who int, keep bool, voters ...int) impl.SynCouncil {
	t.Helper()
	for _, voter := range voters {
		c = councilBring(t, d, c, impl.WordPrepare, who, voter, keep)
		c = councilBring(t, d, c, impl.WordPromise, voter, who, keep)
	}
	return c
}

// councilVotes lets these voters vote for what who puts forward; nobody is told.
func councilVotes(t *testing.T, d councilDiary, c impl.SynCouncil, who int, voters ...int) impl.SynCouncil {
	t.Helper()
	for _, voter := range voters {
		c = councilBring(t, d, c, impl.WordAccept, who, voter, false)
	}
	return c
}

func councilToldOf(t *testing.T, c impl.SynCouncil, want ...impl.SynPaper) {
	t.Helper()
	if !slices.Equal(c.Told, want) {
		t.Fatalf("told is %v, not %v", c.Told, want)
	}
}

// P20: words to a seeker that forgot are kept, and come to the one that it begins anew: they are of another ballot, and count for nothing.
func TestP20KeptWordsOfAForgottenSeeker(t *testing.T) {
	d, c := councilDiaryNew(), impl.SynStart()
	c = councilFollow(t, d, c, councilBegins(0, 1))
	c = councilPolls(t, d, c, 0, true, 0, 1)
	c = councilVotes(t, d, c, 0, 0, 1)
	c = councilFollow(t, d, c, impl.SynEvent{Kind: impl.SynForgets, Who: 0})
	c = councilFollow(t, d, c, councilBegins(0, 2))
	begun := councilCopied(c).Seekers[0]
	for _, voter := range []int{0, 1} {
		c = councilBring(t, d, c, impl.WordPromise, voter, 0, true)
		c = councilBring(t, d, c, impl.WordAccepted, voter, 0, true)
	}
	if !seekSame(c.Seekers[0], begun) || begun.Ballot != 16 || len(c.Told) != 0 {
		t.Fatalf("%v was begun, and is %v", begun, c.Seekers[0])
	}
	// What was voted for behind its back is what it puts forward.
	c, ok := impl.SynCalm(c, 0, 1, voteCmd(3))
	if !ok || c.Told[0].Cmd != voteCmd(1) {
		t.Errorf("%v", c.Told)
	}
}

// P20: a vote that is asked for late, by a ballot below what was promised since, is denied, also if the greater ballot's command was told already.
func TestP20LateVotesBehindGreaterBallots(t *testing.T) {
	d, c := councilDiaryNew(), impl.SynStart()
	c = councilFollow(t, d, c, councilBegins(0, 1))
	c = councilPolls(t, d, c, 0, false, 0, 1)
	c = councilVotes(t, d, c, 0, 0)
	c = councilFollow(t, d, c, councilBegins(1, 2))
	c = councilPolls(t, d, c, 1, false, 1, 2)
	c = councilVotes(t, d, c, 1, 1, 2)
	late := councilCopied(c)
	for _, voter := range []int{1, 2} {
		c = councilBring(t, d, c, impl.WordAccepted, voter, 1, false)
	}
	councilToldOf(t, c, impl.SynPaper{Slot: 1, Ballot: 9, Cmd: voteCmd(2)})
	asked := seekWith(c.Seekers[0], func(s *impl.SynSeeker) { s.Yes = []int{0} })
	for _, some := range []impl.SynCouncil{late, c} {
		some = councilVotes(t, d, some, 0, 1, 2)
		some = councilBring(t, d, some, impl.WordAccepted, 0, 0, true)
		some = councilBring(t, d, some, impl.WordDenied, 1, 0, false)
		some = councilBring(t, d, some, impl.WordDenied, 2, 0, false)
		if slices.ContainsFunc(some.Told, func(p impl.SynPaper) bool { return p.Ballot != 9 }) || !seekSame(some.Seekers[0], asked) {
			t.Errorf("told is %v, and %v seeks", some.Told, some.Seekers[0])
		}
		for who := range 3 {
			calm, ok := impl.SynCalm(some, who, 1, voteCmd(3))
			if !ok || calm.Told[len(calm.Told)-1].Cmd != voteCmd(2) {
				t.Errorf("%d: told is %v", who, calm.Told)
			}
		}
	}
}

// P20: one vote that comes twice is one vote.
func TestP20AVoteThatIsDoubled(t *testing.T) {
	d, c := councilDiaryNew(), impl.SynStart()
	c = councilFollow(t, d, c, councilBegins(2, 1))
	c = councilPolls(t, d, c, 2, false, 0, 2)
	c = councilVotes(t, d, c, 2, 0)
	for range 3 {
		c = councilBring(t, d, c, impl.WordAccepted, 0, 2, true)
	}
	councilToldOf(t, c)
	c = councilVotes(t, d, c, 2, 1)
	c = councilBring(t, d, c, impl.WordAccepted, 1, 2, true)
	councilToldOf(t, c, impl.SynPaper{Slot: 1, Ballot: 10, Cmd: voteCmd(1)})
	// Who has found it seeks nothing any more: what comes late finds nothing.
	for _, voter := range []int{0, 1} {
		c = councilBring(t, d, c, impl.WordAccepted, voter, 2, true)
	}
	councilToldOf(t, c, impl.SynPaper{Slot: 1, Ballot: 10, Cmd: voteCmd(1)})
	if !seekNothing(c.Seekers[2]) {
		t.Errorf("%v", c.Seekers[2])
	}
}

// P20 of several slots: what was voted for a slot is put forward for that one alone.
func TestP20OfSeveralSlots(t *testing.T) {
	c := impl.SynStart()
	for slot := 1; slot <= 60; slot++ {
		for who := range 3 {
			after, ok := impl.SynCalm(c, who, slot, voteCmd(100*slot+who))
			if !ok || len(after.Told) != len(c.Told)+1 {
				t.Fatalf("%d for %d: %v", who, slot, after.Told)
			}
			if p := after.Told[len(c.Told)]; p.Slot != slot || p.Cmd != voteCmd(100*slot) {
				t.Fatalf("%d for %d: told is %v", who, slot, p)
			}
			c = after
		}
	}
	for slot := 1; slot <= 60; slot++ {
		if cmd, ok := impl.SynChosen(c, slot); !ok || cmd != voteCmd(100*slot) {
			t.Errorf("%d: %v %v", slot, cmd, ok)
		}
	}
}

// P22 of every event that can be and every one that cannot.
func TestP22OfEachEvent(t *testing.T) {
	for place, c := range councilsOk() {
		some := councilFew(c)
		if place%8 == 0 {
			some = councilEvents(c)
		}
		for _, e := range some {
			after, ok := impl.SynDo(c, e)
			councilUnspoilt(t, c, e, after, ok)
		}
		for who := range 3 {
			after, _ := impl.SynCalm(c, who, 1+place%60, seekMine)
			if !impl.SynCouncilOk(after) || !slices.Equal(after.Told[:len(c.Told)], c.Told) {
				t.Fatalf("%+v: behind a calm: %+v", c, after)
			}
		}
	}
}

// P22 in rows of events from any council on, with events between that cannot be.
func TestP22FromAnyCouncilOn(t *testing.T) {
	r := rand.New(rand.NewPCG(87, 88))
	for n := range 60 {
		c, style := councilTight(r), councilStyles()[n%len(councilStyles())]
		for at := range 80 {
			e := style.event(r, c, at)
			if r.IntN(5) == 0 {
				e = impl.SynEvent{Kind: r.IntN(6), Who: r.IntN(5) - 1, Slot: r.IntN(63) - 1, Cmd: impl.Cmd{Kind: r.IntN(9)}, Word: r.IntN(62) - 1, Keep: r.IntN(2) == 0}
			}
			after, ok := impl.SynDo(c, e)
			councilUnspoilt(t, c, e, after, ok)
			c = after
		}
		if !councilGood(c) {
			t.Fatalf("%+v", c)
		}
	}
}

// P23 from vote to vote: nothing is chosen ahead of the second one by one ballot, and that is what is found.
func TestP23FromVoteToVote(t *testing.T) {
	d, c := councilDiaryNew(), impl.SynStart()
	nothing := func(what string) {
		t.Helper()
		if cmd, ok := impl.SynChosen(c, 1); ok || len(c.Told) != 0 {
			t.Fatalf("%s: %v is chosen, and told %v", what, cmd, c.Told)
		}
	}
	c = councilFollow(t, d, c, councilBegins(0, 1))
	c = councilPolls(t, d, c, 0, false, 0, 1)
	nothing("promised")
	c = councilVotes(t, d, c, 0, 0)
	nothing("one vote")
	// Another one overtakes it, and is told of its vote.
	c = councilFollow(t, d, c, councilBegins(1, 2))
	c = councilPolls(t, d, c, 1, false, 0, 2)
	c = councilVotes(t, d, c, 1, 2)
	nothing("two votes for one command by ballots that differ")
	c = councilVotes(t, d, c, 1, 0)
	if cmd, ok := impl.SynChosen(c, 1); !ok || cmd != voteCmd(1) || len(c.Told) != 0 {
		t.Fatalf("two votes: %v %v %v", cmd, ok, c.Told)
	}
	c = councilBring(t, d, c, impl.WordAccepted, 2, 1, false)
	c = councilBring(t, d, c, impl.WordAccepted, 0, 1, false)
	councilToldOf(t, c, impl.SynPaper{Slot: 1, Ballot: 9, Cmd: voteCmd(1)})
}

// P23: what two voted for by one ballot, one of whom has voted anew since, is found as well, and is what SynChosen finds before and behind.
func TestP23OfVotesThatNobodyHasAtOnce(t *testing.T) {
	d, c := councilDiaryNew(), impl.SynStart()
	c = councilFollow(t, d, c, councilBegins(0, 1))
	c = councilPolls(t, d, c, 0, false, 0, 1)
	c = councilVotes(t, d, c, 0, 0)
	c = councilFollow(t, d, c, councilBegins(2, 2))
	c = councilPolls(t, d, c, 2, false, 0, 2)
	c = councilVotes(t, d, c, 2, 0)
	c = councilVotes(t, d, c, 0, 1)
	if cmd, ok := impl.SynChosen(c, 1); ok {
		t.Fatalf("%v is found, where no two have it at once", cmd)
	}
	c = councilBring(t, d, c, impl.WordAccepted, 0, 0, false)
	c = councilBring(t, d, c, impl.WordAccepted, 1, 0, false)
	councilToldOf(t, c, impl.SynPaper{Slot: 1, Ballot: 8, Cmd: voteCmd(1)})
	c = councilVotes(t, d, c, 2, 2)
	if cmd, ok := impl.SynChosen(c, 1); !ok || cmd != voteCmd(1) {
		t.Errorf("%v %v", cmd, ok)
	}
}

// P23 in rows of events: all that SynChosen ever finds of a slot, and all that is ever told of it, is one command, and that is found in the calm behind.
func TestP23InLongRows(t *testing.T) {
	for at, style := range councilStyles() {
		r := rand.New(rand.NewPCG(89, uint64(at)))
		both := 0
		for range 10 {
			c, ever, told := impl.SynStart(), map[int]map[impl.Cmd]bool{}, map[int]bool{}
			for n := range 200 {
				c, _ = impl.SynDo(c, style.event(r, c, n))
				for slot := 1; slot <= style.slots; slot++ {
					if cmd, ok := impl.SynChosen(c, slot); ok {
						councilEver(ever, slot, cmd)
					}
				}
				for _, p := range c.Told {
					told[p.Slot] = true
					councilEver(ever, p.Slot, p.Cmd)
				}
			}
			both += len(told)
			for slot, cmds := range ever {
				after, ok := impl.SynCalm(c, r.IntN(3), slot, voteCmd(80000))
				if len(cmds) != 1 || !ok || !cmds[after.Told[len(c.Told)].Cmd] {
					t.Fatalf("%s: of the slot %d: %v, and %v in the calm", style.name, slot, cmds, after.Told[len(c.Told):])
				}
			}
		}
		if both < 5 {
			t.Errorf("%s: only %d slots were told", style.name, both)
		}
	}
}

func councilEver(ever map[int]map[impl.Cmd]bool, slot int, cmd impl.Cmd) {
	if ever[slot] == nil {
		ever[slot] = map[impl.Cmd]bool{}
	}
	ever[slot][cmd] = true
}
