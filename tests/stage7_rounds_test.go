package tests

import (
	"math/rand/v2"
	"testing"

	"loop.example/pannier/impl"
)

// councilBehind is the council in which each member has begun so often as its round says, all words being lost, and all seekers forgotten.
func councilBehind(rounds ...int) impl.SynCouncil {
	return councilWith(councilNew(), func(c *impl.SynCouncil) { copy(c.Rounds, rounds) })
}

// councilFresh asks that who begins to seek does so by a ballot that it has never begun with, by all that was begun before.
func councilFresh(t *testing.T, begun map[int]bool, after impl.SynCouncil, who int) {
	t.Helper()
	ballot := after.Seekers[who].Ballot
	if begun[ballot] || after.Rounds[who] != ballot/8 || ballot%8 != who {
		t.Fatalf("%d begins by the ballot %d in %+v", who, ballot, after)
	}
	begun[ballot] = true
}

// P20, P22 and P23 where rounds end: in long rows in which all members come to the last round, and would begin there still.
func TestP20InTheLastRounds(t *testing.T) {
	for at, style := range councilStyles() {
		r := rand.New(rand.NewPCG(91, uint64(at)))
		told, ended := 0, 0
		for range 40 {
			d, c, begun := councilDiaryNew(), councilBehind(12495+r.IntN(4), 12495+r.IntN(4), 12495+r.IntN(4)), map[int]bool{}
			for n := range 120 {
				e := style.event(r, c, n)
				last := e.Kind == 1 && c.Rounds[e.Who] == 12498
				if last {
					ended++
				}
				if c = councilFollow(t, d, c, e); e.Kind == 1 && !last {
					councilFresh(t, begun, c, e.Who)
				}
			}
			told += len(c.Told)
		}
		if told < 10 || ended < 100 {
			t.Errorf("%s: told %d, begun %d times in the last round", style.name, told, ended)
		}
	}
}

// councilToLast lets who begin so often as there are rounds, from the start on, the words of all but the last time being lost.
func councilToLast(t *testing.T, who int) impl.SynCouncil {
	t.Helper()
	c := impl.SynStart()
	for round := 1; round <= 12498; round++ {
		after, ok := impl.SynDo(c, councilBegins(who, 1))
		if !ok || after.Rounds[who] != round || after.Seekers[who].Ballot != 8*round+who {
			t.Fatalf("%d begins the round %d: %v %+v", who, round, ok, after)
		}
		for c = after; round < 12498 && len(c.Radio) > 0; {
			c, _ = impl.SynDo(c, impl.SynEvent{Kind: impl.SynLoses})
		}
	}
	return c
}

// P20 and P23: promises of the last ballot that are kept under way help no second command to it, as it is never begun with again.
func TestP20PromisesOfTheLastBallotAreKept(t *testing.T) {
	for who := range 3 {
		begun := councilRun(councilBehind(12497, 12497, 12497), councilBegins(who, 1))
		if who == 1 {
			begun = councilToLast(t, who)
		}
		for _, voters := range [][]int{{0, 1}, {2, 0}, {1, 2}} {
			d, c := councilDiaryNew(), councilCopied(begun)
			c = councilPolls(t, d, c, who, true, voters...)
			c = councilVotes(t, d, c, who, voters...)
			for _, voter := range voters {
				c = councilBring(t, d, c, impl.WordAccepted, voter, who, false)
			}
			told := impl.SynPaper{Slot: 1, Ballot: 99984 + who, Cmd: voteCmd(1)}
			councilToldOf(t, c, told)
			c = councilFollow(t, d, c, councilBegins(who, 2))
			for _, voter := range voters {
				c = councilBring(t, d, c, impl.WordPromise, voter, who, true)
			}
			if !seekNothing(c.Seekers[who]) {
				t.Errorf("%d seeks once more: %+v", who, c.Seekers[who])
			}
			councilToldOf(t, c, told)
		}
	}
}
