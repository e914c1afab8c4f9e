package tests

import (
	"math/rand/v2"
	"slices"
	"testing"

	"loop.example/pannier/impl"
)

// councilCalms asks that a calm finds a command, as the last thing that is told, and nothing is under way then.
func councilCalms(t *testing.T, name string, c impl.SynCouncil, who, slot int, cmd, want impl.Cmd) impl.SynCouncil {
	t.Helper()
	after, ok := impl.SynCalm(c, who, slot, cmd)
	if !ok || len(after.Told) != len(c.Told)+1 || !slices.Equal(after.Told[:len(c.Told)], c.Told) || len(after.Radio) != 0 || !impl.SynCouncilOk(after) {
		t.Fatalf("%s: %d seeks for %d: %v\n%+v", name, who, slot, ok, after)
	}
	p := after.Told[len(c.Told)]
	if found, there := impl.SynChosen(after, slot); p.Slot != slot || p.Cmd != want || !there || found != want {
		t.Fatalf("%s: %d seeks for %d: told is %v, and chosen %v %v, not %v", name, who, slot, p, found, there, want)
	}
	return after
}

func TestP21FromTheStart(t *testing.T) {
	for who := range 3 {
		for _, slot := range []int{1, 2, 30, 59, 60} {
			for _, cmd := range voteCmds() {
				c := councilCalms(t, "start", impl.SynStart(), who, slot, cmd, cmd)
				paper := impl.SynPaper{Slot: slot, Ballot: 8 + who, Cmd: cmd}
				want := councilNew()
				want.Rounds[who], want.Told = 1, []impl.SynPaper{paper}
				for voter := range want.Voters {
					want.Voters[voter] = impl.SynVoter{Promised: 8 + who, Papers: []impl.SynPaper{paper}}
				}
				if !councilSame(c, want) {
					t.Errorf("%+v, not %+v", c, want)
				}
			}
		}
	}
}

// P21: who seeks behind something that was found finds the same, whoever it is, also one whose round is lower.
func TestP21BehindSomethingThatWasFound(t *testing.T) {
	for first := range 3 {
		for second := range 3 {
			c := councilCalms(t, "first", impl.SynStart(), first, 7, voteCmd(1), voteCmd(1))
			for n := range 5 {
				c = councilCalms(t, "behind", c, second, 7, voteCmd(10+n), voteCmd(1))
			}
			councilCalms(t, "another slot", c, second, 8, voteCmd(2), voteCmd(2))
		}
	}
}

// P21: what two voters have is found, though nobody was told that they have; what one alone has may be.
func TestP21BehindSomethingThatNobodyWasTold(t *testing.T) {
	pairs := [][]int{{0, 1}, {0, 2}, {1, 2}, {1, 0}, {2, 0}, {2, 1}}
	for _, promise := range pairs {
		for _, vote := range pairs {
			for first := range 3 {
				d, c := councilDiaryNew(), impl.SynStart()
				c = councilFollow(t, d, c, councilBegins(first, 1))
				c = councilPolls(t, d, c, first, false, promise...)
				one := councilVotes(t, d, c, first, vote[0])
				c = councilVotes(t, d, c, first, vote...)
				councilToldOf(t, c)
				for second := range 3 {
					councilCalms(t, "two have it", c, second, 1, voteCmd(2), voteCmd(1))
					// The first two voters are asked first.
					want := []int{1, 1, 2}[vote[0]]
					councilCalms(t, "one has it", one, second, 1, voteCmd(2), voteCmd(want))
				}
			}
		}
	}
}

// P21: who is denied goes up to the round of who was promised, and is above it the next time.
func TestP21BehindPromisesOfGreaterBallots(t *testing.T) {
	for _, round := range []int{2, 3, 4, 5, 6, 100, 8998} {
		for _, voters := range [][]int{{0, 1}, {0, 2}, {1, 2}, {0, 1, 2}} {
			for other := range 3 {
				c := councilWith(councilNew(), func(c *impl.SynCouncil) { c.Rounds[other] = round })
				for _, voter := range voters {
					c.Voters[voter].Promised = 8*round + other
				}
				for who := range 3 {
					after := councilCalms(t, "promised more", c, who, 1, voteCmd(5), voteCmd(5))
					if after.Rounds[who] != round+1 || after.Told[0].Ballot != 8*(round+1)+who {
						t.Errorf("%d behind the round %d of %d: %v %v", who, round, other, after.Rounds, after.Told)
					}
				}
			}
		}
	}
}

// P21: of denials of several rounds the greatest counts, in whatever order they come.
func TestP21BehindSeveralPromises(t *testing.T) {
	for _, rounds := range [][3]int{{10, 20, 30}, {30, 20, 10}, {20, 30, 10}, {30, 30, 10}, {10, 30, 20}, {0, 30, 30}, {0, 0, 30}, {30, 0, 0}} {
		c := councilNew()
		for voter, round := range rounds {
			c.Voters[voter].Promised = 8*round + 1
		}
		c.Rounds[1] = 30
		for who := range 3 {
			councilCalms(t, "promised more", c, who, 60, voteCmd(6), voteCmd(6))
		}
	}
}

// P21: what was under way ahead of a calm is lost, a full radio too, and votes by greater ballots that are asked for in it.
func TestP21WithAFullRadio(t *testing.T) {
	for words := range 61 {
		c := councilFull(councilNew(), words)
		for place := range c.Radio {
			c.Radio[place] = councilSay(3, 2, place%3, 9000+place, 1, 0)
		}
		for who := range 3 {
			after := councilCalms(t, "full", c, who, 1, voteCmd(8), voteCmd(8))
			if alone, _ := impl.SynCalm(impl.SynStart(), who, 1, voteCmd(8)); !councilSame(after, alone) {
				t.Errorf("%d words: %+v", words, after)
			}
		}
	}
}

// P21 as long as there is room in Told: behind that it is sought four times, and chosen, but nobody is told.
func TestP21WithToldFull(t *testing.T) {
	last := councilFullOfTold(impl.SynStart(), 239)
	full := councilCalms(t, "the last place", last, 1, 9, voteCmd(3), voteCmd(3))
	after, ok := impl.SynCalm(full, 0, 10, voteCmd(4))
	if ok || !slices.Equal(after.Told, full.Told) || !slices.Equal(after.Rounds, []int{4, 1, 0}) || len(after.Radio) != 0 || !seekNothing(after.Seekers[0]) {
		t.Errorf("%v %v %v", ok, after.Rounds, after.Seekers)
	}
	if cmd, found := impl.SynChosen(after, 10); !found || cmd != voteCmd(4) || after.Voters[2].Promised != 32 {
		t.Errorf("%v %v", cmd, found)
	}
}

// P21 with rounds near 9000, and up to the last one; in that one nobody begins any more: the words are lost, and nothing else happens.
func TestP21NearTheGreatestRounds(t *testing.T) {
	for _, round := range []int{8990, 8999, 12490, 12497} {
		c := councilWith(councilNew(), func(c *impl.SynCouncil) { c.Rounds = []int{round, round, round} })
		councilCalms(t, "near the greatest", c, 1, 1, voteCmd(1), voteCmd(1))
	}
	c := councilWith(councilNew(), func(c *impl.SynCouncil) { c.Rounds = []int{12498, 12497, 12498} })
	c = councilCalms(t, "the greatest", c, 1, 1, voteCmd(1), voteCmd(1))
	if c.Rounds[1] != 12498 || c.Voters[0].Promised != 99985 {
		t.Errorf("%v %v", c.Rounds, c.Voters)
	}
	some := councilWith(councilSome(), func(c *impl.SynCouncil) { c.Rounds = []int{12498, 12498, 12498} })
	for _, c := range []impl.SynCouncil{c, some, councilFull(some, 60), councilWith(councilNew(), func(c *impl.SynCouncil) { c.Rounds = []int{12498, 12498, 12498} })} {
		for who := range 3 {
			for slot := 1; slot <= 2; slot++ {
				after, ok := impl.SynCalm(c, who, slot, voteCmd(2))
				if want := councilWith(c, func(c *impl.SynCouncil) { c.Radio = nil }); ok || !councilSame(after, want) {
					t.Errorf("%d: %+v %v, not %+v", who, after, ok, want)
				}
			}
		}
	}
}

// A calm that comes to the last round, and finds nothing in it, ends there: by its own rounds, or by a denial.
func TestP21WhereTheRoundsEnd(t *testing.T) {
	for _, round := range []int{12494, 12495, 12496, 12497} {
		c := councilWith(councilNew(), func(c *impl.SynCouncil) {
			c.Rounds[0], c.Voters[1].Promised, c.Voters[2].Promised = round, 99999, 99999
		})
		after, ok := impl.SynCalm(c, 0, 5, voteCmd(1))
		want := councilWith(c, func(c *impl.SynCouncil) {
			c.Rounds[0], c.Voters[0].Promised = 12498, 99984
			c.Seekers[0] = impl.SynSeeker{Slot: 5, Ballot: 99984, Phase: 1, Mine: voteCmd(1), Yes: []int{0}}
		})
		if ok || !councilSame(after, want) {
			t.Errorf("%d: %+v %v, not %+v", round, after, ok, want)
		}
	}
	for _, promised := range []int{99984, 99985, 99991} {
		c := councilWith(councilNew(), func(c *impl.SynCouncil) { c.Voters[1].Promised, c.Voters[2].Promised = promised, promised })
		after, ok := impl.SynCalm(c, 0, 5, voteCmd(1))
		want := councilWith(c, func(c *impl.SynCouncil) {
			c.Rounds[0], c.Voters[0].Promised = 12498, 8
			c.Seekers[0] = impl.SynSeeker{Slot: 5, Ballot: 8, Phase: 1, Mine: voteCmd(1), Yes: []int{0}}
		})
		if ok || !councilSame(after, want) {
			t.Errorf("%d: %+v %v, not %+v", promised, after, ok, want)
		}
	}
}

// P21: a denial of a round that is none raises nothing: it is tried four times, each in the next round.
func TestP21WhereNothingIsFound(t *testing.T) {
	for _, promised := range []int{99992, 99999} {
		c := councilWith(councilNew(), func(c *impl.SynCouncil) { c.Voters[1].Promised, c.Voters[2].Promised = promised, promised })
		after, ok := impl.SynCalm(c, 0, 5, voteCmd(1))
		want := councilWith(c, func(c *impl.SynCouncil) {
			c.Rounds[0], c.Voters[0].Promised = 4, 32
			c.Seekers[0] = impl.SynSeeker{Slot: 5, Ballot: 32, Phase: 1, Mine: voteCmd(1), Yes: []int{0}}
		})
		if ok || !councilSame(after, want) {
			t.Errorf("%d: %+v %v, not %+v", promised, after, ok, want)
		}
	}
}

// P21 wherever a calm comes in rows of events: what two have voted for is found, if two have, whether that was told or not.
func TestP21InLongRows(t *testing.T) {
	for at, style := range councilStyles() {
		r := rand.New(rand.NewPCG(85, uint64(at)))
		before := 0
		for range 10 {
			d, c := councilDiaryNew(), impl.SynStart()
			for n := range 200 {
				c = councilFollow(t, d, c, style.event(r, c, n))
				if n%9 != 0 {
					continue
				}
				who, slot := r.IntN(3), 1+r.IntN(style.slots)
				after, ok := impl.SynCalm(c, who, slot, voteCmd(70000+n))
				if !ok || len(after.Told) != len(c.Told)+1 || after.Told[len(c.Told)].Slot != slot {
					t.Fatalf("%s: %d for %d: %+v", style.name, who, slot, after)
				}
				// What the calm found must be what was chosen: the diary knows that.
				if _, there := d.chosen[slot]; there {
					before++
				}
				councilAsFound(t, d.copied(), c, after)
			}
		}
		if before < 5 {
			t.Errorf("%s: only %d were chosen before", style.name, before)
		}
	}
}
