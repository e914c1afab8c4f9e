package tests

import (
	"math/rand/v2"
	"slices"
	"strconv"

	"loop.example/pannier/impl"
)

// The slot and the ballot of the seekers that are given by hand.
const (
	seekSlot   = 7
	seekBallot = 20
)

// seekMine is the command that the seekers that are given by hand seek for.
var seekMine = voteCmd(7000)

// seekSome is a seeker in a phase to whom these have said yes, and who was told nothing.
func seekSome(phase int, yes ...int) impl.SynSeeker {
	return impl.SynSeeker{Slot: seekSlot, Ballot: seekBallot, Phase: phase, Mine: seekMine, Yes: yes}
}

// seekTold is one who was told what was voted for by a ballot.
func seekTold(phase, was int, yes ...int) impl.SynSeeker {
	s := seekSome(phase, yes...)
	s.Best = votePaper(seekSlot, was)
	return s
}

// seekSay is a word to the seekers that are given by hand, all other numbers of which are different; its command is of Was.
func seekSay(kind, from, was int) impl.Word {
	w := voteAsk(kind, seekBallot, seekSlot)
	w.From, w.Was, w.Cmd = from, was, seekCmd(was)
	return w
}

// seekCmd is what seekSay tells of a ballot: in form whatever that is, and other than the papers that are told already.
func seekCmd(was int) impl.Cmd {
	return voteCmd(3000 + was&255)
}

func seekSame(a, b impl.SynSeeker) bool {
	return a.Slot == b.Slot && a.Ballot == b.Ballot && a.Phase == b.Phase && a.Mine == b.Mine && a.Best == b.Best && slices.Equal(a.Yes, b.Yes)
}

func seekNothing(s impl.SynSeeker) bool {
	return seekSame(s, impl.SynSeeker{})
}

func seekCopied(s impl.SynSeeker) impl.SynSeeker {
	s.Yes = slices.Clone(s.Yes)
	return s
}

func seekWordsSame(a, b []impl.Word) bool {
	return slices.EqualFunc(a, b, wordSame)
}

// seekToAll is a word to each voter, in order, with nothing that is not named here.
func seekToAll(kind, me, ballot, slot int, cmd impl.Cmd) []impl.Word {
	return []impl.Word{
		{Kind: kind, From: me, To: 0, Ballot: ballot, Slot: slot, Cmd: cmd},
		{Kind: kind, From: me, To: 1, Ballot: ballot, Slot: slot, Cmd: cmd},
		{Kind: kind, From: me, To: 2, Ballot: ballot, Slot: slot, Cmd: cmd},
	}
}

func seekCmdGood(c impl.Cmd) bool {
	return wordGood(impl.Word{Kind: 1, Cmd: c})
}

// seekGood is what SynSeekerOk is to answer.
func seekGood(s impl.SynSeeker) bool {
	if seekNothing(s) {
		return true
	}
	for _, voter := range s.Yes {
		if voter != 0 && voter != 1 && voter != 2 {
			return false
		}
	}
	if s.Best != (impl.SynPaper{}) && (s.Best.Slot != s.Slot || s.Best.Ballot < 1 || s.Best.Ballot >= s.Ballot || !seekCmdGood(s.Best.Cmd)) {
		return false
	}
	return s.Slot >= 1 && s.Slot <= 60 && s.Ballot >= 1 && s.Ballot <= 99999 && (s.Phase == 1 || s.Phase == 2) && len(s.Yes) < 2 && seekCmdGood(s.Mine)
}

// seekBegun is what SynSeek is to answer.
func seekBegun(me, round, slot int, cmd impl.Cmd) (impl.SynSeeker, []impl.Word) {
	if me < 0 || me > 4 || round < 1 || round > 12498 || slot < 1 || slot > 60 || !seekCmdGood(cmd) {
		return impl.SynSeeker{}, nil
	}
	ballot := round<<3 | me
	return impl.SynSeeker{Slot: slot, Ballot: ballot, Phase: 1, Mine: cmd}, seekToAll(1, me, ballot, slot, impl.Cmd{})
}

// seekCounts says whether a seeker counts a word.
func seekCounts(s impl.SynSeeker, me int, w impl.Word) bool {
	if !seekGood(s) || me < 0 || me > 4 || !wordGood(w) || w.From > 2 || w.Ballot != s.Ballot || w.Slot != s.Slot {
		return false
	}
	if len(s.Yes) == 1 && s.Yes[0] == w.From {
		return false
	}
	return s.Phase == 1 && w.Kind == 2 && w.Was < s.Ballot || s.Phase == 2 && w.Kind == 4
}

// seekDone is what SynHear is to answer: what comes of a word that counts hangs on which yes it is, not on the phase, so that it is not the program's own way.
func seekDone(s impl.SynSeeker, me int, w impl.Word) (impl.SynSeeker, []impl.Word, bool) {
	if !seekCounts(s, me, w) {
		return s, nil, false
	}
	after := seekCopied(s)
	votes := w.Kind == 4
	if !votes && w.Was > 0 && w.Was > s.Best.Ballot {
		after.Best = impl.SynPaper{Slot: w.Slot, Ballot: w.Was, Cmd: w.Cmd}
	}
	if first := len(s.Yes) == 0; first || votes {
		after.Yes = append(after.Yes, w.From)
		return after, nil, !first
	}
	after.Phase, after.Yes = 2, nil
	cmd := after.Mine
	if after.Best.Ballot > 0 {
		cmd = after.Best.Cmd
	}
	return after, seekToAll(3, me, s.Ballot, s.Slot, cmd), false
}

// seekersOk is seekers that are ok: nothing, at the ends of what is, in both phases, with each yes and each command, and any.
func seekersOk() []impl.SynSeeker {
	out := []impl.SynSeeker{{}, {Yes: []int{}}, seekTold(1, 1), seekTold(2, 1), seekTold(1, 19), seekTold(2, 19)}
	for phase := 1; phase <= 2; phase++ {
		for _, slot := range []int{1, 2, 59, 60} {
			for _, ballot := range []int{1, 2, 8, 99998, 99999} {
				plain := impl.SynSeeker{Slot: slot, Ballot: ballot, Phase: phase}
				out = append(out, plain)
				for place, c := range voteCmds() {
					s := impl.SynSeeker{Slot: slot, Ballot: ballot, Phase: phase, Mine: c, Yes: [][]int{nil, {0}, {1}, {2}}[place]}
					out = append(out, s)
					if ballot > 1 {
						s.Best = impl.SynPaper{Slot: slot, Ballot: 1 + (ballot-2)*place/3, Cmd: c}
						out = append(out, s)
					}
				}
			}
		}
		for _, yes := range [][]int{nil, {}, {0}, {1}, {2}} {
			out = append(out, seekSome(phase, yes...), seekTold(phase, 12, yes...))
		}
	}
	r := rand.New(rand.NewPCG(61, 62))
	for range 60 {
		out = append(out, seekRandom(r))
	}
	return out
}

func seekRandom(r *rand.Rand) impl.SynSeeker {
	s := impl.SynSeeker{Slot: 1 + r.IntN(60), Ballot: 1 + r.IntN([]int{3, 60, 99999}[r.IntN(3)]), Phase: 1 + r.IntN(2), Mine: voteCmd(r.IntN(90000))}
	if s.Ballot > 1 && r.IntN(2) == 0 {
		s.Best = impl.SynPaper{Slot: s.Slot, Ballot: 1 + r.IntN(s.Ballot-1), Cmd: voteCmd(r.IntN(90000))}
	}
	if r.IntN(2) == 0 {
		s.Yes = []int{r.IntN(3)}
	}
	return s
}

// seekWith is a seeker with one thing that is another one.
func seekWith(s impl.SynSeeker, change func(s *impl.SynSeeker)) impl.SynSeeker {
	s = seekCopied(s)
	change(&s)
	return s
}

// seekersBad is seekers that are not ok, each by one thing alone.
func seekersBad() map[string]impl.SynSeeker {
	out := map[string]impl.SynSeeker{
		"nothing but a slot":        {Slot: 1},
		"nothing but a ballot":      {Ballot: 8},
		"nothing but phase 1":       {Phase: 1},
		"nothing but phase 2":       {Phase: 2},
		"nothing but a command":     {Mine: impl.Cmd{Kind: 1}},
		"nothing but its last part": {Mine: impl.Cmd{B: -1}},
		"nothing but a best":        {Best: votePaper(seekSlot, 12)},
		"nothing but a best's slot": {Best: impl.SynPaper{Slot: 1}},
		"nothing but a best's cmd":  {Best: impl.SynPaper{Cmd: impl.Cmd{A: 1}}},
		"nothing but a yes":         {Yes: []int{0}},
		"phase 0, else all":         seekTold(0, 12, 1),
		"phase 3, else all":         seekTold(3, 12, 1),
	}
	for name, s := range map[string]impl.SynSeeker{"phase 1": seekTold(1, 12, 1), "phase 2": seekTold(2, 12, 1), "told nothing": seekSome(1), "told nothing, phase 2": seekSome(2, 0)} {
		for what, change := range seekSpoils() {
			out[name+": "+what] = seekWith(s, change)
		}
		for what, c := range voteCmdsBad() {
			out[name+": mine with "+what] = seekWith(s, func(s *impl.SynSeeker) { s.Mine = c })
			out[name+": best with "+what] = seekWith(s, func(s *impl.SynSeeker) { s.Best = impl.SynPaper{Slot: seekSlot, Ballot: 12, Cmd: c} })
		}
	}
	return out
}

// seekSpoils is what spoils any seeker of the slot and the ballot given by hand.
func seekSpoils() map[string]func(s *impl.SynSeeker) {
	out := map[string]func(s *impl.SynSeeker){
		"yes of two":             func(s *impl.SynSeeker) { s.Yes = []int{0, 1} },
		"yes of two, falling":    func(s *impl.SynSeeker) { s.Yes = []int{2, 0} },
		"yes of one, twice":      func(s *impl.SynSeeker) { s.Yes = []int{1, 1} },
		"yes of three":           func(s *impl.SynSeeker) { s.Yes = []int{0, 1, 2} },
		"yes of many":            func(s *impl.SynSeeker) { s.Yes = make([]int, 100) },
		"best of the slot ahead": func(s *impl.SynSeeker) { s.Best = votePaper(seekSlot-1, 12) },
		"best of the slot next":  func(s *impl.SynSeeker) { s.Best = votePaper(seekSlot+1, 12) },
		"best of no slot":        func(s *impl.SynSeeker) { s.Best = votePaper(0, 12) },
		"best of a slot alone":   func(s *impl.SynSeeker) { s.Best = impl.SynPaper{Slot: seekSlot} },
		"best of a command":      func(s *impl.SynSeeker) { s.Best = impl.SynPaper{Cmd: impl.Cmd{Kind: 1}} },
		"best of a ballot alone": func(s *impl.SynSeeker) { s.Best = impl.SynPaper{Ballot: 12} },
		"a slot above and best":  func(s *impl.SynSeeker) { s.Slot, s.Best = 61, votePaper(61, 12) },
		"a slot of 0 and best":   func(s *impl.SynSeeker) { s.Slot, s.Best = 0, votePaper(0, 12) },
		"both ballots above":     func(s *impl.SynSeeker) { s.Ballot, s.Best.Ballot = 100001, 100000 },
		"a ballot of 0 and best": func(s *impl.SynSeeker) { s.Ballot, s.Best = 0, votePaper(seekSlot, -1) },
	}
	for _, n := range []int{secLowest, -100, -2, -1, 0, 61, 62, secHighest} {
		out["slot "+strconv.Itoa(n)] = func(s *impl.SynSeeker) { s.Slot = n }
	}
	for _, n := range []int{secLowest, -2, -1, 0, 100000, 100001, secHighest} {
		out["ballot "+strconv.Itoa(n)] = func(s *impl.SynSeeker) { s.Ballot = n }
	}
	for _, n := range []int{secLowest, -2, -1, 0, 3, 4, 99, secHighest} {
		out["phase "+strconv.Itoa(n)] = func(s *impl.SynSeeker) { s.Phase = n }
	}
	for _, n := range []int{secLowest, -2, -1, 3, 4, 5, 100, secHighest} {
		out["yes of "+strconv.Itoa(n)] = func(s *impl.SynSeeker) { s.Yes = []int{n} }
	}
	for _, n := range []int{secLowest, -1, 0, seekBallot, seekBallot + 1, 99999, 100000, secHighest} {
		out["best by "+strconv.Itoa(n)] = func(s *impl.SynSeeker) { s.Best = votePaper(seekSlot, n) }
	}
	return out
}

// seekWords is words of all kinds to a seeker: of its ballot and slot and of those beside, from each place, and told of each ballot that may matter.
func seekWords(s impl.SynSeeker) []impl.Word {
	var out []impl.Word
	wases := []int{-1, 0, 1, s.Best.Ballot - 1, s.Best.Ballot, s.Best.Ballot + 1, s.Ballot - 1, s.Ballot, s.Ballot + 1, 99999}
	for _, from := range []int{0, 1, 2, 3, 4, 100, 103} {
		for _, was := range wases {
			for _, kind := range []int{2, 4} {
				w := voteAsk(kind, s.Ballot, s.Slot)
				w.From, w.Was, w.Cmd = from, was, voteCmds()[len(out)%4]
				w.To = []int{0, 2, 4, 103}[len(out)%4]
				out = append(out, w)
			}
		}
		for kind := 1; kind <= 15; kind++ {
			w := voteAsk(kind, s.Ballot, s.Slot)
			w.From, w.Was = from, 0
			out = append(out, w)
			for _, step := range []int{-1, 1} {
				other, another := w, w
				other.Ballot += step
				another.Slot += step
				out = append(out, other, another)
			}
		}
	}
	return slices.DeleteFunc(out, func(w impl.Word) bool { return !wordGood(w) })
}

// seekWordsBad is words to the seekers that are given by hand that none of them does anything with, each for one thing alone.
func seekWordsBad() map[string]impl.Word {
	out := map[string]impl.Word{"nothing": {}}
	for name, w := range map[string]impl.Word{"promise": seekSay(2, 2, 13), "vote": seekSay(4, 2, 0)} {
		for _, f := range wordFields() {
			for _, n := range seekWrong(f.name) {
				out[name+": "+f.name+" "+strconv.Itoa(n)] = wordWith(w, f, n)
			}
		}
		for what, bad := range wordListsBad(w) {
			out[name+": "+what] = bad
		}
	}
	for _, n := range []int{seekBallot, seekBallot + 1, 99999} {
		out["promise: Was "+strconv.Itoa(n)] = seekSay(2, 2, n)
	}
	return out
}

// seekWrong is, by the name of a number of a word, those that none of these seekers does anything with.
func seekWrong(name string) []int {
	switch name {
	case "Kind":
		return []int{secLowest, -1, 0, 1, 3, 5, 6, 7, 8, 9, 10, 11, 12, 13, 14, 15, 16, 17, 99999, secHighest}
	case "From":
		return []int{secLowest, -2, -1, 3, 4, 5, 99, 100, 101, 102, 103, 104, secHighest}
	case "Slot":
		return []int{secLowest, -2, -1, 0, 1, seekSlot - 1, seekSlot + 1, 60, 61, 99999, 100000, secHighest}
	case "Ballot":
		return []int{secLowest, -2, -1, 0, 1, seekBallot - 8, seekBallot - 1, seekBallot + 1, seekBallot + 8, 99999, 100000, secHighest}
	}
	return slices.DeleteFunc([]int{secLowest, -2, -1, 5, 8, 99, 104, 100000, secHighest}, func(n int) bool { return wordFits(name, n) })
}
