package tests

import (
	"math/rand/v2"
	"slices"
	"strconv"

	"loop.example/pannier/impl"
)

func councilSame(a, b impl.SynCouncil) bool {
	return slices.EqualFunc(a.Voters, b.Voters, voteSame) && slices.Equal(a.Rounds, b.Rounds) && slices.EqualFunc(a.Seekers, b.Seekers, seekSame) &&
		slices.EqualFunc(a.Radio, b.Radio, councilWordSame) && slices.Equal(a.Told, b.Told)
}

// councilWordSame is wordSame, made for many words.
func councilWordSame(a, b impl.Word) bool {
	return councilWordNumbers(a) == councilWordNumbers(b) && a.Cmd == b.Cmd && slices.Equal(a.Pieces, b.Pieces) && slices.Equal(a.Last, b.Last)
}

func councilWordNumbers(w impl.Word) [14]int {
	return [14]int{w.Kind, w.From, w.To, w.Ballot, w.Slot, w.Was, w.Range, w.View, w.Client, w.Call, w.Disk, w.Block, w.Epoch, w.Data}
}

func councilNothing(c impl.SynCouncil) bool {
	return councilSame(c, impl.SynCouncil{})
}

func councilCopied(c impl.SynCouncil) impl.SynCouncil {
	out := impl.SynCouncil{Rounds: slices.Clone(c.Rounds), Radio: seekWordsCopied(c.Radio), Told: slices.Clone(c.Told)}
	for _, v := range c.Voters {
		out.Voters = append(out.Voters, voteCopied(v))
	}
	for _, s := range c.Seekers {
		out.Seekers = append(out.Seekers, seekCopied(s))
	}
	return out
}

// councilWith is a council with one thing that is another one.
func councilWith(c impl.SynCouncil, change func(c *impl.SynCouncil)) impl.SynCouncil {
	c = councilCopied(c)
	change(&c)
	return c
}

// councilNew is a council in which nothing has happened, written out.
func councilNew() impl.SynCouncil {
	return impl.SynCouncil{Voters: make([]impl.SynVoter, 3), Rounds: []int{0, 0, 0}, Seekers: make([]impl.SynSeeker, 3)}
}

// councilSay is a word to a member, with lists, and all other numbers of which are different.
func councilSay(kind, from, to, ballot, slot, was int) impl.Word {
	w := voteAsk(kind, ballot, slot)
	w.From, w.To, w.Was = from, to, was
	return w
}

// councilSome is a council with something of everything: two who seek in the phases 1 and 2, each one word ahead of going on, and words that each do another thing.
func councilSome() impl.SynCouncil {
	return impl.SynCouncil{
		Voters:  []impl.SynVoter{voteSome(), {Promised: 20, Papers: []impl.SynPaper{votePaper(seekSlot, 12)}}, {}},
		Rounds:  []int{6, 2, 0},
		Seekers: []impl.SynSeeker{seekTold(1, 12, 1), seekTold(2, 12, 0), {}},
		Radio: []impl.Word{
			councilSay(1, 1, 2, 17, seekSlot, 3),
			councilSay(2, 2, 0, seekBallot, seekSlot, 0),
			councilSay(4, 2, 1, seekBallot, seekSlot, 0),
			councilSay(5, 0, 1, 17, seekSlot, 50),
			councilSay(3, 0, 2, 9, 4, 0),
			councilSay(8, 100, 0, 5, 5, 5),
			councilSay(14, 3, 102, 5, 5, 5),
		},
		Told: []impl.SynPaper{votePaper(1, 8), votePaper(2, 9), votePaper(1, 17)},
	}
}

func councilPaperGood(p impl.SynPaper) bool {
	return p.Slot >= 1 && p.Slot <= 60 && p.Ballot >= 1 && p.Ballot <= 99999 && seekCmdGood(p.Cmd)
}

// councilGood is what SynCouncilOk is to answer.
func councilGood(c impl.SynCouncil) bool {
	if len(c.Voters) != 3 || len(c.Rounds) != 3 || len(c.Seekers) != 3 || len(c.Radio) > 60 || len(c.Told) > 240 {
		return false
	}
	for who := range 3 {
		if !voteGood(c.Voters[who]) || !seekGood(c.Seekers[who]) || c.Rounds[who] < 0 || c.Rounds[who] > 12498 {
			return false
		}
	}
	bad := func(p impl.SynPaper) bool { return !councilPaperGood(p) }
	return !slices.ContainsFunc(c.Told, bad) && !slices.ContainsFunc(c.Radio, func(w impl.Word) bool { return !wordGood(w) })
}

// councilMay says whether something can happen in a council that is ok.
func councilMay(c impl.SynCouncil, e impl.SynEvent) bool {
	who := e.Who == 0 || e.Who == 1 || e.Who == 2
	switch e.Kind {
	case 1:
		return who && c.Rounds[e.Who] < 12498 && e.Slot >= 1 && e.Slot <= 60 && seekCmdGood(e.Cmd)
	case 2, 3:
		return e.Word >= 0 && e.Word < len(c.Radio)
	case 4:
		return who
	}
	return false
}

// councilDone is what SynDo is to answer, by the plain readings of voters and seekers.
func councilDone(c impl.SynCouncil, e impl.SynEvent) (impl.SynCouncil, bool) {
	if !councilGood(c) {
		return impl.SynCouncil{}, false
	}
	if !councilMay(c, e) {
		return c, false
	}
	after := councilCopied(c)
	var sent []impl.Word
	switch e.Kind {
	case 1:
		after.Rounds[e.Who]++
		after.Seekers[e.Who], sent = seekBegun(e.Who, after.Rounds[e.Who], e.Slot, e.Cmd)
	case 2:
		sent = councilHeard(&after, c.Radio[e.Word])
	case 4:
		after.Seekers[e.Who] = impl.SynSeeker{}
	}
	if e.Kind == 3 || e.Kind == 2 && !e.Keep {
		after.Radio = slices.Delete(after.Radio, e.Word, e.Word+1)
	}
	for _, w := range sent {
		if len(after.Radio) < 60 {
			after.Radio = append(after.Radio, w)
		}
	}
	return after, true
}

// councilHeard is a word that comes to whom it is to, and what is sent then.
func councilHeard(c *impl.SynCouncil, w impl.Word) []impl.Word {
	me := w.To
	if me > 2 {
		return nil
	}
	if after, answer, ok := voteDone(c.Voters[me], me, w); ok {
		c.Voters[me] = after
		return []impl.Word{answer}
	}
	if round := w.Was >> 3; w.Kind == 5 && round > c.Rounds[me] && round < 12499 {
		c.Rounds[me] = round
		return nil
	}
	after, words, chosen := seekDone(c.Seekers[me], me, w)
	if !chosen {
		c.Seekers[me] = after
		return words
	}
	paper := impl.SynPaper{Slot: after.Slot, Ballot: after.Ballot, Cmd: after.Mine}
	if after.Best.Ballot > 0 {
		paper.Cmd = after.Best.Cmd
	}
	if len(c.Told) < 240 {
		c.Told = append(c.Told, paper)
	}
	c.Seekers[me] = impl.SynSeeker{}
	return words
}

// councilVoted is what SynChosen is to answer of a council that is ok: papers are counted, not paired.
func councilVoted(c impl.SynCouncil, slot int) (impl.Cmd, bool) {
	count := map[impl.SynPaper]int{}
	for _, v := range c.Voters {
		for _, p := range v.Papers {
			count[p]++
			if p.Slot == slot && count[p] == 2 {
				return p.Cmd, true
			}
		}
	}
	return impl.Cmd{}, false
}

// councilCalmed is what SynCalm is to answer.
func councilCalmed(c impl.SynCouncil, who, slot int, cmd impl.Cmd) (impl.SynCouncil, bool) {
	if !councilGood(c) {
		return impl.SynCouncil{}, false
	}
	c = councilCopied(c)
	c.Radio = nil
	for range 4 {
		next, ok := councilDone(c, impl.SynEvent{Kind: 1, Who: who, Slot: slot, Cmd: cmd})
		for n := 0; n < 500 && len(next.Radio) > 0; n++ {
			next, _ = councilDone(next, impl.SynEvent{Kind: 2})
		}
		if !ok || len(next.Told) > len(c.Told) {
			return next, ok
		}
		c = next
	}
	return c, false
}

// councilRun lets things happen, one behind the other, those that can be.
func councilRun(c impl.SynCouncil, list ...impl.SynEvent) impl.SynCouncil {
	for _, e := range list {
		c, _ = impl.SynDo(c, e)
	}
	return c
}

// councilTight is any council of few slots and small ballots, so that words, voters and seekers have much to do with each other.
func councilTight(r *rand.Rand) impl.SynCouncil {
	c := impl.SynCouncil{}
	for range 3 {
		v := impl.SynVoter{Promised: r.IntN(30)}
		for slot := 1; slot <= 2; slot++ {
			if v.Promised > 0 && r.IntN(2) == 0 {
				v.Papers = append(v.Papers, votePaper(slot, 1+r.IntN(v.Promised)))
			}
		}
		s := seekRandom(r)
		s.Slot, s.Ballot, s.Best = 1+r.IntN(2), 8+r.IntN(3), impl.SynPaper{}
		if r.IntN(2) == 0 {
			s.Best = votePaper(s.Slot, 1+r.IntN(7))
		}
		if r.IntN(6) == 0 {
			s = impl.SynSeeker{}
		}
		c.Voters, c.Seekers = append(c.Voters, v), append(c.Seekers, s)
		c.Rounds = append(c.Rounds, []int{0, 1, 2, 3, 12497, 12498}[r.IntN(6)])
	}
	for range []int{1, 5, 20, 57, 58, 59, 60}[r.IntN(7)] {
		w := councilTightWord(r)
		if s := c.Seekers[w.To%3]; s.Phase > 0 && r.IntN(2) == 0 {
			w.Kind, w.To, w.Ballot, w.Slot = 2*s.Phase, w.To%3, s.Ballot, s.Slot
		}
		c.Radio = append(c.Radio, w)
	}
	for range []int{0, 1, 5, 239, 240}[r.IntN(5)] {
		c.Told = append(c.Told, votePaper(1+r.IntN(60), 1+r.IntN(99999)))
	}
	return c
}

func councilTightWord(r *rand.Rand) impl.Word {
	if r.IntN(10) == 0 {
		return wordRandom(r)
	}
	was := r.IntN(12) - 1
	kind := 1 + r.IntN(5)
	if kind == 5 {
		was = []int{-1, 0, 7, 8, 15, 16, 23, 24, 31, 32, 99983, 99984, 99991, 99992, 99999}[r.IntN(15)]
	}
	w := councilSay(kind, []int{0, 1, 2, 0, 1, 2, 3, 100}[r.IntN(8)], []int{0, 1, 2, 0, 1, 2, 3, 103}[r.IntN(8)], 7+r.IntN(6), r.IntN(3), was)
	w.Cmd = voteCmd(r.IntN(90000))
	return w
}

// councilFull is a council with so many words under way that do nothing.
func councilFull(c impl.SynCouncil, words int) impl.SynCouncil {
	c = councilCopied(c)
	c.Radio = nil
	for n := range words {
		c.Radio = append(c.Radio, councilSay(9, 0, 100, n, 1, 0))
	}
	return c
}

// councilFullOfTold is a council of which so much was told.
func councilFullOfTold(c impl.SynCouncil, papers int) impl.SynCouncil {
	c = councilCopied(c)
	c.Told = nil
	for n := range papers {
		c.Told = append(c.Told, votePaper(1+n%60, 1+n))
	}
	return c
}

// councilsOk is councils that are ok: new, at the ends of what is, behind rows of events, and any.
func councilsOk() []impl.SynCouncil {
	out := []impl.SynCouncil{councilNew(), councilSome()}
	for _, n := range []int{0, 1, 57, 58, 59, 60} {
		out = append(out, councilFull(councilSome(), n))
	}
	for _, n := range []int{0, 239, 240} {
		out = append(out, councilFullOfTold(councilSome(), n))
	}
	for who := range 3 {
		for _, round := range []int{0, 1, 12497, 12498} {
			out = append(out, councilWith(councilSome(), func(c *impl.SynCouncil) { c.Rounds[who] = round }))
		}
	}
	r := rand.New(rand.NewPCG(71, 72))
	for range 30 {
		out = append(out, councilTight(r))
	}
	for _, style := range councilStyles() {
		c := councilNew()
		for n := range 60 {
			c, _ = councilDone(c, style.event(r, c, n))
			if n%12 == 11 {
				out = append(out, c)
			}
		}
	}
	return out
}

// councilSpoils is what spoils any council that has a word under way and something told, each by one thing alone.
func councilSpoils() map[string]func(c *impl.SynCouncil) {
	out := map[string]func(c *impl.SynCouncil){
		"no voters":       func(c *impl.SynCouncil) { c.Voters = nil },
		"two voters":      func(c *impl.SynCouncil) { c.Voters = c.Voters[:2] },
		"four voters":     func(c *impl.SynCouncil) { c.Voters = append(c.Voters, impl.SynVoter{}) },
		"no rounds":       func(c *impl.SynCouncil) { c.Rounds = nil },
		"two rounds":      func(c *impl.SynCouncil) { c.Rounds = c.Rounds[:2] },
		"four rounds":     func(c *impl.SynCouncil) { c.Rounds = append(c.Rounds, 0) },
		"no seekers":      func(c *impl.SynCouncil) { c.Seekers = nil },
		"two seekers":     func(c *impl.SynCouncil) { c.Seekers = c.Seekers[:2] },
		"four seekers":    func(c *impl.SynCouncil) { c.Seekers = append(c.Seekers, impl.SynSeeker{}) },
		"two of each":     func(c *impl.SynCouncil) { c.Voters, c.Rounds, c.Seekers = c.Voters[:2], c.Rounds[:2], c.Seekers[:2] },
		"a word too many": func(c *impl.SynCouncil) { *c = councilFull(*c, 61) },
		"a lot of words":  func(c *impl.SynCouncil) { *c = councilFull(*c, 500) },
		"told too much":   func(c *impl.SynCouncil) { *c = councilFullOfTold(*c, 241) },
		"told a lot":      func(c *impl.SynCouncil) { *c = councilFullOfTold(*c, 2000) },
		"word of nothing": func(c *impl.SynCouncil) { c.Radio = append(c.Radio, impl.Word{}) },
		"told of nothing": func(c *impl.SynCouncil) { c.Told = append(c.Told, impl.SynPaper{}) },
	}
	for who := range 3 {
		for _, round := range []int{secLowest, -2, -1, 12499, 12500, 99999, secHighest} {
			out["round "+strconv.Itoa(round)+" of "+strconv.Itoa(who)] = func(c *impl.SynCouncil) { c.Rounds[who] = round }
		}
		for name, v := range votersBad() {
			out["voter "+strconv.Itoa(who)+": "+name] = func(c *impl.SynCouncil) { c.Voters[who] = v }
		}
		for name, s := range seekersBad() {
			out["seeker "+strconv.Itoa(who)+": "+name] = func(c *impl.SynCouncil) { c.Seekers[who] = s }
		}
	}
	for name, w := range wordsBad() {
		out["first word: "+name] = func(c *impl.SynCouncil) { c.Radio[0] = w }
		out["last word: "+name] = func(c *impl.SynCouncil) { c.Radio[len(c.Radio)-1] = w }
	}
	for name, p := range councilPapersBad() {
		out["told first: "+name] = func(c *impl.SynCouncil) { c.Told[0] = p }
		out["told last: "+name] = func(c *impl.SynCouncil) { c.Told[len(c.Told)-1] = p }
	}
	return out
}

func councilPapersBad() map[string]impl.SynPaper {
	out := map[string]impl.SynPaper{"nothing": {}}
	for _, n := range []int{secLowest, -1, 0, 61, 62, secHighest} {
		out["slot "+strconv.Itoa(n)] = impl.SynPaper{Slot: n, Ballot: 8, Cmd: voteCmd(5)}
	}
	for _, n := range []int{secLowest, -1, 0, 100000, secHighest} {
		out["ballot "+strconv.Itoa(n)] = impl.SynPaper{Slot: 1, Ballot: n, Cmd: voteCmd(5)}
	}
	for name, c := range voteCmdsBad() {
		out[name] = impl.SynPaper{Slot: 1, Ballot: 8, Cmd: c}
	}
	return out
}

// councilsBad is councils that are not ok, each by one thing alone.
func councilsBad() map[string]impl.SynCouncil {
	out := map[string]impl.SynCouncil{"nothing": {}}
	for what, change := range councilSpoils() {
		out[what] = councilWith(councilSome(), change)
	}
	return out
}

// councilFew is something of each kind, and each word brought, kept and lost.
func councilFew(c impl.SynCouncil) []impl.SynEvent {
	out := []impl.SynEvent{{Kind: 4, Who: 0}, {Kind: 4, Who: 1}, {Kind: 4, Who: 2}, {Kind: 1, Who: 3, Slot: 1}, {Kind: 2, Word: -1}, {Kind: 3, Word: len(c.Radio)}, {Kind: 5}}
	for who := range 3 {
		out = append(out, impl.SynEvent{Kind: 1, Who: who, Slot: 1 + who, Cmd: voteCmd(600 + who)})
	}
	for place := range c.Radio {
		out = append(out, impl.SynEvent{Kind: 2, Word: place}, impl.SynEvent{Kind: 2, Word: place, Keep: true}, impl.SynEvent{Kind: 3, Word: place})
	}
	return out
}

// councilEvents is what can happen in a council and what cannot, at the ends of each part of an event.
func councilEvents(c impl.SynCouncil) []impl.SynEvent {
	out := []impl.SynEvent{{}}
	for _, kind := range []int{secLowest, -1, 0, 5, 6, 99, secHighest} {
		out = append(out, impl.SynEvent{Kind: kind, Slot: 1, Cmd: seekMine})
	}
	for _, who := range []int{secLowest, -1, 0, 1, 2, 3, 4, 100, secHighest} {
		out = append(out, impl.SynEvent{Kind: 4, Who: who})
		for _, slot := range []int{secLowest, -1, 0, 1, 2, seekSlot, 59, 60, 61, secHighest} {
			out = append(out, impl.SynEvent{Kind: 1, Who: who, Slot: slot, Cmd: voteCmd(4000 + len(out))})
		}
	}
	for _, cmd := range voteCmds() {
		out = append(out, impl.SynEvent{Kind: 1, Who: len(out) % 3, Slot: 1, Cmd: cmd})
	}
	for _, cmd := range voteCmdsBad() {
		out = append(out, impl.SynEvent{Kind: 1, Who: 1, Slot: 1, Cmd: cmd})
	}
	places := []int{secLowest, -2, 60, 61, secHighest}
	for place := -1; place <= len(c.Radio)+1; place++ {
		places = append(places, place)
	}
	for _, place := range places {
		for _, kind := range []int{2, 3} {
			out = append(out, impl.SynEvent{Kind: kind, Word: place}, impl.SynEvent{Kind: kind, Word: place, Keep: true})
		}
	}
	return out
}

// councilStyle is what happens in a row of events, and how often: of a hundred events these begin, forget, lose a word or double one, and the others bring one; late is how many of the words are not the first one.
type councilStyle struct {
	name                         string
	seekers, slots               int
	begins, forgets, loses, keep int
	late                         int
}

func councilStyles() []councilStyle {
	return []councilStyle{
		{"two for one slot", 2, 1, 6, 1, 5, 10, 50},
		{"two for one slot, slow", 2, 1, 3, 0, 8, 15, 95},
		{"two for one slot, in order", 2, 1, 6, 2, 10, 0, 10},
		{"three for one slot", 3, 1, 8, 1, 5, 5, 60},
		{"three for one slot, often forgetting", 3, 1, 7, 7, 8, 12, 50},
		{"three for one slot, much doubled", 3, 1, 5, 1, 25, 30, 40},
		{"two for two slots", 2, 2, 7, 1, 5, 10, 50},
		{"three for three slots", 3, 3, 9, 2, 8, 12, 50},
		{"three for all slots", 3, 60, 10, 1, 5, 5, 30},
	}
}

func (s councilStyle) event(r *rand.Rand, c impl.SynCouncil, n int) impl.SynEvent {
	e := impl.SynEvent{Kind: 2, Who: r.IntN(s.seekers), Slot: 1 + r.IntN(s.slots), Cmd: voteCmd(50 + 9*n)}
	if len(c.Radio) > 0 && r.IntN(100) < s.late {
		e.Word = r.IntN(len(c.Radio))
	}
	switch chance := r.IntN(100); {
	case len(c.Radio) == 0 || chance < s.begins:
		e.Kind = 1
	case chance < s.begins+s.forgets:
		e.Kind = 4
	case chance < s.begins+s.forgets+s.loses:
		e.Kind = 3
	case chance < s.begins+s.forgets+s.loses+s.keep:
		e.Keep = true
	}
	return e
}
