package tests

import (
	"math/rand/v2"
	"slices"
	"strconv"
	"strings"

	"loop.example/pannier/impl"
)

// voteCmd is a command in form all numbers of which are of n, so that no two are alike.
func voteCmd(n int) impl.Cmd {
	return impl.Cmd{Kind: n % 8, Client: n, Call: n + 1, Disk: n + 2, Arg: n + 3, Epoch: n + 4, Range: n + 5, Num: n + 6, A: n + 7, B: n + 8}
}

// voteCmds is commands at the ends of what is in form.
func voteCmds() []impl.Cmd {
	return []impl.Cmd{{}, wordLeast().Cmd, wordGreatest().Cmd, wordLoud().Cmd}
}

// voteCmdsBad is commands that are not in form, each by one number alone.
func voteCmdsBad() map[string]impl.Cmd {
	out := map[string]impl.Cmd{}
	for _, f := range wordFields() {
		for _, n := range []int{secLowest, -2, -1, 8, 100000, secHighest} {
			if strings.HasPrefix(f.name, "Cmd.") && !wordFits(f.name, n) {
				out[f.name+" "+strconv.Itoa(n)] = wordWith(wordLoud(), f, n).Cmd
			}
		}
	}
	return out
}

// votePaper is a paper with a command of its own, in form whatever the slot and the ballot are.
func votePaper(slot, ballot int) impl.SynPaper {
	return impl.SynPaper{Slot: slot, Ballot: ballot, Cmd: voteCmd(1000 + slot&63*8 + ballot&7)}
}

// voteFull is papers of the first n slots.
func voteFull(n int) []impl.SynPaper {
	var out []impl.SynPaper
	for slot := 1; slot <= n; slot++ {
		out = append(out, votePaper(slot, 1+slot*7%50))
	}
	return out
}

// voteSome is a voter with papers between which there is room, one of them by the ballot that it promised.
func voteSome() impl.SynVoter {
	return impl.SynVoter{Promised: 50, Papers: []impl.SynPaper{votePaper(3, 20), votePaper(5, 50), votePaper(6, 1), votePaper(40, 49)}}
}

func voteSame(a, b impl.SynVoter) bool {
	return a.Promised == b.Promised && slices.Equal(a.Papers, b.Papers)
}

func voteCopied(v impl.SynVoter) impl.SynVoter {
	v.Papers = slices.Clone(v.Papers)
	return v
}

// voteGood is what SynVoterOk is to answer.
func voteGood(v impl.SynVoter) bool {
	highest := 0
	for _, p := range v.Papers {
		if p.Slot <= highest || p.Slot > 60 || p.Ballot < 1 || p.Ballot > v.Promised || !wordGood(impl.Word{Kind: 1, Cmd: p.Cmd}) {
			return false
		}
		highest = p.Slot
	}
	return v.Promised >= 0 && v.Promised <= 99999
}

// voteMayAsk says whether a voter that is ok does anything with a word.
func voteMayAsk(me int, w impl.Word) bool {
	return me >= 0 && me <= 2 && (w.Kind == 1 || w.Kind == 3) && w.Slot >= 1 && w.Slot <= 60 && w.Ballot >= 1 && wordGood(w)
}

// voteDone is what SynVote is to answer: papers lie in a table by slot, so that it is not the program's own way.
func voteDone(v impl.SynVoter, me int, w impl.Word) (impl.SynVoter, impl.Word, bool) {
	if !voteGood(v) || !voteMayAsk(me, w) {
		return v, impl.Word{}, false
	}
	var table [61]impl.SynPaper
	for _, p := range v.Papers {
		table[p.Slot] = p
	}
	answer := impl.Word{Kind: 5, From: me, To: w.From, Ballot: w.Ballot, Slot: w.Slot, Was: v.Promised}
	after := impl.SynVoter{Promised: v.Promised}
	switch old := table[w.Slot]; {
	case w.Kind == 1 && w.Ballot > v.Promised:
		after.Promised = w.Ballot
		answer.Kind, answer.Was, answer.Cmd = 2, old.Ballot, old.Cmd
	case w.Kind == 3 && w.Ballot >= v.Promised:
		after.Promised = w.Ballot
		table[w.Slot] = impl.SynPaper{Slot: w.Slot, Ballot: w.Ballot, Cmd: w.Cmd}
		answer.Kind, answer.Was = 4, 0
	}
	for _, p := range table {
		if p.Slot > 0 {
			after.Papers = append(after.Papers, p)
		}
	}
	return after, answer, true
}

// votersOk is voters that are ok: at the ends of what is, with papers everywhere, and any.
func votersOk() []impl.SynVoter {
	out := []impl.SynVoter{
		{}, {Promised: 1}, {Promised: 7}, {Promised: 99998}, {Promised: 99999}, {Promised: 5, Papers: []impl.SynPaper{}}, voteSome(),
		{Promised: 1, Papers: []impl.SynPaper{votePaper(1, 1)}},
		{Promised: 99999, Papers: []impl.SynPaper{votePaper(60, 99999)}},
		{Promised: 99999, Papers: []impl.SynPaper{votePaper(1, 1), votePaper(60, 99999)}},
		{Promised: 50, Papers: voteFull(59)}, {Promised: 50, Papers: voteFull(60)}, {Promised: 60, Papers: voteFull(60)[1:]},
		{Promised: 99999, Papers: voteFull(60)},
	}
	for _, c := range voteCmds() {
		out = append(out, impl.SynVoter{Promised: 9, Papers: []impl.SynPaper{{Slot: 2, Ballot: 9, Cmd: c}, {Slot: 4, Ballot: 8, Cmd: c}}})
	}
	r := rand.New(rand.NewPCG(51, 52))
	for range 60 {
		out = append(out, voteRandom(r))
	}
	return out
}

func voteRandom(r *rand.Rand) impl.SynVoter {
	v := impl.SynVoter{Promised: []int{3, 60, 99999}[r.IntN(3)]}
	often := 1 + r.IntN(9)
	for slot := 1; slot <= 60; slot++ {
		if r.IntN(often) == 0 {
			v.Papers = append(v.Papers, impl.SynPaper{Slot: slot, Ballot: 1 + r.IntN(v.Promised), Cmd: voteCmd(r.IntN(90000))})
		}
	}
	return v
}

// votersBad is voters that are not ok, each by one thing alone.
func votersBad() map[string]impl.SynVoter {
	papers := func(list ...impl.SynPaper) impl.SynVoter {
		return impl.SynVoter{Promised: 50, Papers: list}
	}
	out := map[string]impl.SynVoter{
		"Promised of -1":                   {Promised: -1},
		"Promised far below":               {Promised: secLowest},
		"Promised above":                   {Promised: 100000},
		"Promised far above":               {Promised: secHighest},
		"Promised above, with papers":      {Promised: 100000, Papers: voteFull(60)},
		"one paper too many":               {Promised: 50, Papers: voteFull(61)},
		"all papers, the last twice":       {Promised: 50, Papers: append(voteFull(60), votePaper(60, 49))},
		"a paper where none is promised":   {Papers: []impl.SynPaper{votePaper(1, 1)}},
		"a paper above WordMax":            {Promised: 99999, Papers: []impl.SynPaper{votePaper(1, 100000)}},
		"both above WordMax":               {Promised: 100000, Papers: []impl.SynPaper{votePaper(1, 100000)}},
		"a ballot above":                   papers(votePaper(3, 51)),
		"a ballot above, the first":        papers(votePaper(3, 51), votePaper(4, 50)),
		"a ballot above, the last":         papers(votePaper(3, 50), votePaper(4, 51)),
		"a ballot of 0":                    papers(votePaper(3, 0), votePaper(4, 50)),
		"a ballot of -1":                   papers(votePaper(3, 20), votePaper(4, -1)),
		"a ballot far below":               papers(votePaper(3, secLowest)),
		"a slot of 0":                      papers(votePaper(0, 20), votePaper(4, 20)),
		"a slot of -1":                     papers(votePaper(-1, 20)),
		"a slot far below":                 papers(votePaper(secLowest, 20), votePaper(4, 20)),
		"a slot behind the last":           papers(votePaper(3, 20), votePaper(61, 20)),
		"a slot far above":                 papers(votePaper(secHighest, 20)),
		"a paper twice":                    papers(votePaper(3, 20), votePaper(3, 20)),
		"a slot twice, growing":            papers(votePaper(3, 20), votePaper(3, 21)),
		"a slot twice, apart":              papers(votePaper(3, 20), votePaper(4, 20), votePaper(3, 20)),
		"falling":                          papers(votePaper(4, 20), votePaper(3, 21)),
		"falling in the end":               papers(votePaper(1, 20), votePaper(9, 21), votePaper(8, 22)),
		"falling in the beginning":         papers(votePaper(9, 20), votePaper(8, 21), votePaper(10, 22)),
		"nothing where a paper was":        papers(impl.SynPaper{}, votePaper(3, 20)),
		"nothing where the last paper was": papers(votePaper(3, 20), impl.SynPaper{}),
	}
	for name, c := range voteCmdsBad() {
		out["a paper with "+name] = papers(votePaper(1, 20), impl.SynPaper{Slot: 2, Ballot: 20, Cmd: c})
	}
	return out
}

// voteAsk is a word to a voter all other numbers of which are different, so that none can stand for another one.
func voteAsk(kind, ballot, slot int) impl.Word {
	w := wordLoud()
	w.Kind, w.Ballot, w.Slot = kind, ballot, slot
	return w
}

// voteSlots is slots with a paper, without one, and ahead of, between and behind those that have one.
func voteSlots(v impl.SynVoter) []int {
	out := []int{1, 2, 30, 59, 60}
	for place := 0; place < len(v.Papers); place += 1 + len(v.Papers)/3 {
		slot := v.Papers[place].Slot
		out = append(out, slot, max(slot-1, 1), min(slot+1, 60))
	}
	return out
}

// voteBallots is ballots at the ends, at what was promised and beside it, and at those that were voted by.
func voteBallots(v impl.SynVoter) []int {
	out := []int{1, 2, 30, 99998, 99999, v.Promised - 1, v.Promised, v.Promised + 1}
	for place := 0; place < len(v.Papers); place += 1 + len(v.Papers)/2 {
		out = append(out, v.Papers[place].Ballot)
	}
	return slices.DeleteFunc(out, func(n int) bool { return n < 1 || n > 99999 })
}

// voteWords is words of both kinds that a voter does something with.
func voteWords(v impl.SynVoter) []impl.Word {
	cmds := voteCmds()
	var out []impl.Word
	for _, slot := range voteSlots(v) {
		for _, ballot := range voteBallots(v) {
			for _, kind := range []int{1, 3} {
				w := voteAsk(kind, ballot, slot)
				w.Cmd = cmds[len(out)%len(cmds)]
				w.From = []int{0, 1, 2, 3, 4, 100, 101, 102, 103}[len(out)%9]
				w.To = []int{0, 2, 4, 103}[len(out)%4]
				out = append(out, w)
			}
		}
	}
	return out
}

// voteWordsBad is words that no voter does anything with, each for one thing alone.
func voteWordsBad() map[string]impl.Word {
	out := map[string]impl.Word{}
	for name, w := range map[string]impl.Word{"prepare": voteAsk(1, 99999, 5), "accept": voteAsk(3, 99999, 5)} {
		for _, f := range wordFields() {
			for _, n := range voteWrong(f.name) {
				out[name+": "+f.name+" "+strconv.Itoa(n)] = wordWith(w, f, n)
			}
		}
		for what, bad := range wordListsBad(w) {
			out[name+": "+what] = bad
		}
	}
	out["nothing"] = impl.Word{}
	return out
}

// voteWrong is, by the name of a number of a word, those that no voter does anything with.
func voteWrong(name string) []int {
	switch name {
	case "Kind":
		return []int{secLowest, -1, 0, 2, 4, 5, 6, 7, 8, 9, 10, 11, 12, 13, 14, 15, 16, 17, 99999, secHighest}
	case "Slot":
		return []int{secLowest, -2, -1, 0, 61, 62, 99999, 100000, secHighest}
	case "Ballot":
		return []int{secLowest, -2, -1, 0, 100000, secHighest}
	}
	return slices.DeleteFunc([]int{secLowest, -2, -1, 5, 8, 99, 104, 100000, secHighest}, func(n int) bool { return wordFits(name, n) })
}
