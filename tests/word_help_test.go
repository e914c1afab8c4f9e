package tests

import (
	"encoding/binary"
	"math/rand/v2"
	"slices"
	"strconv"

	"loop.example/pannier/impl"
)

// wordField is a number of a word, by its name in the document.
type wordField struct {
	name string
	at   func(w *impl.Word) *int
}

// wordFields is all numbers of a word but its lists, in the document's order.
func wordFields() []wordField {
	return []wordField{
		{"Kind", func(w *impl.Word) *int { return &w.Kind }},
		{"From", func(w *impl.Word) *int { return &w.From }},
		{"To", func(w *impl.Word) *int { return &w.To }},
		{"Ballot", func(w *impl.Word) *int { return &w.Ballot }},
		{"Slot", func(w *impl.Word) *int { return &w.Slot }},
		{"Was", func(w *impl.Word) *int { return &w.Was }},
		{"Cmd.Kind", func(w *impl.Word) *int { return &w.Cmd.Kind }},
		{"Cmd.Client", func(w *impl.Word) *int { return &w.Cmd.Client }},
		{"Cmd.Call", func(w *impl.Word) *int { return &w.Cmd.Call }},
		{"Cmd.Disk", func(w *impl.Word) *int { return &w.Cmd.Disk }},
		{"Cmd.Arg", func(w *impl.Word) *int { return &w.Cmd.Arg }},
		{"Cmd.Epoch", func(w *impl.Word) *int { return &w.Cmd.Epoch }},
		{"Cmd.Range", func(w *impl.Word) *int { return &w.Cmd.Range }},
		{"Cmd.Num", func(w *impl.Word) *int { return &w.Cmd.Num }},
		{"Cmd.A", func(w *impl.Word) *int { return &w.Cmd.A }},
		{"Cmd.B", func(w *impl.Word) *int { return &w.Cmd.B }},
		{"Range", func(w *impl.Word) *int { return &w.Range }},
		{"View", func(w *impl.Word) *int { return &w.View }},
		{"Client", func(w *impl.Word) *int { return &w.Client }},
		{"Call", func(w *impl.Word) *int { return &w.Call }},
		{"Disk", func(w *impl.Word) *int { return &w.Disk }},
		{"Block", func(w *impl.Word) *int { return &w.Block }},
		{"Epoch", func(w *impl.Word) *int { return &w.Epoch }},
		{"Data", func(w *impl.Word) *int { return &w.Data }},
	}
}

// wordLimits is, by the name of a number, the least and the greatest that is ok, where these are not -1 and WordMax; of places, those of servers.
func wordLimits(name string) (int, int) {
	switch name {
	case "Kind":
		return 1, 15
	case "From", "To":
		return 0, 4
	case "Cmd.Kind":
		return 0, 7
	}
	return -1, 99999
}

func wordFits(name string, n int) bool {
	low, high := wordLimits(name)
	return n >= low && n <= high || (name == "From" || name == "To") && n >= 100 && n <= 103
}

// wordGood is what WordOk is to answer.
func wordGood(w impl.Word) bool {
	for _, f := range wordFields() {
		if !wordFits(f.name, *f.at(&w)) {
			return false
		}
	}
	calls := map[int]int{}
	for i, l := range w.Last {
		if l.Client < 0 || l.Client > 3 || l.Call < 1 || l.Call > 99999 || i > 0 && w.Last[i-1].Client > l.Client {
			return false
		}
		calls[l.Client] = l.Call
	}
	for _, p := range w.Pieces {
		if !blkGood(p) {
			return false
		}
	}
	return len(calls) == len(w.Last) && len(w.Pieces) <= 60 && slices.Equal(blkListed(blkTable(w.Pieces)), w.Pieces)
}

// wordAll is all numbers of a word in the order of their bytes.
func wordAll(w impl.Word) []int {
	var out []int
	for _, f := range wordFields() {
		out = append(out, *f.at(&w))
	}
	out = append(out, len(w.Pieces))
	for _, p := range w.Pieces {
		out = append(out, p.Disk, p.Block, p.Epoch, p.Data)
	}
	out = append(out, len(w.Last))
	for _, l := range w.Last {
		out = append(out, l.Client, l.Call)
	}
	return out
}

// wordCells is the bytes of each number for itself; those of a number below -1, which has none, are of its 64 bits.
func wordCells(numbers []int) [][]byte {
	var out [][]byte
	for _, n := range numbers {
		out = append(out, binary.AppendUvarint(nil, uint64(n)+1))
	}
	return out
}

// wordRow is the bytes of a word, ok or not.
func wordRow(w impl.Word) []byte {
	return slices.Concat(wordCells(wordAll(w))...)
}

func wordSame(a, b impl.Word) bool {
	return slices.Equal(wordAll(a), wordAll(b)) && len(a.Pieces) == len(b.Pieces)
}

func wordNothing(w impl.Word) bool {
	return wordSame(w, impl.Word{})
}

// wordWith is a word in which one number is another one.
func wordWith(w impl.Word, f wordField, n int) impl.Word {
	*f.at(&w) = n
	return w
}

// wordPlain is a word whose numbers are all 0 but those that must not be.
func wordPlain() impl.Word {
	return impl.Word{Kind: 1}
}

// wordLoud is a word all numbers of which are different, so that none can stand for another one.
func wordLoud() impl.Word {
	w := impl.Word{
		Pieces: []impl.BlkPiece{{Disk: 301, Block: 302, Epoch: 303, Data: 304}, {Disk: 305, Block: 306, Epoch: 307, Data: 308}},
		Last:   []impl.BlkLast{{Client: 0, Call: 309}, {Client: 2, Call: 310}},
	}
	for i, f := range wordFields() {
		*f.at(&w) = 200 + i
	}
	w.Kind, w.From, w.To, w.Cmd.Kind = 14, 3, 102, 6
	return w
}

// wordGreatest is the word with the most, and the greatest, numbers.
func wordGreatest() impl.Word {
	w := impl.Word{}
	for _, f := range wordFields() {
		_, high := wordLimits(f.name)
		*f.at(&w) = high
	}
	w.From, w.To = 103, 103
	for i := range impl.BlkPieces {
		w.Pieces = append(w.Pieces, impl.BlkPiece{Disk: 99999, Block: 99999, Epoch: 99940 + i, Data: 99999})
	}
	for i := range impl.BlkClients {
		w.Last = append(w.Last, impl.BlkLast{Client: i, Call: 99999})
	}
	return w
}

// wordLeast is the word with the fewest, and the least, numbers.
func wordLeast() impl.Word {
	w := impl.Word{}
	for _, f := range wordFields() {
		low, _ := wordLimits(f.name)
		*f.at(&w) = low
	}
	return w
}

// wordTurns is numbers at both sides of where they have one byte more.
func wordTurns() []int {
	return []int{-1, 0, 1, 125, 126, 127, 128, 254, 255, 256, 16381, 16382, 16383, 16384, 32766, 32767, 65535, 99998, 99999}
}

func wordRandom(r *rand.Rand) impl.Word {
	w := impl.Word{}
	turns := wordTurns()
	for _, f := range wordFields() {
		low, high := wordLimits(f.name)
		switch n := low + r.IntN(high-low+1); {
		case high != 99999:
			*f.at(&w) = n
		case r.IntN(2) == 0:
			*f.at(&w) = turns[r.IntN(len(turns))]
		default:
			*f.at(&w) = n >> r.IntN(17)
		}
	}
	if r.IntN(2) == 0 {
		w.From = 100 + r.IntN(4)
	}
	if r.IntN(2) == 0 {
		w.To = 100 + r.IntN(4)
	}
	if r.IntN(3) > 0 {
		w.Pieces = blkRandom(r)
	}
	forms := lastForms()
	w.Last = forms[r.IntN(len(forms))]
	return w
}

// wordsOk is words that are ok: of every kind, with every number at every turn, with every list.
func wordsOk() []impl.Word {
	out := []impl.Word{wordPlain(), wordLoud(), wordGreatest(), wordLeast()}
	for _, f := range wordFields() {
		for _, n := range append(wordTurns(), 2, 3, 4, 5, 6, 7, 8, 9, 10, 11, 12, 13, 14, 15, 100, 101, 102, 103) {
			if wordFits(f.name, n) {
				out = append(out, wordWith(wordPlain(), f, n), wordWith(wordLoud(), f, n))
			}
		}
	}
	for _, list := range blkLists() {
		w := wordPlain()
		w.Pieces = list
		out = append(out, w)
	}
	for _, list := range lastForms() {
		w := wordLoud()
		w.Last = list
		out = append(out, w)
	}
	r := rand.New(rand.NewPCG(41, 42))
	for range 400 {
		out = append(out, wordRandom(r))
	}
	return out
}

// wordsBad is words that are not ok, each by one thing alone.
func wordsBad() map[string]impl.Word {
	out := map[string]impl.Word{}
	for name, from := range map[string]impl.Word{"plain": wordPlain(), "loud": wordLoud()} {
		for _, f := range wordFields() {
			low, high := wordLimits(f.name)
			for _, n := range []int{low - 1, high + 1, -2, 99, 104, 100000, -99999, 1 << 31, 1 << 40, secLowest, secHighest} {
				if !wordFits(f.name, n) {
					out[name+": "+f.name+" "+strconv.Itoa(n)] = wordWith(from, f, n)
				}
			}
		}
		for what, w := range wordListsBad(from) {
			out[name+": "+what] = w
		}
	}
	out["nothing"] = impl.Word{}
	return out
}

// wordListsBad is a word with a list that is not ok, each by one thing alone.
func wordListsBad(w impl.Word) map[string]impl.Word {
	out := map[string]impl.Word{}
	for what, list := range blkBad() {
		bad := w
		bad.Pieces = list
		out["pieces: "+what] = bad
	}
	for what, list := range lastBad() {
		bad := w
		bad.Last = list
		out["last: "+what] = bad
	}
	return out
}
