package tests

import (
	"bytes"
	"math/rand/v2"
	"slices"
	"testing"

	"loop.example/pannier/impl"
)

func TestWordNumbersOfKinds(t *testing.T) {
	kinds := []int{impl.WordPrepare, impl.WordPromise, impl.WordAccept, impl.WordAccepted, impl.WordDenied, impl.WordChosen, impl.WordNeed, impl.WordAsk,
		impl.WordAnswer, impl.WordPut, impl.WordTook, impl.WordCheck, impl.WordSeen, impl.WordCopy, impl.WordJoined}
	for place, kind := range kinds {
		if kind != place+1 {
			t.Errorf("the word at %d is of the kind %d", place, kind)
		}
	}
	cmds := []int{impl.CmdNone, impl.CmdCreate, impl.CmdSnap, impl.CmdDelete, impl.CmdGrow, impl.CmdView, impl.CmdAck, impl.CmdJudge}
	for place, kind := range cmds {
		if kind != place {
			t.Errorf("the command at %d is of the kind %d", place, kind)
		}
	}
	if len(kinds) != 15 || impl.WordServer != 5 || impl.WordClient != 100 {
		t.Error(len(kinds), impl.WordServer, impl.WordClient)
	}
}

func TestWordOkOfWordsThatAre(t *testing.T) {
	for _, w := range wordsOk() {
		if !wordGood(w) || !impl.WordOk(w) {
			t.Fatalf("%v", w)
		}
	}
}

func TestWordOkOfWordsThatAreNot(t *testing.T) {
	for name, w := range wordsBad() {
		if wordGood(w) || impl.WordOk(w) {
			t.Errorf("%s: %v", name, w)
		}
	}
}

// wordAtEnds asks of one number of a word just which are ok.
func wordAtEnds(t *testing.T, name string, ok, wrong []int) {
	t.Helper()
	for _, f := range wordFields() {
		if f.name != name {
			continue
		}
		for _, from := range []impl.Word{wordPlain(), wordLoud()} {
			for _, n := range ok {
				if !impl.WordOk(wordWith(from, f, n)) {
					t.Errorf("%s %d is not ok", name, n)
				}
			}
			for _, n := range wrong {
				if w := wordWith(from, f, n); impl.WordOk(w) || len(impl.WordPack(w)) != 0 {
					t.Errorf("%s %d is ok", name, n)
				}
			}
		}
		return
	}
	t.Errorf("no number is named %s", name)
}

func TestWordOkOfKindsAndPlaces(t *testing.T) {
	wordAtEnds(t, "Kind", []int{1, 2, 3, 4, 5, 6, 7, 8, 9, 10, 11, 12, 13, 14, 15}, []int{secLowest, -2, -1, 0, 16, 17, 99999, 100000, secHighest})
	wordAtEnds(t, "Cmd.Kind", []int{0, 1, 2, 3, 4, 5, 6, 7}, []int{secLowest, -2, -1, 8, 9, 99999, 100000, secHighest})
	for _, name := range []string{"From", "To"} {
		wordAtEnds(t, name, []int{0, 1, 2, 3, 4, 100, 101, 102, 103}, []int{secLowest, -100, -2, -1, 5, 6, 50, 99, 104, 105, 200, 99999, 100000, secHighest})
	}
}

func TestWordOkOfAllOtherNumbers(t *testing.T) {
	names := 0
	for _, f := range wordFields() {
		if low, _ := wordLimits(f.name); low == -1 {
			wordAtEnds(t, f.name, []int{-1, 0, 1, 99998, 99999}, []int{secLowest, -99999, -3, -2, 100000, 100001, 1 << 31, 1 << 32, secHighest})
			names++
		}
	}
	if names != 20 {
		t.Errorf("%d numbers", names)
	}
}

func TestWordOkOfLists(t *testing.T) {
	for _, n := range []int{0, 1, impl.BlkPieces - 1, impl.BlkPieces, impl.BlkPieces + 1, 2 * impl.BlkPieces} {
		w := wordLoud()
		w.Pieces = blkFull(n)
		if good := n <= 60; impl.WordOk(w) != good || (len(impl.WordPack(w)) > 0) != good {
			t.Errorf("%d pieces", n)
		}
	}
	for n := range impl.BlkClients + 2 {
		w := wordPlain()
		for client := range n {
			w.Last = append(w.Last, impl.BlkLast{Client: client, Call: 5})
		}
		if good := n <= 4; impl.WordOk(w) != good || (len(impl.WordPack(w)) > 0) != good {
			t.Errorf("%d last calls", n)
		}
	}
	w := wordPlain()
	w.Pieces, w.Last = []impl.BlkPiece{}, []impl.BlkLast{}
	if !impl.WordOk(w) || !bytes.Equal(impl.WordPack(w), impl.WordPack(wordPlain())) {
		t.Error("an empty list is another one than no list")
	}
}

// Words of random numbers, some of them wrong in one place or in two.
func TestWordOkAsItIsRead(t *testing.T) {
	r := rand.New(rand.NewPCG(43, 44))
	fields := wordFields()
	wrong := []int{-3, -2, -1, 0, 4, 5, 7, 8, 15, 16, 99, 100, 103, 104, 99999, 100000}
	good := 0
	for range 3000 {
		w := wordRandom(r)
		for range r.IntN(3) {
			w = wordWith(w, fields[r.IntN(len(fields))], wrong[r.IntN(len(wrong))])
		}
		if impl.WordOk(w) != wordGood(w) {
			t.Fatalf("%v: %v", w, impl.WordOk(w))
		}
		if wordGood(w) {
			good++
		}
	}
	if good < 500 || good > 2500 {
		t.Errorf("%d of 3000 are ok", good)
	}
}

// What is written out by hand: -1, and numbers of one, two and three bytes.
func TestWordPackOfNumbers(t *testing.T) {
	rows := map[int][]byte{
		-1: {0}, 0: {1}, 1: {2}, 125: {126}, 126: {127}, 127: {128, 1}, 128: {129, 1}, 254: {255, 1}, 255: {128, 2},
		16381: {254, 127}, 16382: {255, 127}, 16383: {128, 128, 1}, 16384: {129, 128, 1}, 20000: {161, 156, 1}, 99999: {160, 141, 6},
	}
	for n, row := range rows {
		w := wordPlain()
		w.Was = n
		want := slices.Concat([]byte{2, 1, 1, 1, 1}, row, bytes.Repeat([]byte{1}, 20))
		if got := impl.WordPack(w); !bytes.Equal(got, want) {
			t.Errorf("%d: %v, not %v", n, got, want)
		}
		if got, ok := impl.WordUnpack(want); !ok || !wordSame(got, w) {
			t.Errorf("%d: %v is read as %v %v", n, want, got, ok)
		}
	}
}

func TestWordPackIsInTheOrderOfTheDocument(t *testing.T) {
	numbers := []int{14, 3, 102, 203, 204, 205, 6, 207, 208, 209, 210, 211, 212, 213, 214, 215, 216, 217, 218, 219, 220, 221, 222, 223,
		2, 301, 302, 303, 304, 305, 306, 307, 308, 2, 0, 309, 2, 310}
	var want []byte
	for _, n := range numbers {
		if n+1 < 128 {
			want = append(want, byte(n+1))
		} else {
			want = append(want, byte((n+1)%128+128), byte((n+1)/128))
		}
	}
	if got := impl.WordPack(wordLoud()); !bytes.Equal(got, want) {
		t.Errorf("%v, not %v", got, want)
	}
}

func TestWordPackOfEachWord(t *testing.T) {
	for _, w := range wordsOk() {
		if got, want := impl.WordPack(w), wordRow(w); !bytes.Equal(got, want) {
			t.Fatalf("%v: %v, not %v", w, got, want)
		}
	}
}

func TestWordPackOfWordsThatAreNotOk(t *testing.T) {
	for name, w := range wordsBad() {
		if got := impl.WordPack(w); len(got) != 0 {
			t.Errorf("%s: %v", name, got)
		}
	}
}

// wordRefused asks for the fixed answer to bytes that are of no word.
func wordRefused(t *testing.T, name string, row []byte) {
	t.Helper()
	if w, ok := impl.WordUnpack(row); ok || !wordNothing(w) {
		t.Fatalf("%s: %v is read as %v %v", name, row, w, ok)
	}
}

// wordFew is words that are ok, few enough to change their bytes at every place.
func wordFew() []impl.Word {
	r := rand.New(rand.NewPCG(45, 46))
	few := wordPlain()
	few.Last = []impl.BlkLast{{Client: 1, Call: 16383}}
	out := []impl.Word{wordPlain(), wordLoud(), wordGreatest(), wordLeast(), few}
	for range 10 {
		out = append(out, wordRandom(r))
	}
	return out
}

func TestWordUnpackOfTooFewBytesOrTooMany(t *testing.T) {
	wordRefused(t, "no bytes", nil)
	wordRefused(t, "no bytes", []byte{})
	for _, w := range wordFew() {
		row := wordRow(w)
		for n := range row {
			wordRefused(t, "an end too soon", slices.Clone(row[:n]))
		}
		for _, more := range [][]byte{{0}, {1}, {127}, {128}, {255}, {1, 1}, {128, 0}, row} {
			wordRefused(t, "bytes too many", slices.Concat(row, more))
		}
	}
}

// wordRecelled is the row of a word, one of its numbers having other bytes.
func wordRecelled(cells [][]byte, place int, other []byte) []byte {
	out := slices.Clone(cells)
	out[place] = other
	return slices.Concat(out...)
}

func TestWordUnpackOfNeedlessBytes(t *testing.T) {
	for _, w := range wordFew() {
		cells := wordCells(wordAll(w))
		for place, cell := range cells {
			open := slices.Clone(cell)
			open[len(open)-1] += 128
			for _, needless := range []int{0, 1, 2, 3, 6, 7, 8, 9, 10, 30} {
				longer := slices.Concat(open, bytes.Repeat([]byte{128}, needless), []byte{0})
				wordRefused(t, "needless bytes", wordRecelled(cells, place, longer))
			}
			// Nothing but the lowest 64 bits would be left of it, if it were shifted away.
			for _, more := range []int{2, 6, 8, 9, 10, 18, 27, 63} {
				longer := slices.Concat(open, bytes.Repeat([]byte{128}, more), []byte{1})
				wordRefused(t, "a number that is too great", wordRecelled(cells, place, longer))
			}
		}
	}
}

func TestWordUnpackOfNumbersThatGoOn(t *testing.T) {
	for _, w := range wordFew() {
		cells := wordCells(wordAll(w))
		for place := range cells {
			for _, c := range []byte{128, 129, 255} {
				for _, many := range []int{4, 9, 10, 11, 70, 5000} {
					goes := bytes.Repeat([]byte{c}, many)
					wordRefused(t, "a number that goes on to the end", slices.Concat(slices.Concat(cells[:place]...), goes))
					wordRefused(t, "a number that goes on", wordRecelled(cells, place, goes))
					wordRefused(t, "a number that goes on and ends", wordRecelled(cells, place, append(goes, 1)))
				}
			}
		}
	}
}

// How many there are is the 25th number; how many Last, the one behind the numbers of the pieces.
func TestWordUnpackOfWrongCounts(t *testing.T) {
	for _, w := range wordFew() {
		numbers := wordAll(w)
		for _, place := range []int{24, 25 + 4*len(w.Pieces)} {
			for _, count := range []int{-1, 0, 1, 2, 3, 4, 5, 59, 60, 61, 100, 99999, 100000, 1 << 31, 1 << 40, secHighest - 1, secHighest} {
				if count == numbers[place] {
					continue
				}
				other := slices.Clone(numbers)
				other[place] = count
				row := slices.Concat(wordCells(other)...)
				if got, ok := impl.WordUnpack(row); ok && !bytes.Equal(wordRow(got), row) || !ok && !wordNothing(got) {
					t.Fatalf("%d in the place of %d: %v", count, numbers[place], got)
				}
				if count < 0 || count > 60 {
					wordRefused(t, "a wrong count", row)
				}
			}
		}
	}
	wordRefused(t, "pieces that do not come", slices.Concat(wordRow(wordPlain())[:24], []byte{61, 1}))
	wordRefused(t, "more pieces than there may be", slices.Concat(wordRow(wordPlain())[:24], []byte{62}, bytes.Repeat([]byte{2}, 61*4), []byte{1}))
	wordRefused(t, "last calls that do not come", slices.Concat(wordRow(wordPlain())[:25], []byte{5}))
	wordRefused(t, "more last calls than there may be", slices.Concat(wordRow(wordPlain())[:25], []byte{6, 1, 2, 2, 2, 3, 2, 4, 2, 5, 2}))
}

func TestWordUnpackOfTheBytesOfWordsThatAreNotOk(t *testing.T) {
	for name, w := range wordsBad() {
		wordRefused(t, name, wordRow(w))
	}
}

func TestWordUnpackOfEachWord(t *testing.T) {
	for _, w := range wordsOk() {
		if got, ok := impl.WordUnpack(wordRow(w)); !ok || !wordSame(got, w) {
			t.Fatalf("%v is read as %v %v", w, got, ok)
		}
	}
}
