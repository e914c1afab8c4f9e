package tests

import (
	"bytes"
	"math/rand/v2"
	"slices"
	"testing"

	"loop.example/pannier/impl"
)

// P15. A word is read back from its bytes, if it is ok.
func TestP15AWordIsReadBack(t *testing.T) {
	for _, w := range wordsOk() {
		got, ok := impl.WordUnpack(impl.WordPack(w))
		if !ok || !wordSame(got, w) || !impl.WordOk(got) {
			t.Fatalf("%v is read back as %v %v", w, got, ok)
		}
	}
}

// P15: of a word that is not ok nothing is read back.
func TestP15NothingElseIsReadBack(t *testing.T) {
	for name, w := range wordsBad() {
		if got, ok := impl.WordUnpack(impl.WordPack(w)); ok || !wordNothing(got) {
			t.Errorf("%s is read back as %v %v", name, got, ok)
		}
	}
}

// P15, number by number: each that is ok comes back, in a place of one word.
func TestP15EachNumberIsReadBack(t *testing.T) {
	for n := -1; n <= 99999; n++ {
		w := wordPlain()
		w.Data = n
		row := impl.WordPack(w)
		if got, ok := impl.WordUnpack(row); !ok || got.Data != n {
			t.Fatalf("%d is read back as %v %v", n, got, ok)
		}
	}
}

// wordOneRow asks of any bytes: if they are of a word, that word has just these.
func wordOneRow(t *testing.T, row []byte) bool {
	t.Helper()
	w, ok := impl.WordUnpack(row)
	if !ok {
		if !wordNothing(w) {
			t.Fatalf("%v is refused, and %v is answered", row, w)
		}
		return false
	}
	if !impl.WordOk(w) || !bytes.Equal(impl.WordPack(w), row) {
		t.Fatalf("%v is read as %v, which is written as %v", row, w, impl.WordPack(w))
	}
	return true
}

// P16. Every word has just one row of bytes: each byte of a row is left out, or is each other one.
func TestP16EveryWordHasOneRow(t *testing.T) {
	read := 0
	for _, w := range wordFew() {
		row := impl.WordPack(w)
		wordOneRow(t, row)
		for place := range min(len(row), 120) {
			wordOneRow(t, slices.Clone(row[place+1:]))
			wordOneRow(t, slices.Concat(row[:place], row[place+1:]))
			other := slices.Clone(row)
			for c := range 256 {
				other[place] = byte(c)
				if wordOneRow(t, other) {
					read++
				}
			}
		}
	}
	if read < 1000 {
		t.Errorf("only %d rows were of a word", read)
	}
}

// P16: rows that have bytes more, less and otherwise, and rows of any bytes.
func TestP16RowsOfAnyBytes(t *testing.T) {
	r := rand.New(rand.NewPCG(47, 48))
	few := wordFew()
	read := 0
	for range 20000 {
		row := impl.WordPack(few[r.IntN(len(few))])
		for range 1 + r.IntN(3) {
			row = wordSpoilt(r, row)
		}
		if wordOneRow(t, row) {
			read++
		}
	}
	if read < 500 {
		t.Errorf("only %d rows were of a word", read)
	}
	for range 5000 {
		row := make([]byte, r.IntN(60))
		for i := range row {
			row[i] = byte(r.IntN(256) >> r.IntN(8))
		}
		wordOneRow(t, row)
	}
}

// wordSpoilt is a row in which a byte is another one, comes in, goes, or changes its mark that more is to come.
func wordSpoilt(r *rand.Rand, row []byte) []byte {
	if len(row) == 0 {
		return []byte{byte(r.IntN(256))}
	}
	place := r.IntN(len(row))
	out := slices.Clone(row)
	switch r.IntN(5) {
	case 0:
		return slices.Insert(out, place, byte(r.IntN(256)))
	case 1:
		return slices.Delete(out, place, place+1)
	case 2:
		out[place] ^= 128
		return slices.Insert(out, place+1, 0)
	case 3:
		out[place] ^= 128
	default:
		out[place] = byte(r.IntN(256))
	}
	return out
}

// P16, the other way: words that are not the same have rows that are not.
func TestP16NoTwoWordsHaveOneRow(t *testing.T) {
	rows := map[string]impl.Word{}
	for _, w := range wordsOk() {
		row := string(impl.WordPack(w))
		if other, there := rows[row]; there && !wordSame(other, w) {
			t.Fatalf("%v and %v are written alike", w, other)
		}
		rows[row] = w
	}
	if len(rows) < 900 {
		t.Errorf("only %d rows", len(rows))
	}
}

// P17. A word is never long: at most three bytes for each of its numbers.
func TestP17AWordIsNeverLong(t *testing.T) {
	for _, w := range wordsOk() {
		row := impl.WordPack(w)
		if most := 3 * len(wordAll(w)); len(row) == 0 || len(row) > most || len(row) < len(wordAll(w)) {
			t.Fatalf("%v has %d bytes, of %d numbers", w, len(row), len(wordAll(w)))
		}
	}
}

// P17: the greatest word of all, and the least.
func TestP17TheLongestWordAndTheShortest(t *testing.T) {
	// One byte for Kind, From, To, the Kind of Cmd, how many there are, and each Client; three for each other one.
	if got, want := len(impl.WordPack(wordGreatest())), 4+20*3+1+60*4*3+1+4*(1+3); got != want {
		t.Errorf("the longest word has %d bytes, not %d", got, want)
	}
	if got := len(impl.WordPack(wordLeast())); got != 26 {
		t.Errorf("the shortest word has %d bytes", got)
	}
}

// P17: a row with a number of more bytes is not read, so that none that is longer is of a word.
func TestP17NothingLongerIsRead(t *testing.T) {
	for _, w := range wordFew() {
		cells := wordCells(wordAll(w))
		for place := range cells {
			for _, long := range [][]byte{{128, 128, 128, 1}, {129, 128, 128, 0}, {255, 255, 255, 127}, {161, 141, 6}, {255, 255, 127}} {
				wordRefused(t, "a long number", wordRecelled(cells, place, long))
			}
		}
	}
}
