package tests

import (
	"bytes"
	"slices"
	"testing"

	"loop.example/pannier/impl"
)

// wordRoomy is a word with lists of its own, each with marked room behind its end.
func wordRoomy(w impl.Word) impl.Word {
	w.Pieces, w.Last = walRoom(w.Pieces, blkMark), walRoom(w.Last, lastMark)
	return w
}

func wordHeld(w, was impl.Word) bool {
	return wordSame(w, was) && walHeld(w.Pieces, was.Pieces, blkMark) && walHeld(w.Last, was.Last, lastMark)
}

func wordScrawl(w impl.Word) {
	walScrawl(w.Pieces, blkOver)
	walScrawl(w.Last, lastOver)
}

func wordCopied(w impl.Word) impl.Word {
	w.Pieces, w.Last = slices.Clone(w.Pieces), slices.Clone(w.Last)
	return w
}

func wordsOfMemory() []impl.Word {
	out := wordsOk()
	for _, w := range wordsBad() {
		out = append(out, w)
	}
	return out
}

func TestWordPackMemory(t *testing.T) {
	for _, w := range wordsOfMemory() {
		given := wordRoomy(w)
		ok := impl.WordOk(given)
		row := impl.WordPack(given)
		if !wordHeld(given, w) {
			t.Fatalf("%v is written into", w)
		}
		want := slices.Clone(row)
		wordScrawl(given)
		if !bytes.Equal(row, want) {
			t.Fatalf("what is written into %v is seen in its bytes", w)
		}
		given = wordRoomy(w)
		walScrawl(impl.WordPack(given), 99)
		if !wordHeld(given, w) {
			t.Fatalf("what is written into the bytes of %v is seen in it", w)
		}
		if again := impl.WordPack(given); !bytes.Equal(again, want) || impl.WordOk(given) != ok {
			t.Fatalf("%v is written otherwise the second time", w)
		}
	}
}

func wordRows() [][]byte {
	var out [][]byte
	for _, w := range wordsOfMemory() {
		row := wordRow(w)
		out = append(out, row, row[:len(row)/2], append(slices.Clone(row), 1))
	}
	return append(out, nil, []byte{})
}

func TestWordUnpackMemory(t *testing.T) {
	for _, row := range wordRows() {
		given := walRoom(row, 77)
		w, ok := impl.WordUnpack(given)
		if !walHeld(given, row, 77) {
			t.Fatalf("%v is written into", row)
		}
		want := wordCopied(w)
		walScrawl(given, 99)
		if !wordSame(w, want) {
			t.Fatalf("what is written into %v is seen in its word", row)
		}
		given = walRoom(row, 77)
		one, _ := impl.WordUnpack(given)
		wordScrawl(one)
		if !walHeld(given, row, 77) {
			t.Fatalf("what is written into the word of %v is seen in it", row)
		}
		if again, same := impl.WordUnpack(given); same != ok || !wordSame(again, want) {
			t.Fatalf("%v is read otherwise the second time", row)
		}
	}
}

// What lies behind the end of bytes is not of them, though it would be just what is missing.
func TestWordUnpackReadsNothingBehindAnEnd(t *testing.T) {
	for _, w := range wordFew() {
		row := wordRow(w)
		for n := range row {
			wordRefused(t, "bytes behind an end", row[:n])
		}
	}
}

// Lists that have more behind their ends are written as they are.
func TestWordPackReadsNothingBehindAnEnd(t *testing.T) {
	all := wordLoud()
	for pieces := range len(all.Pieces) + 1 {
		for last := range len(all.Last) + 1 {
			w := all
			w.Pieces, w.Last = all.Pieces[:pieces], all.Last[:last]
			if got, want := impl.WordPack(w), wordRow(wordCopied(w)); !bytes.Equal(got, want) {
				t.Errorf("%d pieces and %d last calls: %v, not %v", pieces, last, got, want)
			}
		}
	}
}
