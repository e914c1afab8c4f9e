// Package impl: disks that are kept by pairs of servers.
package impl

import "iter"

// Limits of sectors.
const (
	SecMax     = 512
	SecSize    = 16
	SecMaxWait = 600
)

// SecWrite is what is written to a sector.
type SecWrite struct {
	At   int
	Data string
}

// SecDisk is sectors that are kept, and writes that wait.
type SecDisk struct {
	Kept []string
	Wait []SecWrite
}

// secKept is the part of a disk that outlives a loss of power.
type secKept struct {
	sectors []string
}

// secWaiting is the part of a disk that a loss of power may take.
type secWaiting struct {
	writes []SecWrite
}

// secState is a disk as this package works on it.
type secState struct {
	secKept
	secWaiting
}

// SecOk says whether a disk is ok.
func SecOk(d SecDisk) bool {
	return secSeen(d).ok()
}

// SecNew is a disk of so many empty sectors.
func SecNew(n int) SecDisk {
	if n < 0 || n > SecMax {
		return SecDisk{}
	}
	return SecDisk{Kept: make([]string, n)}
}

// SecPut writes to a sector; it waits.
func SecPut(d SecDisk, at int, data string) (SecDisk, bool) {
	if !SecOk(d) {
		return SecDisk{}, false
	}
	s := secOwn(d)
	waits := s.put(SecWrite{At: at, Data: data})
	return s.disk(), waits
}

// SecFlush keeps all that waits.
func SecFlush(d SecDisk) SecDisk {
	if !SecOk(d) {
		return SecDisk{}
	}
	s := secOwn(d)
	s.flush()
	return s.disk()
}

// SecLook is what a sector reads.
func SecLook(d SecDisk, at int) string {
	s := secSeen(d)
	if !s.ok() || !s.has(at) {
		return ""
	}
	return s.look(at)
}

// SecCut is what is left when power is lost.
func SecCut(d SecDisk, keep []int) SecDisk {
	if !SecOk(d) {
		return SecDisk{}
	}
	s := secOwn(d)
	s.cut(keep)
	return s.disk()
}

// secSeen shares the lists of the disk, so it is only to be read.
func secSeen(d SecDisk) secState {
	return secState{secKept{d.Kept}, secWaiting{d.Wait}}
}

// secOwn has lists of its own, so it may be changed and handed out.
// They start from nil: a clone of an empty list would still point into the argument.
func secOwn(d SecDisk) secState {
	return secState{
		secKept{append([]string(nil), d.Kept...)},
		secWaiting{append([]SecWrite(nil), d.Wait...)},
	}
}

func (s secState) disk() SecDisk {
	return SecDisk{Kept: s.sectors, Wait: s.writes}
}

func (s secState) ok() bool {
	// The counts come first, so that a list that is far too long is not gone through.
	if len(s.sectors) > SecMax || len(s.writes) > SecMaxWait {
		return false
	}
	for _, text := range s.sectors {
		if len(text) > SecSize {
			return false
		}
	}
	for _, w := range s.told() {
		if !s.fits(w) {
			return false
		}
	}
	return true
}

// look reads a sector that there is.
func (s secState) look(at int) string {
	text := s.sectors[at]
	for _, w := range s.told() {
		if w.At == at {
			text = w.Data
		}
	}
	return text
}

// put lets a write wait behind the others; false, and no change, if it cannot.
func (s *secState) put(w SecWrite) bool {
	if len(s.writes) >= SecMaxWait || !s.fits(w) {
		return false
	}
	s.writes = append(s.writes, w)
	return true
}

func (s *secState) flush() {
	for _, w := range s.told() {
		s.store(w)
	}
	s.writes = nil
}

// cut takes a write whose place keep does not reach, as it takes one with a 0.
func (s *secState) cut(keep []int) {
	for place, w := range s.told() {
		if place < len(keep) && keep[place] != 0 {
			s.store(w)
		}
	}
	s.writes = nil
}

func (k secKept) has(at int) bool {
	return at >= 0 && at < len(k.sectors)
}

func (k secKept) fits(w SecWrite) bool {
	return k.has(w.At) && len(w.Data) <= SecSize
}

// store keeps a write that fits.
func (k *secKept) store(w SecWrite) {
	k.sectors[w.At] = w.Data
}

// told tells what waits, in order, each with its place.
func (q secWaiting) told() iter.Seq2[int, SecWrite] {
	return func(yield func(int, SecWrite) bool) {
		for place, w := range q.writes {
			if !yield(place, w) {
				return
			}
		}
	}
}
