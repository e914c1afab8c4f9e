package tests

import (
	"testing"

	"loop.example/pannier/impl"
)

// placeMemory is maps that are settled, that are not, for each reason, and that are not ok, with lists at every place.
func placeMemory() []impl.MapState {
	out := append(mapMemory(), placeGood(), placeOf(3), placeOf(5))
	frozen := mapWith(placeGood(), func(m *impl.MapState) { m.Disks[2] = mapSome().Disks[2] })
	alone := mapWith(placeGood(), func(m *impl.MapState) { m.Views[2].B = -1 })
	return append(out, frozen, alone)
}

func TestPlacesNothingIsWrittenIntoAnArgument(t *testing.T) {
	for _, m := range placeMemory() {
		given := mapRoomy(m)
		for r := -1; r <= 3; r++ {
			impl.MapTarget(given, r)
		}
		if impl.MapSettled(given) != placeSettled(m) || !mapHeld(given, m) {
			t.Fatalf("%+v is written into", m)
		}
	}
}

// What is written into a map behind an answer is seen by the next one alone: nothing is kept.
func TestPlacesKeepNothing(t *testing.T) {
	m := placeGood()
	for range 3 {
		placeIs(t, "settled", m, true)
		m.Views[2].B = 0
		placeIs(t, "moved away", m, false)
		m.Views[2].B = 3
		m.Disks[1].Frozen, m.Disks[1].Call = 2, 1
		placeIs(t, "frozen", m, false)
		m.Disks[1].Frozen, m.Disks[1].Call = 0, 0
		m.Servers = 5
		placeIs(t, "another server", m, true)
		m.Servers = 4
	}
}

// What stands behind the end of a list is not of the map.
func TestPlacesReadNothingBehindAnEnd(t *testing.T) {
	full := mapWith(placeGood(), func(m *impl.MapState) {
		m.Disks[2] = mapSome().Disks[2]
		m.Views = append(m.Views, impl.MapView{Num: -7, A: -7, B: -7})
	})
	full.Views = full.Views[:3]
	placeIs(t, "a disk that is frozen", full, false)
	for disks := range 3 {
		short := full
		short.Disks = full.Disks[:disks]
		placeIs(t, "it stands behind the end", short, true)
		short.Views = full.Views[:2]
		if impl.MapSettled(short) {
			t.Error("a view is read behind the end")
		}
		for r := range 3 {
			if first, second := impl.MapTarget(short, r); first != 0 || second != 0 {
				t.Errorf("a view is read behind the end: %d and %d", first, second)
			}
		}
	}
}
