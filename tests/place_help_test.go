package tests

import (
	"slices"
	"testing"

	"loop.example/pannier/impl"
)

// placeTable is who shall keep each range, the first one ahead, by how many servers are in service.
func placeTable() map[int][3][2]int {
	return map[int][3][2]int{
		3: {{0, 1}, {1, 2}, {2, 0}},
		4: {{0, 1}, {1, 2}, {2, 3}},
		5: {{0, 1}, {1, 2}, {2, 3}},
	}
}

// placeFar is numbers that are no range.
func placeFar() []int {
	return []int{secLowest, -100000, -4, -3, -2, -1, 3, 4, 5, 6, 60, 99999, secHighest}
}

// placeRange is what MapRange is to answer.
func placeRange(disk, block int) int {
	if min(disk, block) < 0 || max(disk, block) > 99999 {
		return 0
	}
	return []int{0, 1, 2, 0, 1}[disk%3+block%3]
}

// placeSettled is what MapSettled is to answer.
func placeSettled(m impl.MapState) bool {
	if !mapGood(m) || slices.ContainsFunc(m.Disks, func(d impl.MapDisk) bool { return d.Frozen == 1 || d.Frozen == 2 }) {
		return false
	}
	for r, both := range placeTable()[m.Servers] {
		v := m.Views[r]
		if both != [2]int{v.A, v.B} && both != [2]int{v.B, v.A} {
			return false
		}
	}
	return true
}

// placeAsked asks of a map what the chapter asks of it, and says whether it is settled.
func placeAsked(t *testing.T, m impl.MapState) bool {
	t.Helper()
	settled := impl.MapSettled(m)
	if settled != placeSettled(m) {
		t.Fatalf("%+v: settled is %v", m, settled)
	}
	for r := range 3 {
		var want [2]int
		if mapGood(m) {
			want = placeTable()[m.Servers][r]
		}
		if first, second := impl.MapTarget(m, r); want != [2]int{first, second} {
			t.Fatalf("%+v: the range %d: %d and %d, not %v", m, r, first, second, want)
		}
	}
	for _, r := range placeFar() {
		if first, second := impl.MapTarget(m, r); first != 0 || second != 0 {
			t.Fatalf("%+v: the range %d: %d and %d", m, r, first, second)
		}
	}
	return settled
}

// placeIs asks whether a map is settled.
func placeIs(t *testing.T, name string, m impl.MapState, settled bool) {
	t.Helper()
	if !impl.MapOk(m) {
		t.Errorf("%s: %+v is not ok", name, m)
	}
	if impl.MapSettled(m) != settled || placeAsked(t, m) != settled {
		t.Errorf("%s: %+v: settled is not %v", name, m, settled)
	}
}

// placeGood is mapSome as it is when all is settled: none of its disks is frozen, the two that keep a range stand in this order or that.
func placeGood() impl.MapState {
	return mapWith(mapSome(), func(m *impl.MapState) {
		m.Disks = []impl.MapDisk{{Id: 1, Size: 8, Epoch: 5}, {Id: 2, Size: 3, Epoch: 2}, {Id: 4, Size: 1, Epoch: 9}}
		m.Views = []impl.MapView{{Num: 3, A: 0, B: 1}, {Num: 7, A: 2, B: 1}, {Num: 4, A: 2, B: 3}}
	})
}

// placeOf is the map at first with so many servers, and each range kept by those who shall keep it.
func placeOf(servers int) impl.MapState {
	return mapWith(mapNew(), func(m *impl.MapState) {
		m.Servers = servers
		for r, both := range placeTable()[servers] {
			m.Views[r].A, m.Views[r].B = both[0], both[1]
		}
	})
}

// placeViews is all views that a range can have, of a number.
func placeViews(servers, num int) []impl.MapView {
	var out []impl.MapView
	for a := range servers {
		for b := -1; b < servers; b++ {
			if a != b {
				out = append(out, impl.MapView{Num: num, A: a, B: b})
			}
		}
	}
	return out
}
