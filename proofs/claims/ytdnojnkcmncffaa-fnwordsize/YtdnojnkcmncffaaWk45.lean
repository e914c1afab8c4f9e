/- Contracts and plain facts that this claim leans on (texts XLw, XDP); no statement of the seat is proved here. -/
import Derived.Test.YtdnojnkcmncffaaWk37
import Derived.Test.YtdnojnkcmncffaaWk24
import Derived.Test.YtdnojnkcmncffaaWk27
import Derived.Test.YtdnojnkcmncffaaWk39

/- How the laws compare words: contracts; no statement of the seat is proved here. -/
namespace Go.Proofs.Ytdnojnkcmncffaa
open Go.RowKit

set_option maxHeartbeats 1000000 in
theorem lpInts_true (va vb : Value) (n : Nat) (ss : List Int) (w : World) (ha : RowR w 1 va n (ss.map (Value.int .i64))) (hb : RowR w 1 vb n (ss.map (Value.int .i64))) :
    Calls Try.prog 54 #[va, vb] w fun e w' => e = .returned (.bool true) ∧ Below w.heap.size w w' := by
  obtain ⟨ao, ca, rfl, hn, hl, ha⟩ := ha
  obtain ⟨bo, cb, rfl, _, _, hb⟩ := hb
  go_enter Try.func54, Try.ntmps54
  go_wp2
  go_loopw [5] (fun i wr => ∃ k : Nat, k ≤ n ∧ i = .int .i64 k ∧ Below w.heap.size w wr) (fun i _ => n - (intOf i).toNat)
  case atStart => exact ⟨0, Nat.zero_le _, rfl, Below.refl _ _⟩
  case round =>
    obtain ⟨k, hk, rfl, hbel⟩ := hrel
    by_cases hlt : k < n
    · obtain ⟨b1, o1, rfl, hc1⟩ := ha (by omega)
      obtain ⟨b2, o2, rfl, hc2⟩ := hb (by omega)
      obtain ⟨s, hs⟩ : ∃ s, (ss.map (Value.int .i64))[k]? = some (.int .i64 s) := by
        simp only [List.length_map, Nat.mul_one] at hl
        exact ⟨ss[k]'(by omega), by simp [show k < ss.length by omega]⟩
      have g1 := hc1 k _ hs
      have g2 := hc2 k _ hs
      have f1 : wr.cell? ⟨b1, o1 + k, none⟩ = some (.int .i64 s) := (hbel.cell (p := ⟨b1, o1 + k, none⟩) (World.block_lt_of_cell? w _ g1)).trans g1
      have f2 : wr.cell? ⟨b2, o2 + k, none⟩ = some (.int .i64 s) := (hbel.cell (p := ⟨b2, o2 + k, none⟩) (World.block_lt_of_cell? w _ g2)).trans g2
      have hi : (k : Int) < (n : Int) := by omega
      clear ha hb hc1 hc2 hs g1 g2 hl
      go_wp2
      go_quiet (fail)
      go_wp2
      go_roundw
      case rel => exact ⟨k + 1, by omega, by go_num, below_drewN hbel _⟩
      case measure => simp [intOf]; omega
    · go_wp2
      go_ret
      exact ⟨rfl, hbel⟩

theorem rowOfInts {w : World} {g : Nat} {xs : List Int} {t : TypeId} {n : Nat} (h : w.heap[g]? = some (.cells (intsV xs).toArray t (0, 0))) (hn : xs.length = n) (hn' : n ≤ 1000) : RowR w 1 (.slice (some ⟨g, 0, none⟩) n n) n (xs.map (Value.int .i64)) := by
  refine ⟨_, _, rfl, by omega, by simp [hn], fun _ => ⟨g, 0, rfl, fun j u hj => ?_⟩⟩
  rw [Nat.zero_add, boxAt h j]
  simpa [intsV] using hj

def nums14 (x : Wd) : List Int := [x.a0, x.a1, x.a2, x.a3, x.a4, x.a5, x.b0, x.b1, x.b2, x.b3, x.b4, x.b5, x.b6, x.b7]

set_option maxRecDepth 100000 in
set_option maxHeartbeats 8000000 in
theorem lpWord_true (va vb : Value) (x : Wd) (w : World) (ha : WdR w va x) (hb : WdR w vb x) :
    Calls Try.prog 25 #[va, vb] w fun e w' => e = .returned (.bool true) ∧ Below w.heap.size w w' := by
  obtain ⟨po, pc, lo, lc, rfl, a1, a2⟩ := ha
  obtain ⟨po', pc', lo', lc', rfl, d1, d2⟩ := hb
  have A1 := hide a1
  have A2 := hide a2
  have D1 := hide d1
  have D2 := hide d2
  clear a1 a2 d1 d2
  go_enter Try.func25, Try.ntmps25
  go_wp2_with fail
  generalize hW : World.alloc _ _ = W
  have hal : Below w.heap.size w W := by rw [← hW]; exact bal (bal (bal (bal (Below.refl _ _) _) _) _) _
  have B0 : W.heap[w.heap.size]? = some (.cells (#[.int .i64 x.a0, .int .i64 x.a1, .int .i64 x.a2, .int .i64 x.a3, .int .i64 x.a4, .int .i64 x.a5, .int .i64 x.c0, .int .i64 x.c1, .int .i64 x.c2, .int .i64 x.c3, .int .i64 x.c4, .int .i64 x.c5, .int .i64 x.c6, .int .i64 x.c7, .int .i64 x.c8, .int .i64 x.c9, .int .i64 x.b0, .int .i64 x.b1, .int .i64 x.b2, .int .i64 x.b3, .int .i64 x.b4, .int .i64 x.b5, .int .i64 x.b6, .int .i64 x.b7, .slice po x.ps.length pc, .slice lo x.ls.length lc] : Array Value) 34 (0, 0)) := by rw [← hW]; exact heap_up _ (heap_up _ (al2_0 w _ _))
  have B1 : W.heap[w.heap.size + 1]? = some (.cells (#[.int .i64 x.a0, .int .i64 x.a1, .int .i64 x.a2, .int .i64 x.a3, .int .i64 x.a4, .int .i64 x.a5, .int .i64 x.c0, .int .i64 x.c1, .int .i64 x.c2, .int .i64 x.c3, .int .i64 x.c4, .int .i64 x.c5, .int .i64 x.c6, .int .i64 x.c7, .int .i64 x.c8, .int .i64 x.c9, .int .i64 x.b0, .int .i64 x.b1, .int .i64 x.b2, .int .i64 x.b3, .int .i64 x.b4, .int .i64 x.b5, .int .i64 x.b6, .int .i64 x.b7, .slice po' x.ps.length pc', .slice lo' x.ls.length lc'] : Array Value) 34 (0, 0)) := by rw [← hW]; exact heap_up _ (heap_up _ (al2_1 w _ _))
  have B2 : W.heap[w.heap.size + 1 + 1]? = some (.cells (intsV (nums14 x)).toArray 3 (0, 0)) := by rw [← hW]; exact heap_up _ (al3_2 w _ _ _)
  have B3 : W.heap[w.heap.size + 1 + 1 + 1]? = some (.cells (intsV (nums14 x)).toArray 3 (0, 0)) := by
    rw [← hW]
    have := al1_0 (((w.alloc (.cells (#[.int .i64 x.a0, .int .i64 x.a1, .int .i64 x.a2, .int .i64 x.a3, .int .i64 x.a4, .int .i64 x.a5, .int .i64 x.c0, .int .i64 x.c1, .int .i64 x.c2, .int .i64 x.c3, .int .i64 x.c4, .int .i64 x.c5, .int .i64 x.c6, .int .i64 x.c7, .int .i64 x.c8, .int .i64 x.c9, .int .i64 x.b0, .int .i64 x.b1, .int .i64 x.b2, .int .i64 x.b3, .int .i64 x.b4, .int .i64 x.b5, .int .i64 x.b6, .int .i64 x.b7, .slice po x.ps.length pc, .slice lo x.ls.length lc] : Array Value) 34)).alloc (.cells (#[.int .i64 x.a0, .int .i64 x.a1, .int .i64 x.a2, .int .i64 x.a3, .int .i64 x.a4, .int .i64 x.a5, .int .i64 x.c0, .int .i64 x.c1, .int .i64 x.c2, .int .i64 x.c3, .int .i64 x.c4, .int .i64 x.c5, .int .i64 x.c6, .int .i64 x.c7, .int .i64 x.c8, .int .i64 x.c9, .int .i64 x.b0, .int .i64 x.b1, .int .i64 x.b2, .int .i64 x.b3, .int .i64 x.b4, .int .i64 x.b5, .int .i64 x.b6, .int .i64 x.b7, .slice po' x.ps.length pc', .slice lo' x.ls.length lc'] : Array Value) 34)).alloc (.cells (intsV (nums14 x)).toArray 3)) (.cells (intsV (nums14 x)).toArray 3)
    rwa [World.size_alloc, World.size_alloc, World.size_alloc] at this
  clear hW
  have hli := lpInts_true _ _ 14 (nums14 x) W (rowOfInts B2 rfl (by omega)) (rowOfInts B3 rfl (by omega))
  have H0 := hide B0
  have H1 := hide B1
  clear B0 B1 B2 B3
  refine hli.mono ?_
  rintro e w1 ⟨rfl, b1⟩
  have c1 := bAll hal b1
  have C0 := hide (bKeeps b1 H0.out)
  have C1 := hide (bKeeps b1 H1.out)
  have hc0 := boxAt C0.out
  have hc1 := boxAt C1.out
  clear hli b1 hal H0 H1
  go_wp2_with fail
  clear hc0 hc1
  refine (lpPieces_true _ _ _ x.ps _ (A1.out.keep c1) (D1.out.keep c1)).mono ?_
  rintro e w2 ⟨rfl, b2⟩
  have hc0 := boxAt (bKeeps b2 C0.out)
  have hc1 := boxAt (bKeeps b2 C1.out)
  have c2 := bAll c1 b2
  go_wp2_with fail
  refine (lpLast_true _ _ _ x.ls _ (A2.out.keep c2) (D2.out.keep c2)).mono ?_
  rintro e w3 ⟨rfl, b3⟩
  go_wp2
  go_ret
  exact ⟨rfl, bAll c2 b3⟩

end Go.Proofs.Ytdnojnkcmncffaa

/- DrawWordPack: a contract; no statement of the seat is proved here. -/
namespace Go.Proofs.Ytdnojnkcmncffaa
open Go.RowKit

set_option maxRecDepth 100000 in
set_option maxHeartbeats 4000000 in
theorem drawWordPack_any (w : World) (bo : Option Addr) (n cap : Nat) (bs : List Nat) (h : BytesIn w bo n cap bs) (hn : n ≤ 1048576) :
    Calls Try.prog 24 #[.slice bo n cap] w fun e w' => ∃ v x, e = .returned v ∧ WdO w' (fun k => w.heap.size < k) v x ∧ x.ps.length ≤ 61 ∧ x.ls.length ≤ 61 ∧ Below w.heap.size w w' := by
  have al0 := bal (Below.refl w.heap.size w) (.cells #[.int .i64 0, .int .i64 0, .int .i64 0, .int .i64 0, .int .i64 0, .int .i64 0, .int .i64 0, .int .i64 0, .int .i64 0, .int .i64 0, .int .i64 0, .int .i64 0, .int .i64 0, .int .i64 0, .int .i64 0, .int .i64 0, .int .i64 0, .int .i64 0, .int .i64 0, .int .i64 0, .int .i64 0, .int .i64 0, .int .i64 0, .int .i64 0, .slice none 0 0, .slice none 0 0] 34)
  have H0 := hide (heap_alloc_new w (.cells #[.int .i64 0, .int .i64 0, .int .i64 0, .int .i64 0, .int .i64 0, .int .i64 0, .int .i64 0, .int .i64 0, .int .i64 0, .int .i64 0, .int .i64 0, .int .i64 0, .int .i64 0, .int .i64 0, .int .i64 0, .int .i64 0, .int .i64 0, .int .i64 0, .int .i64 0, .int .i64 0, .int .i64 0, .int .i64 0, .int .i64 0, .int .i64 0, .slice none 0 0, .slice none 0 0] 34))
  have HB := hide (h.keep al0)
  clear h
  go_enter Try.func24, Try.ntmps24
  go_wp2_with fail
  refine (l6Open_any _ bo n cap bs HB.out hn).mono ?_
  rintro e w1 ⟨rfl, hr1, b1⟩
  have c1 := bAll al0 b1
  have z1 := b1.size
  simp only [World.size_alloc] at z1
  have H1 := hide (bKeeps b1 H0.out)
  rw [World.size_alloc] at hr1
  clear H0 HB al0 b1
  go_wp2_with fail
  refine (l72Word_any _ w1 (w.heap.size + 1) 0 hr1 (by omega)).mono ?_
  rintro e w2 ⟨v2, x, p', rfl, d2, hp2, hl2, -, -, hu2⟩
  obtain ⟨cs, rfl, hs, h1⟩ := d2.reads.agg
  have H2 := hide (hu2.keeps H1.out (by omega))
  have HI := hide (infoAt infoWd hs)
  have HZ := hide (zero26.trans hs.symm)
  have H1s := hide h1
  have D2 := hide d2
  clear hs h1 d2 hr1 H1
  go_wp2_with (refine wpList_store_row rfl 34 (.tmp 2) (.tmp 5) rfl w.heap.size cs rfl rfl _ _ H2.out HI.out HZ.out H1s.out ?_)
  refine bodyPost_ret (v := .agg cs) (results_cell_row Try.results24 _ _ w.heap.size _ _ (0, 0) _ rfl (setRow_heap _ _ _ _ _ _ H2.out) Try.underlying34 rfl HI.out) rfl ?_
  have u6 : Upd (fun j => j = w.heap.size) w2 (w2.setRow w.heap.size cs) := ⟨rfl, rfl, rfl, by simp, fun k _ h => setRow_other _ _ _ _ h⟩
  have c2 := c1.trans (hu2.below c1.size (fun k h => by omega))
  exact ⟨_, x, rfl, (D2.out.keep u6 (fun k h => by omega)).mono (fun k _ h => by omega), hp2, hl2, c2.trans (u6.below c2.size (fun k h => by omega))⟩

end Go.Proofs.Ytdnojnkcmncffaa
