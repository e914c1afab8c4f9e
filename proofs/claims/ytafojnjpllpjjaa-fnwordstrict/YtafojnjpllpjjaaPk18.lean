/- Contracts and plain facts that the claims of this seat lean on (texts XLw, XLBk); no statement of the seat is proved here. -/
import Derived.Test.YtafojnjpllpjjaaPk14
import Derived.Test.YtafojnjpllpjjaaPk12
import Derived.Test.YtafojnjpllpjjaaPk16
import Derived.Test.YtafojnjpllpjjaaPk13
import Derived.Test.YtafojnjpllpjjaaPk11
import Derived.Test.YtafojnjpllpjjaaPk15

/- How the laws compare words: contracts; no statement of the seat is proved here. -/
namespace Go.Proofs.Ytafojnjpllpjjaa
open Go.RowKit

set_option maxHeartbeats 1000000 in
theorem lpInts_true (va vb : Value) (n : Nat) (ss : List Int) (w : World) (ha : RowR w 1 va n (ss.map (Value.int .i64))) (hb : RowR w 1 vb n (ss.map (Value.int .i64))) :
    Calls Try.prog 54 #[va, vb] w fun e w' => e = .returned (.bool true) ∧ Below w.heap.size w w' := by
  obtain ⟨ao, ca, rfl, hn, hl, ha⟩ := ha
  obtain ⟨bo, cb, rfl, _, _, hb⟩ := hb
  go_enter Try.func54, Try.ntmps54
  go_wp2
  go_loopw [5] (fun i wr => ∃ k : Nat, k ≤ n ∧ i = .int .i64 k ∧ Below w.heap.size w wr) (fun i _ => n - (intOf i).toNat)
  case atStart => exact ⟨0, Nat.zero_le _, rfl, Below.refl _ _⟩
  case round =>
    obtain ⟨k, hk, rfl, hbel⟩ := hrel
    by_cases hlt : k < n
    · obtain ⟨b1, o1, rfl, hc1⟩ := ha (by omega)
      obtain ⟨b2, o2, rfl, hc2⟩ := hb (by omega)
      obtain ⟨s, hs⟩ : ∃ s, (ss.map (Value.int .i64))[k]? = some (.int .i64 s) := by
        simp only [List.length_map, Nat.mul_one] at hl
        exact ⟨ss[k]'(by omega), by simp [show k < ss.length by omega]⟩
      have g1 := hc1 k _ hs
      have g2 := hc2 k _ hs
      have f1 : wr.cell? ⟨b1, o1 + k, none⟩ = some (.int .i64 s) := (hbel.cell (p := ⟨b1, o1 + k, none⟩) (World.block_lt_of_cell? w _ g1)).trans g1
      have f2 : wr.cell? ⟨b2, o2 + k, none⟩ = some (.int .i64 s) := (hbel.cell (p := ⟨b2, o2 + k, none⟩) (World.block_lt_of_cell? w _ g2)).trans g2
      have hi : (k : Int) < (n : Int) := by omega
      clear ha hb hc1 hc2 hs g1 g2 hl
      go_wp2
      go_quiet (fail)
      go_wp2
      go_roundw
      case rel => exact ⟨k + 1, by omega, by go_num, below_drewN hbel _⟩
      case measure => simp [intOf]; omega
    · go_wp2
      go_ret
      exact ⟨rfl, hbel⟩

theorem rowOfInts {w : World} {g : Nat} {xs : List Int} {t : TypeId} {n : Nat} (h : w.heap[g]? = some (.cells (intsV xs).toArray t (0, 0))) (hn : xs.length = n) (hn' : n ≤ 1000) : RowR w 1 (.slice (some ⟨g, 0, none⟩) n n) n (xs.map (Value.int .i64)) := by
  refine ⟨_, _, rfl, by omega, by simp [hn], fun _ => ⟨g, 0, rfl, fun j u hj => ?_⟩⟩
  rw [Nat.zero_add, boxAt h j]
  simpa [intsV] using hj

def nums14 (x : Wd) : List Int := [x.a0, x.a1, x.a2, x.a3, x.a4, x.a5, x.b0, x.b1, x.b2, x.b3, x.b4, x.b5, x.b6, x.b7]

set_option maxRecDepth 100000 in
set_option maxHeartbeats 8000000 in
theorem lpWord_true (va vb : Value) (x : Wd) (w : World) (ha : WdR w va x) (hb : WdR w vb x) :
    Calls Try.prog 25 #[va, vb] w fun e w' => e = .returned (.bool true) ∧ Below w.heap.size w w' := by
  obtain ⟨po, pc, lo, lc, rfl, a1, a2⟩ := ha
  obtain ⟨po', pc', lo', lc', rfl, d1, d2⟩ := hb
  have A1 := hide a1
  have A2 := hide a2
  have D1 := hide d1
  have D2 := hide d2
  clear a1 a2 d1 d2
  go_enter Try.func25, Try.ntmps25
  go_wp2_with fail
  generalize hW : World.alloc _ _ = W
  have hal : Below w.heap.size w W := by rw [← hW]; exact bal (bal (bal (bal (Below.refl _ _) _) _) _) _
  have B0 : W.heap[w.heap.size]? = some (.cells (#[.int .i64 x.a0, .int .i64 x.a1, .int .i64 x.a2, .int .i64 x.a3, .int .i64 x.a4, .int .i64 x.a5, .int .i64 x.c0, .int .i64 x.c1, .int .i64 x.c2, .int .i64 x.c3, .int .i64 x.c4, .int .i64 x.c5, .int .i64 x.c6, .int .i64 x.c7, .int .i64 x.c8, .int .i64 x.c9, .int .i64 x.b0, .int .i64 x.b1, .int .i64 x.b2, .int .i64 x.b3, .int .i64 x.b4, .int .i64 x.b5, .int .i64 x.b6, .int .i64 x.b7, .slice po x.ps.length pc, .slice lo x.ls.length lc] : Array Value) 34 (0, 0)) := by rw [← hW]; exact heap_up _ (heap_up _ (al2_0 w _ _))
  have B1 : W.heap[w.heap.size + 1]? = some (.cells (#[.int .i64 x.a0, .int .i64 x.a1, .int .i64 x.a2, .int .i64 x.a3, .int .i64 x.a4, .int .i64 x.a5, .int .i64 x.c0, .int .i64 x.c1, .int .i64 x.c2, .int .i64 x.c3, .int .i64 x.c4, .int .i64 x.c5, .int .i64 x.c6, .int .i64 x.c7, .int .i64 x.c8, .int .i64 x.c9, .int .i64 x.b0, .int .i64 x.b1, .int .i64 x.b2, .int .i64 x.b3, .int .i64 x.b4, .int .i64 x.b5, .int .i64 x.b6, .int .i64 x.b7, .slice po' x.ps.length pc', .slice lo' x.ls.length lc'] : Array Value) 34 (0, 0)) := by rw [← hW]; exact heap_up _ (heap_up _ (al2_1 w _ _))
  have B2 : W.heap[w.heap.size + 1 + 1]? = some (.cells (intsV (nums14 x)).toArray 3 (0, 0)) := by rw [← hW]; exact heap_up _ (al3_2 w _ _ _)
  have B3 : W.heap[w.heap.size + 1 + 1 + 1]? = some (.cells (intsV (nums14 x)).toArray 3 (0, 0)) := by
    rw [← hW]
    have := al1_0 (((w.alloc (.cells (#[.int .i64 x.a0, .int .i64 x.a1, .int .i64 x.a2, .int .i64 x.a3, .int .i64 x.a4, .int .i64 x.a5, .int .i64 x.c0, .int .i64 x.c1, .int .i64 x.c2, .int .i64 x.c3, .int .i64 x.c4, .int .i64 x.c5, .int .i64 x.c6, .int .i64 x.c7, .int .i64 x.c8, .int .i64 x.c9, .int .i64 x.b0, .int .i64 x.b1, .int .i64 x.b2, .int .i64 x.b3, .int .i64 x.b4, .int .i64 x.b5, .int .i64 x.b6, .int .i64 x.b7, .slice po x.ps.length pc, .slice lo x.ls.length lc] : Array Value) 34)).alloc (.cells (#[.int .i64 x.a0, .int .i64 x.a1, .int .i64 x.a2, .int .i64 x.a3, .int .i64 x.a4, .int .i64 x.a5, .int .i64 x.c0, .int .i64 x.c1, .int .i64 x.c2, .int .i64 x.c3, .int .i64 x.c4, .int .i64 x.c5, .int .i64 x.c6, .int .i64 x.c7, .int .i64 x.c8, .int .i64 x.c9, .int .i64 x.b0, .int .i64 x.b1, .int .i64 x.b2, .int .i64 x.b3, .int .i64 x.b4, .int .i64 x.b5, .int .i64 x.b6, .int .i64 x.b7, .slice po' x.ps.length pc', .slice lo' x.ls.length lc'] : Array Value) 34)).alloc (.cells (intsV (nums14 x)).toArray 3)) (.cells (intsV (nums14 x)).toArray 3)
    rwa [World.size_alloc, World.size_alloc, World.size_alloc] at this
  clear hW
  have hli := lpInts_true _ _ 14 (nums14 x) W (rowOfInts B2 rfl (by omega)) (rowOfInts B3 rfl (by omega))
  have H0 := hide B0
  have H1 := hide B1
  clear B0 B1 B2 B3
  refine hli.mono ?_
  rintro e w1 ⟨rfl, b1⟩
  have c1 := bAll hal b1
  have C0 := hide (bKeeps b1 H0.out)
  have C1 := hide (bKeeps b1 H1.out)
  have hc0 := boxAt C0.out
  have hc1 := boxAt C1.out
  clear hli b1 hal H0 H1
  go_wp2_with fail
  clear hc0 hc1
  refine (lpPieces_true _ _ _ x.ps _ (A1.out.keep c1) (D1.out.keep c1)).mono ?_
  rintro e w2 ⟨rfl, b2⟩
  have hc0 := boxAt (bKeeps b2 C0.out)
  have hc1 := boxAt (bKeeps b2 C1.out)
  have c2 := bAll c1 b2
  go_wp2_with fail
  refine (lpLast_true _ _ _ x.ls _ (A2.out.keep c2) (D2.out.keep c2)).mono ?_
  rintro e w3 ⟨rfl, b3⟩
  go_wp2
  go_ret
  exact ⟨rfl, bAll c2 b3⟩

end Go.Proofs.Ytafojnjpllpjjaa

/- What the law FnWordBack does: its walk; the statement itself is proved elsewhere. -/
namespace Go.Proofs.Ytafojnjpllpjjaa
open Go.RowKit

theorem UnP.found {bs : List Nat} {x y : Wd} {ok : Bool} (h : UnP bs y ok) (hx : okW x = true) (hp : packW x = bs) : ok = true ∧ y = x := by
  rcases h with ⟨rfl, -, -, h⟩ | ⟨-, -, h⟩
  · exact ⟨rfl, (h x hx hp).symm⟩
  · exact absurd hp (h x hx)

set_option maxRecDepth 100000 in
set_option maxHeartbeats 16000000 in
theorem lawWordBack_walk (bo : Option Addr) (n cap : Nat) (bs : List Nat) (w : World) (h : BytesIn w bo n cap bs) :
    Calls Try.prog 6 #[.slice bo n cap] w fun e w' => e = .returned (.bool true) ∧ Below w.heap.size w w' := by
  by_cases hb1 : (n : Int) > 1048576
  · go_enter Try.func6, Try.ntmps6
    go_wp2
    go_ret
    exact ⟨rfl, Below.refl _ _⟩
  have HB := hide h
  clear h
  go_enter Try.func6, Try.ntmps6
  go_wp2_with fail
  refine (drawWordPack_any w bo n cap bs HB.out (by omega)).mono ?_
  rintro e w1 ⟨v, x, rfl, D, hp, hl, c1⟩
  obtain ⟨pk, hpk⟩ : ∃ pk, packW x = pk := ⟨_, rfl⟩
  have hpl : pk.length ≤ 822 := by rw [← hpk]; exact (packW_len x).2
  have HPB : Hid (∀ b ∈ pk, b < 256) := by rw [← hpk]; exact packW_byte x
  have HPK := hide hpk
  obtain ⟨cs, rfl, hs, h1⟩ := D.reads.agg
  have HI := hide (infoAt infoWd hs)
  have HZ := hide (zero26.trans hs.symm)
  have H1 := hide h1
  have al := bal (Below.refl w1.heap.size w1) (.cells cs 34)
  have B1 := hide (heap_alloc_new w1 (.cells cs 34))
  have HX := hide (D.reads.keep al)
  have c2 := bAll c1 al
  have SC := fun v w h => specWordPack_any v x w h
  have IC := fun v w h => implWordPack_any v x w h
  rw [hpk] at SC IC
  clear al D hs h1 hpk c1
  go_wp2_with (first
    | (refine wpList_store_row rfl 34 (.tmp 3) (.tmp 13) rfl w1.heap.size cs rfl rfl _ _ (heap_alloc_new w1 _) HI.out HZ.out H1.out ?_; rw [World.setRow_alloc_new])
    | (refine wpList_load_row rfl 34 (.tmp 3) rfl w1.heap.size rfl _ cs (0, 0) _ B1.out Try.underlying34 rfl HI.out ?_))
  refine (SC _ _ HX.out).mono ?_
  rintro e w3 ⟨vo3, co3, rfl, r3, b3⟩
  have c3 := bAll c2 b3
  have B3 := hide (bKeeps b3 B1.out)
  have HX3 := hide (HX.out.keep b3)
  have R3 := hide (r3.row (by omega)).reads
  clear b3 r3 c2 HX B1 SC
  go_wp2_with (refine wpList_load_row rfl 34 (.tmp 3) rfl w1.heap.size rfl _ cs (0, 0) _ B3.out Try.underlying34 rfl HI.out ?_)
  refine (specWordOk_any _ x _ HX3.out).mono ?_
  rintro e w4 ⟨rfl, b4⟩
  have c4 := bAll c3 b4
  have B4 := hide (bKeeps b4 B3.out)
  have HX4 := hide (HX3.out.keep b4)
  have R4 := hide (R3.out.keep b4)
  clear b4 c3 HX3 B3 R3
  go_wp2_with (refine wpList_load_row rfl 34 (.tmp 3) rfl w1.heap.size rfl _ cs (0, 0) _ B4.out Try.underlying34 rfl HI.out ?_)
  refine (IC _ _ HX4.out).mono ?_
  rintro e w5 ⟨vo5, co5, rfl, r5, b5⟩
  obtain ⟨_, _, e5, hcap⟩ := r5.room
  injection e5 with e6 _ e7
  subst e6 e7
  have c5 := bAll c4 b5
  have B5 := hide (bKeeps b5 B4.out)
  have HX5 := hide (HX4.out.keep b5)
  have R5 := hide (R4.out.keep b5)
  have Q5 := hide (r5.row (by omega)).reads
  have t4 := textU (P := Try.prog) R5.out 38 5 9 Try.underlying38 Try.underlying5 Try.underlying9
  have t5 := textU (P := Try.prog) Q5.out 38 5 9 Try.underlying38 Try.underlying5 Try.underlying9
  obtain ⟨nk, hnk⟩ : ∃ q, pk.length = q := ⟨_, rfl⟩
  have HNK := hide hnk
  rw [hnk] at t4 t5 hcap hpl R5 Q5 ⊢
  clear hnk b5 r5 c4 HX4 B4 R4 IC
  obtain ⟨ok, hok⟩ : ∃ q, okW x = q := ⟨_, rfl⟩
  have HK := hide hok
  have WO := fun v w h => implWordOk_any v x w h
  rw [hok] at WO ⊢
  clear hok
  go_wp2_with (refine wpList_load_rowG (by rfl) 34 (.tmp 3) rfl w1.heap.size rfl _ cs (0, 0) _ B5.out Try.underlying34 rfl HI.out ?_)
  refine (WO _ _ HX5.out).mono ?_
  rintro e w6 ⟨rfl, b6⟩
  have c6 := bAll c5 b6
  have B6 := hide (bKeeps b6 B5.out)
  have HX6 := hide (HX5.out.keep b6)
  have Q6 := hide (Q5.out.keep b6)
  clear b6 c5 HX5 B5 R5 Q5 t4 t5 WO
  cases ok
  · have hz : nk = 0 := by
      rw [← HNK.out, ← HPK.out]
      unfold packW
      rw [HK.out]
      rfl
    subst hz
    go_wp2
    go_ret
    exact ⟨rfl, c6⟩
  · go_wp2_with fail
    refine (implWordUnpack_any _ nk _ pk w6 Q6.out HPB.out (by omega) hcap).mono ?_
    rintro e w7 ⟨v7, ok7, rfl, x7, D7, up7, -, -, b7⟩
    obtain ⟨rfl, rfl⟩ := up7.found HK.out HPK.out
    obtain ⟨ds, rfl, hds, hd1⟩ := D7.reads.agg
    have GI := hide (infoAt infoWd hds)
    have GZ := hide (zero26.trans hds.symm)
    have G1 := hide hd1
    have al8 := bal (Below.refl w7.heap.size w7) (.cells ds 34)
    have B8 := hide (bKeeps al8 (bKeeps b7 B6.out))
    have C8 := hide (heap_alloc_new w7 (.cells ds 34))
    have X8 := hide ((HX6.out.keep b7).keep al8)
    have E8 := hide (D7.reads.keep al8)
    have c8 := bAll (bAll c6 b7) al8
    clear b7 D7 up7 hds hd1 al8 c6 B6 HX6 Q6
    go_wp2_with (first
      | (refine wpList_store_row rfl 34 (.tmp 7) (.tmp 39) rfl w7.heap.size ds rfl rfl _ _ (heap_alloc_new w7 _) GI.out GZ.out G1.out ?_; rw [World.setRow_alloc_new])
      | (refine wpList_load_rowG (by rfl) 34 (.tmp 7) rfl w7.heap.size rfl _ ds (0, 0) _ C8.out Try.underlying34 rfl GI.out ?_)
      | (refine wpList_load_rowG (by rfl) 34 (.tmp 3) rfl w1.heap.size rfl _ cs (0, 0) _ B8.out Try.underlying34 rfl HI.out ?_))
    refine (lpWord_true _ _ _ _ E8.out X8.out).mono ?_
    rintro e w9 ⟨rfl, b9⟩
    go_wp2
    go_ret
    exact ⟨rfl, bAll c8 b9⟩

end Go.Proofs.Ytafojnjpllpjjaa
