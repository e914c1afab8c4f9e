/- Contracts and plain facts that this claim leans on (texts XUB, XLUn, ArgB); no statement of the seat is proved here. -/
import Derived.Test.YtdnojnkcmncffaaWk30
import Derived.Test.YtdnojnkcmncffaaWk43
import Derived.Test.YtdnojnkcmncffaaWk31
import Derived.Test.YtdnojnkcmncffaaWk36
import Derived.Test.YtdnojnkcmncffaaWk25
import Derived.ChangeSlices

/- What the laws' own helper does with bytes: a contract; no statement of the seat is proved here. -/
namespace Go.Proofs.Ytdnojnkcmncffaa
open Go.RowKit

set_option maxHeartbeats 1000000 in
theorem toByteS_any (v : Value) (n : Nat) (bs : List Nat) (w : World) (hr : RowR w 1 v n (byts bs)) (hn : n ≤ 1048576) :
    Calls Try.prog 21 #[v] w fun e w' => e = .returned (.slice (some ⟨w.heap.size, 0, none⟩) n n) ∧ Row w' 5 1 (fun k => k = w.heap.size) (.slice (some ⟨w.heap.size, 0, none⟩) n n) n (byts bs) ∧ Below w.heap.size w w' ∧ w.heap.size < w'.heap.size := by
  obtain ⟨ao, cap, rfl, hn', hl, hr⟩ := hr
  rw [byts_len, Nat.mul_one] at hl
  have Hl := hide hl
  clear hl
  have hmk := run_make_row' (P := Try.prog) 38 5 (.int .u8 0) 1 Try.underlying38 infoU8 rfl .i64 .i64 n (by omega) (by omega)
  go_enter Try.func21, Try.ntmps21
  go_wp2
  clear hmk
  go_loopw [4] (fun i wr => ∃ (k : Nat) (cur : Array Value), k ≤ n ∧ i = .int .i64 k ∧ wr.heap[w.heap.size]? = some (.cells cur 5 (0, 0)) ∧ cur.size = n ∧ (∀ j s, j < k → bs[j]? = some s → cur[j]? = some (.int .u8 (s : Nat))) ∧ Below w.heap.size w wr) (fun i _ => n - (intOf i).toNat)
  case atStart => exact ⟨0, _, Nat.zero_le _, rfl, heap_alloc_new w _, size_madeCells _ _, fun j s hj => by omega, (Below.refl _ _).alloc (Nat.le_refl _) _⟩
  case round =>
    obtain ⟨k, cur, hk, rfl, hg, hcs, hmk, hbel⟩ := hrel
    have HM := hide hmk
    have HC := hide hcs
    have hcs' : n ≤ cur.size := by omega
    clear hmk hcs
    by_cases hlt : k < n
    · obtain ⟨b1, o1, rfl, hc1⟩ := hr (by omega)
      obtain ⟨s, hs⟩ := getAt bs k (by have := Hl.out; omega)
      have Hs := hide hs
      have g1 := hc1 k (.int .u8 (s : Int)) (by simp [byts, hs])
      have f1 : wr.cell? ⟨b1, o1 + k, none⟩ = some (.int .u8 (s : Int)) := (hbel.cell (p := ⟨b1, o1 + k, none⟩) (World.block_lt_of_cell? w _ g1)).trans g1
      have hi : (k : Int) < (n : Int) := by omega
      obtain ⟨u, hu⟩ : ∃ u, cur[k]? = some u := ⟨cur[k]'(by omega), by simp [show k < cur.size by omega]⟩
      have hcw : wr.cell? ⟨w.heap.size, k, none⟩ = some u := (cell_of_row wr _ k cur _ (0, 0) hg).trans hu
      have hfw : wr.frozen? ⟨w.heap.size, k, none⟩ = false := frozen_of_row wr _ k cur _ hg
      have Hg := hide hg
      clear hr hc1 g1 hs hg
      go_wp2
      go_roundw
      case rel =>
        refine ⟨k + 1, _, by omega, by go_num, row_set _ Hg.out, by simpa using HC.out, fun j t hj ht => ?_, hbel.setCell (p := ⟨w.heap.size, k, none⟩) (Nat.le_refl _) _⟩
        by_cases hjk : j = k
        · subst hjk
          rw [Hs.out] at ht
          rw [Array.getElem?_setIfInBounds_self_of_lt (by omega)]
          rw [Option.some.inj ht]
        · rw [Array.getElem?_setIfInBounds_ne (by omega)]
          exact HM.out j t (by omega) ht
      case measure => simp [intOf]; omega
    · go_wp2
      go_ret
      obtain rfl : k = n := by omega
      refine ⟨rfl, ⟨_, _, rfl, hn', by simp [byts, Hl.out], fun _ => ⟨_, cur, rfl, rfl, hg, ?_⟩⟩, hbel, heap_lt hg⟩
      apply List.ext_getElem?
      intro j
      have hl := Hl.out
      by_cases hj : j < k
      · rw [List.getElem?_take_of_lt (by omega)]
        obtain ⟨s, hs⟩ := getAt bs j (by omega)
        simpa [byts, hs] using HM.out j s hj hs
      · rw [List.getElem?_eq_none (by simp; omega), List.getElem?_eq_none (by simp [byts]; omega)]

end Go.Proofs.Ytdnojnkcmncffaa

/- What the law FnExactWordUnpack does: its walk; the statement itself is proved elsewhere. -/
namespace Go.Proofs.Ytdnojnkcmncffaa
open Go.RowKit

theorem bytesR {w : World} {bo : Option Addr} {n cap : Nat} {bs : List Nat} (h : BytesIn w bo n cap bs) : RowR w 1 (.slice bo n cap) n (byts bs) := h.reads

set_option maxRecDepth 100000 in
set_option maxHeartbeats 16000000 in
theorem wordUnpack_walk (bo : Option Addr) (n cap : Nat) (bs : List Nat) (w : World) (h : BytesIn w bo n cap bs) :
    Calls Try.prog 5 #[.slice bo n cap] w fun e w' => e = .returned (.bool true) ∧ Below w.heap.size w w' := by
  by_cases hb1 : (n : Int) > 1048576
  · go_enter Try.func5, Try.ntmps5
    go_wp2
    go_ret
    exact ⟨rfl, Below.refl _ _⟩
  have hn : n ≤ 1048576 := by omega
  have HR := hide (bytesR h)
  have HB := hide h.small
  clear h
  go_enter Try.func5, Try.ntmps5
  go_wp2_with fail
  refine (toByteS_any _ n bs w HR.out hn).mono ?_
  rintro e w1 ⟨rfl, r1, b1, l1⟩
  go_wp2_with fail
  refine (specWordUnpack_any _ n n bs w1 r1.reads HB.out hn).mono ?_
  rintro e w2 ⟨v2, ok, rfl, x, D2, up2, -, -, b2⟩
  obtain ⟨hlp, hll⟩ := up2.lens
  have c2 := bAll b1 b2
  have HU := hide up2
  obtain ⟨cs, rfl, hs, h1⟩ := D2.reads.agg
  have HI := hide (infoAt infoWd hs)
  have HZ := hide (zero26.trans hs.symm)
  have H1 := hide h1
  have al3 := bal (Below.refl w2.heap.size w2) (.cells cs 34)
  have B3 := hide (heap_alloc_new w2 (.cells cs 34))
  have D3 := hide (D2.inside.keepB al3)
  have c3 := bAll c2 al3
  have z2 := b2.size
  have HR3 := hide (HR.out.keep c3)
  clear r1 b1 b2 D2 up2 hs h1 c2 al3
  go_wp2_with (refine wpList_store_row rfl 34 (.tmp 3) (.tmp 20) rfl w2.heap.size cs rfl rfl _ _ (heap_alloc_new w2 _) HI.out HZ.out H1.out ?_; rw [World.setRow_alloc_new])
  refine (toByteS_any _ n bs _ HR3.out hn).mono ?_
  rintro e w4 ⟨rfl, r4, b4, l4⟩
  rw [World.size_alloc] at r4 l4 ⊢
  have B4 := hide (bKeeps b4 B3.out)
  have D4 := hide (D3.out.keepB b4)
  have c4 := bAll c3 b4
  have R4 := hide r4
  clear b4 B3 D3 c3 HR3 r4
  go_wp2_with fail
  refine (implWordUnpack_any _ n n bs w4 R4.out.reads HB.out hn (Nat.le_refl _)).mono ?_
  rintro e w5 ⟨v5, ok5, rfl, x5, D5, up5, -, -, b5⟩
  obtain ⟨rfl, rfl⟩ := HU.out.same up5
  have c5 := bAll c4 b5
  obtain ⟨ds, rfl, hds, hd1⟩ := D5.reads.agg
  have GI := hide (infoAt infoWd hds)
  have GZ := hide (zero26.trans hds.symm)
  have G1 := hide hd1
  have al6 := bal (Below.refl w5.heap.size w5) (.cells ds 34)
  have B6 := hide (bKeeps al6 (bKeeps b5 B4.out))
  have C6 := hide (heap_alloc_new w5 (.cells ds 34))
  have D6 := hide ((D4.out.keepB b5).keepB al6)
  have E6 := hide (D5.inside.keepB al6)
  have R6 := hide ((R4.out.keepB b5).keepB al6)
  have c6 := bAll c5 al6
  have z5 := b5.size
  clear b5 D5 up5 hds hd1 al6 c5 c4 B4 D4 R4
  go_wp2_with (first
    | (refine wpList_store_row rfl 34 (.tmp 6) (.tmp 27) rfl w5.heap.size ds rfl rfl _ _ (heap_alloc_new w5 _) GI.out GZ.out G1.out ?_; rw [World.setRow_alloc_new])
    | (refine wpList_load_row rfl 34 (.tmp 6) rfl w5.heap.size rfl _ ds (0, 0) _ C6.out Try.underlying34 rfl GI.out ?_)
    | (refine wpList_load_row rfl 34 (.tmp 3) rfl w2.heap.size rfl _ cs (0, 0) _ B6.out Try.underlying34 rfl HI.out ?_))
  refine (eqWord_true _ _ x _ E6.out.reads D6.out.reads).mono ?_
  rintro e w7 ⟨rfl, b7⟩
  have B7 := hide (bKeeps b7 B6.out)
  have C7 := hide (bKeeps b7 C6.out)
  have D7 := hide (D6.out.keepB b7)
  have E7 := hide (E6.out.keepB b7)
  have R7 := hide (R6.out.keepB b7)
  have c7 := bAll c6 b7
  have z7 := b7.size
  rw [World.size_alloc] at z7
  have HR7 := hide (HR.out.keep c7)
  clear b7 B6 C6 D6 E6 R6 c6
  go_wp2_with fail
  refine (toByteS_any _ n bs _ HR7.out hn).mono ?_
  rintro e w8 ⟨rfl, r8, b8, l8⟩
  have B8 := hide (bKeeps b8 B7.out)
  have C8 := hide (bKeeps b8 C7.out)
  have D8 := hide (D7.out.keepB b8)
  have E8 := hide (E7.out.keepB b8)
  have R8 := hide (R7.out.keepB b8)
  have c8 := bAll c7 b8
  have S8 := hide r8
  clear b8 B7 C7 D7 E7 R7 c7 HR7 r8
  go_wp2_with fail
  refine (eqByteS_true _ _ n bs _ R8.out.reads S8.out.reads).mono ?_
  rintro e w9 ⟨rfl, b9⟩
  have B9 := hide (bKeeps b9 B8.out)
  have C9 := hide (bKeeps b9 C8.out)
  have D9 := hide (D8.out.keepB b9)
  have E9 := hide (E8.out.keepB b9)
  have R9 := hide (R8.out.keepB b9)
  have c9 := bAll c8 b9
  have z9 := b9.size
  have CM := hide (markByteS_any _ _ n _ 1 w9 R9.out (by omega) (by omega))
  obtain ⟨Q, hQ⟩ : ∃ Q : Nat, Q = 1 + n := ⟨_, rfl⟩
  rw [← hQ] at CM
  have hQn : ¬ (Q : Int) < 0 := by omega
  clear b9 B8 C8 D8 E8 R8 S8 c8 R9 hQ
  go_wp2_with fail
  refine CM.out.mono ?_
  rintro e w10 ⟨rfl, -, u10⟩
  have B10 := hide (u10.keeps B9.out (by omega))
  have C10 := hide (u10.keeps C9.out (by omega))
  have D10 := hide (D9.out.keep u10 (fun k h1 h2 => by have := h1.2; omega))
  have E10 := hide (E9.out.keep u10 (fun k h1 h2 => by have := h1.1; omega))
  have z10 := u10.size
  have c10 := c9.trans (u10.below c9.size (fun k h => by omega))
  clear CM B9 C9 D9 E9 u10 c9
  go_wp2_with (first
    | (refine wpList_load_rowG (by rfl) 34 (.tmp 6) rfl w5.heap.size rfl _ ds (0, 0) _ C10.out Try.underlying34 rfl GI.out ?_)
    | (refine wpList_load_rowG (by rfl) 34 (.tmp 3) rfl w2.heap.size rfl _ cs (0, 0) _ B10.out Try.underlying34 rfl HI.out ?_))
  refine (eqWord_true _ _ x _ E10.out.reads D10.out.reads).mono ?_
  rintro e w11 ⟨rfl, b11⟩
  have B11 := hide (bKeeps b11 B10.out)
  have C11 := hide (bKeeps b11 C10.out)
  have D11 := hide (D10.out.keepB b11)
  have E11 := hide (E10.out.keepB b11)
  have c11 := bAll c10 b11
  have z11 := b11.size
  obtain ⟨M, hM⟩ : ∃ M : Nat, M = 1 + x.ps.length * 4 + x.ls.length * 2 := ⟨_, rfl⟩
  have HM := hide hM
  have MW := hide (markWord_any _ _ x 1 _ E11.out (by omega) (by omega))
  rw [← hM] at MW
  have hMn : ¬ (M : Int) < 0 := by omega
  clear b11 B10 C10 D10 E10 c10 E11 hM
  go_wp2_with (refine wpList_load_row rfl 34 (.tmp 6) rfl w5.heap.size rfl _ ds (0, 0) _ C11.out Try.underlying34 rfl GI.out ?_)
  refine MW.out.mono ?_
  rintro e w12 ⟨rfl, k12, u12⟩
  have B12 := hide (u12.keeps B11.out (fun h => by have := h.1; omega))
  have C12 := hide (u12.keeps C11.out (fun h => by have := h.2; omega))
  have D12 := hide (D11.out.keep u12 (fun k h1 h2 => by have := h1.2; have := h2.1; omega))
  have K12 := hide k12
  have z12 := u12.size
  have c12 := c11.trans (u12.below c11.size (fun k h => by have := h.1; omega))
  have HW := hide (heldWord_ok _ x 1 w12 K12.out.reads (by omega) (by omega))
  rw [← HM.out] at HW
  clear MW B11 C11 D11 u12 c11 k12
  go_wp2_with (refine wpList_load_row rfl 34 (.tmp 6) rfl w5.heap.size rfl _ ds (0, 0) _ C12.out Try.underlying34 rfl GI.out ?_)
  refine HW.out.mono ?_
  rintro e w13 ⟨rfl, b13⟩
  have B13 := hide (bKeeps b13 B12.out)
  have C13 := hide (bKeeps b13 C12.out)
  have D13 := hide (D12.out.keepB b13)
  have K13 := hide (K12.out.keepB b13)
  have c13 := bAll c12 b13
  have HR13 := hide (HR.out.keep c13)
  clear HW b13 B12 C12 D12 K12 c12
  go_wp2_with fail
  refine (toByteS_any _ n bs _ HR13.out hn).mono ?_
  rintro e w14 ⟨rfl, r14, b14, l14⟩
  have B14 := hide (bKeeps b14 B13.out)
  have C14 := hide (bKeeps b14 C13.out)
  have D14 := hide (D13.out.keepB b14)
  have K14 := hide (K13.out.keepB b14)
  have c14 := bAll c13 b14
  have R14 := hide r14
  clear b14 B13 C13 D13 K13 c13 HR13 r14
  go_wp2_with fail
  refine (implWordUnpack_any _ n n bs w14 R14.out.reads HB.out hn (Nat.le_refl _)).mono ?_
  rintro e w15 ⟨v15, ok15, rfl, x15, D15, up15, -, -, b15⟩
  obtain ⟨rfl, rfl⟩ := HU.out.same up15
  have c15 := bAll c14 b15
  obtain ⟨es, rfl, hes, he1⟩ := D15.reads.agg
  have FI := hide (infoAt infoWd hes)
  have FZ := hide (zero26.trans hes.symm)
  have F1 := hide he1
  have al16 := bal (Below.refl w15.heap.size w15) (.cells es 34)
  have B16 := hide (bKeeps al16 (bKeeps b15 B14.out))
  have C16 := hide (bKeeps al16 (bKeeps b15 C14.out))
  have A16 := hide (heap_alloc_new w15 (.cells es 34))
  have D16 := hide ((D14.out.keepB b15).keepB al16)
  have K16 := hide ((K14.out.keepB b15).keepB al16)
  have E16 := hide (D15.keepB al16)
  have c16 := bAll c15 al16
  clear b15 D15 up15 hes he1 al16 c15 c14 B14 C14 D14 K14 R14
  go_wp2_with (first
    | (refine wpList_store_row rfl 34 (.tmp 11) (.tmp 74) rfl w15.heap.size es rfl rfl _ _ (heap_alloc_new w15 _) FI.out FZ.out F1.out ?_; rw [World.setRow_alloc_new])
    | (refine wpList_load_row rfl 34 (.tmp 11) rfl w15.heap.size rfl _ es (0, 0) _ A16.out Try.underlying34 rfl FI.out ?_)
    | (refine wpList_load_row rfl 34 (.tmp 3) rfl w2.heap.size rfl _ cs (0, 0) _ B16.out Try.underlying34 rfl HI.out ?_))
  refine (eqWord_true _ _ x _ E16.out.reads D16.out.reads).mono ?_
  rintro e w17 ⟨rfl, b17⟩
  have C17 := hide (bKeeps b17 C16.out)
  have K17 := hide (K16.out.keepB b17)
  have c17 := bAll c16 b17
  have HW := hide (heldWord_ok _ x 1 w17 K17.out.reads (by omega) (by omega))
  rw [← HM.out] at HW
  clear b17 B16 C16 A16 D16 K16 E16 c16
  go_wp2_with (refine wpList_load_row rfl 34 (.tmp 6) rfl w5.heap.size rfl _ ds (0, 0) _ C17.out Try.underlying34 rfl GI.out ?_)
  refine HW.out.mono ?_
  rintro e w18 ⟨rfl, b18⟩
  have c18 := bAll c17 b18
  clear HW C17 K17 c17 b18
  go_wp2
  go_ret
  exact ⟨rfl, c18⟩

end Go.Proofs.Ytdnojnkcmncffaa

/- How an argument that is a slice of bytes is opened; no statement of the seat is proved here. -/
namespace Go.Proofs.Ytdnojnkcmncffaa
open Go.ChangeShapes Go.WideShapes Go.ChangeAt Go.RowKit Go.Deep Go.Joins

section
variable {H : Type} {enc : TypeId × Value → H} {P : Program} {w : World} {base : Nat} {spare : Nat → Bool} {held : Bool}

theorem u8_wf {n : Int} (h : (Lit.int .u8 n).wf = true) : 0 ≤ n ∧ n < 256 := by
  simp only [Lit.wf, Bool.and_eq_true, decide_eq_true_eq] at h
  have h1 : IntKind.u8.min = 0 := by decide
  have h2 : IntKind.u8.max = 255 := by decide
  rw [h1, h2] at h
  omega

theorem bytesIn_of {t e : TypeId} {fuel : Nat} {v : Value} {x : DataW H × List MemPlace} (ht : P.underlying t = some (.slice e)) (he : P.underlying e = some (.int .u8)) (hc : P.cellsOf e = 1)
    (h : DataW.trod enc P w base spare held fuel t [v] = some x) : ∃ (bo : Option Addr) (n cap : Nat) (bs : List Nat), v = .slice bo n cap ∧ BytesIn w bo n cap bs := by
  rcases open_ints ht he hc h with ⟨hcs, _⟩ | ⟨a, len, cap, zs, hcs, _, hl, hm, hmm, _, hx, hwf⟩
  · obtain rfl : v = .slice none 0 0 := by simpa using hcs
    exact ⟨none, 0, 0, [], rfl, RowR.nil _ _, by simp, Nat.le_refl _⟩
  · obtain rfl : v = .slice (some a) len cap := by simpa using hcs
    have hlm : len ≤ zs.length := by rw [hmm]; split <;> omega
    unfold maxLen at hm
    refine ⟨some a, len, cap, (zs.take len).map Int.toNat, rfl, ⟨some a, cap, rfl, by omega, by simp; omega, fun h0 => ?_⟩, ?_, hl⟩
    · have h1 := hx 0 (by omega)
      obtain ⟨b, off, spot⟩ := a
      have hspot : spot = none := by simpa [Addr.add] using World.cell?_spot h1
      subst hspot
      refine ⟨b, off, rfl, fun j u hj => ?_⟩
      have hj' : j < len := by have := (List.getElem?_eq_some_iff.1 hj).1; simp at this; omega
      have h2 := hx j (by omega)
      rw [Addr.add_lit] at h2
      rw [h2]
      obtain ⟨z, hz⟩ := getAt zs j (by omega)
      have hb := u8_wf (hwf z (List.mem_of_getElem? hz))
      have e0 : (z.toNat : Int) = z := by omega
      rw [List.getElem?_map, List.getElem?_map, List.getElem?_take_of_lt hj', hz] at hj
      simp only [Option.map_some, e0] at hj
      simpa [List.getD, hz] using hj
    · intro b hb
      obtain ⟨z, hz, rfl⟩ := List.mem_map.1 hb
      have := u8_wf (hwf z (List.mem_of_mem_take hz))
      omega
end

end Go.Proofs.Ytdnojnkcmncffaa
