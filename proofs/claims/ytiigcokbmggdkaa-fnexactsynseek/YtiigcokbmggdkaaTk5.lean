/- Contracts and plain facts that this claim leans on (texts FW3, SE, Ints, SK1, SK2, FW4, VI); no statement of the seat is proved here. -/
import Derived.Test.YtiigcokbmggdkaaTk3
import Derived.Test.YtiigcokbmggdkaaTk4
import Derived.Laws.StructEq
import Derived.Test.YtiigcokbmggdkaaTk1
import Derived.Deep.DeepCutAuto
import Derived.Test.YtiigcokbmggdkaaTk2

/- A word is sent to all: contracts; no statement of the seat is proved here. -/
namespace Go.Proofs.Ytiigcokbmggdkaa
open Go.RowKit

/-- A word to each voter. -/
def allTo (x : Wd) (n : Nat) : List Wd := (List.range n).map fun (i : Nat) => { x with a2 := (i : Int) }
theorem allTo_len (x : Wd) (n : Nat) : (allTo x n).length = n := by simp [allTo]
theorem allTo_succ (x : Wd) (n : Nat) : allTo x (n + 1) = allTo x n ++ [{ x with a2 := (n : Int) }] := by simp [allTo, List.range_succ]
theorem allTo_flat {x : Wd} (h : Flat x) (n : Nat) : ∀ y ∈ allTo x n, Flat y := by
  intro y hy
  simp only [allTo, List.mem_map] at hy
  obtain ⟨i, -, rfl⟩ := hy
  exact h
theorem infoWdF : (Try.prog.info? 40).map (fun i => (i.zero, i.size, i.bytes)) = some (some (.agg #[.int .i64 0, .int .i64 0, .int .i64 0, .int .i64 0, .int .i64 0, .int .i64 0, .int .i64 0, .int .i64 0, .int .i64 0, .int .i64 0, .int .i64 0, .int .i64 0, .int .i64 0, .int .i64 0, .int .i64 0, .int .i64 0, .int .i64 0, .int .i64 0, .int .i64 0, .int .i64 0, .int .i64 0, .int .i64 0, .int .i64 0, .int .i64 0, .slice none 0 0, .slice none 0 0]), 26, 240) := by kernel_rfl
theorem newW_cells (w : World) (p : Wd) (e : TypeId) : ∀ j u, (fwcell p)[j]? = some u → (w.alloc (.cells (fwarr p) e)).cell? ((⟨w.heap.size, 0, none⟩ : Addr).add j) = some u := by
  intro j u h
  rw [Addr.add_lit, Nat.zero_add, boxAt (al1_0 w _)]
  simpa [fwcell] using h
theorem fwcell_one (p : Wd) : ∀ u ∈ fwcell p, u.oneCell' = true := by
  intro u hu
  exact (Array.all_eq_true_iff_forall_mem.1 (fw_one p)) u (by simpa [fwcell] using hu)

set_option maxRecDepth 100000 in
set_option maxHeartbeats 8000000 in
theorem l22All_any (x : Wd) (w : World) :
    Calls Try.prog 89 #[.agg (fwarr x)] w fun e w' => ∃ v', e = .returned v' ∧ RowA w' w.heap.size 40 26 v' 3 (fwcells (allTo x 3)) ∧ Below w.heap.size w w' := by
  obtain ⟨i1, gi, gz0, gz1, gz2⟩ := info_parts infoWdF
  go_enter Try.func89, Try.ntmps89
  go_upto_region 2 with fail
  generalize hW : World.alloc _ _ = W
  have al : Below w.heap.size w W := by rw [← hW]; exact bal (bal (Below.refl _ _) _) _
  have B0 : Hid (W.heap[w.heap.size]? = some (.cells (fwarr x) 40 (0, 0))) := by show _ = _; rw [← hW]; exact al2_0 w _ _
  have zW : w.heap.size + 1 ≤ W.heap.size := by rw [← hW]; simp
  clear hW
  go_wp2
  go_loopw [3, 4] (fun o i wr => ∃ (k : Nat) (z : Int), k ≤ 3 ∧ i = .int .i64 k ∧ RowA wr W.heap.size 40 26 o k (fwcells (allTo x k)) ∧ wr.heap[w.heap.size]? = some (.cells (fwarr { x with a2 := z }) 40 (0, 0)) ∧ Upd (fun j => j = w.heap.size) W wr) (fun _ i _ => 3 - (intOf i).toNat)
  case atStart => exact ⟨0, x.a2, Nat.zero_le _, rfl, .inr ⟨rfl, rfl, _, rfl⟩, B0.out, Upd.refl _ _⟩
  case round =>
    obtain ⟨k, z, hk, rfl, hrow, hbox, hup⟩ := hrel
    have HW := hide hrow
    obtain ⟨po, pc, rfl⟩ := hrow.shape
    have zr := hup.size
    by_cases hlt : k < 3
    · have hi : (k : Int) < 3 := by omega
      have c2 : wr.cell? ⟨w.heap.size, 2, none⟩ = some (.int .i64 z) := boxAt hbox 2
      have f2 := boxFz hbox 2
      have HB := hide hbox
      clear hrow hbox
      go_upto_region 6 with fail
      generalize hV : World.setCell _ _ _ = V
      have uV : Upd (fun j => j = w.heap.size) wr V := by rw [← hV]; exact Upd.setCell _ _ _ _ rfl
      have bV : Hid (V.heap[w.heap.size]? = some (.cells (fwarr { x with a2 := (k : Int) }) 40 (0, 0))) := by show _ = _; rw [← hV]; exact row_set _ HB.out
      have RV : RowA V W.heap.size 40 26 (.slice po k pc) k (fwcells (allTo x k)) := HW.out.keep uV (fun j h1 h2 => by omega)
      have cV := hup.trans uV
      have zV := cV.size
      clear hV c2 f2 HB HW
      obtain ⟨y, hy⟩ : ∃ y : Wd, { x with a2 := (k : Int) } = y := ⟨_, rfl⟩
      rw [hy] at bV
      have HY := hide hy
      clear hy
      have alV := bal (Below.refl V.heap.size V) (.cells (#[.int .i64 y.a0, .int .i64 y.a1, .int .i64 y.a2, .int .i64 y.a3, .int .i64 y.a4, .int .i64 y.a5, .int .i64 y.c0, .int .i64 y.c1, .int .i64 y.c2, .int .i64 y.c3, .int .i64 y.c4, .int .i64 y.c5, .int .i64 y.c6, .int .i64 y.c7, .int .i64 y.c8, .int .i64 y.c9, .int .i64 y.b0, .int .i64 y.b1, .int .i64 y.b2, .int .i64 y.b3, .int .i64 y.b4, .int .i64 y.b5, .int .i64 y.b6, .int .i64 y.b7, .slice none 0 0, .slice none 0 0] : Array Value) 40)
      have rowV := RV.keepB alV
      have NV : Hid (∀ j u, (fwcell y)[j]? = some u → (V.alloc (.cells (#[.int .i64 y.a0, .int .i64 y.a1, .int .i64 y.a2, .int .i64 y.a3, .int .i64 y.a4, .int .i64 y.a5, .int .i64 y.c0, .int .i64 y.c1, .int .i64 y.c2, .int .i64 y.c3, .int .i64 y.c4, .int .i64 y.c5, .int .i64 y.c6, .int .i64 y.c7, .int .i64 y.c8, .int .i64 y.c9, .int .i64 y.b0, .int .i64 y.b1, .int .i64 y.b2, .int .i64 y.b3, .int .i64 y.b4, .int .i64 y.b5, .int .i64 y.b6, .int .i64 y.b7, .slice none 0 0, .slice none 0 0] : Array Value) 40)).cell? ((⟨V.heap.size, 0, none⟩ : Addr).add j) = some u) := newW_cells V y 40
      have bV1 : Hid ((V.alloc (.cells (#[.int .i64 y.a0, .int .i64 y.a1, .int .i64 y.a2, .int .i64 y.a3, .int .i64 y.a4, .int .i64 y.a5, .int .i64 y.c0, .int .i64 y.c1, .int .i64 y.c2, .int .i64 y.c3, .int .i64 y.c4, .int .i64 y.c5, .int .i64 y.c6, .int .i64 y.c7, .int .i64 y.c8, .int .i64 y.c9, .int .i64 y.b0, .int .i64 y.b1, .int .i64 y.b2, .int .i64 y.b3, .int .i64 y.b4, .int .i64 y.b5, .int .i64 y.b6, .int .i64 y.b7, .slice none 0 0, .slice none 0 0] : Array Value) 40)).heap[w.heap.size]? = some (.cells (fwarr y) 40 (0, 0))) := bKeeps alV bV.out
      clear RV
      go_wp2_with (first
        | (refine wpList_load_row rfl 40 (.tmp 1) rfl w.heap.size rfl _ (#[.int .i64 y.a0, .int .i64 y.a1, .int .i64 y.a2, .int .i64 y.a3, .int .i64 y.a4, .int .i64 y.a5, .int .i64 y.c0, .int .i64 y.c1, .int .i64 y.c2, .int .i64 y.c3, .int .i64 y.c4, .int .i64 y.c5, .int .i64 y.c6, .int .i64 y.c7, .int .i64 y.c8, .int .i64 y.c9, .int .i64 y.b0, .int .i64 y.b1, .int .i64 y.b2, .int .i64 y.b3, .int .i64 y.b4, .int .i64 y.b5, .int .i64 y.b6, .int .i64 y.b7, .slice none 0 0, .slice none 0 0] : Array Value) (0, 0) _ bV.out Try.underlying40 rfl infoWd ?_)
        | (at_builtin; refine wpList_appendA _ rfl _ _ 70 rfl W.heap.size 40 i1 (.agg #[.int .i64 0, .int .i64 0, .int .i64 0, .int .i64 0, .int .i64 0, .int .i64 0, .int .i64 0, .int .i64 0, .int .i64 0, .int .i64 0, .int .i64 0, .int .i64 0, .int .i64 0, .int .i64 0, .int .i64 0, .int .i64 0, .int .i64 0, .int .i64 0, .int .i64 0, .int .i64 0, .int .i64 0, .int .i64 0, .int .i64 0, .int .i64 0, .slice none 0 0, .slice none 0 0]) 26 240 Try.underlying70 gi gz0 gz1 gz2 rfl (by decide) _ k (fwcells (allTo x k)) rfl rowV ⟨V.heap.size, 0, none⟩ 1 1 (fwcell y) rfl rfl NV.out (fwcell_one _) (by decide) ?q63 ?qby ?qbase ?_))
      case q63 => unfold maxLen; omega
      case qby => omega
      case qbase => first | omega | (simp; omega)
      intro v4 w4 r4 u4
      obtain ⟨so4, sc4, rfl, -⟩ := owns_shape r4
      have hb4 : Hid (w4.heap[w.heap.size]? = some (.cells (fwarr y) 40 (0, 0))) := u4.keeps bV1.out (fun h => by have := h.1; omega)
      have R4 := hide (show RowA w4 W.heap.size 40 26 _ _ _ from .inl r4)
      have c4 : Upd (fun j => j = w.heap.size) W w4 := upd_late (cV.trans (Upd.ofBelow alV)) u4 (fun j h => h.1)
      clear r4 u4 rowV NV bV1 bV alV cV uV
      go_wp2
      go_roundw
      case rel =>
        refine ⟨k + 1, (k : Int), by omega, by go_num, ?_, by rw [HY.out]; exact hb4.out, c4⟩
        have := R4.out
        rw [← HY.out] at this
        rw [allTo_succ]
        simpa [fwcells, List.flatMap_append] using this
      case measure => simp [intOf]; omega
    · go_wp2
      go_ret
      obtain rfl : k = 3 := by omega
      exact ⟨_, rfl, HW.out.base (by omega), al.trans (hup.below al.size (fun j h => by omega))⟩

/-- What the program sends to all: nothing, if there is nothing to ask. -/
def AskR (w' : World) (b : Nat) (me : Int) (x : Wd) (v' : Value) : Prop :=
  (x.a0 = 0 ∧ v' = .slice none 0 0) ∨ (x.a0 ≠ 0 ∧ RowA w' b 40 26 v' 3 (fwcells (allTo { x with a1 := me } 3)))

set_option maxRecDepth 100000 in
set_option maxHeartbeats 8000000 in
theorem synAskAll_any (me : Int) (x : Wd) (w : World) :
    Calls Try.prog 91 #[.int .i64 me, .agg (fwarr x)] w fun e w' => ∃ v', e = .returned v' ∧ AskR w' w.heap.size me x v' ∧ Below w.heap.size w w' := by
  obtain ⟨i1, gi, gz0, gz1, gz2⟩ := info_parts infoWdF
  go_enter Try.func91, Try.ntmps91
  go_upto_region 1 with fail
  generalize hW : World.alloc _ _ = W
  have al : Below w.heap.size w W := by rw [← hW]; exact bal (Below.refl _ _) _
  have B0 : Hid (W.heap[w.heap.size]? = some (.cells (fwarr x) 40 (0, 0))) := by show _ = _; rw [← hW]; exact al1_0 w _
  have zW : w.heap.size + 1 ≤ W.heap.size := by rw [← hW]; simp
  clear hW
  have c0 : W.cell? ⟨w.heap.size, 0, none⟩ = some (.int .i64 x.a0) := boxAt B0.out 0
  by_cases h0 : x.a0 = 0
  · have h1 : (x.a0 == 0) = true := by simpa using h0
    go_wp2
    go_ret
    exact ⟨_, rfl, .inl ⟨h0, rfl⟩, al⟩
  have h1 : (x.a0 == 0) = false := by simpa using h0
  have H0 := hide h0
  clear h0
  go_upto_region 3 with fail
  clear c0 h1
  go_wp2
  go_loopw [5, 10] (fun o i wr => ∃ (k : Nat) (q z : Int), k ≤ 3 ∧ i = .int .i64 k ∧ RowA wr W.heap.size 40 26 o k (fwcells (allTo { x with a1 := me } k)) ∧ wr.heap[w.heap.size]? = some (.cells (fwarr { x with a1 := q, a2 := z }) 40 (0, 0)) ∧ Upd (fun j => j = w.heap.size) W wr) (fun _ i _ => 3 - (intOf i).toNat)
  case atStart => exact ⟨0, x.a1, x.a2, Nat.zero_le _, rfl, .inr ⟨rfl, rfl, _, rfl⟩, B0.out, Upd.refl _ _⟩
  case round =>
    obtain ⟨k, q, z, hk, rfl, hrow, hbox, hup⟩ := hrel
    have HW := hide hrow
    obtain ⟨po, pc, rfl⟩ := hrow.shape
    have zr := hup.size
    by_cases hlt : k < 3
    · have hi : (k : Int) < 3 := by omega
      have c1 : wr.cell? ⟨w.heap.size, 1, none⟩ = some (.int .i64 q) := boxAt hbox 1
      have c2 : wr.cell? ⟨w.heap.size, 2, none⟩ = some (.int .i64 z) := boxAt hbox 2
      have f1 := boxFz hbox 1
      have f2 := boxFz hbox 2
      have HB := hide hbox
      clear hrow hbox
      go_upto_region 8 with fail
      generalize hV : World.setCell _ _ _ = V
      have uV : Upd (fun j => j = w.heap.size) wr V := by rw [← hV]; exact (Upd.setCell (S := fun j => j = w.heap.size) _ _ _ _ rfl).trans (Upd.setCell _ _ _ _ rfl)
      have bV : Hid (V.heap[w.heap.size]? = some (.cells (fwarr { x with a1 := me, a2 := (k : Int) }) 40 (0, 0))) := by show _ = _; rw [← hV]; exact row_set _ (row_set _ HB.out)
      have RV : RowA V W.heap.size 40 26 (.slice po k pc) k (fwcells (allTo { x with a1 := me } k)) := HW.out.keep uV (fun j h1 h2 => by omega)
      have cV := hup.trans uV
      have zV := cV.size
      clear hV c1 c2 f1 f2 HB HW
      obtain ⟨y, hy⟩ : ∃ y : Wd, { x with a1 := me, a2 := (k : Int) } = y := ⟨_, rfl⟩
      rw [hy] at bV
      have HY := hide hy
      clear hy
      have alV := bal (Below.refl V.heap.size V) (.cells (#[.int .i64 y.a0, .int .i64 y.a1, .int .i64 y.a2, .int .i64 y.a3, .int .i64 y.a4, .int .i64 y.a5, .int .i64 y.c0, .int .i64 y.c1, .int .i64 y.c2, .int .i64 y.c3, .int .i64 y.c4, .int .i64 y.c5, .int .i64 y.c6, .int .i64 y.c7, .int .i64 y.c8, .int .i64 y.c9, .int .i64 y.b0, .int .i64 y.b1, .int .i64 y.b2, .int .i64 y.b3, .int .i64 y.b4, .int .i64 y.b5, .int .i64 y.b6, .int .i64 y.b7, .slice none 0 0, .slice none 0 0] : Array Value) 40)
      have rowV := RV.keepB alV
      have NV : Hid (∀ j u, (fwcell y)[j]? = some u → (V.alloc (.cells (#[.int .i64 y.a0, .int .i64 y.a1, .int .i64 y.a2, .int .i64 y.a3, .int .i64 y.a4, .int .i64 y.a5, .int .i64 y.c0, .int .i64 y.c1, .int .i64 y.c2, .int .i64 y.c3, .int .i64 y.c4, .int .i64 y.c5, .int .i64 y.c6, .int .i64 y.c7, .int .i64 y.c8, .int .i64 y.c9, .int .i64 y.b0, .int .i64 y.b1, .int .i64 y.b2, .int .i64 y.b3, .int .i64 y.b4, .int .i64 y.b5, .int .i64 y.b6, .int .i64 y.b7, .slice none 0 0, .slice none 0 0] : Array Value) 40)).cell? ((⟨V.heap.size, 0, none⟩ : Addr).add j) = some u) := newW_cells V y 40
      have bV1 : Hid ((V.alloc (.cells (#[.int .i64 y.a0, .int .i64 y.a1, .int .i64 y.a2, .int .i64 y.a3, .int .i64 y.a4, .int .i64 y.a5, .int .i64 y.c0, .int .i64 y.c1, .int .i64 y.c2, .int .i64 y.c3, .int .i64 y.c4, .int .i64 y.c5, .int .i64 y.c6, .int .i64 y.c7, .int .i64 y.c8, .int .i64 y.c9, .int .i64 y.b0, .int .i64 y.b1, .int .i64 y.b2, .int .i64 y.b3, .int .i64 y.b4, .int .i64 y.b5, .int .i64 y.b6, .int .i64 y.b7, .slice none 0 0, .slice none 0 0] : Array Value) 40)).heap[w.heap.size]? = some (.cells (fwarr y) 40 (0, 0))) := bKeeps alV bV.out
      clear RV
      go_wp2_with (first
        | (refine wpList_load_row rfl 40 (.tmp 3) rfl w.heap.size rfl _ (#[.int .i64 y.a0, .int .i64 y.a1, .int .i64 y.a2, .int .i64 y.a3, .int .i64 y.a4, .int .i64 y.a5, .int .i64 y.c0, .int .i64 y.c1, .int .i64 y.c2, .int .i64 y.c3, .int .i64 y.c4, .int .i64 y.c5, .int .i64 y.c6, .int .i64 y.c7, .int .i64 y.c8, .int .i64 y.c9, .int .i64 y.b0, .int .i64 y.b1, .int .i64 y.b2, .int .i64 y.b3, .int .i64 y.b4, .int .i64 y.b5, .int .i64 y.b6, .int .i64 y.b7, .slice none 0 0, .slice none 0 0] : Array Value) (0, 0) _ bV.out Try.underlying40 rfl infoWd ?_)
        | (at_builtin; refine wpList_appendA _ rfl _ _ 70 rfl W.heap.size 40 i1 (.agg #[.int .i64 0, .int .i64 0, .int .i64 0, .int .i64 0, .int .i64 0, .int .i64 0, .int .i64 0, .int .i64 0, .int .i64 0, .int .i64 0, .int .i64 0, .int .i64 0, .int .i64 0, .int .i64 0, .int .i64 0, .int .i64 0, .int .i64 0, .int .i64 0, .int .i64 0, .int .i64 0, .int .i64 0, .int .i64 0, .int .i64 0, .int .i64 0, .slice none 0 0, .slice none 0 0]) 26 240 Try.underlying70 gi gz0 gz1 gz2 rfl (by decide) _ k (fwcells (allTo { x with a1 := me } k)) rfl rowV ⟨V.heap.size, 0, none⟩ 1 1 (fwcell y) rfl rfl NV.out (fwcell_one _) (by decide) ?q63 ?qby ?qbase ?_))
      case q63 => unfold maxLen; omega
      case qby => omega
      case qbase => first | omega | (simp; omega)
      intro v4 w4 r4 u4
      obtain ⟨so4, sc4, rfl, -⟩ := owns_shape r4
      have hb4 : Hid (w4.heap[w.heap.size]? = some (.cells (fwarr y) 40 (0, 0))) := u4.keeps bV1.out (fun h => by have := h.1; omega)
      have R4 := hide (show RowA w4 W.heap.size 40 26 _ _ _ from .inl r4)
      have c4 : Upd (fun j => j = w.heap.size) W w4 := upd_late (cV.trans (Upd.ofBelow alV)) u4 (fun j h => h.1)
      clear r4 u4 rowV NV bV1 bV alV cV uV
      go_wp2
      go_roundw
      case rel =>
        refine ⟨k + 1, me, (k : Int), by omega, by go_num, ?_, by rw [HY.out]; exact hb4.out, c4⟩
        have := R4.out
        rw [← HY.out] at this
        rw [allTo_succ]
        simpa [fwcells, List.flatMap_append] using this
      case measure => simp [intOf]; omega
    · go_wp2
      go_ret
      obtain rfl : k = 3 := by omega
      exact ⟨_, rfl, .inr ⟨H0.out, HW.out.base (by omega)⟩, al.trans (hup.below al.size (fun j h => by omega))⟩

end Go.Proofs.Ytiigcokbmggdkaa

/- Commands and papers held against nothing: laws of one program; no statement of the seat is proved here. -/
namespace Go.Proofs.Ytiigcokbmggdkaa
open Go.RowKit

/-- A command that is nothing. -/
def isZ (x : Wd) : Bool := x.c0 == 0 && (x.c1 == 0 && (x.c2 == 0 && (x.c3 == 0 && (x.c4 == 0 && (x.c5 == 0 && (x.c6 == 0 && (x.c7 == 0 && (x.c8 == 0 && x.c9 == 0))))))))
/-- A paper that is nothing. -/
def isZP (p : Pp) : Bool := p.1 == 0 && (p.2.1 == 0 && isZ p.2.2)

theorem ifB {a : Int} {c : Bool} (w : World) (R : Result Value) (h : R = .ok (.bool c) w) : (if a = 0 then R else .ok (.bool false) w) = .ok (.bool (a == 0 && c)) w := by
  by_cases ha : a = 0
  · rw [if_pos ha, h, ha]
    rfl
  · rw [if_neg ha, show (a == 0) = false by simpa using ha]
    rfl

set_option maxRecDepth 10000 in
theorem eqlPaper0 (s b : Int) (x : Wd) (w : World) : (binOp .eql 56 (.agg (#[.int .i64 s, .int .i64 b, .int .i64 x.c0, .int .i64 x.c1, .int .i64 x.c2, .int .i64 x.c3, .int .i64 x.c4, .int .i64 x.c5, .int .i64 x.c6, .int .i64 x.c7, .int .i64 x.c8, .int .i64 x.c9] : Array Value)) (.agg #[.int .i64 0, .int .i64 0, .int .i64 0, .int .i64 0, .int .i64 0, .int .i64 0, .int .i64 0, .int .i64 0, .int .i64 0, .int .i64 0, .int .i64 0, .int .i64 0])).run Try.prog w = .ok (.bool (isZP (s, b, x))) w := by
  have u3 := Try.underlying3
  have a3 := Try.isAgg3
  have z3 := Try.sizeOf3
  have hS : Try.prog.underlying 56 = some (.struct (Try.prog.fieldsOf 56)) := by kernel_rfl
  rw [run_eql_struct, show (10000 : Nat) = 9999 + 1 from rfl, run_equalIn_agg w 9999 56 _ _ hS (by kernel_rfl)]
  simp only [Program.fieldsOf, Try.underlying56 ]
  go_simp
  unfold isZP isZ
  clear u3 a3 z3 hS
  iterate 11 refine ifB w _ ?_
  by_cases h : x.c9 = 0 <;> simp [h]

theorem guardPaper (w : World) (x y : Operand) (xs ys : Array Value) : (eqGuard .eql 56 x y (.agg xs) (.agg ys)).run Try.prog w = .ok () w := run_eqGuard_agg w _ _ _ _ _ _ (by kernel_rfl)

end Go.Proofs.Ytiigcokbmggdkaa

/- What the laws' own helpers do with numbers: contracts; no statement of the seat is proved here. -/
namespace Go.Proofs.Ytiigcokbmggdkaa
open Go.RowKit

set_option maxHeartbeats 400000 in
theorem eqIntS_true (va vb : Value) (n : Nat) (ss : List Int) (w : World) (ha : RowR w 1 va n (ss.map (Value.int .i64))) (hb : RowR w 1 vb n (ss.map (Value.int .i64))) :
    Calls Try.prog 88 #[va, vb] w fun e w' => e = .returned (.bool true) ∧ Below w.heap.size w w' := by
  obtain ⟨ao, ca, rfl, hn, hl, ha⟩ := ha
  obtain ⟨bo, cb, rfl, _, _, hb⟩ := hb
  go_enter Try.func88, Try.ntmps88
  go_wp2
  go_loopw [5] (fun i wr => ∃ k : Nat, k ≤ n ∧ i = .int .i64 k ∧ Below w.heap.size w wr) (fun i _ => n - (intOf i).toNat)
  case atStart => exact ⟨0, Nat.zero_le _, rfl, Below.refl _ _⟩
  case round =>
    obtain ⟨k, hk, rfl, hbel⟩ := hrel
    by_cases hlt : k < n
    · obtain ⟨b1, o1, rfl, hc1⟩ := ha (by omega)
      obtain ⟨b2, o2, rfl, hc2⟩ := hb (by omega)
      obtain ⟨s, hs⟩ : ∃ s, (ss.map (Value.int .i64))[k]? = some (.int .i64 s) := by
        simp only [List.length_map, Nat.mul_one] at hl
        exact ⟨ss[k]'(by omega), by simp [show k < ss.length by omega]⟩
      have g1 := hc1 k _ hs
      have g2 := hc2 k _ hs
      have f1 : wr.cell? ⟨b1, o1 + k, none⟩ = some (.int .i64 s) := (hbel.cell (p := ⟨b1, o1 + k, none⟩) (World.block_lt_of_cell? w _ g1)).trans g1
      have f2 : wr.cell? ⟨b2, o2 + k, none⟩ = some (.int .i64 s) := (hbel.cell (p := ⟨b2, o2 + k, none⟩) (World.block_lt_of_cell? w _ g2)).trans g2
      have hi : (k : Int) < (n : Int) := by omega
      clear ha hb hc1 hc2 hs g1 g2 hl
      go_wp2
      go_quiet (fail)
      go_wp2
      go_roundw
      case rel => exact ⟨k + 1, by omega, by go_num, below_drewN hbel _⟩
      case measure => simp [intOf]; omega
    · go_wp2
      go_ret
      exact ⟨rfl, hbel⟩

end Go.Proofs.Ytiigcokbmggdkaa

/- Seekers: what they read, and what the laws' own helpers do with them: contracts; no statement of the seat is proved here. -/
namespace Go.Proofs.Ytiigcokbmggdkaa
open Go.RowKit

/-- A seeker: slot, ballot, phase, its own command (that of a word), the best paper, who said yes. -/
structure Sk where
  s : Int
  b : Int
  ph : Int
  m : Wd
  p : Pp
  ys : List Int
def skarr (k : Sk) (y : Value) : Array Value := (#[.int .i64 k.s, .int .i64 k.b, .int .i64 k.ph, .int .i64 k.m.c0, .int .i64 k.m.c1, .int .i64 k.m.c2, .int .i64 k.m.c3, .int .i64 k.m.c4, .int .i64 k.m.c5, .int .i64 k.m.c6, .int .i64 k.m.c7, .int .i64 k.m.c8, .int .i64 k.m.c9, .int .i64 k.p.1, .int .i64 k.p.2.1, .int .i64 k.p.2.2.c0, .int .i64 k.p.2.2.c1, .int .i64 k.p.2.2.c2, .int .i64 k.p.2.2.c3, .int .i64 k.p.2.2.c4, .int .i64 k.p.2.2.c5, .int .i64 k.p.2.2.c6, .int .i64 k.p.2.2.c7, .int .i64 k.p.2.2.c8, .int .i64 k.p.2.2.c9, y] : Array Value)
def ints (xs : List Int) : List Value := xs.map (Value.int .i64)
/-- What a seeker reads. -/
def SkR (w : World) (v : Value) (k : Sk) : Prop := ∃ yo yc, v = .agg (skarr k (.slice yo k.ys.length yc)) ∧ RowR w 1 (.slice yo k.ys.length yc) k.ys.length (ints k.ys)
def SkO (w : World) (S : Nat → Prop) (v : Value) (k : Sk) : Prop := ∃ yo yc, v = .agg (skarr k (.slice yo k.ys.length yc)) ∧ Row w 3 1 S (.slice yo k.ys.length yc) k.ys.length (ints k.ys)
theorem SkR.keep {w w' : World} {v : Value} {k : Sk} (h : SkR w v k) (hb : Below w.heap.size w w') : SkR w' v k := by
  obtain ⟨yo, yc, e, h⟩ := h
  exact ⟨yo, yc, e, h.keep hb⟩
theorem SkO.reads {w : World} {S : Nat → Prop} {v : Value} {k : Sk} (h : SkO w S v k) : SkR w v k := by
  obtain ⟨yo, yc, e, h⟩ := h
  exact ⟨yo, yc, e, h.reads⟩
theorem SkO.keep {w w' : World} {S T : Nat → Prop} {v : Value} {k : Sk} (h : SkO w S v k) (u : Upd T w w') (hT : ∀ j, S j → ¬ T j) : SkO w' S v k := by
  obtain ⟨yo, yc, e, h⟩ := h
  exact ⟨yo, yc, e, h.keep u hT⟩
theorem SkO.keepB {w w' : World} {S : Nat → Prop} {v : Value} {k : Sk} (h : SkO w S v k) (b : Below w.heap.size w w') : SkO w' S v k := by
  obtain ⟨yo, yc, e, h⟩ := h
  exact ⟨yo, yc, e, h.keepB b⟩
theorem SkO.mono {w : World} {S T : Nat → Prop} {v : Value} {k : Sk} (h : SkO w S v k) (hST : ∀ j, j < w.heap.size → S j → T j) : SkO w T v k := by
  obtain ⟨yo, yc, e, h⟩ := h
  exact ⟨yo, yc, e, h.mono hST⟩
theorem skarr_one (k : Sk) (yo : Option Addr) (n yc : Nat) : (skarr k (.slice yo n yc)).all (·.oneCell') = true := all_of_list rfl
theorem infoSk : (Try.prog.info? 66).map (·.size) = some 26 := by kernel_rfl
/-- The cells of a seeker in a block. -/
theorem sk_cells {V : World} {g : Nat} {k : Sk} {y : Value} {t : TypeId} (h : V.heap[g]? = some (.cells (skarr k y) t (0, 0))) :
    V.cell? ⟨g, 0, none⟩ = some (.int .i64 k.s) ∧ V.cell? ⟨g, 1, none⟩ = some (.int .i64 k.b) ∧ V.cell? ⟨g, 2, none⟩ = some (.int .i64 k.ph) ∧ (∀ j z, (#[.int .i64 k.m.c0, .int .i64 k.m.c1, .int .i64 k.m.c2, .int .i64 k.m.c3, .int .i64 k.m.c4, .int .i64 k.m.c5, .int .i64 k.m.c6, .int .i64 k.m.c7, .int .i64 k.m.c8, .int .i64 k.m.c9] : Array Value)[j]? = some z → V.cell? ⟨g, 3 + j, none⟩ = some z) ∧
    (∀ j z, (pparr k.p)[j]? = some z → V.cell? ⟨g, 13 + j, none⟩ = some z) ∧ V.cell? ⟨g, 13, none⟩ = some (.int .i64 k.p.1) ∧ V.cell? ⟨g, 14, none⟩ = some (.int .i64 k.p.2.1) ∧ V.cell? ⟨g, 25, none⟩ = some y := by
  refine ⟨boxAt h 0, boxAt h 1, boxAt h 2, fun j z hj => ?_, fun j z hj => ?_, boxAt h 13, boxAt h 14, boxAt h 25⟩
  · have hj' : j < 10 := (Array.getElem?_eq_some_iff.1 hj).1
    refine (boxAt h (3 + j)).trans ?_
    rcases (by omega : j = 0 ∨ j = 1 ∨ j = 2 ∨ j = 3 ∨ j = 4 ∨ j = 5 ∨ j = 6 ∨ j = 7 ∨ j = 8 ∨ j = 9) with rfl | rfl | rfl | rfl | rfl | rfl | rfl | rfl | rfl | rfl <;> exact hj
  · have hj' : j < 12 := (Array.getElem?_eq_some_iff.1 hj).1
    refine (boxAt h (13 + j)).trans ?_
    rcases (by omega : j = 0 ∨ j = 1 ∨ j = 2 ∨ j = 3 ∨ j = 4 ∨ j = 5 ∨ j = 6 ∨ j = 7 ∨ j = 8 ∨ j = 9 ∨ j = 10 ∨ j = 11) with rfl | rfl | rfl | rfl | rfl | rfl | rfl | rfl | rfl | rfl | rfl | rfl <;> exact hj

set_option maxRecDepth 100000 in
set_option maxHeartbeats 4000000 in
theorem eqSynSeeker_true (va vb : Value) (k : Sk) (w : World) (ha : SkR w va k) (hb : SkR w vb k) :
    Calls Try.prog 30 #[va, vb] w fun e w' => e = .returned (.bool true) ∧ Below w.heap.size w w' := by
  obtain ⟨ao, ca, rfl, ha⟩ := ha
  obtain ⟨bo, cb, rfl, hb⟩ := hb
  have al := bal (bal (Below.refl w.heap.size w) (.cells (skarr k (.slice ao k.ys.length ca)) 66)) (.cells (skarr k (.slice bo k.ys.length cb)) 66)
  have A0 := hide (al2_0 w (.cells (skarr k (.slice ao k.ys.length ca)) 66) (.cells (skarr k (.slice bo k.ys.length cb)) 66))
  have B0 := hide (al2_1 w (.cells (skarr k (.slice ao k.ys.length ca)) 66) (.cells (skarr k (.slice bo k.ys.length cb)) 66))
  have HA := hide (ha.keep al)
  have HB := hide (hb.keep al)
  clear ha hb
  go_enter Try.func30, Try.ntmps30
  go_upto_region 1 with fail
  generalize World.alloc _ _ = W at al A0 B0 HA HB ⊢
  have r0 := Below.refl W.heap.size W
  obtain ⟨x0, x1, x2, xm, -, -, -, -⟩ := sk_cells A0.out
  obtain ⟨y0, y1, y2, ym, -, -, -, -⟩ := sk_cells B0.out
  go_wp2_with (first
    | (refine wpList_load_at rfl 36 (.tmp 20) rfl w.heap.size 3 rfl #[.int .i64 k.m.c0, .int .i64 k.m.c1, .int .i64 k.m.c2, .int .i64 k.m.c3, .int .i64 k.m.c4, .int .i64 k.m.c5, .int .i64 k.m.c6, .int .i64 k.m.c7, .int .i64 k.m.c8, .int .i64 k.m.c9] _ xm Try.underlying36 rfl infoCm10 ?_)
    | (refine wpList_load_at rfl 36 (.tmp 22) rfl (w.heap.size + 1) 3 rfl #[.int .i64 k.m.c0, .int .i64 k.m.c1, .int .i64 k.m.c2, .int .i64 k.m.c3, .int .i64 k.m.c4, .int .i64 k.m.c5, .int .i64 k.m.c6, .int .i64 k.m.c7, .int .i64 k.m.c8, .int .i64 k.m.c9] _ ym Try.underlying36 rfl infoCm10 ?_))
  refine (eqCmd_true k.m _).mono ?_
  rintro e w1 ⟨rfl, b1⟩
  have xp := (sk_cells (bKeeps b1 A0.out)).2.2.2.2.1
  have yp := (sk_cells (bKeeps b1 B0.out)).2.2.2.2.1
  clear x0 x1 x2 y0 y1 y2 xm ym
  go_wp2_with (first
    | (refine wpList_load_at rfl 56 (.tmp 26) rfl w.heap.size 13 rfl (pparr k.p) _ xp Try.underlying56 rfl infoPpS ?_)
    | (refine wpList_load_at rfl 56 (.tmp 28) rfl (w.heap.size + 1) 13 rfl (pparr k.p) _ yp Try.underlying56 rfl infoPpS ?_))
  refine (eqSynPaper_true k.p.1 k.p.2.1 k.p.2.2 _).mono ?_
  rintro e w2 ⟨rfl, b2⟩
  have c2 := bAll b1 b2
  have x3 := (sk_cells (bKeeps c2 A0.out)).2.2.2.2.2.2.2
  have y3 := (sk_cells (bKeeps c2 B0.out)).2.2.2.2.2.2.2
  clear xp yp
  go_wp2_with fail
  refine (eqIntS_true _ _ _ k.ys _ (HA.out.keep c2) (HB.out.keep c2)).mono ?_
  rintro e w3 ⟨rfl, b3⟩
  go_wp2
  go_ret
  exact ⟨rfl, bAll al (bAll c2 b3)⟩

end Go.Proofs.Ytiigcokbmggdkaa

/- A law's seeker becomes a program's: a contract; no statement of the seat is proved here. -/
namespace Go.Proofs.Ytiigcokbmggdkaa
open Go.RowKit

theorem infoLc10 : (Try.prog.info? 26).map (·.size) = some 10 := by kernel_rfl
def zeroK : Sk := ⟨0, 0, 0, zeroW, (0, 0, zeroW), []⟩

end Go.Proofs.Ytiigcokbmggdkaa

/- SynSeek of the specification: a contract; no statement of the seat is proved here. (Written by wip/tools/mkseek.py.) -/
namespace Go.Proofs.Ytiigcokbmggdkaa
open Go.RowKit

/-- May one begin to seek; the seeker then, and its words. -/
def seekI (me round slot : Int) (m : Wd) : Bool := inI me 0 4 && (inI round 1 12498 && (inI slot 1 60 && cmdI m))
def begK (me round slot : Int) (m : Wd) : Sk := ⟨slot, round * 8 + me, 1, m, (0, 0, zeroW), []⟩
def askW (me b slot : Int) : Wd := { zeroW with a0 := 1, a1 := me, a3 := b, a4 := slot }
def seekK (me round slot : Int) (m : Wd) : Sk := if seekI me round slot m = true then begK me round slot m else zeroK
def seekL (me round slot : Int) (m : Wd) : List Wd := if seekI me round slot m = true then allTo (askW me (round * 8 + me) slot) 3 else []
theorem seekL_flat (me round slot : Int) (m : Wd) : ∀ y ∈ seekL me round slot m, Flat y := by
  unfold seekL
  split
  · exact allTo_flat ⟨rfl, rfl⟩ 3
  · intro y hy; simp at hy
theorem seekL_len (me round slot : Int) (m : Wd) : (seekL me round slot m).length ≤ 3 := by
  unfold seekL
  split
  · rw [allTo_len]; omega
  · simp
theorem seekK_ys (me round slot : Int) (m : Wd) : (seekK me round slot m).ys = [] := by
  unfold seekK
  split <;> rfl
/-- What SynSeek gives: a seeker's cells, and words in memory of their own. -/
def SeekO (w w' : World) (L : List Wd) (v' : Value) : Prop := Row w' 40 26 (fun j => w.heap.size ≤ j) v' L.length (fwcells L) ∧ Below w.heap.size w w'

theorem builtSk0 : Try.prog.built 66 [] = some (skarr zeroK (.slice none 0 0)) := by kernel_rfl
theorem wpList_builtSk0 {ops : Array Oper} {rest : List Oper} {o : Oper} {a : Act} {w : World} {Q : Exit → Act → World → Prop} (hg : o.guard = none) (parts : Array (Nat × Operand)) (ho : o.op = .build 66 parts)
    (hp : (parts.map fun (i, x) => (i, a.eval x)).toList = [])
    (h : wpList Try.prog ops Q rest (a.put o.dst (.agg (skarr zeroK (.slice none 0 0)))) w) : wpList Try.prog ops Q (o :: rest) a w :=
  wpList_build hg 66 parts ho (by rw [hp, builtSk0]; rfl) (by rw [hp, builtSk0]; exact h)
theorem builtSk (s b : Int) (m : Wd) : Try.prog.built 66 [(0, .int .i64 s), (1, .int .i64 b), (2, .int .i64 1), (3, .agg #[.int .i64 m.c0, .int .i64 m.c1, .int .i64 m.c2, .int .i64 m.c3, .int .i64 m.c4, .int .i64 m.c5, .int .i64 m.c6, .int .i64 m.c7, .int .i64 m.c8, .int .i64 m.c9])] = some (skarr ⟨s, b, 1, m, (0, 0, zeroW), []⟩ (.slice none 0 0)) := by kernel_rfl
theorem wpList_builtSk {ops : Array Oper} {rest : List Oper} {o : Oper} {a : Act} {w : World} {Q : Exit → Act → World → Prop} (s b : Int) (m : Wd) (hg : o.guard = none) (parts : Array (Nat × Operand)) (ho : o.op = .build 66 parts)
    (hp : (parts.map fun (i, x) => (i, a.eval x)).toList = [(0, .int .i64 s), (1, .int .i64 b), (2, .int .i64 1), (3, .agg #[.int .i64 m.c0, .int .i64 m.c1, .int .i64 m.c2, .int .i64 m.c3, .int .i64 m.c4, .int .i64 m.c5, .int .i64 m.c6, .int .i64 m.c7, .int .i64 m.c8, .int .i64 m.c9])])
    (h : wpList Try.prog ops Q rest (a.put o.dst (.agg (skarr ⟨s, b, 1, m, (0, 0, zeroW), []⟩ (.slice none 0 0)))) w) : wpList Try.prog ops Q (o :: rest) a w :=
  wpList_build hg 66 parts ho (by rw [hp, builtSk]; rfl) (by rw [hp, builtSk]; exact h)
theorem builtAsk1 (me b s : Int) : Try.prog.built 40 [(0, .int .i64 1), (1, .int .i64 me), (3, .int .i64 b), (4, .int .i64 s)] = some (fwarr (askW me b s)) := by kernel_rfl
theorem builtAsk2 (b s : Int) : Try.prog.built 40 [(0, .int .i64 1), (3, .int .i64 b), (4, .int .i64 s)] = some (fwarr (askW 0 b s)) := by kernel_rfl

set_option maxRecDepth 100000 in
set_option maxHeartbeats 8000000 in
theorem specSynSeek_any (me round slot : Int) (m : Wd) (w : World) :
    Calls Try.prog 31 #[.int .i64 me, .int .i64 round, .int .i64 slot, .agg #[.int .i64 m.c0, .int .i64 m.c1, .int .i64 m.c2, .int .i64 m.c3, .int .i64 m.c4, .int .i64 m.c5, .int .i64 m.c6, .int .i64 m.c7, .int .i64 m.c8, .int .i64 m.c9] ] w fun e w' => ∃ v', e = .returned (.tuple #[.agg (skarr (seekK me round slot m) (.slice none 0 0)), v']) ∧ SeekO w w' (seekL me round slot m) v' := by
  obtain ⟨K, hK⟩ : ∃ K, seekK me round slot m = K := ⟨_, rfl⟩
  obtain ⟨L, hL⟩ : ∃ L, seekL me round slot m = L := ⟨_, rfl⟩
  rw [hK, hL]
  have HK := hide hK
  have HL := hide hL
  obtain ⟨i1, hi1⟩ : ∃ j, inI me 0 4 = j := ⟨_, rfl⟩
  obtain ⟨i2, hi2⟩ : ∃ j, inI round 1 12498 = j := ⟨_, rfl⟩
  obtain ⟨i3, hi3⟩ : ∃ j, inI slot 1 60 = j := ⟨_, rfl⟩
  obtain ⟨i4, hi4⟩ : ∃ j, cmdI m = j := ⟨_, rfl⟩
  have c1 := fun V => l6In_inI me 0 4 V
  have c2 := fun V => l6In_inI round 1 12498 V
  have c3 := fun V => l6In_inI slot 1 60 V
  have c4 := fun V => l11CmdOk_any m V
  rw [hi1] at c1
  rw [hi2] at c2
  rw [hi3] at c3
  rw [hi4] at c4
  have HI : Hid (seekI me round slot m = (i1 && (i2 && (i3 && i4)))) := by show _ = _; rw [seekI, hi1, hi2, hi3, hi4]
  have H1 := hide hi1
  have H2 := hide hi2
  clear hK hL hi1 hi2 hi3 hi4
  go_enter Try.func31, Try.ntmps31
  go_upto_region 1 with fail
  generalize hW : World.alloc _ _ = W
  have al : Below w.heap.size w W := by rw [← hW]; exact bal (bal (Below.refl _ _) _) _
  have B0 : Hid (W.heap[w.heap.size]? = some (.cells #[.int .i64 m.c0, .int .i64 m.c1, .int .i64 m.c2, .int .i64 m.c3, .int .i64 m.c4, .int .i64 m.c5, .int .i64 m.c6, .int .i64 m.c7, .int .i64 m.c8, .int .i64 m.c9] 36 (0, 0))) := by show _ = _; rw [← hW]; exact al2_0 w _ _
  have B1 : Hid (W.heap[w.heap.size + 1]? = some (.cells (skarr zeroK (.slice none 0 0)) 66 (0, 0))) := by show _ = _; rw [← hW]; exact al2_1 w _ _
  clear hW
  go_wp2_with fail
  refine (c1 _).mono ?_
  rintro e V1 ⟨rfl, rfl⟩
  cases i1
  · have hb := B1
    have cw : Below w.heap.size w V1 := al
    have ek : K = zeroK := by rw [← HK.out, seekK, HI.out]; simp
    have el : L = [] := by rw [← HL.out, seekL, HI.out]; simp
    have ek := hide ek
    have el := hide el
    clear HK HL HI
    have al9 := bal (Below.refl V1.heap.size V1) (.cells #[] 40)
    have hb9 := hide (bKeeps al9 hb.out)
    have zV := al9.size
    go_wp2_with (first
      | (refine wpList_builtSk0 rfl _ rfl ?hp ?_; (case hp => rfl))
      | (refine wpList_store_row rfl 66 (.tmp 8) (.tmp 29) rfl (w.heap.size + 1) (skarr zeroK (.slice none 0 0)) rfl rfl _ _ hb9.out infoSk (show (26 : Nat) = 26 from rfl) (skarr_one _ _ _ _) ?_))
    have s8 := updRow (V1.alloc (.cells #[] 40)) (w.heap.size + 1) (skarr zeroK (.slice none 0 0))
    refine bodyPost_ret (v := .tuple #[.agg (skarr zeroK (.slice none 0 0)), .slice (some ⟨V1.heap.size, 0, none⟩) 0 0]) (results_row_tmp Try.results31 _ _ (w.heap.size + 1) _ _ (0, 0) _ _ rfl rfl (setRow_heap _ _ _ _ _ _ hb9.out) Try.underlying66 rfl infoSk) rfl ?_
    exact ⟨_, by rw [ek.out], by rw [el.out]; exact ⟨_, _, rfl, by simp, rfl, fun h => by simp at h⟩, (bAll cw al9).trans (s8.below (bAll cw al9).size (fun j h => by omega))⟩
  go_wp2_with fail
  refine (c2 _).mono ?_
  rintro e V2 ⟨rfl, rfl⟩
  cases i2
  · have hb := B1
    have cw : Below w.heap.size w V2 := al
    have ek : K = zeroK := by rw [← HK.out, seekK, HI.out]; simp
    have el : L = [] := by rw [← HL.out, seekL, HI.out]; simp
    have ek := hide ek
    have el := hide el
    clear HK HL HI
    have al9 := bal (Below.refl V2.heap.size V2) (.cells #[] 40)
    have hb9 := hide (bKeeps al9 hb.out)
    have zV := al9.size
    go_wp2_with (first
      | (refine wpList_builtSk0 rfl _ rfl ?hp ?_; (case hp => rfl))
      | (refine wpList_store_row rfl 66 (.tmp 8) (.tmp 29) rfl (w.heap.size + 1) (skarr zeroK (.slice none 0 0)) rfl rfl _ _ hb9.out infoSk (show (26 : Nat) = 26 from rfl) (skarr_one _ _ _ _) ?_))
    have s8 := updRow (V2.alloc (.cells #[] 40)) (w.heap.size + 1) (skarr zeroK (.slice none 0 0))
    refine bodyPost_ret (v := .tuple #[.agg (skarr zeroK (.slice none 0 0)), .slice (some ⟨V2.heap.size, 0, none⟩) 0 0]) (results_row_tmp Try.results31 _ _ (w.heap.size + 1) _ _ (0, 0) _ _ rfl rfl (setRow_heap _ _ _ _ _ _ hb9.out) Try.underlying66 rfl infoSk) rfl ?_
    exact ⟨_, by rw [ek.out], by rw [el.out]; exact ⟨_, _, rfl, by simp, rfl, fun h => by simp at h⟩, (bAll cw al9).trans (s8.below (bAll cw al9).size (fun j h => by omega))⟩
  go_wp2_with fail
  refine (c3 _).mono ?_
  rintro e V3 ⟨rfl, rfl⟩
  cases i3
  · have hb := B1
    have cw : Below w.heap.size w V3 := al
    have ek : K = zeroK := by rw [← HK.out, seekK, HI.out]; simp
    have el : L = [] := by rw [← HL.out, seekL, HI.out]; simp
    have ek := hide ek
    have el := hide el
    clear HK HL HI
    have al9 := bal (Below.refl V3.heap.size V3) (.cells #[] 40)
    have hb9 := hide (bKeeps al9 hb.out)
    have zV := al9.size
    go_wp2_with (first
      | (refine wpList_builtSk0 rfl _ rfl ?hp ?_; (case hp => rfl))
      | (refine wpList_store_row rfl 66 (.tmp 8) (.tmp 29) rfl (w.heap.size + 1) (skarr zeroK (.slice none 0 0)) rfl rfl _ _ hb9.out infoSk (show (26 : Nat) = 26 from rfl) (skarr_one _ _ _ _) ?_))
    have s8 := updRow (V3.alloc (.cells #[] 40)) (w.heap.size + 1) (skarr zeroK (.slice none 0 0))
    refine bodyPost_ret (v := .tuple #[.agg (skarr zeroK (.slice none 0 0)), .slice (some ⟨V3.heap.size, 0, none⟩) 0 0]) (results_row_tmp Try.results31 _ _ (w.heap.size + 1) _ _ (0, 0) _ _ rfl rfl (setRow_heap _ _ _ _ _ _ hb9.out) Try.underlying66 rfl infoSk) rfl ?_
    exact ⟨_, by rw [ek.out], by rw [el.out]; exact ⟨_, _, rfl, by simp, rfl, fun h => by simp at h⟩, (bAll cw al9).trans (s8.below (bAll cw al9).size (fun j h => by omega))⟩
  go_wp2_with (refine wpList_load_rowG (by rfl) 36 (.tmp 7) rfl w.heap.size rfl _ #[.int .i64 m.c0, .int .i64 m.c1, .int .i64 m.c2, .int .i64 m.c3, .int .i64 m.c4, .int .i64 m.c5, .int .i64 m.c6, .int .i64 m.c7, .int .i64 m.c8, .int .i64 m.c9] (0, 0) _ B0.out Try.underlying36 rfl infoCm10 ?_)
  refine (c4 _).mono ?_
  rintro e V4 ⟨rfl, b4⟩
  cases i4
  · have hb := hide (bKeeps b4 B1.out)
    have cw : Below w.heap.size w V4 := bAll al b4
    have ek : K = zeroK := by rw [← HK.out, seekK, HI.out]; simp
    have el : L = [] := by rw [← HL.out, seekL, HI.out]; simp
    have ek := hide ek
    have el := hide el
    clear HK HL HI
    have al9 := bal (Below.refl V4.heap.size V4) (.cells #[] 40)
    have hb9 := hide (bKeeps al9 hb.out)
    have zV := al9.size
    go_wp2_with (first
      | (refine wpList_builtSk0 rfl _ rfl ?hp ?_; (case hp => rfl))
      | (refine wpList_store_row rfl 66 (.tmp 8) (.tmp 29) rfl (w.heap.size + 1) (skarr zeroK (.slice none 0 0)) rfl rfl _ _ hb9.out infoSk (show (26 : Nat) = 26 from rfl) (skarr_one _ _ _ _) ?_))
    have s8 := updRow (V4.alloc (.cells #[] 40)) (w.heap.size + 1) (skarr zeroK (.slice none 0 0))
    refine bodyPost_ret (v := .tuple #[.agg (skarr zeroK (.slice none 0 0)), .slice (some ⟨V4.heap.size, 0, none⟩) 0 0]) (results_row_tmp Try.results31 _ _ (w.heap.size + 1) _ _ (0, 0) _ _ rfl rfl (setRow_heap _ _ _ _ _ _ hb9.out) Try.underlying66 rfl infoSk) rfl ?_
    exact ⟨_, by rw [ek.out], by rw [el.out]; exact ⟨_, _, rfl, by simp, rfl, fun h => by simp at h⟩, (bAll cw al9).trans (s8.below (bAll cw al9).size (fun j h => by omega))⟩
  have h1 := H1.out
  have h2 := H2.out
  simp only [inI, Bool.and_eq_true, decide_eq_true_eq] at h1 h2
  obtain ⟨h1a, h1b⟩ := h1
  obtain ⟨h2a, h2b⟩ := h2
  have ek : K = ⟨slot, round * 8 + me, 1, m, (0, 0, zeroW), []⟩ := by rw [← HK.out, seekK, HI.out]; rfl
  have el : L = allTo (askW me (round * 8 + me) slot) 3 := by rw [← HL.out, seekL, HI.out]; rfl
  clear HK HL HI c1 c2 c3 c4 H1 H2
  have B04 := hide (bKeeps b4 B0.out)
  have B14 := hide (bKeeps b4 B1.out)
  have z4 := b4.size
  have zal := al.size
  go_upto_region 4 with fail
  generalize round * 8 + me = B at ek el ⊢
  have ek := hide ek
  have el := hide el
  have dd := bDrewB (Below.refl V4.heap.size V4)
  have S0 : Hid (∀ V : World, Below V4.heap.size V4 V → V.heap[w.heap.size]? = some (.cells #[.int .i64 m.c0, .int .i64 m.c1, .int .i64 m.c2, .int .i64 m.c3, .int .i64 m.c4, .int .i64 m.c5, .int .i64 m.c6, .int .i64 m.c7, .int .i64 m.c8, .int .i64 m.c9] 36 (0, 0)) ∧ V.heap[w.heap.size + 1]? = some (.cells (skarr zeroK (.slice none 0 0)) 66 (0, 0))) := fun V h => ⟨bKeeps h B04.out, bKeeps h B14.out⟩
  refine wp_region_noPanic ?_
  refine wp_region_held_drew (S := (fun w' => w'.heap[w.heap.size]? = some (.cells #[.int .i64 m.c0, .int .i64 m.c1, .int .i64 m.c2, .int .i64 m.c3, .int .i64 m.c4, .int .i64 m.c5, .int .i64 m.c6, .int .i64 m.c7, .int .i64 m.c8, .int .i64 m.c9] 36 (0, 0)))) (by kernel_rfl) ?_ (fun hHeld => ?_)
  · exact (S0.out _ dd).1
  refine wpAnyH_take (i := 0) (v := ?v1) rfl (by kernel_rfl) (by kernel_rfl) (by kernel_rfl) (fun _ _ _ h => h) (Or.inl ⟨by rfl, ?hy1⟩) (by assumption) ?rest1
  case hy1 => ((intro w hSw; (try dsimp only at hSw); (try simp only [List.getElem_toArray, List.getElem_cons_zero]); go_simp; first | done | (with_reducible rfl)))
  simp only [Act.put, List.getElem_toArray, List.getElem_cons_zero, List.setIfInBounds_toArray, List.set_cons_zero, List.set_cons_succ]
  refine wpAnyH_take (i := 1) (v := ?v2) rfl (by kernel_rfl) (by kernel_rfl) (by kernel_rfl) (fun _ _ _ h => h) (Or.inl ⟨by rfl, ?hy2⟩) (by assumption) ?rest2
  case hy2 => ((intro w hSw; (try dsimp only at hSw); (try simp only [List.getElem_toArray, List.getElem_cons_zero, List.getElem_cons_succ]); go_simp; first | done | (with_reducible rfl)))
  simp only [Act.put, List.getElem_toArray, List.getElem_cons_zero, List.getElem_cons_succ, List.setIfInBounds_toArray, List.set_cons_zero, List.set_cons_succ]
  refine wpAnyH_take (i := 2) (v := .agg #[.int .i64 m.c0, .int .i64 m.c1, .int .i64 m.c2, .int .i64 m.c3, .int .i64 m.c4, .int .i64 m.c5, .int .i64 m.c6, .int .i64 m.c7, .int .i64 m.c8, .int .i64 m.c9]) rfl (by kernel_rfl) (by kernel_rfl) (by kernel_rfl) (fun _ _ _ h => h) (yields_row rfl 36 (.tmp 7) rfl (w.heap.size) rfl _ #[.int .i64 m.c0, .int .i64 m.c1, .int .i64 m.c2, .int .i64 m.c3, .int .i64 m.c4, .int .i64 m.c5, .int .i64 m.c6, .int .i64 m.c7, .int .i64 m.c8, .int .i64 m.c9] _ (fun _ h => h) Try.underlying36 rfl infoCm10) (by assumption) ?_
  simp only [Act.put, List.getElem_toArray, List.getElem_cons_zero, List.getElem_cons_succ, List.setIfInBounds_toArray, List.set_cons_zero, List.set_cons_succ]
  refine wpAnyH_take (i := 3) (v := .agg (skarr ⟨slot, B, 1, m, (0, 0, zeroW), []⟩ (.slice none 0 0))) rfl (by kernel_rfl) (by kernel_rfl) (by kernel_rfl) (fun _ _ _ h => h) (yields_build rfl 66 _ rfl [(0, .int .i64 slot), (1, .int .i64 B), (2, .int .i64 1), (3, .agg #[.int .i64 m.c0, .int .i64 m.c1, .int .i64 m.c2, .int .i64 m.c3, .int .i64 m.c4, .int .i64 m.c5, .int .i64 m.c6, .int .i64 m.c7, .int .i64 m.c8, .int .i64 m.c9])] _ ((by (conv => lhs; simp only [List.map_toArray, List.map_cons, List.map_nil]); rfl)) (builtSk slot B m)) (by assumption) ?_
  simp only [Act.put, List.getElem_toArray, List.getElem_cons_zero, List.getElem_cons_succ, List.setIfInBounds_toArray, List.set_cons_zero, List.set_cons_succ]
  refine wpAnyH_take (i := 4) (v := ?v3) rfl (by kernel_rfl) (by kernel_rfl) (by kernel_rfl) (fun _ _ _ h => h) (Or.inl ⟨by rfl, ?hy3⟩) (by assumption) ?rest3
  case hy3 => ((intro w hSw; (try dsimp only at hSw); (try simp only [List.getElem_toArray, List.getElem_cons_zero, List.getElem_cons_succ]); go_simp; first | done | (with_reducible rfl)))
  simp only [Act.put, List.getElem_toArray, List.getElem_cons_zero, List.getElem_cons_succ, List.setIfInBounds_toArray, List.set_cons_zero, List.set_cons_succ]
  refine wpAnyH_take (i := 5) (v := ?v4) rfl (by kernel_rfl) (by kernel_rfl) (by kernel_rfl) (fun _ _ _ h => h) (Or.inl ⟨by rfl, ?hy4⟩) (by assumption) ?rest4
  case hy4 => ((intro w hSw; (try dsimp only at hSw); (try simp only [List.getElem_toArray, List.getElem_cons_zero, List.getElem_cons_succ]); go_simp; first | done | (with_reducible rfl)))
  simp only [Act.put, List.getElem_toArray, List.getElem_cons_zero, List.getElem_cons_succ, List.setIfInBounds_toArray, List.set_cons_zero, List.set_cons_succ]
  refine wpAnyH_take (i := 6) (v := ?v5) rfl (by kernel_rfl) (by kernel_rfl) (by kernel_rfl) (fun _ _ _ h => h) (Or.inl ⟨by rfl, ?hy5⟩) (by assumption) ?rest5
  case hy5 => ((intro w hSw; (try dsimp only at hSw); (try simp only [List.getElem_toArray, List.getElem_cons_zero, List.getElem_cons_succ]); go_simp; first | done | (with_reducible rfl)))
  simp only [Act.put, List.getElem_toArray, List.getElem_cons_zero, List.getElem_cons_succ, List.setIfInBounds_toArray, List.set_cons_zero, List.set_cons_succ]
  refine wpAnyH_take (i := 7) (v := .agg (fwarr (askW me B slot))) rfl (by kernel_rfl) (by kernel_rfl) (by kernel_rfl) (fun _ _ _ h => h) (yields_build rfl 40 _ rfl [(0, .int .i64 1), (1, .int .i64 me), (3, .int .i64 B), (4, .int .i64 slot)] _ ((by (conv => lhs; simp only [List.map_toArray, List.map_cons, List.map_nil]); rfl)) (builtAsk1 me B slot)) (by assumption) ?_
  simp only [Act.put, List.getElem_toArray, List.getElem_cons_zero, List.getElem_cons_succ, List.setIfInBounds_toArray, List.set_cons_zero, List.set_cons_succ]
  refine wpAnyH_ready (rs := [8]) (by kernel_rfl) (by simp) ?_
  refine AllReadyH.cons rfl (fun K hK => ?_) AllReadyH.nil
  go_simp
  (go_at_call 89; refine (l22All_any (askW me B slot) _).mono ?_; rintro e V5 ⟨v5, rfl, r5, b5⟩; have c5 := bAll dd b5)
  refine hK.out _ _ ?_ (fun hHeld => ?_)
  · exact (S0.out _ c5).1
  clear hK K
  have s8 := updRow V5 (w.heap.size + 1) (skarr ⟨slot, B, 1, m, (0, 0, zeroW), []⟩ (.slice none 0 0))
  have hlt0 := heap_lt B04.out
  have hlt1 := heap_lt B14.out
  have z5 := b5.size
  refine wpAnyH_ready (rs := [9]) (by kernel_rfl) (by simp) ?_
  refine AllReadyH.cons rfl (fun K hK => ?_) AllReadyH.nil
  (refine wp_store_row 66 (.tmp 8) (.tmp 38) rfl (w.heap.size + 1) (skarr ⟨slot, B, 1, m, (0, 0, zeroW), []⟩ (.slice none 0 0)) rfl rfl _ _ (S0.out _ c5).2 infoSk (show (26 : Nat) = 26 from rfl) (skarr_one _ _ _ _) ?_)
  refine hK.out _ _ ?_ (fun hHeld => ?_)
  · exact s8.keeps (S0.out _ c5).1 (by omega)
  clear hK K
  refine wpAnyH_take (i := 10) (v := ?v6) rfl (by kernel_rfl) (by kernel_rfl) (by kernel_rfl) (fun _ _ _ h => h) (Or.inl ⟨by rfl, ?y6⟩) (by assumption) ?r6
  case y6 => (intro w hSw; go_simp; first | done | (with_reducible rfl))
  simp only [Act.put, List.getElem_toArray, List.getElem_cons_zero, List.getElem_cons_succ, List.setIfInBounds_toArray, List.set_cons_zero, List.set_cons_succ]
  refine wpAnyH_done (by kernel_rfl) ?_ _
  refine NoPanic.normal ?_
  clear hHeld
  go_wp2_with fail
  refine bodyPost_ret (v := .tuple #[.agg (skarr ⟨slot, B, 1, m, (0, 0, zeroW), []⟩ (.slice none 0 0)), v5]) (results_row_tmp Try.results31 _ _ (w.heap.size + 1) _ _ (0, 0) _ _ rfl rfl (setRow_heap _ _ _ _ _ _ (S0.out _ c5).2) Try.underlying66 rfl infoSk) rfl ?_
  have z5d : V4.heap.size ≤ V4.drew.heap.size := dd.size
  have cw := bAll (bAll al b4) c5
  refine ⟨_, by rw [ek.out], ?_, cw.trans (s8.below cw.size (fun j h => by omega))⟩
  have r6 := (r5.row (by omega)).keep s8 (fun j h1 h2 => by omega)
  rw [el.out, allTo_len]
  exact r6.mono (fun j _ h => by omega)

end Go.Proofs.Ytiigcokbmggdkaa

/- What a voter does with a word, by the program: contracts; no statement of the seat is proved here. -/
namespace Go.Proofs.Ytiigcokbmggdkaa
open Go.RowKit

set_option maxHeartbeats 400000 in
theorem synIsVoter_any (n : Int) (w : World) :
    Calls Try.prog 55 #[.int .i64 n] w fun e w' => e = .returned (.bool (inI n 0 2)) ∧ w' = w := by
  go_enter Try.func55, Try.ntmps55
  go_wp2_with fail
  refine (blkWithin_any n 0 2 _).mono ?_
  rintro e w1 ⟨rfl, rfl⟩
  go_wp2
  go_ret
  exact ⟨rfl, rfl⟩

end Go.Proofs.Ytiigcokbmggdkaa
