/- Contracts and plain facts that this claim leans on (texts XLOk, OkLaw, ArgD, ArgP, ArgL); no statement of the seat is proved here. -/
import Derived.Test.YtdnojnkcmncffaaWk24
import Derived.Test.YtdnojnkcmncffaaWk1
import Derived.ProofKit
import Derived.OpenShut
import Derived.ShutString
import Derived.ChangeOld
import Derived.Below
import Derived.Lib.SmallJoins
import Derived.Deep.Strs
import Derived.Deep.SlicePairs
import Derived.Test.YtdnojnkcmncffaaWk3
import Derived.Deep.Slices
import Derived.Test.YtdnojnkcmncffaaWk4

/- What the law FnExactWordOk does: its walk; the statement itself is proved elsewhere. -/
namespace Go.Proofs.Ytdnojnkcmncffaa
open Go.RowKit

set_option maxRecDepth 100000 in
set_option maxHeartbeats 4000000 in
theorem wordOk_walk (v : Value) (x : Wd) (w : World) (h : WdR w v x) :
    Calls Try.prog 3 #[v] w fun e w' => e = .returned (.bool true) ∧ Below w.heap.size w w' := by
  obtain ⟨cs, rfl, hs, h1⟩ := h.agg
  have HX := hide h
  have HI := hide (infoAt infoLw hs)
  clear h hs h1
  have hb0 := bal (Below.refl w.heap.size w) (.cells cs 27)
  have B0 := hide (heap_alloc_new w (.cells cs 27))
  go_enter Try.func3, Try.ntmps3
  go_wp2_with (refine wpList_load_row rfl 27 (.tmp 1) rfl w.heap.size rfl _ cs (0, 0) _ B0.out Try.underlying27 rfl HI.out ?_)
  refine (szWord_at _ x _ _ HX.out).mono ?_
  rintro e w1 ⟨r, rfl, hz, b1⟩
  rcases hz with hneg | ⟨hr, hp, hl⟩
  · go_wp2
    go_ret
    exact ⟨rfl, bAll hb0 b1⟩
  have c1 := bAll hb0 b1
  have B1 := hide (bKeeps b1 B0.out)
  clear hb0 b1 B0
  go_wp2_with (refine wpList_load_row rfl 27 (.tmp 1) rfl w.heap.size rfl _ cs (0, 0) _ B1.out Try.underlying27 rfl HI.out ?_)
  refine (toWord_any _ x _ (HX.out.keep c1) hp hl).mono ?_
  rintro e w2 ⟨v2, rfl, r2, b2⟩
  have c2 := bAll c1 b2
  have B2 := hide (bKeeps b2 B1.out)
  have k2 := r2.reads
  clear r2 b2 B1
  obtain ⟨R, HR⟩ : ∃ R, Hid (okW x = R) := ⟨_, rfl⟩
  have SC := hide (specWordOk_any v2 x w2 k2)
  rw [HR.out] at SC
  go_wp2_with fail
  refine SC.out.mono ?_
  rintro e w3 ⟨rfl, b3⟩
  have c3 := bAll c2 b3
  have B3 := hide (bKeeps b3 B2.out)
  clear SC k2 b3 B2
  go_wp2_with (refine wpList_load_row rfl 27 (.tmp 1) rfl w.heap.size rfl _ cs (0, 0) _ B3.out Try.underlying27 rfl HI.out ?_)
  refine (toWord_any _ x _ (HX.out.keep c3) hp hl).mono ?_
  rintro e w4 ⟨v4, rfl, r4, b4⟩
  have c4 := bAll c3 b4
  have B4 := hide (heap_up (.cells cs 34) (bKeeps b4 B3.out))
  obtain ⟨ds, rfl, hds, hd1⟩ := r4.reads.agg
  have k4 := r4.reads.keep (bal (Below.refl _ w4) (.cells ds 34))
  have HI2 := hide (infoAt infoWd hds)
  have HZ2 := hide (zero26.trans hds.symm)
  have H12 := hide hd1
  have c5 := bal c4 (.cells ds 34)
  have E0 := hide (heap_up (.cells ds 34) (bKeeps b4 B3.out))
  have E1 := hide (heap_alloc_new w4 (.cells ds 34))
  have IC := hide (implWordOk_any _ x _ k4)
  rw [HR.out] at IC
  clear r4 b4 B3 B4 hds hd1 c4
  go_wp2_with (first
    | (refine wpList_store_row rfl 34 (.tmp 5) (.tmp 16) rfl w4.heap.size ds rfl rfl _ _ (heap_alloc_new w4 _) HI2.out HZ2.out H12.out ?_; rw [World.setRow_alloc_new])
    | (refine wpList_load_row rfl 34 (.tmp 5) rfl w4.heap.size rfl _ ds (0, 0) _ E1.out Try.underlying34 rfl HI2.out ?_))
  refine IC.out.mono ?_
  rintro e w6 ⟨rfl, b6⟩
  have c6 := bAll c5 b6
  have F0 := hide (bKeeps b6 E0.out)
  have F1 := hide (bKeeps b6 E1.out)
  have k6 := k4.keep b6
  clear IC E0 E1 k4 c5 b6
  go_wp2_with fail
  refine wp_region_noPanic ?_
  refine wp_region_held_drew (S := (fun w' => w'.heap[w.heap.size]? = some (.cells cs 27 (0, 0)) ∧ w'.heap[w4.heap.size]? = some (.cells ds 34 (0, 0)))) (by kernel_rfl) ?_ (fun hHeld => ?_)
  · exact ⟨F0.out, F1.out⟩
  refine wpAnyH_take (i := 0) (v := .agg ds) rfl (by kernel_rfl) (by kernel_rfl) (by kernel_rfl) (fun _ _ _ h => h) (yields_row rfl 34 (.tmp 5) rfl (w4.heap.size) rfl _ ds _ (fun _ h => h.2) Try.underlying34 rfl HI2.out) (by assumption) ?_
  simp only [Act.put, List.getElem_toArray, List.getElem_cons_zero, List.setIfInBounds_toArray, List.set_cons_zero, List.set_cons_succ]
  refine wpAnyH_take (i := 1) (v := .agg cs) rfl (by kernel_rfl) (by kernel_rfl) (by kernel_rfl) (fun _ _ _ h => h) (yields_row rfl 27 (.tmp 1) rfl (w.heap.size) rfl _ cs _ (fun _ h => h.1) Try.underlying27 rfl HI.out) (by assumption) ?_
  simp only [Act.put, List.getElem_toArray, List.getElem_cons_zero, List.getElem_cons_succ, List.setIfInBounds_toArray, List.set_cons_zero, List.set_cons_succ]
  refine wpAnyH_ready (rs := [2]) (by kernel_rfl) (by simp) ?_
  refine AllReadyH.cons rfl (fun K hK => ?_) AllReadyH.nil
  go_simp
  (go_at_call 11; refine (toWord_any _ x _ (HX.out.keep (bDrewB c6)) hp hl).mono ?_; rintro e w7 ⟨v7, rfl, r7, b7⟩; have b7' : Below w6.heap.size w6 w7 := bUndrew b7)
  refine hK.out _ _ ?_ (fun hHeld => ?_)
  · exact ⟨bKeeps b7 F0.out, bKeeps b7 F1.out⟩
  clear hK K
  refine wpAnyH_ready (rs := [3]) (by kernel_rfl) (by simp) ?_
  refine AllReadyH.cons rfl (fun K hK => ?_) AllReadyH.nil
  go_simp
  (go_at_call 13; refine (eqWord_true _ _ x _ (k6.keep b7') r7.reads).mono ?_; rintro e w8 ⟨rfl, b8⟩)
  refine hK.out _ _ ?_ (fun hHeld => ?_)
  · exact ⟨bKeeps b8 (bKeeps b7 F0.out), bKeeps b8 (bKeeps b7 F1.out)⟩
  clear hK K
  refine wpAnyH_take (i := 4) (v := ?v1) rfl (by kernel_rfl) (by kernel_rfl) (by kernel_rfl) (fun _ _ _ h => h) (Or.inl ⟨by rfl, ?hy1⟩) (by assumption) ?rest1
  case hy1 => ((intro w hSw; (try dsimp only at hSw); (try simp only [List.getElem_toArray, List.getElem_cons_zero, List.getElem_cons_succ]); go_simp; first | done | (with_reducible rfl)))
  simp only [Act.put, List.getElem_toArray, List.getElem_cons_zero, List.getElem_cons_succ, List.setIfInBounds_toArray, List.set_cons_zero, List.set_cons_succ]
  refine wpAnyH_done (by kernel_rfl) ?_ _
  refine NoPanic.normal ?_
  go_wp2
  go_ret
  exact ⟨rfl, bAll (bAll c6 b7') b8⟩

end Go.Proofs.Ytdnojnkcmncffaa

/- What the law FnExactSecOk does: its walk; the statement itself is proved elsewhere. -/
namespace Go.Proofs.Ytdnojnkcmncffaa
open Go.RowKit

theorem DiskR.shape {w : World} {v : Value} {kept : List ByteArray} {wait : List (Int × ByteArray)} (h : DiskR w v kept wait) : ∃ ao ca ao' ca', v = .agg #[.slice ao kept.length ca, .slice ao' wait.length ca'] := by
  obtain ⟨vk, vw, rfl, ⟨ao, ca, rfl, -⟩, ⟨ao', ca', rfl, -⟩⟩ := h
  exact ⟨ao, ca, ao', ca', rfl⟩

end Go.Proofs.Ytdnojnkcmncffaa

/- How a disk that is an argument is opened; no statement of the seat is proved here. -/
namespace Go.Proofs.Ytdnojnkcmncffaa
open Go.ChangeShapes Go.WideShapes Go.ChangeAt Go.RowKit Go.Deep Go.Joins

theorem seat_own : ownKnob Try.prog.godebug = none := by kernel_rfl
theorem seat_laidOut : laidOutB Try.prog = true := by kernel_rfl

end Go.Proofs.Ytdnojnkcmncffaa

/- How an argument that is a slice of pieces is opened; no statement of the seat is proved here. -/
namespace Go.Proofs.Ytdnojnkcmncffaa
open Go.ChangeShapes Go.WideShapes Go.ChangeAt Go.RowKit Go.Deep Go.Joins

section
variable {H : Type} {enc : TypeId × Value → H} {P : Program} {w : World} {base : Nat} {spare : Nat → Bool} {held : Bool}

theorem rowR_of_pieces {t e : TypeId} {f0 f1 f2 f3 : Field} {fuel : Nat} {v : Value} {x : DataW H × List MemPlace} (ht : P.underlying t = some (.slice e)) (he : P.underlying e = some (.struct #[f0, f1, f2, f3]))
    (ce : P.cellsOf e = 4) (o0 : f0.offset = 0) (o1 : f1.offset = 1) (o2 : f2.offset = 2) (o3 : f3.offset = 3) (c0 : P.cellsOf f0.type = 1) (c1 : P.cellsOf f1.type = 1) (c2 : P.cellsOf f2.type = 1) (c3 : P.cellsOf f3.type = 1)
    (t0 : P.underlying f0.type = some (.int .i64)) (t1 : P.underlying f1.type = some (.int .i64)) (t2 : P.underlying f2.type = some (.int .i64)) (t3 : P.underlying f3.type = some (.int .i64))
    (h : DataW.trod enc P w base spare held fuel t [v] = some x) : ∃ (so : Option Addr) (sc : Nat) (xs : List Pc), v = .slice so xs.length sc ∧ xs.length ≤ sc ∧ RowR w 4 (.slice so xs.length sc) xs.length (pcells xs) := by
  rcases open_slice ht h with ⟨hcs, _⟩ | ⟨a, len, cap, m, n, D, Pl, hcs, _, hl, hm, hmm, _, hx⟩
  · obtain rfl : v = .slice none 0 0 := by simpa using hcs
    exact ⟨none, 0, [], rfl, Nat.le_refl _, RowR.nil _ _⟩
  · obtain rfl : v = .slice (some a) len cap := by simpa using hcs
    have hlm : len ≤ m := by rw [hmm]; split <;> omega
    unfold maxLen at hm
    have each : ∀ i, i < m → ∃ y : Pc, w.cell? (a.add (i * 4)) = some (.int .i64 y.1) ∧ w.cell? (a.add (i * 4 + 1)) = some (.int .i64 y.2.1) ∧ w.cell? (a.add (i * 4 + 2)) = some (.int .i64 y.2.2.1) ∧ w.cell? (a.add (i * 4 + 3)) = some (.int .i64 y.2.2.2) := fun i hi => by
      obtain ⟨cs', h1, h2⟩ := hx i hi
      rw [ce] at h1
      obtain ⟨_, hlen, hcell⟩ := World.cells?_some h1
      obtain ⟨y0, y1, y2, y3, k, _, _, q0, q1, q2, q3⟩ := trod_struct4 he h2
      rw [o0, c0] at q0
      rw [o1, c1] at q1
      rw [o2, c2] at q2
      rw [o3, c3] at q3
      match cs', hlen with
      | [v0, v1, v2, v3], _ =>
        obtain ⟨z0, e0, _, _⟩ := DataW.trod_int t0 q0
        obtain ⟨z1, e1, _, _⟩ := DataW.trod_int t1 q1
        obtain ⟨z2, e2, _, _⟩ := DataW.trod_int t2 q2
        obtain ⟨z3, e3, _, _⟩ := DataW.trod_int t3 q3
        simp at e0 e1 e2 e3
        subst e0 e1 e2 e3
        have g0 := hcell 0 (by omega)
        have g1 := hcell 1 (by omega)
        have g2 := hcell 2 (by omega)
        have g3 := hcell 3 (by omega)
        rw [Addr.add_add] at g0 g1 g2 g3
        exact ⟨(z0, z1, z2, z3), by simpa using g0, by simpa using g1, by simpa using g2, by simpa using g3⟩
    obtain ⟨Y, hY⟩ := choose_lt each
    have hlen : ((List.range len).map Y).length = len := by simp
    refine ⟨some a, cap, (List.range len).map Y, by rw [hlen], by rw [hlen]; exact hl, ⟨some a, cap, rfl, by omega, pcells_len _, fun h0 => ?_⟩⟩
    rw [hlen] at h0
    have h1 := (hY 0 (by omega)).1
    obtain ⟨b, off, spot⟩ := a
    have hspot : spot = none := by simpa [Addr.add] using World.cell?_spot h1
    subst hspot
    refine ⟨b, off, rfl, fun j u hj => ?_⟩
    have hj' : j < len * 4 := by have := (List.getElem?_eq_some_iff.1 hj).1; rw [pcells_len, hlen] at this; exact this
    have hw := fun i hi => fm_at pcell_len ((List.range len).map Y) (j / 4) (Y (j / 4)) i (by simp [show j / 4 < len by omega]) hi
    obtain ⟨q0, q1, q2, q3⟩ := hY (j / 4) (by omega)
    rw [Addr.add_lit] at q0 q1 q2 q3
    rcases (by omega : j = j / 4 * 4 ∨ j = j / 4 * 4 + 1 ∨ j = j / 4 * 4 + 2 ∨ j = j / 4 * 4 + 3) with e | e | e | e
    · have h2 := hw 0 (by omega)
      rw [Nat.add_zero, ← e] at h2
      rw [← e] at q0
      have h3 := h2.symm.trans hj
      rw [q0]
      exact h3
    · have h2 := hw 1 (by omega)
      rw [← e] at h2
      rw [← e] at q1
      have h3 := h2.symm.trans hj
      rw [q1]
      exact h3
    · have h2 := hw 2 (by omega)
      rw [← e] at h2
      rw [← e] at q2
      have h3 := h2.symm.trans hj
      rw [q2]
      exact h3
    · have h2 := hw 3 (by omega)
      rw [← e] at h2
      rw [← e] at q3
      have h3 := h2.symm.trans hj
      rw [q3]
      exact h3
end

end Go.Proofs.Ytdnojnkcmncffaa

/- How an argument that is a slice of lasts is opened; no statement of the seat is proved here. -/
namespace Go.Proofs.Ytdnojnkcmncffaa
open Go.ChangeShapes Go.WideShapes Go.ChangeAt Go.RowKit Go.Deep Go.Joins

section
variable {H : Type} {enc : TypeId × Value → H} {P : Program} {w : World} {base : Nat} {spare : Nat → Bool} {held : Bool}

theorem rowR_of_lasts {t e : TypeId} {f0 f1 : Field} {fuel : Nat} {v : Value} {x : DataW H × List MemPlace} (ht : P.underlying t = some (.slice e)) (he : P.underlying e = some (.struct #[f0, f1]))
    (ce : P.cellsOf e = 2) (o0 : f0.offset = 0) (o1 : f1.offset = 1) (c0 : P.cellsOf f0.type = 1) (c1 : P.cellsOf f1.type = 1)
    (t0 : P.underlying f0.type = some (.int .i64)) (t1 : P.underlying f1.type = some (.int .i64))
    (h : DataW.trod enc P w base spare held fuel t [v] = some x) : ∃ (so : Option Addr) (sc : Nat) (xs : List Lc), v = .slice so xs.length sc ∧ xs.length ≤ sc ∧ RowR w 2 (.slice so xs.length sc) xs.length (lcells xs) := by
  rcases open_slice ht h with ⟨hcs, _⟩ | ⟨a, len, cap, m, n, D, Pl, hcs, _, hl, hm, hmm, _, hx⟩
  · obtain rfl : v = .slice none 0 0 := by simpa using hcs
    exact ⟨none, 0, [], rfl, Nat.le_refl _, RowR.nil _ _⟩
  · obtain rfl : v = .slice (some a) len cap := by simpa using hcs
    have hlm : len ≤ m := by rw [hmm]; split <;> omega
    unfold maxLen at hm
    have each : ∀ i, i < m → ∃ y : Lc, w.cell? (a.add (i * 2)) = some (.int .i64 y.1) ∧ w.cell? (a.add (i * 2 + 1)) = some (.int .i64 y.2) := fun i hi => by
      obtain ⟨cs', h1, h2⟩ := hx i hi
      rw [ce] at h1
      obtain ⟨_, hlen, hcell⟩ := World.cells?_some h1
      obtain ⟨y0, y1, k, _, _, q0, q1⟩ := trod_struct2 he h2
      rw [o0, c0] at q0
      rw [o1, c1] at q1
      match cs', hlen with
      | [v0, v1], _ =>
        obtain ⟨z0, e0, _, _⟩ := DataW.trod_int t0 q0
        obtain ⟨z1, e1, _, _⟩ := DataW.trod_int t1 q1
        simp at e0 e1
        subst e0 e1
        have g0 := hcell 0 (by omega)
        have g1 := hcell 1 (by omega)
        rw [Addr.add_add] at g0 g1
        exact ⟨(z0, z1), by simpa using g0, by simpa using g1⟩
    obtain ⟨Y, hY⟩ := choose_lt each
    have hlen : ((List.range len).map Y).length = len := by simp
    refine ⟨some a, cap, (List.range len).map Y, by rw [hlen], by rw [hlen]; exact hl, ⟨some a, cap, rfl, by omega, lcells_len _, fun h0 => ?_⟩⟩
    rw [hlen] at h0
    have h1 := (hY 0 (by omega)).1
    obtain ⟨b, off, spot⟩ := a
    have hspot : spot = none := by simpa [Addr.add] using World.cell?_spot h1
    subst hspot
    refine ⟨b, off, rfl, fun j u hj => ?_⟩
    have hj' : j < len * 2 := by have := (List.getElem?_eq_some_iff.1 hj).1; rw [lcells_len, hlen] at this; exact this
    have hw := fun i hi => fm_at lcell_len ((List.range len).map Y) (j / 2) (Y (j / 2)) i (by simp [show j / 2 < len by omega]) hi
    obtain ⟨q0, q1⟩ := hY (j / 2) (by omega)
    rw [Addr.add_lit] at q0 q1
    rcases (by omega : j = j / 2 * 2 ∨ j = j / 2 * 2 + 1) with e | e
    · have h2 := hw 0 (by omega)
      rw [Nat.add_zero, ← e] at h2
      rw [← e] at q0
      have h3 := h2.symm.trans hj
      rw [q0]
      exact h3
    · have h2 := hw 1 (by omega)
      rw [← e] at h2
      rw [← e] at q1
      have h3 := h2.symm.trans hj
      rw [q1]
      exact h3
end

end Go.Proofs.Ytdnojnkcmncffaa
