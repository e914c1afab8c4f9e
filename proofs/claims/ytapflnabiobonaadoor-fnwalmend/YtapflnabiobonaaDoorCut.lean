/- What SecCut of the program does: contracts; no statement of the seat is proved here. -/
import Derived.Test.YtapflnabiobonaaDoorSCut
namespace Go.Proofs.YtapflnabiobonaaDoor
open Go.RowKit Go.Shelf

attribute [local go_sem] Oper.semAt_some

theorem range_boxed2 {F : Fence} {n : Nat} {P : Program} {α : Type} {g : Operand} {ps : Array Tmp} {assign body : Code} {Q : Exit → Act → World → Prop} {a : Act} {w : World}
    (hro : F.round = none) (h1 : 1 ≤ n) {gf : Nat} {lb : Array Value} (hg : a.eval g = .func (.func gf) #[] lb) (hFg : F.fn gf) (eg : ∀ args w, (callFunc gf args).run P w = .ok (.enter gf args) w)
    {encs : α → Array Value} {Kp : World → World → Prop} {S Sp : List α → Prop} {N : Nat} {w0 : World} (hseq : SeqStopsK F (n - 1) P gf lb encs Kp S Sp N w0)
    (hKt : ∀ {A B C : World}, Kp A B → Kp B C → Kp A C) (hKb : ∀ (W : World) (l : Nat) (o o' : Obj), w.heap.size ≤ l → W.heap[l]? = some o → o.isCells = false → o.isWalk = false → Kp W (W.putObj l o')) (hb0 : Below w0.heap.size w0 w) (hps : ∀ x, (encs x).size = ps.size)
    (I : List α → World → Prop) (Ix : Code → List α → World → Prop) (hI : OwnFrom w.heap.size I) (hIx : ∀ c, OwnFrom w.heap.size (Ix c)) (h0 : I [] w)
    (hIs : ∀ pre W, I pre W → w.heap.size ≤ W.heap.size) (hKa : ∀ pre W o, I pre W → Kp W (W.alloc o))
    (fr : α → Nat → Array Value → Array Value) (t : TypeId) (cs : α → Array Value)
    (hassign : ∀ (l : Nat) (pre : List α) (x : α) (W : World) (K : Act → World → Prop), I pre W → K { tmps := fr x W.heap.size a.tmps, defers := [] } (W.alloc (.cells (cs x) t)) →
      assign.wpIn (F.inRound l) (n - 1 - 1) P (Exit.then K (fun _ _ _ => False)) { tmps := (ps.zip (encs x)).foldl (fun t (p, v) => t.setIfInBounds p v) a.tmps, defers := [] } W)
    (hbody : ∀ (l : Nat) (pre : List α) (x : α) (Bx : Nat) (W : World), w.heap.size ≤ l → w.heap.size ≤ Bx → W.heap[Bx]? = some (.cells (cs x) t (0, 0)) → I pre W → pre.length < N →
      body.wpIn (F.inRound l) (n - 1 - 1) P (ownPostG w.heap.size Kp I Ix (pre ++ [x]) W) { tmps := fr x Bx a.tmps, defers := [] } W)
    (hdone : ∀ (D : Nat) (xs : List α) (W : World), w.heap.size ≤ D → S xs → I xs W → W.heap[D]? = some (.deferred (some [])) → Q .normal { a with defers := { target := .collected D, args := #[] } :: a.defers } W)
    (hstop : ∀ (D : Nat) (c : Code) (pre : List α) (W : World), w.heap.size ≤ D → Sp pre → Ix c pre W → W.heap[D]? = some (.deferred (some [])) → c.wpIn F n P Q { a with defers := { target := .collected D, args := #[] } :: a.defers } W) :
    (Code.rangeFunc g ps assign body).wpIn F n P Q a w := by
  refine wpIn_rangeFunc_ownH hro h1 hg hFg eg hseq (fun h k => hKt h k) hKb hb0 hps I Ix hI hIx h0
    (fun x a' W => ∃ Bx, w.heap.size ≤ Bx ∧ W.heap[Bx]? = some (.cells (cs x) t (0, 0)) ∧ a' = { tmps := fr x Bx a.tmps, defers := [] }) ?_ ?_ ?_ hdone hstop
  · rintro x a' _ X Y row ⟨Bx, hB, hx, e⟩ hgr hr
    refine ⟨Bx, hB, (hgr.block Bx (heap_lt hx) (fun er => ?_)).trans hx, e⟩
    obtain ⟨_, o, ho, hc⟩ := hr Bx er.symm
    rw [hx] at ho
    obtain rfl := Option.some.inj ho
    simp [Obj.isCells] at hc
  · intro l pre x W K hi hK
    exact hassign l pre x W K hi (hK _ _ ((KeepsOthers.alloc _ _).from _) (hKa pre W _ hi) (hI.alloc _ hi) ⟨W.heap.size, hIs pre W hi, heap_alloc_new W _, rfl⟩)
  · rintro l pre x a' W hl _ hi ⟨Bx, hB, hx, rfl⟩ hN
    exact hbody l pre x Bx W hl hB hx hi hN

/-- The frame of a round of cut: what is handed over, the place, and the pointer to the round's own write. -/
def cutTmps (x : Nat) (v : Value) (Bx : Nat) (t : Array Value) : Array Value :=
  (((t.setIfInBounds 11 (.int .i64 x)).setIfInBounds 12 v).setIfInBounds 4 (.int .i64 x)).setIfInBounds 5 (.pointer (some ⟨Bx, 0, none⟩))

theorem cutL_len (kept : List ByteArray) (wait : List (Int × ByteArray)) (ks : List Int) : (cutL kept wait ks).length = kept.length := flushL_len _ _

set_option maxRecDepth 100000 in
set_option maxHeartbeats 4000000 in
theorem cut_in (kept : List ByteArray) (wait : List (Int × ByteArray)) (ks : List Int) (ko : Option Addr) (kc : Nat) (S T : Nat → Prop) (B : Nat) (no mo : Option Addr) (cn cm : Nat) (w : World)
    (hbox : w.heap[B]? = some (.cells #[.slice no kept.length cn, .slice mo wait.length cm] 94 (0, 0)))
    (hrow : Row w 9 1 S (.slice no kept.length cn) kept.length (kept.map Value.string)) (hwait : Row w 63 2 T (.slice mo wait.length cm) wait.length (wcells wait))
    (hks : RowR w 1 (.slice ko ks.length kc) ks.length (ks.map (Value.int .i64))) (hSk : ∀ b off, 0 < ks.length → ko = some ⟨b, off, none⟩ → ¬ S b)
    (hST : ∀ k, T k → ¬ S k) (hSB : ¬ S B) (hSw : ∀ k, S k → k < w.heap.size) (hok : okB kept wait = true) :
    CallsIn Fence.wide 9 Tryd.prog 61 #[.pointer (some ⟨B, 0, none⟩), .slice ko ks.length kc] w fun e w' => e = .returned (.tuple #[]) ∧
      w'.heap[B]? = some (.cells #[.slice no kept.length cn, .slice none 0 0] 94 (0, 0)) ∧ Row w' 9 1 S (.slice no kept.length cn) kept.length ((cutL kept wait ks).map Value.string) ∧ Upd (fun k => S k ∨ k = B) w w' := by
  obtain ⟨hp1, hp2, -, hp4⟩ := okB_parts hok
  have P4 := hide hp4
  clear hp4
  have hBl := heap_lt hbox
  have HKS := hide hks
  have HSk := hide hSk
  clear hks hSk
  obtain ⟨W1, hW1⟩ : ∃ W1, W1 = (w.alloc (.cells #[.pointer (some ⟨B, 0, none⟩)] 123)).alloc (.cells #[.slice ko ks.length kc] 90) := ⟨_, rfl⟩
  have al1 : Below w.heap.size w W1 := by rw [hW1]; exact ((Below.refl _ _).alloc (Nat.le_refl _) _).alloc (by simp) _
  have hz1 : W1.heap.size = w.heap.size + 2 := by rw [hW1]; simp
  have hptr : W1.heap[w.heap.size]? = some (.cells #[.pointer (some ⟨B, 0, none⟩)] 123 (0, 0)) := by rw [hW1]; exact al2_0 w _ _
  have hkb : W1.heap[w.heap.size + 1]? = some (.cells #[.slice ko ks.length kc] 90 (0, 0)) := by rw [hW1]; exact al2_1 w _ _
  have c0 : W1.cell? ⟨w.heap.size, 0, none⟩ = some (.pointer (some ⟨B, 0, none⟩)) := (cell_of_row W1 _ 0 _ _ (0, 0) hptr).trans rfl
  have Hkb := hide hkb
  clear hkb
  obtain ⟨p0, p1, pl⟩ := box2 hbox
  have hrow1 := hrow.keepB al1
  have hwait1 := hwait.keepB al1
  have hbox1 := bKeeps al1 hbox
  have Hptr := hide hptr
  have Hbox1 := hide hbox1
  clear hbox hrow hwait hptr hbox1
  refine callsIn_of_wp_marks Tryd.func61 rfl trivial ?_ rfl
  simp only [ Tryd.ntmps61, List.size_toArray, List.length_cons, List.length_nil, Nat.reduceAdd, Nat.reduceSub, Array.replicate_succ, Array.replicate_zero, List.push_toArray, List.append_toArray, List.nil_append, List.cons_append]
  gi_wp2_with fail
  refine ⟨trivial, ?_⟩
  refine (told_in Fence.wide 8 trivial rfl mo wait.length cm _).mono ?_
  rintro e w' ⟨rfl, rfl⟩
  rw [← hW1]
  clear hW1 p0 p1 pl c0
  obtain ⟨mo', cm', e2, hn2, -, q2⟩ := hwait1.reads
  simp only [Value.slice.injEq, true_and] at e2
  obtain ⟨rfl, rfl⟩ := e2
  obtain ⟨b, off, hbl, hbo, hao, hcs⟩ := told_prep wait mo (.cells #[.slice mo wait.length cm] 92) (Below.refl _ W1) q2
  have hSb : ¬ S b := by
    rcases hbo with ⟨h0, h⟩ | h
    · obtain ⟨_, _, e3, _, _, h3⟩ := hwait1
      obtain ⟨g, _, e4, hT, _, _⟩ := h3 h0
      simp only [Value.slice.injEq] at e3
      have := (hao h0).2
      rw [e3.1, e4] at this
      simp at this
      rw [← this.1]
      exact hST g hT
    · intro hb
      have := hSw b hb
      omega
  clear hbo q2
  obtain ⟨W0, hW0⟩ : ∃ W0, W0 = W1.alloc (.cells #[.slice mo wait.length cm] 92) := ⟨_, rfl⟩
  have al2 : Below W1.heap.size W1 W0 := by rw [hW0]; exact (Below.refl _ _).alloc (Nat.le_refl _) _
  have hz2 : W0.heap.size = w.heap.size + 3 := by rw [hW0]; simp [hz1]
  have hBs : W0.heap[W1.heap.size]? = some (.cells #[.slice mo wait.length cm] 92 (0, 0)) := by rw [hW0]; exact al1_0 W1 _
  rw [← hW0] at hbl hcs ⊢
  clear hW0
  have Hcs := hide hcs
  have Hao := hide (fun h => (hao h).2)
  clear hcs hao
  rw [hz1] at hBs
  gi_wp2_with fail
  refine range_boxed2 rfl (by omega) (gf := 100) (lb := #[.pointer (some ⟨w.heap.size + 2, 0, none⟩)]) rfl trivial (enters_of Tryd.func100 (by kernel_rfl) rfl)
    (told_stops Fence.wide (9 - 1) trivial rfl (by omega) (w.heap.size + 2) b off cm mo wait W0 hn2 Hao.out hBs Hcs.out) kpB_t (kpB_b hbl) (Below.refl _ _) (fun _ => rfl)
    (fun pre W => (Row W 9 1 S (.slice no kept.length cn) kept.length ((flushL kept (selL wait ks pre)).map Value.string) ∧ ((W.heap[w.heap.size]? = some (.cells #[.pointer (some ⟨B, 0, none⟩)] 123 (0, 0)) ∧ W.heap[w.heap.size + 1]? = some (.cells #[.slice ko ks.length kc] 90 (0, 0))) ∧ W.heap[B]? = some (.cells #[.slice no kept.length cn, .slice mo wait.length cm] 94 (0, 0)))) ∧ (Upd S w W ∧ W0.heap.size ≤ W.heap.size))
    (fun _ _ _ => False)
    ?hI ?hIx ?h0 ?hIs ?hKa (fun x Bx t => cutTmps x (.agg #[.int .i64 (wAt wait x).1, .string (wAt wait x).2]) Bx t) 63 (fun x => #[.int .i64 (wAt wait x).1, .string (wAt wait x).2]) ?assign ?body ?done ?stop
  case hI => exact OwnFrom.and (OwnFrom.and (own_row _ _ _ _ _ _ _) (OwnFrom.and (OwnFrom.and (own_cells _ _ (fun _ => _) _) (own_cells _ _ (fun _ => _) _)) (own_cells _ _ (fun _ => _) _))) (OwnFrom.and (own_upd (by omega)) (own_size _ _))
  case hIx => exact fun c => own_pure _ _
  case h0 => exact ⟨⟨by simpa [flushL, selL] using hrow1.keepB al2, ⟨bKeeps al2 Hptr.out, bKeeps al2 Hkb.out⟩, bKeeps al2 Hbox1.out⟩, (Upd.ofBelow al1).trans (Upd.ofBelow al2), Nat.le_refl _⟩
  case hIs => exact fun pre W h => h.2.2
  case hKa => exact fun pre W o h => Below.heap_alloc W o b (by have := h.2.2; omega)
  case assign =>
    intro l pre x W K hi hK
    obtain ⟨a, s, hx⟩ : ∃ a s, wAt wait x = (a, s) := ⟨_, _, rfl⟩
    rw [wEnc_eq hx]
    simp only [hx] at hK
    unfold cutTmps at hK
    clear hi hBs
    gi_wp2
    exact hK
  case body =>
    rintro l pre x Bx W hl hBx hxb ⟨⟨hrw, ⟨hpt, hkp⟩, hbx⟩, hup, hsW⟩ hN
    obtain ⟨a, s, hx⟩ : ∃ a s, wAt wait x = (a, s) := ⟨_, _, rfl⟩
    have hab : 0 ≤ a ∧ a < kept.length := by
      obtain ⟨y, hy⟩ := getAt wait 0 (by omega)
      have h1 := P4.out y (List.mem_of_getElem? hy)
      cases hxx : wait[x]? with
      | none =>
        simp only [wAt, hxx, Option.getD_none, Prod.mk.injEq] at hx
        omega
      | some z =>
        have h2 := P4.out z (List.mem_of_getElem? hxx)
        simp only [wAt, hxx, Option.getD_some] at hx
        rw [hx] at h2
        exact ⟨h2.1, h2.2.1⟩
    simp only [hx] at hxb ⊢
    unfold cutTmps
    obtain ⟨i, rfl⟩ := Int.eq_ofNat_of_zero_le hab.1
    have hin : i < kept.length := by omega
    clear hab
    obtain ⟨x0, x1, xl⟩ := box2 hxb
    have r0 : W.cell? ⟨w.heap.size, 0, none⟩ = some (.pointer (some ⟨B, 0, none⟩)) := (cell_of_row W _ 0 _ _ (0, 0) hpt).trans rfl
    have r1 : W.cell? ⟨w.heap.size + 1, 0, none⟩ = some (.slice ko ks.length kc) := (cell_of_row W _ 0 _ _ (0, 0) hkp).trans rfl
    have Hrw := hide hrw
    have Hpt := hide hpt
    have Hkp := hide hkp
    have Hbx := hide hbx
    have Hx := hide hx
    have Hst := hide (store_any S B no kept.length cn i (.slice mo wait.length cm) _ s W.drew (show W.drew.heap[B]? = _ from hbx) (hrw.keepB ((Below.refl _ _).drew)) hin)
    clear hrw hpt hkp hbx hxb hx hBs
    have hd : 1 ≤ 9 - 1 - 1 := by omega
    have hmx : Tryd.prog.follows .mixedOrders = true := by kernel_rfl
    by_cases hkl : x < ks.length
    · have hi2 : (x : Int) < (ks.length : Int) := by omega
      obtain ⟨kb, koff, kcap, u, ev, hkbl, hu, hcu⟩ := RowR.ptr HKS.out x hkl
      have hSkb : ¬ S kb := by
        simp only [Value.slice.injEq, true_and] at ev
        exact HSk.out kb koff (by omega) ev.1
      simp only [Value.slice.injEq, true_and] at ev
      obtain ⟨rfl, rfl⟩ := ev
      obtain ⟨q, hq⟩ := getAt ks x hkl
      obtain rfl : u = .int .i64 q := by simpa [hq] using hu.symm
      have fq : W.cell? ⟨kb, koff + x, none⟩ = some (.int .i64 q) := (World.cell?_of_block (a := ⟨kb, koff + x, none⟩) (hup.block kb hkbl hSkb)).trans hcu
      clear hu hcu
      by_cases hq0 : q = 0
      · have hq' : (q == 0) = true := by simpa using hq0
        have Hs := hide (selL_no (wait := wait) pre (keepAt_zero hq hq0))
        clear hq Hst
        gi_wp2
        refine ⟨KeepsFrom.refl _ _, rfl, ⟨?_, ⟨Hpt.out, Hkp.out⟩, Hbx.out⟩, hup, by omega⟩
        rw [Hs.out]
        exact Hrw.out
      · have hq' : (q == 0) = false := by simpa using hq0
        have Hs := hide (selL_yes (wait := wait) pre (keepAt_yes hq hq0))
        clear hq hq0
        gi_wp2
        gi_region_with_o (refine ⟨trivial, ?_⟩; gi_at_call 85; refine (CallsIn.inRound l (callsIn_wide.2 (unhide Hst))).mono ?_; rintro e W2 ⟨rfl, hr2, hu2⟩)
        all_goals
          gi_wp2
          have hu3 : Upd S W W2 := ⟨hu2.os, hu2.tape, hu2.output, hu2.size, hu2.block⟩
          refine ⟨⟨hu3.size, fun k o hk ho _ => hu3.keeps ho (fun hS => by have := hSw k hS; omega)⟩, hu3.block b (by omega) hSb, ⟨?_, ⟨hu3.keeps Hpt.out (fun hS => by have := hSw _ hS; omega), hu3.keeps Hkp.out (fun hS => by have := hSw _ hS; omega)⟩, hu3.keeps Hbx.out hSB⟩, hup.trans hu3, Nat.le_trans hsW hu3.size⟩
          rw [Hs.out, Hx.out, flushL_snoc, List.map_set]
          exact hr2
    · have hi2 : ¬ (x : Int) < (ks.length : Int) := by omega
      have Hs := hide (selL_no (wait := wait) pre (keepAt_none hkl))
      clear Hst
      gi_wp2
      refine ⟨KeepsFrom.refl _ _, rfl, ⟨?_, ⟨Hpt.out, Hkp.out⟩, Hbx.out⟩, hup, by omega⟩
      rw [Hs.out]
      exact Hrw.out
  case done =>
    rintro D ys W hD rfl ⟨⟨hrw, ⟨hpt, -⟩, hbx⟩, hup, hsW⟩ hK
    have r0 : W.cell? ⟨w.heap.size, 0, none⟩ = some (.pointer (some ⟨B, 0, none⟩)) := (cell_of_row W _ 0 _ _ (0, 0) hpt).trans rfl
    obtain ⟨p0, p1, pl⟩ := box2 hbx
    obtain ⟨p2, p3⟩ := box2f hbx
    have Hrw := hide hrw
    have Hbx := hide hbx
    have HKD := hide hK
    clear hrw hpt hbx hK hBs
    gi_wp2
    have hK' := (KeepsOthers.setCell W ⟨B, 1, none⟩ (.slice none 0 0)).same D _ HKD.out rfl
    refine ⟨by simp, .inl ⟨_, _, rfl, run_takeDeferred hK', ?_⟩⟩
    refine ⟨_, results_none rfl _ _ _, rfl, ?_, ?_, ?_⟩
    · exact (upd_putObj' _ D _).keeps (row_set _ Hbx.out) (by omega)
    · have h1 := Hrw.out
      unfold cutL
      exact (h1.keep (Upd.setCell (S := fun k => k = B) W B 1 (.slice none 0 0) rfl) (fun k hk e => by subst e; exact hSB hk)).keep (upd_putObj' _ D _) (fun k hk e => by have := hSw k hk; omega)
    · exact upd_putObj ((hup.mono (fun k h => .inl h)).trans (Upd.setCell _ _ _ _ (.inr rfl))) (by omega) _
  case stop =>
    rintro D c pre W _ _ h _
    exact h.elim

end Go.Proofs.YtapflnabiobonaaDoor
