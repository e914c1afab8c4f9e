/- What SecFlush of the program does: contracts; no statement of the seat is proved here. -/
import Derived.Test.YtapflnabiobonaaDoorAp2
import Derived.Test.YtapflnabiobonaaDoorLook
import Derived.Shelf.RegionOpen
namespace Go.Proofs.YtapflnabiobonaaDoor
open Go.RowKit Go.Shelf

attribute [local go_sem] Oper.semAt_some

theorem disk_any (ao bo : Option Addr) (n cap m cap' : Nat) (w : World) :
    Calls Tryd.prog 60 #[.agg #[.slice ao n cap, .slice bo m cap']] w fun e w' => e = .returned (.agg #[.slice ao n cap, .slice bo m cap']) ∧ Below w.heap.size w w' := by
  go_enter Tryd.func60, Tryd.ntmps60
  go_wp2
  exact bodyPost_ret (v := .agg #[.slice ao n cap, .slice bo m cap']) (by simp [results, Tryd.results60, go_sem]) rfl ⟨rfl, ((Below.refl _ _).alloc (Nat.le_refl _) _).alloc (by simp) _⟩

theorem Upd.drew {S : Nat → Prop} {w w' : World} (h : Upd S w w') : Upd S w w'.drew := ⟨h.os, h.tape, h.output, h.size, h.block⟩

set_option maxHeartbeats 1000000 in
theorem store_any (S : Nat → Prop) (B : Nat) (no : Option Addr) (n cn i : Nat) (x : Value) (cs : List Value) (s : ByteArray) (w : World)
    (hbox : w.heap[B]? = some (.cells #[.slice no n cn, x] 94 (0, 0))) (hrow : Row w 9 1 S (.slice no n cn) n cs) (hi : i < n) :
    Calls Tryd.prog 85 #[.pointer (some ⟨B, 0, none⟩), .agg #[.int .i64 (i : Nat), .string s]] w fun e w' => e = .returned (.tuple #[]) ∧ Row w' 9 1 S (.slice no n cn) n (cs.set i (.string s)) ∧ Upd S w w' := by
  obtain ⟨g, cap, u, ev, hS, hgl, -, -, -, -⟩ := hrow.at i hi
  simp only [Value.slice.injEq, true_and] at ev
  obtain ⟨rfl, rfl⟩ := ev
  have al1 : Below w.heap.size w (w.alloc (.cells #[.int .i64 (i : Nat), .string s] 63)) := (Below.refl _ _).alloc (Nat.le_refl _) _
  obtain ⟨W, hW⟩ : ∃ W, W = w.alloc (.cells #[.int .i64 (i : Nat), .string s] 63) := ⟨_, rfl⟩
  rw [← hW] at al1
  have hrow1 := hrow.keepB al1
  obtain ⟨p0, p1, pl⟩ := box2 (bKeeps al1 hbox)
  have hBx : W.heap[w.heap.size]? = some (.cells #[.int .i64 (i : Nat), .string s] 63 (0, 0)) := by rw [hW]; exact al1_0 w _
  obtain ⟨x0, x1, xl⟩ := box2 hBx
  obtain ⟨g', cap', u', ev, -, hgl', hcu, -, hfu, hset⟩ := hrow1.at i hi
  simp only [Value.slice.injEq, Option.some.injEq, Addr.mk.injEq, and_true, true_and] at ev
  obtain ⟨rfl, rfl⟩ := ev
  have Hset := hide hset
  have hi' : (i : Int) < (n : Int) := by omega
  clear hset hbox hBx hrow hrow1 hgl
  go_enter Tryd.func85, Tryd.ntmps85
  go_wp2
  rw [← hW]
  clear hW
  go_region
  all_goals
    try go_wp2
    go_end0
    exact ⟨rfl, (Hset.out _).keepB ((Below.refl _ _).drew), ((Upd.ofBelow al1).trans (Upd.setCell _ _ _ _ hS)).drew⟩

theorem own_upd {β : Type} {S : Nat → Prop} {w : World} {B : Nat} (h : w.heap.size ≤ B) : OwnFrom B (fun (_ : β) W => Upd S w W) := by
  intro s W W' row hs hg hr
  exact ⟨hg.os.trans hs.os, hg.tape.trans hs.tape, hg.output.trans hs.output, Nat.le_trans hs.size hg.size, fun k hk hS =>
    (hg.block k (by have := hs.size; omega) (fun e => by have := (hr k e.symm).1; omega)).trans (hs.block k hk hS)⟩

theorem own_row {β : Type} (B : Nat) (e : TypeId) (size : Nat) (S : Nat → Prop) (v : Value) (n : Nat) (cs : β → List Value) : OwnFrom B (fun (s : β) W => Row W e size S v n (cs s)) := by
  intro s W W' row hs hg hr
  obtain ⟨ao, cap, rfl, hn, hl, h⟩ := hs
  refine ⟨ao, cap, rfl, hn, hl, fun h0 => ?_⟩
  obtain ⟨g, cur, rfl, hS, hgg, ht⟩ := h h0
  exact ⟨g, cur, rfl, hS, own_cells B g (fun _ : β => cur) e s W W' row hgg hg hr, ht⟩

theorem upd_putObj {T : Nat → Prop} {w W : World} {D : Nat} (h : Upd T w W) (hD : w.heap.size ≤ D) (o : Obj) : Upd T w (W.putObj D o) := by
  have hg := grownBy_putObj' W D o
  exact ⟨hg.os.trans h.os, hg.tape.trans h.tape, hg.output.trans h.output, Nat.le_trans h.size hg.size, fun k hk hS => (hg.block k (by have := h.size; omega) (fun e => by cases e; omega)).trans (h.block k hk hS)⟩

theorem upd_putObj' (W : World) (D : Nat) (o : Obj) : Upd (fun k => k = D) W (W.putObj D o) := by
  have hg := grownBy_putObj' W D o
  exact ⟨hg.os, hg.tape, hg.output, hg.size, fun k hk hS => hg.block k hk (fun e => hS (by cases e; rfl))⟩

set_option maxRecDepth 100000 in
set_option maxHeartbeats 4000000 in
theorem flush_in (kept : List ByteArray) (wait : List (Int × ByteArray)) (S T : Nat → Prop) (B : Nat) (no mo : Option Addr) (cn cm : Nat) (w : World)
    (hbox : w.heap[B]? = some (.cells #[.slice no kept.length cn, .slice mo wait.length cm] 94 (0, 0)))
    (hrow : Row w 9 1 S (.slice no kept.length cn) kept.length (kept.map Value.string)) (hwait : Row w 63 2 T (.slice mo wait.length cm) wait.length (wcells wait))
    (hST : ∀ k, T k → ¬ S k) (hSB : ¬ S B) (hSw : ∀ k, S k → k < w.heap.size) (hok : okB kept wait = true) :
    CallsIn Fence.wide 9 Tryd.prog 69 #[.pointer (some ⟨B, 0, none⟩)] w fun e w' => e = .returned (.tuple #[]) ∧
      w'.heap[B]? = some (.cells #[.slice no kept.length cn, .slice none 0 0] 94 (0, 0)) ∧ Row w' 9 1 S (.slice no kept.length cn) kept.length ((flushL kept wait).map Value.string) ∧ Upd (fun k => S k ∨ k = B) w w' := by
  obtain ⟨hp1, hp2, -, hp4⟩ := okB_parts hok
  have P4 := hide hp4
  clear hp4
  have hBl := heap_lt hbox
  obtain ⟨W1, hW1⟩ : ∃ W1, W1 = w.alloc (.cells #[.pointer (some ⟨B, 0, none⟩)] 123) := ⟨_, rfl⟩
  have al1 : Below w.heap.size w W1 := by rw [hW1]; exact (Below.refl _ _).alloc (Nat.le_refl _) _
  have hz1 : W1.heap.size = w.heap.size + 1 := by rw [hW1]; simp
  have hptr : W1.heap[w.heap.size]? = some (.cells #[.pointer (some ⟨B, 0, none⟩)] 123 (0, 0)) := by rw [hW1]; exact al1_0 w _
  have c0 : W1.cell? ⟨w.heap.size, 0, none⟩ = some (.pointer (some ⟨B, 0, none⟩)) := (cell_of_row W1 _ 0 _ _ (0, 0) hptr).trans rfl
  obtain ⟨p0, p1, pl⟩ := box2 hbox
  have hrow1 := hrow.keepB al1
  have hwait1 := hwait.keepB al1
  have hbox1 := bKeeps al1 hbox
  have Hptr := hide hptr
  have Hbox1 := hide hbox1
  clear hbox hrow hwait hptr hbox1
  refine callsIn_of_wp_marks Tryd.func69 rfl trivial ?_ rfl
  simp only [ Tryd.ntmps69, List.size_toArray, List.length_cons, List.length_nil, Nat.reduceAdd, Nat.reduceSub, Array.replicate_succ, Array.replicate_zero, List.push_toArray, List.append_toArray, List.nil_append, List.cons_append]
  gi_wp2_with fail
  refine ⟨trivial, ?_⟩
  refine (told_in Fence.wide 8 trivial rfl mo wait.length cm _).mono ?_
  rintro e w' ⟨rfl, rfl⟩
  rw [← hW1]
  clear hW1 p0 p1 pl c0
  obtain ⟨mo', cm', e2, hn2, -, q2⟩ := hwait1.reads
  simp only [Value.slice.injEq, true_and] at e2
  obtain ⟨rfl, rfl⟩ := e2
  obtain ⟨b, off, hbl, hbo, hao, hcs⟩ := told_prep wait mo (.cells #[.slice mo wait.length cm] 92) (Below.refl _ W1) q2
  have hSb : ¬ S b := by
    rcases hbo with ⟨h0, h⟩ | h
    · obtain ⟨_, _, e3, _, _, h3⟩ := hwait1
      obtain ⟨g, _, e4, hT, _, _⟩ := h3 h0
      simp only [Value.slice.injEq] at e3
      have := (hao h0).2
      rw [e3.1, e4] at this
      simp at this
      rw [← this.1]
      exact hST g hT
    · intro hb
      have := hSw b hb
      omega
  clear hbo q2
  obtain ⟨W0, hW0⟩ : ∃ W0, W0 = W1.alloc (.cells #[.slice mo wait.length cm] 92) := ⟨_, rfl⟩
  have al2 : Below W1.heap.size W1 W0 := by rw [hW0]; exact (Below.refl _ _).alloc (Nat.le_refl _) _
  have hz2 : W0.heap.size = w.heap.size + 2 := by rw [hW0]; simp [hz1]
  have hBs : W0.heap[W1.heap.size]? = some (.cells #[.slice mo wait.length cm] 92 (0, 0)) := by rw [hW0]; exact al1_0 W1 _
  rw [← hW0] at hbl hcs ⊢
  clear hW0
  have Hcs := hide hcs
  have Hao := hide (fun h => (hao h).2)
  clear hcs hao
  rw [hz1] at hBs
  gi_wp2_with fail
  refine range_boxed rfl (by omega) (gf := 100) (lb := #[.pointer (some ⟨w.heap.size + 1, 0, none⟩)]) rfl trivial (enters_of Tryd.func100 (by kernel_rfl) rfl)
    (told_stops Fence.wide (9 - 1) trivial rfl (by omega) (w.heap.size + 1) b off cm mo wait W0 hn2 Hao.out hBs Hcs.out) kpB_t (kpB_b hbl) (Below.refl _ _) (fun _ => rfl)
    (fun pre W => (Row W 9 1 S (.slice no kept.length cn) kept.length ((flushL kept (pre.map (wAt wait))).map Value.string) ∧ (W.heap[w.heap.size]? = some (.cells #[.pointer (some ⟨B, 0, none⟩)] 123 (0, 0)) ∧ W.heap[B]? = some (.cells #[.slice no kept.length cn, .slice mo wait.length cm] 94 (0, 0)))) ∧ (Upd S w W ∧ W0.heap.size ≤ W.heap.size))
    (fun _ _ _ => False)
    ?hI ?hIx ?h0 ?hIs ?hKa 3 63 (fun x => #[.int .i64 (wAt wait x).1, .string (wAt wait x).2]) ?assign ?body ?done ?stop
  case hI => exact OwnFrom.and (OwnFrom.and (own_row _ _ _ _ _ _ _) (OwnFrom.and (own_cells _ _ (fun _ => _) _) (own_cells _ _ (fun _ => _) _))) (OwnFrom.and (own_upd (by omega)) (own_size _ _))
  case hIx => exact fun c => own_pure _ _
  case h0 => exact ⟨⟨by simpa [flushL] using hrow1.keepB al2, bKeeps al2 Hptr.out, bKeeps al2 Hbox1.out⟩, (Upd.ofBelow al1).trans (Upd.ofBelow al2), Nat.le_refl _⟩
  case hIs => exact fun pre W h => h.2.2
  case hKa => exact fun pre W o h => Below.heap_alloc W o b (by have := h.2.2; omega)
  case assign =>
    intro l pre x W K hi hK
    obtain ⟨a, s, hx⟩ : ∃ a s, wAt wait x = (a, s) := ⟨_, _, rfl⟩
    rw [wEnc_eq hx] at hK ⊢
    simp only [hx] at hK
    rw [roundTmps_two] at hK
    clear hi hBs
    gi_wp2
    exact hK
  case body =>
    rintro l pre x Bx W hl hBx hxb ⟨⟨hrw, hpt, hbx⟩, hup, hsW⟩ hN
    obtain ⟨a, s, hx⟩ : ∃ a s, wAt wait x = (a, s) := ⟨_, _, rfl⟩
    have hab : 0 ≤ a ∧ a < kept.length := by
      obtain ⟨y, hy⟩ := getAt wait 0 (by omega)
      have h1 := P4.out y (List.mem_of_getElem? hy)
      cases hxx : wait[x]? with
      | none =>
        simp only [wAt, hxx, Option.getD_none, Prod.mk.injEq] at hx
        omega
      | some z =>
        have h2 := P4.out z (List.mem_of_getElem? hxx)
        simp only [wAt, hxx, Option.getD_some] at hx
        rw [hx] at h2
        exact ⟨h2.1, h2.2.1⟩
    rw [wEnc_eq hx]
    simp only [hx] at hxb
    obtain ⟨i, rfl⟩ := Int.eq_ofNat_of_zero_le hab.1
    have hin : i < kept.length := by omega
    clear hab
    obtain ⟨x0, x1, xl⟩ := box2 hxb
    have r0 : W.cell? ⟨w.heap.size, 0, none⟩ = some (.pointer (some ⟨B, 0, none⟩)) := (cell_of_row W _ 0 _ _ (0, 0) hpt).trans rfl
    have Hrw := hide hrw
    have Hpt := hide hpt
    have Hbx := hide hbx
    have Hx := hide hx
    have Hst := hide (store_any S B no kept.length cn i (.slice mo wait.length cm) _ s W.drew (show W.drew.heap[B]? = _ from hbx) (hrw.keepB ((Below.refl _ _).drew)) hin)
    clear hrw hpt hbx hxb hx hBs
    rw [roundTmps_two]
    have hd : 1 ≤ 9 - 1 - 1 := by omega
    have hmx : Tryd.prog.follows .mixedOrders = true := by kernel_rfl
    gi_wp2
    gi_region_with_o (refine ⟨trivial, ?_⟩; gi_at_call 85; refine (CallsIn.inRound l (callsIn_wide.2 (unhide Hst))).mono ?_; rintro e W2 ⟨rfl, hr2, hu2⟩)
    all_goals
      gi_wp2
      have hu3 : Upd S W W2 := ⟨hu2.os, hu2.tape, hu2.output, hu2.size, hu2.block⟩
      refine ⟨⟨hu3.size, fun k o hk ho _ => hu3.keeps ho (fun hS => by have := hSw k hS; omega)⟩, hu3.block b (by omega) hSb, ⟨?_, hu3.keeps Hpt.out (fun hS => by have := hSw _ hS; omega), hu3.keeps Hbx.out hSB⟩, hup.trans hu3, Nat.le_trans hsW hu3.size⟩
      rw [List.map_append, List.map_cons, List.map_nil, Hx.out, flushL_snoc, List.map_set]
      exact hr2
  case done =>
    rintro D ys W hD rfl ⟨⟨hrw, hpt, hbx⟩, hup, hsW⟩ hK
    have r0 : W.cell? ⟨w.heap.size, 0, none⟩ = some (.pointer (some ⟨B, 0, none⟩)) := (cell_of_row W _ 0 _ _ (0, 0) hpt).trans rfl
    obtain ⟨p0, p1, pl⟩ := box2 hbx
    obtain ⟨p2, p3⟩ := box2f hbx
    have Hrw := hide hrw
    have Hbx := hide hbx
    have HKD := hide hK
    clear hrw hpt hbx hK hBs
    gi_wp2
    have hK' := (KeepsOthers.setCell W ⟨B, 1, none⟩ (.slice none 0 0)).same D _ HKD.out rfl
    refine ⟨by simp, .inl ⟨_, _, rfl, run_takeDeferred hK', ?_⟩⟩
    refine ⟨_, results_none rfl _ _ _, rfl, ?_, ?_, ?_⟩
    · exact (upd_putObj' _ D _).keeps (row_set _ Hbx.out) (by omega)
    · have hmap : (List.range wait.length).map (wAt wait) = wait := by
        apply List.ext_getElem
        · simp
        · intro j h1 h2
          simp [wAt, h2]
      have h1 := Hrw.out
      rw [hmap] at h1
      exact (h1.keep (Upd.setCell (S := fun k => k = B) W B 1 (.slice none 0 0) rfl) (fun k hk e => by subst e; exact hSB hk)).keep (upd_putObj' _ D _) (fun k hk e => by have := hSw k hk; omega)
    · exact upd_putObj ((hup.mono (fun k h => .inl h)).trans (Upd.setCell _ _ _ _ (.inr rfl))) (by omega) _
  case stop =>
    rintro D c pre W _ _ h _
    exact h.elim

theorem flushL_ok {kept : List ByteArray} {wait : List (Int × ByteArray)} (hok : okB kept wait = true) : kept.length ≤ 1048576 ∧ wait.length ≤ 1048576 := by
  obtain ⟨h1, h2, -, -⟩ := okB_parts hok
  omega

end Go.Proofs.YtapflnabiobonaaDoor
