/- A seeker that is drawn: a contract; no statement of the seat is proved here. (Written by wip/tools/mkds.py.) -/
import Derived.Test.YteddhdbglciahaaSH3AP
import Derived.Test.YteddhdbglciahaaLk14
import Derived.Test.YteddhdbglciahaaLk13
namespace Go.Proofs.Yteddhdbglciahaa
open Go.RowKit

/-- A new box of a word. -/
abbrev Zwn : Obj := .cells #[.int .i64 0, .int .i64 0, .int .i64 0, .int .i64 0, .int .i64 0, .int .i64 0, .int .i64 0, .int .i64 0, .int .i64 0, .int .i64 0, .int .i64 0, .int .i64 0, .int .i64 0, .int .i64 0, .int .i64 0, .int .i64 0, .int .i64 0, .int .i64 0, .int .i64 0, .int .i64 0, .int .i64 0, .int .i64 0, .int .i64 0, .int .i64 0, .slice none 0 0, .slice none 0 0] 47
theorem hearR_len (k : Sk) (me : Int) (x : Wd) : (hearR k me x).1.ys.length ≤ k.ys.length + 1 := by
  unfold hearR
  split
  · split
    · split
      · simp
      · simp
    · split
      · simp
      · exact Nat.le_succ _
  · exact Nat.le_succ _
def bInv (k : Sk) : Prop := (k.ph = 0 ∧ k.b = 0) ∨ (1 ≤ k.b ∧ k.b ≤ 40)
theorem bInv.b {k : Sk} (h : bInv k) : 0 ≤ k.b ∧ k.b ≤ 40 := by
  rcases h with h | h <;> omega
theorem hearR_inv (k : Sk) (me : Int) (x : Wd) (h : bInv k) : bInv (hearR k me x).1 := by
  have hb : (hearR k me x).1.b = k.b := by
    unfold hearR toldK
    repeat' split
    all_goals rfl
  rcases h with h | h
  · left
    have e : hearR k me x = (k, [], false) := by
      rw [hearR, if_neg]
      simp [hearC, h.1]
    rw [e]
    exact h
  · right
    rw [hb]
    exact h
theorem seekK_inv (me round slot : Nat) (m : Wd) (h1 : me ≤ 4) (h2 : round ≤ 3) : bInv (seekK (me : Int) (1 + (round : Int)) (1 + (slot : Int)) m) := by
  unfold seekK
  split
  · right
    show 1 ≤ (1 + (round : Int)) * 8 + (me : Int) ∧ (1 + (round : Int)) * 8 + (me : Int) ≤ 40
    omega
  · exact .inl ⟨rfl, rfl⟩
theorem pick_anyI (w0 w : World) (R p : Nat) (k : Int) (hr : Rd w0 w R p) (hk : 1 ≤ k) (hk' : k ≤ 1073741824) (hp : p ≤ 1073741824) :
    Calls Try.prog 67 #[.pointer (some ⟨R, 0, none⟩), .int .i64 k] w fun e w' => ∃ q : Nat, e = .returned (.int .i64 q) ∧ (q : Int) < k ∧ Rd w0 w' R (p + 1) ∧ Upd (fun j => j = R) w w' := by
  obtain ⟨n, rfl⟩ := Int.eq_ofNat_of_zero_le (show 0 ≤ k by omega)
  refine (pick_any w0 w R p n hr (by omega) (by omega) hp).mono ?_
  rintro e w' ⟨q, he, h1, h2, h3⟩
  exact ⟨q, he, by omega, h2, h3⟩
theorem lit24 (q : Nat) (h : (q : Int) < 2) : ∃ z : Int, (#[.int .i64 2, .int .i64 4] : Array Value)[q]? = some (.int .i64 z) := by
  rcases (by omega : q = 0 ∨ q = 1) with rfl | rfl
  · exact ⟨2, rfl⟩
  · exact ⟨4, rfl⟩
/-- S may be made stronger on the way. -/
theorem wpAnyH_strong {P : Program} {md : Region.Mode} {ops : Array Oper} {Q : Exit → Act → World → Prop} {S S' : World → Prop} (h : ∀ w, S' w → S w) :
    ∀ {fuel : Nat} {listed : Array Bool} {a : Act} {w : World}, wpAnyH P md ops Q S' fuel listed a w → wpAnyH P md ops Q S fuel listed a w := by
  intro fuel
  induction fuel with
  | zero => intro listed a w H; exact H
  | succ fuel ih => intro listed a w H; exact ⟨H.1, fun i hi => wpOp_mono (fun a' w' h' => ⟨h _ h'.1, ih h'.2⟩) (H.2 i hi)⟩
def toldW (z f me b s was : Int) (c : Wd) : Wd := { zeroW with a0 := z, a1 := f, a2 := me, a3 := b, a4 := s, a5 := was, c0 := c.c0, c1 := c.c1, c2 := c.c2, c3 := c.c3, c4 := c.c4, c5 := c.c5, c6 := c.c6, c7 := c.c7, c8 := c.c8, c9 := c.c9 }
theorem builtTold (z f me b s was : Int) (c : Wd) : Try.prog.built 47 [(0, .int .i64 z), (1, .int .i64 f), (2, .int .i64 me), (3, .int .i64 b), (4, .int .i64 s), (5, .int .i64 was), (6, .agg #[.int .i64 c.c0, .int .i64 c.c1, .int .i64 c.c2, .int .i64 c.c3, .int .i64 c.c4, .int .i64 c.c5, .int .i64 c.c6, .int .i64 c.c7, .int .i64 c.c8, .int .i64 c.c9])] = some (fwarr (toldW z f me b s was c)) := by kernel_rfl
theorem builtBestC (s b : Int) (x : Wd) : Try.prog.built 37 [(0, .int .i64 s), (1, .int .i64 b), (2, .agg #[.int .i64 x.c0, .int .i64 x.c1, .int .i64 x.c2, .int .i64 x.c3, .int .i64 x.c4, .int .i64 x.c5, .int .i64 x.c6, .int .i64 x.c7, .int .i64 x.c8, .int .i64 x.c9])] = some (pparr (s, b, x)) := by kernel_rfl
theorem shareD0 {R : Prop} {F : World → Nat → Prop} (G : World → Nat → Prop) (h1 : (∀ X x0, F X x0 → G X x0) → R) (h2 : ∀ X x0, F X x0 → G X x0) : R := h1 h2
theorem shareD1 {R : Prop} {F : World → Nat → Nat → Prop} (G : World → Nat → Nat → Prop) (h1 : (∀ X x0 x1, F X x0 x1 → G X x0 x1) → R) (h2 : ∀ X x0 x1, F X x0 x1 → G X x0 x1) : R := h1 h2
theorem shareD2 {R : Prop} {F : World → Nat → Nat → Int → Prop} (G : World → Nat → Nat → Int → Prop) (h1 : (∀ X x0 x1 x2, F X x0 x1 x2 → G X x0 x1 x2) → R) (h2 : ∀ X x0 x1 x2, F X x0 x1 x2 → G X x0 x1 x2) : R := h1 h2
theorem shareD3 {R : Prop} {F : World → Nat → Nat → Nat → Prop} (G : World → Nat → Nat → Nat → Prop) (h1 : (∀ X x0 x1 x2, F X x0 x1 x2 → G X x0 x1 x2) → R) (h2 : ∀ X x0 x1 x2, F X x0 x1 x2 → G X x0 x1 x2) : R := h1 h2
theorem shareD4 {R : Prop} {F : World → Nat → Nat → Nat → Int → Prop} (G : World → Nat → Nat → Nat → Int → Prop) (h1 : (∀ X x0 x1 x2 x3, F X x0 x1 x2 x3 → G X x0 x1 x2 x3) → R) (h2 : ∀ X x0 x1 x2 x3, F X x0 x1 x2 x3 → G X x0 x1 x2 x3) : R := h1 h2
theorem shareD5 {R : Prop} {F : World → Nat → Nat → Nat → Nat → Prop} (G : World → Nat → Nat → Nat → Nat → Prop) (h1 : (∀ X x0 x1 x2 x3, F X x0 x1 x2 x3 → G X x0 x1 x2 x3) → R) (h2 : ∀ X x0 x1 x2 x3, F X x0 x1 x2 x3 → G X x0 x1 x2 x3) : R := h1 h2
theorem shareD6 {R : Prop} {F : World → Nat → Nat → Nat → Nat → Int → Prop} (G : World → Nat → Nat → Nat → Nat → Int → Prop) (h1 : (∀ X x0 x1 x2 x3 x4, F X x0 x1 x2 x3 x4 → G X x0 x1 x2 x3 x4) → R) (h2 : ∀ X x0 x1 x2 x3 x4, F X x0 x1 x2 x3 x4 → G X x0 x1 x2 x3 x4) : R := h1 h2
theorem shareD7 {R : Prop} {F : World → Nat → Nat → Nat → Nat → Nat → Prop} (G : World → Nat → Nat → Nat → Nat → Nat → Prop) (h1 : (∀ X x0 x1 x2 x3 x4, F X x0 x1 x2 x3 x4 → G X x0 x1 x2 x3 x4) → R) (h2 : ∀ X x0 x1 x2 x3 x4, F X x0 x1 x2 x3 x4 → G X x0 x1 x2 x3 x4) : R := h1 h2
theorem shareD8 {R : Prop} {F : World → Nat → Nat → Nat → Nat → Nat → Int → Prop} (G : World → Nat → Nat → Nat → Nat → Nat → Int → Prop) (h1 : (∀ X x0 x1 x2 x3 x4 x5, F X x0 x1 x2 x3 x4 x5 → G X x0 x1 x2 x3 x4 x5) → R) (h2 : ∀ X x0 x1 x2 x3 x4 x5, F X x0 x1 x2 x3 x4 x5 → G X x0 x1 x2 x3 x4 x5) : R := h1 h2
theorem shareD9 {R : Prop} {F : World → Nat → Nat → Nat → Nat → Nat → Nat → Int → Prop} (G : World → Nat → Nat → Nat → Nat → Nat → Nat → Int → Prop) (h1 : (∀ X x0 x1 x2 x3 x4 x5 x6, F X x0 x1 x2 x3 x4 x5 x6 → G X x0 x1 x2 x3 x4 x5 x6) → R) (h2 : ∀ X x0 x1 x2 x3 x4 x5 x6, F X x0 x1 x2 x3 x4 x5 x6 → G X x0 x1 x2 x3 x4 x5 x6) : R := h1 h2
theorem shareD10 {R : Prop} {F : World → Nat → Nat → Nat → Nat → Nat → Nat → Wd → Nat → Int → Wd → Prop} (G : World → Nat → Nat → Nat → Nat → Nat → Nat → Wd → Nat → Int → Wd → Prop) (h1 : (∀ X x0 x1 x2 x3 x4 x5 x6 x7 x8 x9, F X x0 x1 x2 x3 x4 x5 x6 x7 x8 x9 → G X x0 x1 x2 x3 x4 x5 x6 x7 x8 x9) → R) (h2 : ∀ X x0 x1 x2 x3 x4 x5 x6 x7 x8 x9, F X x0 x1 x2 x3 x4 x5 x6 x7 x8 x9 → G X x0 x1 x2 x3 x4 x5 x6 x7 x8 x9) : R := h1 h2
theorem shareD11 {R : Prop} {F : World → Nat → Nat → Nat → Nat → Nat → Wd → Nat → Prop} (G : World → Nat → Nat → Nat → Nat → Nat → Wd → Nat → Prop) (h1 : (∀ X x0 x1 x2 x3 x4 x5 x6, F X x0 x1 x2 x3 x4 x5 x6 → G X x0 x1 x2 x3 x4 x5 x6) → R) (h2 : ∀ X x0 x1 x2 x3 x4 x5 x6, F X x0 x1 x2 x3 x4 x5 x6 → G X x0 x1 x2 x3 x4 x5 x6) : R := h1 h2
theorem shareD12 {R : Prop} {F : World → Nat → Nat → Nat → Nat → Nat → Wd → Nat → Int → Wd → Prop} (G : World → Nat → Nat → Nat → Nat → Nat → Wd → Nat → Int → Wd → Prop) (h1 : (∀ X x0 x1 x2 x3 x4 x5 x6 x7 x8, F X x0 x1 x2 x3 x4 x5 x6 x7 x8 → G X x0 x1 x2 x3 x4 x5 x6 x7 x8) → R) (h2 : ∀ X x0 x1 x2 x3 x4 x5 x6 x7 x8, F X x0 x1 x2 x3 x4 x5 x6 x7 x8 → G X x0 x1 x2 x3 x4 x5 x6 x7 x8) : R := h1 h2
theorem shareD13 {R : Prop} {F : World → Nat → Nat → Nat → Nat → Wd → Nat → Prop} (G : World → Nat → Nat → Nat → Nat → Wd → Nat → Prop) (h1 : (∀ X x0 x1 x2 x3 x4 x5, F X x0 x1 x2 x3 x4 x5 → G X x0 x1 x2 x3 x4 x5) → R) (h2 : ∀ X x0 x1 x2 x3 x4 x5, F X x0 x1 x2 x3 x4 x5 → G X x0 x1 x2 x3 x4 x5) : R := h1 h2

set_option maxRecDepth 100000 in
set_option maxHeartbeats 32000000 in
theorem l72Seeker_any (w0 w : World) (R p : Nat) (hr : Rd w0 w R p) (hp : p ≤ 600000) :
    Calls Try.prog 66 #[.pointer (some ⟨R, 0, none⟩)] w fun e w' => ∃ (v : Value) (k : Sk) (me : Int) (p' : Nat), e = .returned (.tuple #[v, .int .i64 me]) ∧ SkA w' w.heap.size v k ∧ k.ys.length ≤ 4 ∧ (0 ≤ k.b ∧ k.b ≤ 41) ∧ Rd w0 w' R p' ∧ p' ≤ p + 200 ∧ Upd (fun j => j = R) w w' := by
  obtain ⟨hRl, hR0, hw0⟩ := hr.lt
  obtain ⟨i1, gi, gz0, gz1, gz2⟩ := info_parts infoInt
  go_enter Try.func66, Try.ntmps66
  go_upto_region 1 with fail
  generalize hW : World.alloc _ _ = W
  have al : Below w.heap.size w W := by rw [← hW]; exact bal (Below.refl _ _) _
  have B0 : Hid (W.heap[w.heap.size]? = some (.cells (skarr zeroK (.slice none 0 0)) 39 (0, 0))) := by show _ = _; rw [← hW]; exact al1_0 w _
  have ltW := heap_lt B0.out
  clear hW
  have hr0 := hr.keepB al
  clear hr
  go_wp2_with fail
  refine (pick_any w0 _ R _ 5 hr0 (by omega) (by omega) (by omega)).mono ?_
  rintro e w1 ⟨me, rfl, hme, hr1, hu1⟩
  have U1 := (Upd.ofBelow (S := fun j => j = R) (Below.refl W.heap.size W)).trans hu1
  have B0 := hide (hu1.keeps B0.out (by omega))
  clear hr0 hu1
  go_wp2_with fail
  refine (pick_any w0 _ R _ 4 hr1 (by omega) (by omega) (by omega)).mono ?_
  rintro e w2 ⟨q2, rfl, hq2, hr2, hu2⟩
  have U2 := U1.trans hu2
  have B0 := hide (hu2.keeps B0.out (by omega))
  clear hr1 hu2 U1
  go_wp2_with fail
  refine (pick_any w0 _ R _ 3 hr2 (by omega) (by omega) (by omega)).mono ?_
  rintro e w3 ⟨q3, rfl, hq3, hr3, hu3⟩
  have U3 := U2.trans hu3
  have B0 := hide (hu3.keeps B0.out (by omega))
  clear hr2 hu3 U2
  go_wp2_with fail
  refine (l72Cmd_any w0 _ R _ hr3 (by omega)).mono ?_
  rintro e w4 ⟨m, p4, rfl, hr4, hp4, hu4⟩
  have U4 := U3.trans hu4
  have B0 := hide (hu4.keeps B0.out (by omega))
  clear hr3 hu4 U3
  have hki := seekK_inv me q2 q3 m (by omega) (by omega)
  have hky := seekK_ys (me : Int) (1 + (q2 : Int)) (1 + (q3 : Int)) m
  have cS := specSynSeek_any (me : Int) (1 + (q2 : Int)) (1 + (q3 : Int)) m w4
  obtain ⟨K, hK⟩ : ∃ K, seekK (me : Int) (1 + (q2 : Int)) (1 + (q3 : Int)) m = K := ⟨_, rfl⟩
  rw [hK] at hki hky cS
  clear hK
  go_wp2_with fail
  refine cS.mono ?_
  rintro e w5 ⟨v5, rfl, -, b5⟩
  clear cS
  have z4 := U4.size
  have z5 := b5.size
  have a6 := bal (Below.refl w5.heap.size w5) (.cells (skarr K (.slice none 0 0)) 39)
  have N5 := hide (heap_alloc_new w5 (.cells (skarr K (.slice none 0 0)) 39))
  have hr6 := (hr4.keepB b5).keepB a6
  have U6 := (U4.trans (Upd.ofBelow b5)).trans (Upd.ofBelow a6)
  have B0 := hide (bKeeps a6 (bKeeps b5 B0.out))
  clear hr4 b5 U4
  go_upto_region 3 with (refine wpList_store_row rfl 39 (.tmp 5) (.tmp 25) rfl w5.heap.size (skarr K (.slice none 0 0)) rfl rfl _ _ (heap_alloc_new w5 _) infoSk (show (26 : Nat) = 26 from rfl) (skarr_one _ _ _ _) ?_; rw [World.setRow_alloc_new])
  generalize hX0 : w5.alloc (.cells (skarr K (.slice none 0 0)) 39) = X0' at N5 hr6 U6 B0 a6 ⊢
  have hg5 : W.heap.size ≤ w5.heap.size := by omega
  generalize w5.heap.size = g5 at N5 hg5 ⊢
  clear hX0 a6 z5 z4
  go_wp2_with fail
  refine (pick_any w0 _ R _ 4 hr6 (by omega) (by omega) (by omega)).mono ?_
  rintro e X0 ⟨n0, rfl, hn0, hr7, hu7⟩
  have N5 := hide (hu7.keeps N5.out (by omega))
  have B0 := hide (hu7.keeps B0.out (by omega))
  have U7 := U6.trans hu7
  have z7 := hu7.size
  have hg5X := heap_lt N5.out
  clear hr6 hu7 U6
  go_wp2
  go_loopw [7] (fun i wr => ∃ (n : Nat) (k : Sk) (yo : Option Addr) (yc pr : Nat), n ≤ 3 ∧ i = .int .i64 n ∧ wr.heap[g5]? = some (.cells (skarr k (.slice yo k.ys.length yc)) 39 (0, 0)) ∧ RowA wr W.heap.size 3 1 (.slice yo k.ys.length yc) k.ys.length (ints k.ys) ∧ k.ys.length + n ≤ 3 ∧ bInv k ∧ Rd w0 wr R pr ∧ pr + n * 30 ≤ p + 130 ∧ Upd (fun j => j = R ∨ j = g5) X0 wr) (fun i _ => (intOf i).toNat)
  case atStart => exact ⟨n0, K, none, 0, p4 + 1, by omega, rfl, by rw [hky]; exact N5.out, by rw [hky]; exact .inr ⟨rfl, rfl, _, rfl⟩, by rw [hky]; simp; omega, hki, hr7, by omega, Upd.refl _ _⟩
  case round =>
    obtain ⟨n, k, yo, yc, pr, hn, rfl, h5, hrow, hlen, hkb, hrd, hpr, hup⟩ := hrel
    have H5 := hide h5
    have HR := hide hrow
    have UX := hide hup
    have zr := hup.size
    have hkl : k.ys.length ≤ 3 := by omega
    clear h5 hrow hup N5 hr7 hki hky
    obtain ⟨x0, x1, x2, -⟩ := sk_cells H5.out
    by_cases hgo : 0 < n ∧ 0 < k.ph
    · obtain ⟨n', rfl⟩ : ∃ n', n = n' + 1 := ⟨n - 1, by omega⟩
      have hi : (0 : Int) < ((n' + 1 : Nat) : Int) := by omega
      have hi2 : decide (((n' + 1 : Nat) : Int) > 0) = true := decide_eq_true hi
      have hph : decide (k.ph > 0) = true := decide_eq_true hgo.2
      have hkb' : 1 ≤ k.b ∧ k.b ≤ 40 := by rcases hkb with h | h <;> omega
      have hkb1 : 1 ≤ k.b := hkb'.1
      have hkb2 : k.b ≤ 1073741824 := by omega
      obtain ⟨W6, hW6⟩ : ∃ W6, wr = W6 := ⟨_, rfl⟩
      subst hW6
      go_upto_region 6 with fail
      have C0 := hide x0
      have C1 := hide x1
      have hg5W := heap_lt H5.out
      clear x0 x1 x2 hi2 hph hgo hkb'
      have U : Upd (fun j => j = R) wr wr.drew := Upd.ofBelow (bDrewB (Below.refl _ _))
      have HRd : Rd w0 wr.drew R (pr + 0) := hrd.keepB (bDrewB (Below.refl _ _))
      clear hrd
      obtain ⟨W6, hW6⟩ : ∃ W6, wr = W6 := ⟨_, rfl⟩
      rw [hW6] at U HRd C0 C1 H5 HR UX zr hg5W ⊢
      clear hW6
      clear wr
      refine wp_region_noPanic ?_
      refine wp_region_held_drew (S := (fun w' => w'.cell? ⟨g5, 0, none⟩ = some (.int .i64 k.s) ∧ w'.cell? ⟨g5, 1, none⟩ = some (.int .i64 k.b))) (by kernel_rfl) ?_ (fun hHeld => ?_)
      · exact ⟨updCell U C0.out (by omega), updCell U C1.out (by omega)⟩
      refine wpAnyH_take (i := 1) (v := ?v1) rfl (by kernel_rfl) (by kernel_rfl) (by kernel_rfl) (fun _ _ _ h => h) (Or.inl ⟨by rfl, ?hy1⟩) (by assumption) ?rest1
      case hy1 => ((intro w hSw; (try dsimp only at hSw); (try simp only [List.getElem_toArray, List.getElem_cons_zero, List.getElem_cons_succ]); go_simp; first | done | (with_reducible rfl)))
      simp only [Act.put, List.getElem_toArray, List.getElem_cons_zero, List.getElem_cons_succ, List.setIfInBounds_toArray, List.set_cons_zero, List.set_cons_succ]
      refine wpAnyH_take (i := 5) (v := ?v2) rfl (by kernel_rfl) (by kernel_rfl) (by kernel_rfl) (fun _ _ _ h => h) (Or.inl ⟨by rfl, ?hy2⟩) (by assumption) ?rest2
      case hy2 => ((intro w hSw; (try dsimp only at hSw); (try simp only [List.getElem_toArray, List.getElem_cons_zero, List.getElem_cons_succ]); go_simp; first | done | (with_reducible rfl)))
      simp only [Act.put, List.getElem_toArray, List.getElem_cons_zero, List.getElem_cons_succ, List.setIfInBounds_toArray, List.set_cons_zero, List.set_cons_succ]
      refine wpAnyH_take (i := 7) (v := ?v3) rfl (by kernel_rfl) (by kernel_rfl) (by kernel_rfl) (fun _ _ _ h => h) (Or.inl ⟨by rfl, ?hy3⟩) (by assumption) ?rest3
      case hy3 => ((intro w hSw; (try dsimp only at hSw); (try simp only [List.getElem_toArray, List.getElem_cons_zero, List.getElem_cons_succ]); go_simp; first | done | (with_reducible rfl)))
      simp only [Act.put, List.getElem_toArray, List.getElem_cons_zero, List.getElem_cons_succ, List.setIfInBounds_toArray, List.set_cons_zero, List.set_cons_succ]
      refine wpAnyH_take (i := 8) (v := ?v4) rfl (by kernel_rfl) (by kernel_rfl) (by kernel_rfl) (fun _ _ _ h => h) (Or.inl ⟨by rfl, ?hy4⟩) (by assumption) ?rest4
      case hy4 => ((intro w hSw; (try dsimp only at hSw); (try simp only [List.getElem_toArray, List.getElem_cons_zero, List.getElem_cons_succ]); go_simp; first | done | (with_reducible rfl)))
      simp only [Act.put, List.getElem_toArray, List.getElem_cons_zero, List.getElem_cons_succ, List.setIfInBounds_toArray, List.set_cons_zero, List.set_cons_succ]
      refine wpAnyH_take (i := 9) (v := ?v5) rfl (by kernel_rfl) (by kernel_rfl) (by kernel_rfl) (fun _ _ _ h => h) (Or.inl ⟨by rfl, ?hy5⟩) (by assumption) ?rest5
      case hy5 => ((intro w hSw; (try dsimp only at hSw); (try simp only [List.getElem_toArray, List.getElem_cons_zero, List.getElem_cons_succ]); go_simp; first | done | (with_reducible rfl)))
      simp only [Act.put, List.getElem_toArray, List.getElem_cons_zero, List.getElem_cons_succ, List.setIfInBounds_toArray, List.set_cons_zero, List.set_cons_succ]
      refine wpAnyH_take (i := 10) (v := ?v6) rfl (by kernel_rfl) (by kernel_rfl) (by kernel_rfl) (fun _ _ _ h => h) (Or.inl ⟨by rfl, ?hy6⟩) (by assumption) ?rest6
      case hy6 => ((intro w hSw; (try dsimp only at hSw); (try simp only [List.getElem_toArray, List.getElem_cons_zero, List.getElem_cons_succ]); go_simp; first | done | (with_reducible rfl)))
      simp only [Act.put, List.getElem_toArray, List.getElem_cons_zero, List.getElem_cons_succ, List.setIfInBounds_toArray, List.set_cons_zero, List.set_cons_succ]
      refine wpAnyH_take (i := 11) (v := ?v7) rfl (by kernel_rfl) (by kernel_rfl) (by kernel_rfl) (fun _ _ _ h => h) (Or.inl ⟨by rfl, ?hy7⟩) (by assumption) ?rest7
      case hy7 => ((intro w hSw; (try dsimp only at hSw); (try simp only [List.getElem_toArray, List.getElem_cons_zero, List.getElem_cons_succ]); go_simp; first | done | (with_reducible rfl)))
      simp only [Act.put, List.getElem_toArray, List.getElem_cons_zero, List.getElem_cons_succ, List.setIfInBounds_toArray, List.set_cons_zero, List.set_cons_succ]
      refine wpAnyH_take (i := 12) (v := ?v8) rfl (by kernel_rfl) (by kernel_rfl) (by kernel_rfl) (fun _ _ _ h => h) (Or.inl ⟨by rfl, ?hy8⟩) (by assumption) ?rest8
      case hy8 => ((intro w hSw; (try dsimp only at hSw); (try simp only [List.getElem_toArray, List.getElem_cons_zero, List.getElem_cons_succ]); go_simp; first | done | (with_reducible rfl)))
      simp only [Act.put, List.getElem_toArray, List.getElem_cons_zero, List.getElem_cons_succ, List.setIfInBounds_toArray, List.set_cons_zero, List.set_cons_succ]
      refine wpAnyH_take (i := 14) (v := ?v9) rfl (by kernel_rfl) (by kernel_rfl) (by kernel_rfl) (fun _ _ _ h => h) (Or.inl ⟨by rfl, ?hy9⟩) (by assumption) ?rest9
      case hy9 => ((intro w hSw; (try dsimp only at hSw); (try simp only [List.getElem_toArray, List.getElem_cons_zero, List.getElem_cons_succ]); go_simp; first | done | (with_reducible rfl)))
      simp only [Act.put, List.getElem_toArray, List.getElem_cons_zero, List.getElem_cons_succ, List.setIfInBounds_toArray, List.set_cons_zero, List.set_cons_succ]
      refine wpAnyH_take (i := 15) (v := ?v10) rfl (by kernel_rfl) (by kernel_rfl) (by kernel_rfl) (fun _ _ _ h => h) (Or.inl ⟨by rfl, ?hy10⟩) (by assumption) ?rest10
      case hy10 => ((intro w hSw; (try dsimp only at hSw); (try simp only [List.getElem_toArray, List.getElem_cons_zero, List.getElem_cons_succ]); go_simp; first | done | (with_reducible rfl)))
      simp only [Act.put, List.getElem_toArray, List.getElem_cons_zero, List.getElem_cons_succ, List.setIfInBounds_toArray, List.set_cons_zero, List.set_cons_succ]
      refine wpAnyH_take (i := 16) (v := ?v11) rfl (by kernel_rfl) (by kernel_rfl) (by kernel_rfl) (fun _ _ _ h => h) (Or.inl ⟨by rfl, ?hy11⟩) (by assumption) ?rest11
      case hy11 => ((intro w hSw; (try dsimp only at hSw); (try simp only [List.getElem_toArray, List.getElem_cons_zero, List.getElem_cons_succ]); go_simp; first | done | (with_reducible rfl)))
      simp only [Act.put, List.getElem_toArray, List.getElem_cons_zero, List.getElem_cons_succ, List.setIfInBounds_toArray, List.set_cons_zero, List.set_cons_succ]
      refine wpAnyH_take (i := 19) (v := ?v12) rfl (by kernel_rfl) (by kernel_rfl) (by kernel_rfl) (fun _ _ _ h => h) (Or.inl ⟨by rfl, ?hy12⟩) (by assumption) ?rest12
      case hy12 => ((intro w hSw; (try dsimp only at hSw); (try simp only [List.getElem_toArray, List.getElem_cons_zero, List.getElem_cons_succ]); go_simp; first | done | (with_reducible rfl)))
      simp only [Act.put, List.getElem_toArray, List.getElem_cons_zero, List.getElem_cons_succ, List.setIfInBounds_toArray, List.set_cons_zero, List.set_cons_succ]
      generalize hX00 : W6.drew = X00 at U HRd hHeld ⊢
      clear hX00
      apply shareD10 (F := fun X g0 g22 q0 q1 q2 q3 x5 p5 z0 y => (Upd (fun j => j = R) W6 X) ∧ (Rd w0 X R p5) ∧ (p5 ≤ pr + 24) ∧ ((q0 : Int) < 2) ∧ (X.cell? ⟨g0, q0, none⟩ = some (.int .i64 z0)) ∧ (X.heap[g0]? = some (.cells #[.int .i64 2, .int .i64 4] 3 (0, 0))) ∧ (W6.heap.size ≤ g0) ∧ (Flat y) ∧ (X.heap[g22]? = some Zwn) ∧ (W6.heap.size ≤ g22))
      intro LEAFD65_0_22
      apply shareD11 (F := fun X g22 q0 q1 q2 q3 x5 p5 => (Upd (fun j => j = R) W6 X) ∧ (Rd w0 X R p5) ∧ (p5 ≤ pr + 24) ∧ ((q0 : Int) < 2) ∧ (X.heap[g22]? = some Zwn) ∧ (W6.heap.size ≤ g22))
      intro LEAFD65_22
      apply shareD12 (F := fun X g0 q0 q1 q2 q3 x5 p5 z0 y => (Upd (fun j => j = R) W6 X) ∧ (Rd w0 X R p5) ∧ (p5 ≤ pr + 24) ∧ ((q0 : Int) < 2) ∧ (X.cell? ⟨g0, q0, none⟩ = some (.int .i64 z0)) ∧ (X.heap[g0]? = some (.cells #[.int .i64 2, .int .i64 4] 3 (0, 0))) ∧ (W6.heap.size ≤ g0) ∧ (Flat y))
      intro LEAFD65_0
      apply shareD9 (F := fun X g0 g22 q0 q1 q2 q3 z0 => (Upd (fun j => j = R) W6 X) ∧ (Rd w0 X R (pr + 4)) ∧ ((q0 : Int) < 2) ∧ (X.cell? ⟨g0, q0, none⟩ = some (.int .i64 z0)) ∧ (X.heap[g0]? = some (.cells #[.int .i64 2, .int .i64 4] 3 (0, 0))) ∧ (W6.heap.size ≤ g0) ∧ (X.heap[g22]? = some Zwn) ∧ (W6.heap.size ≤ g22))
      intro LEAFD64_0_22
      apply shareD13 (F := fun X q0 q1 q2 q3 x5 p5 => (Upd (fun j => j = R) W6 X) ∧ (Rd w0 X R p5) ∧ (p5 ≤ pr + 24) ∧ ((q0 : Int) < 2))
      intro LEAFD65
      apply shareD7 (F := fun X g22 q0 q1 q2 q3 => (Upd (fun j => j = R) W6 X) ∧ (Rd w0 X R (pr + 4)) ∧ ((q0 : Int) < 2) ∧ (X.heap[g22]? = some Zwn) ∧ (W6.heap.size ≤ g22))
      intro LEAFD64_22
      apply shareD8 (F := fun X g0 q0 q1 q2 q3 z0 => (Upd (fun j => j = R) W6 X) ∧ (Rd w0 X R (pr + 4)) ∧ ((q0 : Int) < 2) ∧ (X.cell? ⟨g0, q0, none⟩ = some (.int .i64 z0)) ∧ (X.heap[g0]? = some (.cells #[.int .i64 2, .int .i64 4] 3 (0, 0))) ∧ (W6.heap.size ≤ g0))
      intro LEAFD64_0
      apply shareD8 (F := fun X g0 g22 q0 q1 q2 z0 => (Upd (fun j => j = R) W6 X) ∧ (Rd w0 X R (pr + 3)) ∧ ((q0 : Int) < 2) ∧ (X.cell? ⟨g0, q0, none⟩ = some (.int .i64 z0)) ∧ (X.heap[g0]? = some (.cells #[.int .i64 2, .int .i64 4] 3 (0, 0))) ∧ (W6.heap.size ≤ g0) ∧ (X.heap[g22]? = some Zwn) ∧ (W6.heap.size ≤ g22))
      intro LEAFD63_0_22
      apply shareD5 (F := fun X q0 q1 q2 q3 => (Upd (fun j => j = R) W6 X) ∧ (Rd w0 X R (pr + 4)) ∧ ((q0 : Int) < 2))
      intro LEAFD64
      apply shareD5 (F := fun X g22 q0 q1 q2 => (Upd (fun j => j = R) W6 X) ∧ (Rd w0 X R (pr + 3)) ∧ ((q0 : Int) < 2) ∧ (X.heap[g22]? = some Zwn) ∧ (W6.heap.size ≤ g22))
      intro LEAFD63_22
      apply shareD6 (F := fun X g0 q0 q1 q2 z0 => (Upd (fun j => j = R) W6 X) ∧ (Rd w0 X R (pr + 3)) ∧ ((q0 : Int) < 2) ∧ (X.cell? ⟨g0, q0, none⟩ = some (.int .i64 z0)) ∧ (X.heap[g0]? = some (.cells #[.int .i64 2, .int .i64 4] 3 (0, 0))) ∧ (W6.heap.size ≤ g0))
      intro LEAFD63_0
      apply shareD6 (F := fun X g0 g22 q0 q1 z0 => (Upd (fun j => j = R) W6 X) ∧ (Rd w0 X R (pr + 2)) ∧ ((q0 : Int) < 2) ∧ (X.cell? ⟨g0, q0, none⟩ = some (.int .i64 z0)) ∧ (X.heap[g0]? = some (.cells #[.int .i64 2, .int .i64 4] 3 (0, 0))) ∧ (W6.heap.size ≤ g0) ∧ (X.heap[g22]? = some Zwn) ∧ (W6.heap.size ≤ g22))
      intro LEAFD62_0_22
      apply shareD3 (F := fun X q0 q1 q2 => (Upd (fun j => j = R) W6 X) ∧ (Rd w0 X R (pr + 3)) ∧ ((q0 : Int) < 2))
      intro LEAFD63
      apply shareD3 (F := fun X g22 q0 q1 => (Upd (fun j => j = R) W6 X) ∧ (Rd w0 X R (pr + 2)) ∧ ((q0 : Int) < 2) ∧ (X.heap[g22]? = some Zwn) ∧ (W6.heap.size ≤ g22))
      intro LEAFD62_22
      apply shareD4 (F := fun X g0 q0 q1 z0 => (Upd (fun j => j = R) W6 X) ∧ (Rd w0 X R (pr + 2)) ∧ ((q0 : Int) < 2) ∧ (X.cell? ⟨g0, q0, none⟩ = some (.int .i64 z0)) ∧ (X.heap[g0]? = some (.cells #[.int .i64 2, .int .i64 4] 3 (0, 0))) ∧ (W6.heap.size ≤ g0))
      intro LEAFD62_0
      apply shareD4 (F := fun X g0 g22 q0 z0 => (Upd (fun j => j = R) W6 X) ∧ (Rd w0 X R (pr + 1)) ∧ ((q0 : Int) < 2) ∧ (X.cell? ⟨g0, q0, none⟩ = some (.int .i64 z0)) ∧ (X.heap[g0]? = some (.cells #[.int .i64 2, .int .i64 4] 3 (0, 0))) ∧ (W6.heap.size ≤ g0) ∧ (X.heap[g22]? = some Zwn) ∧ (W6.heap.size ≤ g22))
      intro LEAFD61_0_22
      apply shareD1 (F := fun X q0 q1 => (Upd (fun j => j = R) W6 X) ∧ (Rd w0 X R (pr + 2)) ∧ ((q0 : Int) < 2))
      intro LEAFD62
      apply shareD1 (F := fun X g22 q0 => (Upd (fun j => j = R) W6 X) ∧ (Rd w0 X R (pr + 1)) ∧ ((q0 : Int) < 2) ∧ (X.heap[g22]? = some Zwn) ∧ (W6.heap.size ≤ g22))
      intro LEAFD61_22
      apply shareD2 (F := fun X g0 q0 z0 => (Upd (fun j => j = R) W6 X) ∧ (Rd w0 X R (pr + 1)) ∧ ((q0 : Int) < 2) ∧ (X.cell? ⟨g0, q0, none⟩ = some (.int .i64 z0)) ∧ (X.heap[g0]? = some (.cells #[.int .i64 2, .int .i64 4] 3 (0, 0))) ∧ (W6.heap.size ≤ g0))
      intro LEAFD61_0
      apply shareD1 (F := fun X g0 g22 => (Upd (fun j => j = R) W6 X) ∧ (Rd w0 X R (pr + 0)) ∧ (X.heap[g0]? = some (.cells #[.int .i64 2, .int .i64 4] 3 (0, 0))) ∧ (W6.heap.size ≤ g0) ∧ (X.heap[g22]? = some Zwn) ∧ (W6.heap.size ≤ g22))
      intro LEAFD60_0_22
      apply shareD0 (F := fun X q0 => (Upd (fun j => j = R) W6 X) ∧ (Rd w0 X R (pr + 1)) ∧ ((q0 : Int) < 2))
      intro LEAFD61
      apply shareD0 (F := fun X g22 => (Upd (fun j => j = R) W6 X) ∧ (Rd w0 X R (pr + 0)) ∧ (X.heap[g22]? = some Zwn) ∧ (W6.heap.size ≤ g22))
      intro LEAFD60_22
      apply shareD0 (F := fun X g0 => (Upd (fun j => j = R) W6 X) ∧ (Rd w0 X R (pr + 0)) ∧ (X.heap[g0]? = some (.cells #[.int .i64 2, .int .i64 4] 3 (0, 0))) ∧ (W6.heap.size ≤ g0))
      intro LEAFD60_0
      · refine wpAnyH_ready (rs := [0, 2, 22]) (by kernel_rfl) (by simp) ?_
        refine AllReadyH.cons rfl (fun K hK => ?_) (AllReadyH.cons rfl (fun K hK => ?_) (AllReadyH.cons rfl (fun K hK => ?_) AllReadyH.nil))
        · go_simp
          have N0 := heap_alloc_new (X00) (.cells #[.int .i64 2, .int .i64 4] 3)
          have b2 := bal (Below.refl (X00).heap.size (X00)) (.cells #[.int .i64 2, .int .i64 4] 3)
          have zU := U.size
          generalize hX2 : (X00).alloc (.cells #[.int .i64 2, .int .i64 4] 3) = X2 at N0 b2 ⊢
          have HRd := HRd.keepB b2
          have U := U.trans (Upd.ofBelow b2)
          clear b2 hX2
          have n0 : W6.heap.size ≤ (X00).heap.size := zU
          clear zU
          generalize hgg : (X00).heap.size = g0 at N0 n0 ⊢
          clear hgg
          refine hK.out _ _ ?_ (fun hHeld => ?_)
          · exact ⟨updCell U C0.out (by omega), updCell U C1.out (by omega)⟩
          clear hK K
          exact LEAFD60_0 X2 g0 ⟨U, HRd, N0, n0⟩
        · go_simp
          go_at_call 67
          refine (pick_any w0 _ R _ 2 HRd (by omega) (by omega) (by omega)).mono ?_
          rintro e X2 ⟨q0, rfl, hqq, HRd, u2⟩
          have U := U.trans u2
          have hq0 : (q0 : Int) < 2 := by omega
          clear u2
          refine hK.out _ _ ?_ (fun hHeld => ?_)
          · exact ⟨updCell U C0.out (by omega), updCell U C1.out (by omega)⟩
          clear hK K
          exact LEAFD61 X2 q0 ⟨U, HRd, hq0⟩
        · go_simp
          have N22 := heap_alloc_new (X00) Zwn
          have b2 := bal (Below.refl (X00).heap.size (X00)) Zwn
          have zU := U.size
          generalize hX2 : (X00).alloc Zwn = X2 at N22 b2 ⊢
          have HRd := HRd.keepB b2
          have U := U.trans (Upd.ofBelow b2)
          clear b2 hX2
          have n22 : W6.heap.size ≤ (X00).heap.size := zU
          clear zU
          generalize hgg : (X00).heap.size = g22 at N22 n22 ⊢
          clear hgg
          refine hK.out _ _ ?_ (fun hHeld => ?_)
          · exact ⟨updCell U C0.out (by omega), updCell U C1.out (by omega)⟩
          clear hK K
          exact LEAFD60_22 X2 g22 ⟨U, HRd, N22, n22⟩
      · intro X g0 ⟨U, HRd, N0, n0⟩
        have hHeld : (fun w' => w'.cell? ⟨g5, 0, none⟩ = some (.int .i64 k.s) ∧ w'.cell? ⟨g5, 1, none⟩ = some (.int .i64 k.b)) X := ⟨updCell U C0.out (by omega), updCell U C1.out (by omega)⟩
        refine wpAnyH_ready (rs := [2, 22]) (by kernel_rfl) (by simp) ?_
        refine AllReadyH.cons rfl (fun K hK => ?_) (AllReadyH.cons rfl (fun K hK => ?_) AllReadyH.nil)
        · go_simp
          go_at_call 67
          refine (pick_any w0 _ R _ 2 HRd (by omega) (by omega) (by omega)).mono ?_
          rintro e X2 ⟨q0, rfl, hqq, HRd, u2⟩
          have N0 := u2.keeps N0 (by omega)
          have U := U.trans u2
          have hq0 : (q0 : Int) < 2 := by omega
          clear u2
          refine hK.out _ _ ?_ (fun hHeld => ?_)
          · exact ⟨updCell U C0.out (by omega), updCell U C1.out (by omega)⟩
          clear hK K
          obtain ⟨z0, hz0⟩ := lit24 q0 hq0
          have Z0 := (boxAt N0 q0).trans hz0
          clear hz0
          refine wpAnyH_strong (S' := fun w' => ((w'.cell? ⟨g5, 0, none⟩ = some (.int .i64 k.s) ∧ w'.cell? ⟨g5, 1, none⟩ = some (.int .i64 k.b)) ∧ w'.cell? ⟨g0, q0, none⟩ = some (.int .i64 z0))) (fun w h => h.1) ?_
          have hHeld := And.intro hHeld Z0
          refine wpAnyH_take (i := 3) (v := ?v13) rfl (by kernel_rfl) (by kernel_rfl) (by kernel_rfl) (fun _ _ _ h => h) (Or.inl ⟨by rfl, ?hy13⟩) (by assumption) ?rest13
          case hy13 => ((intro w hSw; (try dsimp only at hSw); (try simp only [List.getElem_toArray, List.getElem_cons_zero, List.getElem_cons_succ]); go_simp; first | done | (with_reducible rfl)))
          simp only [Act.put, List.getElem_toArray, List.getElem_cons_zero, List.getElem_cons_succ, List.setIfInBounds_toArray, List.set_cons_zero, List.set_cons_succ]
          refine wpAnyH_take (i := 4) (v := ?v14) rfl (by kernel_rfl) (by kernel_rfl) (by kernel_rfl) (fun _ _ _ h => h) (Or.inl ⟨by rfl, ?hy14⟩) (by assumption) ?rest14
          case hy14 => ((intro w hSw; (try dsimp only at hSw); (try simp only [List.getElem_toArray, List.getElem_cons_zero, List.getElem_cons_succ]); go_simp; first | done | (with_reducible rfl)))
          simp only [Act.put, List.getElem_toArray, List.getElem_cons_zero, List.getElem_cons_succ, List.setIfInBounds_toArray, List.set_cons_zero, List.set_cons_succ]
          exact LEAFD61_0 X2 g0 q0 z0 ⟨U, HRd, hq0, Z0, N0, n0⟩
        · go_simp
          have N22 := heap_alloc_new (X) Zwn
          have b2 := bal (Below.refl (X).heap.size (X)) Zwn
          have zU := U.size
          generalize hX2 : (X).alloc Zwn = X2 at N22 b2 ⊢
          have N0 := bKeeps b2 N0
          have HRd := HRd.keepB b2
          have U := U.trans (Upd.ofBelow b2)
          clear b2 hX2
          have n22 : W6.heap.size ≤ (X).heap.size := zU
          clear zU
          generalize hgg : (X).heap.size = g22 at N22 n22 ⊢
          clear hgg
          refine hK.out _ _ ?_ (fun hHeld => ?_)
          · exact ⟨updCell U C0.out (by omega), updCell U C1.out (by omega)⟩
          clear hK K
          exact LEAFD60_0_22 X2 g0 g22 ⟨U, HRd, N0, n0, N22, n22⟩
      · intro X g22 ⟨U, HRd, N22, n22⟩
        have hHeld : (fun w' => w'.cell? ⟨g5, 0, none⟩ = some (.int .i64 k.s) ∧ w'.cell? ⟨g5, 1, none⟩ = some (.int .i64 k.b)) X := ⟨updCell U C0.out (by omega), updCell U C1.out (by omega)⟩
        refine wpAnyH_ready (rs := [0, 2]) (by kernel_rfl) (by simp) ?_
        refine AllReadyH.cons rfl (fun K hK => ?_) (AllReadyH.cons rfl (fun K hK => ?_) AllReadyH.nil)
        · go_simp
          have N0 := heap_alloc_new (X) (.cells #[.int .i64 2, .int .i64 4] 3)
          have b2 := bal (Below.refl (X).heap.size (X)) (.cells #[.int .i64 2, .int .i64 4] 3)
          have zU := U.size
          generalize hX2 : (X).alloc (.cells #[.int .i64 2, .int .i64 4] 3) = X2 at N0 b2 ⊢
          have N22 := bKeeps b2 N22
          have HRd := HRd.keepB b2
          have U := U.trans (Upd.ofBelow b2)
          clear b2 hX2
          have n0 : W6.heap.size ≤ (X).heap.size := zU
          clear zU
          generalize hgg : (X).heap.size = g0 at N0 n0 ⊢
          clear hgg
          refine hK.out _ _ ?_ (fun hHeld => ?_)
          · exact ⟨updCell U C0.out (by omega), updCell U C1.out (by omega)⟩
          clear hK K
          exact LEAFD60_0_22 X2 g0 g22 ⟨U, HRd, N0, n0, N22, n22⟩
        · go_simp
          go_at_call 67
          refine (pick_any w0 _ R _ 2 HRd (by omega) (by omega) (by omega)).mono ?_
          rintro e X2 ⟨q0, rfl, hqq, HRd, u2⟩
          have N22 := u2.keeps N22 (by omega)
          have U := U.trans u2
          have hq0 : (q0 : Int) < 2 := by omega
          clear u2
          refine hK.out _ _ ?_ (fun hHeld => ?_)
          · exact ⟨updCell U C0.out (by omega), updCell U C1.out (by omega)⟩
          clear hK K
          exact LEAFD61_22 X2 g22 q0 ⟨U, HRd, hq0, N22, n22⟩
      · intro X q0 ⟨U, HRd, hq0⟩
        have hHeld : (fun w' => w'.cell? ⟨g5, 0, none⟩ = some (.int .i64 k.s) ∧ w'.cell? ⟨g5, 1, none⟩ = some (.int .i64 k.b)) X := ⟨updCell U C0.out (by omega), updCell U C1.out (by omega)⟩
        refine wpAnyH_ready (rs := [0, 6, 22]) (by kernel_rfl) (by simp) ?_
        refine AllReadyH.cons rfl (fun K hK => ?_) (AllReadyH.cons rfl (fun K hK => ?_) (AllReadyH.cons rfl (fun K hK => ?_) AllReadyH.nil))
        · go_simp
          have N0 := heap_alloc_new (X) (.cells #[.int .i64 2, .int .i64 4] 3)
          have b2 := bal (Below.refl (X).heap.size (X)) (.cells #[.int .i64 2, .int .i64 4] 3)
          have zU := U.size
          generalize hX2 : (X).alloc (.cells #[.int .i64 2, .int .i64 4] 3) = X2 at N0 b2 ⊢
          have HRd := HRd.keepB b2
          have U := U.trans (Upd.ofBelow b2)
          clear b2 hX2
          have n0 : W6.heap.size ≤ (X).heap.size := zU
          clear zU
          generalize hgg : (X).heap.size = g0 at N0 n0 ⊢
          clear hgg
          refine hK.out _ _ ?_ (fun hHeld => ?_)
          · exact ⟨updCell U C0.out (by omega), updCell U C1.out (by omega)⟩
          clear hK K
          obtain ⟨z0, hz0⟩ := lit24 q0 hq0
          have Z0 := (boxAt N0 q0).trans hz0
          clear hz0
          refine wpAnyH_strong (S' := fun w' => ((w'.cell? ⟨g5, 0, none⟩ = some (.int .i64 k.s) ∧ w'.cell? ⟨g5, 1, none⟩ = some (.int .i64 k.b)) ∧ w'.cell? ⟨g0, q0, none⟩ = some (.int .i64 z0))) (fun w h => h.1) ?_
          have hHeld := And.intro hHeld Z0
          refine wpAnyH_take (i := 3) (v := ?v15) rfl (by kernel_rfl) (by kernel_rfl) (by kernel_rfl) (fun _ _ _ h => h) (Or.inl ⟨by rfl, ?hy15⟩) (by assumption) ?rest15
          case hy15 => ((intro w hSw; (try dsimp only at hSw); (try simp only [List.getElem_toArray, List.getElem_cons_zero, List.getElem_cons_succ]); go_simp; first | done | (with_reducible rfl)))
          simp only [Act.put, List.getElem_toArray, List.getElem_cons_zero, List.getElem_cons_succ, List.setIfInBounds_toArray, List.set_cons_zero, List.set_cons_succ]
          refine wpAnyH_take (i := 4) (v := ?v16) rfl (by kernel_rfl) (by kernel_rfl) (by kernel_rfl) (fun _ _ _ h => h) (Or.inl ⟨by rfl, ?hy16⟩) (by assumption) ?rest16
          case hy16 => ((intro w hSw; (try dsimp only at hSw); (try simp only [List.getElem_toArray, List.getElem_cons_zero, List.getElem_cons_succ]); go_simp; first | done | (with_reducible rfl)))
          simp only [Act.put, List.getElem_toArray, List.getElem_cons_zero, List.getElem_cons_succ, List.setIfInBounds_toArray, List.set_cons_zero, List.set_cons_succ]
          exact LEAFD61_0 X2 g0 q0 z0 ⟨U, HRd, hq0, Z0, N0, n0⟩
        · go_simp
          go_at_call 67
          refine (pick_any w0 _ R _ 3 HRd (by omega) (by omega) (by omega)).mono ?_
          rintro e X2 ⟨q1, rfl, hqq, HRd, u2⟩
          have U := U.trans u2
          clear u2
          refine hK.out _ _ ?_ (fun hHeld => ?_)
          · exact ⟨updCell U C0.out (by omega), updCell U C1.out (by omega)⟩
          clear hK K
          exact LEAFD62 X2 q0 q1 ⟨U, HRd, hq0⟩
        · go_simp
          have N22 := heap_alloc_new (X) Zwn
          have b2 := bal (Below.refl (X).heap.size (X)) Zwn
          have zU := U.size
          generalize hX2 : (X).alloc Zwn = X2 at N22 b2 ⊢
          have HRd := HRd.keepB b2
          have U := U.trans (Upd.ofBelow b2)
          clear b2 hX2
          have n22 : W6.heap.size ≤ (X).heap.size := zU
          clear zU
          generalize hgg : (X).heap.size = g22 at N22 n22 ⊢
          clear hgg
          refine hK.out _ _ ?_ (fun hHeld => ?_)
          · exact ⟨updCell U C0.out (by omega), updCell U C1.out (by omega)⟩
          clear hK K
          exact LEAFD61_22 X2 g22 q0 ⟨U, HRd, hq0, N22, n22⟩
      · intro X g0 g22 ⟨U, HRd, N0, n0, N22, n22⟩
        have hHeld : (fun w' => w'.cell? ⟨g5, 0, none⟩ = some (.int .i64 k.s) ∧ w'.cell? ⟨g5, 1, none⟩ = some (.int .i64 k.b)) X := ⟨updCell U C0.out (by omega), updCell U C1.out (by omega)⟩
        refine wpAnyH_ready (rs := [2]) (by kernel_rfl) (by simp) ?_
        refine AllReadyH.cons rfl (fun K hK => ?_) AllReadyH.nil
        go_simp
        go_at_call 67
        refine (pick_any w0 _ R _ 2 HRd (by omega) (by omega) (by omega)).mono ?_
        rintro e X2 ⟨q0, rfl, hqq, HRd, u2⟩
        have N0 := u2.keeps N0 (by omega)
        have N22 := u2.keeps N22 (by omega)
        have U := U.trans u2
        have hq0 : (q0 : Int) < 2 := by omega
        clear u2
        refine hK.out _ _ ?_ (fun hHeld => ?_)
        · exact ⟨updCell U C0.out (by omega), updCell U C1.out (by omega)⟩
        clear hK K
        obtain ⟨z0, hz0⟩ := lit24 q0 hq0
        have Z0 := (boxAt N0 q0).trans hz0
        clear hz0
        refine wpAnyH_strong (S' := fun w' => ((w'.cell? ⟨g5, 0, none⟩ = some (.int .i64 k.s) ∧ w'.cell? ⟨g5, 1, none⟩ = some (.int .i64 k.b)) ∧ w'.cell? ⟨g0, q0, none⟩ = some (.int .i64 z0))) (fun w h => h.1) ?_
        have hHeld := And.intro hHeld Z0
        refine wpAnyH_take (i := 3) (v := ?v17) rfl (by kernel_rfl) (by kernel_rfl) (by kernel_rfl) (fun _ _ _ h => h) (Or.inl ⟨by rfl, ?hy17⟩) (by assumption) ?rest17
        case hy17 => ((intro w hSw; (try dsimp only at hSw); (try simp only [List.getElem_toArray, List.getElem_cons_zero, List.getElem_cons_succ]); go_simp; first | done | (with_reducible rfl)))
        simp only [Act.put, List.getElem_toArray, List.getElem_cons_zero, List.getElem_cons_succ, List.setIfInBounds_toArray, List.set_cons_zero, List.set_cons_succ]
        refine wpAnyH_take (i := 4) (v := ?v18) rfl (by kernel_rfl) (by kernel_rfl) (by kernel_rfl) (fun _ _ _ h => h) (Or.inl ⟨by rfl, ?hy18⟩) (by assumption) ?rest18
        case hy18 => ((intro w hSw; (try dsimp only at hSw); (try simp only [List.getElem_toArray, List.getElem_cons_zero, List.getElem_cons_succ]); go_simp; first | done | (with_reducible rfl)))
        simp only [Act.put, List.getElem_toArray, List.getElem_cons_zero, List.getElem_cons_succ, List.setIfInBounds_toArray, List.set_cons_zero, List.set_cons_succ]
        exact LEAFD61_0_22 X2 g0 g22 q0 z0 ⟨U, HRd, hq0, Z0, N0, n0, N22, n22⟩
      · intro X g0 q0 z0 ⟨U, HRd, hq0, Z0, N0, n0⟩
        have hHeld : (fun w' => ((w'.cell? ⟨g5, 0, none⟩ = some (.int .i64 k.s) ∧ w'.cell? ⟨g5, 1, none⟩ = some (.int .i64 k.b)) ∧ w'.cell? ⟨g0, q0, none⟩ = some (.int .i64 z0))) X := ⟨⟨updCell U C0.out (by omega), updCell U C1.out (by omega)⟩, Z0⟩
        refine wpAnyH_ready (rs := [6, 22]) (by kernel_rfl) (by simp) ?_
        refine AllReadyH.cons rfl (fun K hK => ?_) (AllReadyH.cons rfl (fun K hK => ?_) AllReadyH.nil)
        · go_simp
          go_at_call 67
          refine (pick_any w0 _ R _ 3 HRd (by omega) (by omega) (by omega)).mono ?_
          rintro e X2 ⟨q1, rfl, hqq, HRd, u2⟩
          have Z0 := updCell u2 Z0 (by omega)
          have N0 := u2.keeps N0 (by omega)
          have U := U.trans u2
          clear u2
          refine hK.out _ _ ?_ (fun hHeld => ?_)
          · exact ⟨⟨updCell U C0.out (by omega), updCell U C1.out (by omega)⟩, Z0⟩
          clear hK K
          exact LEAFD62_0 X2 g0 q0 q1 z0 ⟨U, HRd, hq0, Z0, N0, n0⟩
        · go_simp
          have N22 := heap_alloc_new (X) Zwn
          have b2 := bal (Below.refl (X).heap.size (X)) Zwn
          have zU := U.size
          generalize hX2 : (X).alloc Zwn = X2 at N22 b2 ⊢
          have Z0 := updCell (Upd.ofBelow (S := fun _ => False) b2) Z0 (fun h => h)
          have N0 := bKeeps b2 N0
          have HRd := HRd.keepB b2
          have U := U.trans (Upd.ofBelow b2)
          clear b2 hX2
          have n22 : W6.heap.size ≤ (X).heap.size := zU
          clear zU
          generalize hgg : (X).heap.size = g22 at N22 n22 ⊢
          clear hgg
          refine hK.out _ _ ?_ (fun hHeld => ?_)
          · exact ⟨⟨updCell U C0.out (by omega), updCell U C1.out (by omega)⟩, Z0⟩
          clear hK K
          exact LEAFD61_0_22 X2 g0 g22 q0 z0 ⟨U, HRd, hq0, Z0, N0, n0, N22, n22⟩
      · intro X g22 q0 ⟨U, HRd, hq0, N22, n22⟩
        have hHeld : (fun w' => w'.cell? ⟨g5, 0, none⟩ = some (.int .i64 k.s) ∧ w'.cell? ⟨g5, 1, none⟩ = some (.int .i64 k.b)) X := ⟨updCell U C0.out (by omega), updCell U C1.out (by omega)⟩
        refine wpAnyH_ready (rs := [0, 6]) (by kernel_rfl) (by simp) ?_
        refine AllReadyH.cons rfl (fun K hK => ?_) (AllReadyH.cons rfl (fun K hK => ?_) AllReadyH.nil)
        · go_simp
          have N0 := heap_alloc_new (X) (.cells #[.int .i64 2, .int .i64 4] 3)
          have b2 := bal (Below.refl (X).heap.size (X)) (.cells #[.int .i64 2, .int .i64 4] 3)
          have zU := U.size
          generalize hX2 : (X).alloc (.cells #[.int .i64 2, .int .i64 4] 3) = X2 at N0 b2 ⊢
          have N22 := bKeeps b2 N22
          have HRd := HRd.keepB b2
          have U := U.trans (Upd.ofBelow b2)
          clear b2 hX2
          have n0 : W6.heap.size ≤ (X).heap.size := zU
          clear zU
          generalize hgg : (X).heap.size = g0 at N0 n0 ⊢
          clear hgg
          refine hK.out _ _ ?_ (fun hHeld => ?_)
          · exact ⟨updCell U C0.out (by omega), updCell U C1.out (by omega)⟩
          clear hK K
          obtain ⟨z0, hz0⟩ := lit24 q0 hq0
          have Z0 := (boxAt N0 q0).trans hz0
          clear hz0
          refine wpAnyH_strong (S' := fun w' => ((w'.cell? ⟨g5, 0, none⟩ = some (.int .i64 k.s) ∧ w'.cell? ⟨g5, 1, none⟩ = some (.int .i64 k.b)) ∧ w'.cell? ⟨g0, q0, none⟩ = some (.int .i64 z0))) (fun w h => h.1) ?_
          have hHeld := And.intro hHeld Z0
          refine wpAnyH_take (i := 3) (v := ?v19) rfl (by kernel_rfl) (by kernel_rfl) (by kernel_rfl) (fun _ _ _ h => h) (Or.inl ⟨by rfl, ?hy19⟩) (by assumption) ?rest19
          case hy19 => ((intro w hSw; (try dsimp only at hSw); (try simp only [List.getElem_toArray, List.getElem_cons_zero, List.getElem_cons_succ]); go_simp; first | done | (with_reducible rfl)))
          simp only [Act.put, List.getElem_toArray, List.getElem_cons_zero, List.getElem_cons_succ, List.setIfInBounds_toArray, List.set_cons_zero, List.set_cons_succ]
          refine wpAnyH_take (i := 4) (v := ?v20) rfl (by kernel_rfl) (by kernel_rfl) (by kernel_rfl) (fun _ _ _ h => h) (Or.inl ⟨by rfl, ?hy20⟩) (by assumption) ?rest20
          case hy20 => ((intro w hSw; (try dsimp only at hSw); (try simp only [List.getElem_toArray, List.getElem_cons_zero, List.getElem_cons_succ]); go_simp; first | done | (with_reducible rfl)))
          simp only [Act.put, List.getElem_toArray, List.getElem_cons_zero, List.getElem_cons_succ, List.setIfInBounds_toArray, List.set_cons_zero, List.set_cons_succ]
          exact LEAFD61_0_22 X2 g0 g22 q0 z0 ⟨U, HRd, hq0, Z0, N0, n0, N22, n22⟩
        · go_simp
          go_at_call 67
          refine (pick_any w0 _ R _ 3 HRd (by omega) (by omega) (by omega)).mono ?_
          rintro e X2 ⟨q1, rfl, hqq, HRd, u2⟩
          have N22 := u2.keeps N22 (by omega)
          have U := U.trans u2
          clear u2
          refine hK.out _ _ ?_ (fun hHeld => ?_)
          · exact ⟨updCell U C0.out (by omega), updCell U C1.out (by omega)⟩
          clear hK K
          exact LEAFD62_22 X2 g22 q0 q1 ⟨U, HRd, hq0, N22, n22⟩
      · intro X q0 q1 ⟨U, HRd, hq0⟩
        have hHeld : (fun w' => w'.cell? ⟨g5, 0, none⟩ = some (.int .i64 k.s) ∧ w'.cell? ⟨g5, 1, none⟩ = some (.int .i64 k.b)) X := ⟨updCell U C0.out (by omega), updCell U C1.out (by omega)⟩
        refine wpAnyH_ready (rs := [0, 13, 22]) (by kernel_rfl) (by simp) ?_
        refine AllReadyH.cons rfl (fun K hK => ?_) (AllReadyH.cons rfl (fun K hK => ?_) (AllReadyH.cons rfl (fun K hK => ?_) AllReadyH.nil))
        · go_simp
          have N0 := heap_alloc_new (X) (.cells #[.int .i64 2, .int .i64 4] 3)
          have b2 := bal (Below.refl (X).heap.size (X)) (.cells #[.int .i64 2, .int .i64 4] 3)
          have zU := U.size
          generalize hX2 : (X).alloc (.cells #[.int .i64 2, .int .i64 4] 3) = X2 at N0 b2 ⊢
          have HRd := HRd.keepB b2
          have U := U.trans (Upd.ofBelow b2)
          clear b2 hX2
          have n0 : W6.heap.size ≤ (X).heap.size := zU
          clear zU
          generalize hgg : (X).heap.size = g0 at N0 n0 ⊢
          clear hgg
          refine hK.out _ _ ?_ (fun hHeld => ?_)
          · exact ⟨updCell U C0.out (by omega), updCell U C1.out (by omega)⟩
          clear hK K
          obtain ⟨z0, hz0⟩ := lit24 q0 hq0
          have Z0 := (boxAt N0 q0).trans hz0
          clear hz0
          refine wpAnyH_strong (S' := fun w' => ((w'.cell? ⟨g5, 0, none⟩ = some (.int .i64 k.s) ∧ w'.cell? ⟨g5, 1, none⟩ = some (.int .i64 k.b)) ∧ w'.cell? ⟨g0, q0, none⟩ = some (.int .i64 z0))) (fun w h => h.1) ?_
          have hHeld := And.intro hHeld Z0
          refine wpAnyH_take (i := 3) (v := ?v21) rfl (by kernel_rfl) (by kernel_rfl) (by kernel_rfl) (fun _ _ _ h => h) (Or.inl ⟨by rfl, ?hy21⟩) (by assumption) ?rest21
          case hy21 => ((intro w hSw; (try dsimp only at hSw); (try simp only [List.getElem_toArray, List.getElem_cons_zero, List.getElem_cons_succ]); go_simp; first | done | (with_reducible rfl)))
          simp only [Act.put, List.getElem_toArray, List.getElem_cons_zero, List.getElem_cons_succ, List.setIfInBounds_toArray, List.set_cons_zero, List.set_cons_succ]
          refine wpAnyH_take (i := 4) (v := ?v22) rfl (by kernel_rfl) (by kernel_rfl) (by kernel_rfl) (fun _ _ _ h => h) (Or.inl ⟨by rfl, ?hy22⟩) (by assumption) ?rest22
          case hy22 => ((intro w hSw; (try dsimp only at hSw); (try simp only [List.getElem_toArray, List.getElem_cons_zero, List.getElem_cons_succ]); go_simp; first | done | (with_reducible rfl)))
          simp only [Act.put, List.getElem_toArray, List.getElem_cons_zero, List.getElem_cons_succ, List.setIfInBounds_toArray, List.set_cons_zero, List.set_cons_succ]
          exact LEAFD62_0 X2 g0 q0 q1 z0 ⟨U, HRd, hq0, Z0, N0, n0⟩
        · go_simp
          go_at_call 67
          refine (pick_any w0 _ R _ 2 HRd (by omega) (by omega) (by omega)).mono ?_
          rintro e X2 ⟨q2, rfl, hqq, HRd, u2⟩
          have U := U.trans u2
          clear u2
          refine hK.out _ _ ?_ (fun hHeld => ?_)
          · exact ⟨updCell U C0.out (by omega), updCell U C1.out (by omega)⟩
          clear hK K
          exact LEAFD63 X2 q0 q1 q2 ⟨U, HRd, hq0⟩
        · go_simp
          have N22 := heap_alloc_new (X) Zwn
          have b2 := bal (Below.refl (X).heap.size (X)) Zwn
          have zU := U.size
          generalize hX2 : (X).alloc Zwn = X2 at N22 b2 ⊢
          have HRd := HRd.keepB b2
          have U := U.trans (Upd.ofBelow b2)
          clear b2 hX2
          have n22 : W6.heap.size ≤ (X).heap.size := zU
          clear zU
          generalize hgg : (X).heap.size = g22 at N22 n22 ⊢
          clear hgg
          refine hK.out _ _ ?_ (fun hHeld => ?_)
          · exact ⟨updCell U C0.out (by omega), updCell U C1.out (by omega)⟩
          clear hK K
          exact LEAFD62_22 X2 g22 q0 q1 ⟨U, HRd, hq0, N22, n22⟩
      · intro X g0 g22 q0 z0 ⟨U, HRd, hq0, Z0, N0, n0, N22, n22⟩
        have hHeld : (fun w' => ((w'.cell? ⟨g5, 0, none⟩ = some (.int .i64 k.s) ∧ w'.cell? ⟨g5, 1, none⟩ = some (.int .i64 k.b)) ∧ w'.cell? ⟨g0, q0, none⟩ = some (.int .i64 z0))) X := ⟨⟨updCell U C0.out (by omega), updCell U C1.out (by omega)⟩, Z0⟩
        refine wpAnyH_ready (rs := [6]) (by kernel_rfl) (by simp) ?_
        refine AllReadyH.cons rfl (fun K hK => ?_) AllReadyH.nil
        go_simp
        go_at_call 67
        refine (pick_any w0 _ R _ 3 HRd (by omega) (by omega) (by omega)).mono ?_
        rintro e X2 ⟨q1, rfl, hqq, HRd, u2⟩
        have Z0 := updCell u2 Z0 (by omega)
        have N0 := u2.keeps N0 (by omega)
        have N22 := u2.keeps N22 (by omega)
        have U := U.trans u2
        clear u2
        refine hK.out _ _ ?_ (fun hHeld => ?_)
        · exact ⟨⟨updCell U C0.out (by omega), updCell U C1.out (by omega)⟩, Z0⟩
        clear hK K
        exact LEAFD62_0_22 X2 g0 g22 q0 q1 z0 ⟨U, HRd, hq0, Z0, N0, n0, N22, n22⟩
      · intro X g0 q0 q1 z0 ⟨U, HRd, hq0, Z0, N0, n0⟩
        have hHeld : (fun w' => ((w'.cell? ⟨g5, 0, none⟩ = some (.int .i64 k.s) ∧ w'.cell? ⟨g5, 1, none⟩ = some (.int .i64 k.b)) ∧ w'.cell? ⟨g0, q0, none⟩ = some (.int .i64 z0))) X := ⟨⟨updCell U C0.out (by omega), updCell U C1.out (by omega)⟩, Z0⟩
        refine wpAnyH_ready (rs := [13, 22]) (by kernel_rfl) (by simp) ?_
        refine AllReadyH.cons rfl (fun K hK => ?_) (AllReadyH.cons rfl (fun K hK => ?_) AllReadyH.nil)
        · go_simp
          go_at_call 67
          refine (pick_any w0 _ R _ 2 HRd (by omega) (by omega) (by omega)).mono ?_
          rintro e X2 ⟨q2, rfl, hqq, HRd, u2⟩
          have Z0 := updCell u2 Z0 (by omega)
          have N0 := u2.keeps N0 (by omega)
          have U := U.trans u2
          clear u2
          refine hK.out _ _ ?_ (fun hHeld => ?_)
          · exact ⟨⟨updCell U C0.out (by omega), updCell U C1.out (by omega)⟩, Z0⟩
          clear hK K
          exact LEAFD63_0 X2 g0 q0 q1 q2 z0 ⟨U, HRd, hq0, Z0, N0, n0⟩
        · go_simp
          have N22 := heap_alloc_new (X) Zwn
          have b2 := bal (Below.refl (X).heap.size (X)) Zwn
          have zU := U.size
          generalize hX2 : (X).alloc Zwn = X2 at N22 b2 ⊢
          have Z0 := updCell (Upd.ofBelow (S := fun _ => False) b2) Z0 (fun h => h)
          have N0 := bKeeps b2 N0
          have HRd := HRd.keepB b2
          have U := U.trans (Upd.ofBelow b2)
          clear b2 hX2
          have n22 : W6.heap.size ≤ (X).heap.size := zU
          clear zU
          generalize hgg : (X).heap.size = g22 at N22 n22 ⊢
          clear hgg
          refine hK.out _ _ ?_ (fun hHeld => ?_)
          · exact ⟨⟨updCell U C0.out (by omega), updCell U C1.out (by omega)⟩, Z0⟩
          clear hK K
          exact LEAFD62_0_22 X2 g0 g22 q0 q1 z0 ⟨U, HRd, hq0, Z0, N0, n0, N22, n22⟩
      · intro X g22 q0 q1 ⟨U, HRd, hq0, N22, n22⟩
        have hHeld : (fun w' => w'.cell? ⟨g5, 0, none⟩ = some (.int .i64 k.s) ∧ w'.cell? ⟨g5, 1, none⟩ = some (.int .i64 k.b)) X := ⟨updCell U C0.out (by omega), updCell U C1.out (by omega)⟩
        refine wpAnyH_ready (rs := [0, 13]) (by kernel_rfl) (by simp) ?_
        refine AllReadyH.cons rfl (fun K hK => ?_) (AllReadyH.cons rfl (fun K hK => ?_) AllReadyH.nil)
        · go_simp
          have N0 := heap_alloc_new (X) (.cells #[.int .i64 2, .int .i64 4] 3)
          have b2 := bal (Below.refl (X).heap.size (X)) (.cells #[.int .i64 2, .int .i64 4] 3)
          have zU := U.size
          generalize hX2 : (X).alloc (.cells #[.int .i64 2, .int .i64 4] 3) = X2 at N0 b2 ⊢
          have N22 := bKeeps b2 N22
          have HRd := HRd.keepB b2
          have U := U.trans (Upd.ofBelow b2)
          clear b2 hX2
          have n0 : W6.heap.size ≤ (X).heap.size := zU
          clear zU
          generalize hgg : (X).heap.size = g0 at N0 n0 ⊢
          clear hgg
          refine hK.out _ _ ?_ (fun hHeld => ?_)
          · exact ⟨updCell U C0.out (by omega), updCell U C1.out (by omega)⟩
          clear hK K
          obtain ⟨z0, hz0⟩ := lit24 q0 hq0
          have Z0 := (boxAt N0 q0).trans hz0
          clear hz0
          refine wpAnyH_strong (S' := fun w' => ((w'.cell? ⟨g5, 0, none⟩ = some (.int .i64 k.s) ∧ w'.cell? ⟨g5, 1, none⟩ = some (.int .i64 k.b)) ∧ w'.cell? ⟨g0, q0, none⟩ = some (.int .i64 z0))) (fun w h => h.1) ?_
          have hHeld := And.intro hHeld Z0
          refine wpAnyH_take (i := 3) (v := ?v23) rfl (by kernel_rfl) (by kernel_rfl) (by kernel_rfl) (fun _ _ _ h => h) (Or.inl ⟨by rfl, ?hy23⟩) (by assumption) ?rest23
          case hy23 => ((intro w hSw; (try dsimp only at hSw); (try simp only [List.getElem_toArray, List.getElem_cons_zero, List.getElem_cons_succ]); go_simp; first | done | (with_reducible rfl)))
          simp only [Act.put, List.getElem_toArray, List.getElem_cons_zero, List.getElem_cons_succ, List.setIfInBounds_toArray, List.set_cons_zero, List.set_cons_succ]
          refine wpAnyH_take (i := 4) (v := ?v24) rfl (by kernel_rfl) (by kernel_rfl) (by kernel_rfl) (fun _ _ _ h => h) (Or.inl ⟨by rfl, ?hy24⟩) (by assumption) ?rest24
          case hy24 => ((intro w hSw; (try dsimp only at hSw); (try simp only [List.getElem_toArray, List.getElem_cons_zero, List.getElem_cons_succ]); go_simp; first | done | (with_reducible rfl)))
          simp only [Act.put, List.getElem_toArray, List.getElem_cons_zero, List.getElem_cons_succ, List.setIfInBounds_toArray, List.set_cons_zero, List.set_cons_succ]
          exact LEAFD62_0_22 X2 g0 g22 q0 q1 z0 ⟨U, HRd, hq0, Z0, N0, n0, N22, n22⟩
        · go_simp
          go_at_call 67
          refine (pick_any w0 _ R _ 2 HRd (by omega) (by omega) (by omega)).mono ?_
          rintro e X2 ⟨q2, rfl, hqq, HRd, u2⟩
          have N22 := u2.keeps N22 (by omega)
          have U := U.trans u2
          clear u2
          refine hK.out _ _ ?_ (fun hHeld => ?_)
          · exact ⟨updCell U C0.out (by omega), updCell U C1.out (by omega)⟩
          clear hK K
          exact LEAFD63_22 X2 g22 q0 q1 q2 ⟨U, HRd, hq0, N22, n22⟩
      · intro X q0 q1 q2 ⟨U, HRd, hq0⟩
        have hHeld : (fun w' => w'.cell? ⟨g5, 0, none⟩ = some (.int .i64 k.s) ∧ w'.cell? ⟨g5, 1, none⟩ = some (.int .i64 k.b)) X := ⟨updCell U C0.out (by omega), updCell U C1.out (by omega)⟩
        refine wpAnyH_ready (rs := [0, 17, 22]) (by kernel_rfl) (by simp) ?_
        refine AllReadyH.cons rfl (fun K hK => ?_) (AllReadyH.cons rfl (fun K hK => ?_) (AllReadyH.cons rfl (fun K hK => ?_) AllReadyH.nil))
        · go_simp
          have N0 := heap_alloc_new (X) (.cells #[.int .i64 2, .int .i64 4] 3)
          have b2 := bal (Below.refl (X).heap.size (X)) (.cells #[.int .i64 2, .int .i64 4] 3)
          have zU := U.size
          generalize hX2 : (X).alloc (.cells #[.int .i64 2, .int .i64 4] 3) = X2 at N0 b2 ⊢
          have HRd := HRd.keepB b2
          have U := U.trans (Upd.ofBelow b2)
          clear b2 hX2
          have n0 : W6.heap.size ≤ (X).heap.size := zU
          clear zU
          generalize hgg : (X).heap.size = g0 at N0 n0 ⊢
          clear hgg
          refine hK.out _ _ ?_ (fun hHeld => ?_)
          · exact ⟨updCell U C0.out (by omega), updCell U C1.out (by omega)⟩
          clear hK K
          obtain ⟨z0, hz0⟩ := lit24 q0 hq0
          have Z0 := (boxAt N0 q0).trans hz0
          clear hz0
          refine wpAnyH_strong (S' := fun w' => ((w'.cell? ⟨g5, 0, none⟩ = some (.int .i64 k.s) ∧ w'.cell? ⟨g5, 1, none⟩ = some (.int .i64 k.b)) ∧ w'.cell? ⟨g0, q0, none⟩ = some (.int .i64 z0))) (fun w h => h.1) ?_
          have hHeld := And.intro hHeld Z0
          refine wpAnyH_take (i := 3) (v := ?v25) rfl (by kernel_rfl) (by kernel_rfl) (by kernel_rfl) (fun _ _ _ h => h) (Or.inl ⟨by rfl, ?hy25⟩) (by assumption) ?rest25
          case hy25 => ((intro w hSw; (try dsimp only at hSw); (try simp only [List.getElem_toArray, List.getElem_cons_zero, List.getElem_cons_succ]); go_simp; first | done | (with_reducible rfl)))
          simp only [Act.put, List.getElem_toArray, List.getElem_cons_zero, List.getElem_cons_succ, List.setIfInBounds_toArray, List.set_cons_zero, List.set_cons_succ]
          refine wpAnyH_take (i := 4) (v := ?v26) rfl (by kernel_rfl) (by kernel_rfl) (by kernel_rfl) (fun _ _ _ h => h) (Or.inl ⟨by rfl, ?hy26⟩) (by assumption) ?rest26
          case hy26 => ((intro w hSw; (try dsimp only at hSw); (try simp only [List.getElem_toArray, List.getElem_cons_zero, List.getElem_cons_succ]); go_simp; first | done | (with_reducible rfl)))
          simp only [Act.put, List.getElem_toArray, List.getElem_cons_zero, List.getElem_cons_succ, List.setIfInBounds_toArray, List.set_cons_zero, List.set_cons_succ]
          exact LEAFD63_0 X2 g0 q0 q1 q2 z0 ⟨U, HRd, hq0, Z0, N0, n0⟩
        · go_simp
          go_at_call 67
          refine (pick_anyI w0 _ R _ _ HRd hkb1 hkb2 (by omega)).mono ?_
          rintro e X2 ⟨q3, rfl, hqq, HRd, u2⟩
          have U := U.trans u2
          clear u2
          refine hK.out _ _ ?_ (fun hHeld => ?_)
          · exact ⟨updCell U C0.out (by omega), updCell U C1.out (by omega)⟩
          clear hK K
          refine wpAnyH_take (i := 18) (v := ?v27) rfl (by kernel_rfl) (by kernel_rfl) (by kernel_rfl) (fun _ _ _ h => h) (Or.inl ⟨by rfl, ?y27⟩) (by assumption) ?r27
          case y27 => (intro w hSw; go_simp; first | done | (with_reducible rfl))
          simp only [Act.put, List.getElem_toArray, List.getElem_cons_zero, List.getElem_cons_succ, List.setIfInBounds_toArray, List.set_cons_zero, List.set_cons_succ]
          exact LEAFD64 X2 q0 q1 q2 q3 ⟨U, HRd, hq0⟩
        · go_simp
          have N22 := heap_alloc_new (X) Zwn
          have b2 := bal (Below.refl (X).heap.size (X)) Zwn
          have zU := U.size
          generalize hX2 : (X).alloc Zwn = X2 at N22 b2 ⊢
          have HRd := HRd.keepB b2
          have U := U.trans (Upd.ofBelow b2)
          clear b2 hX2
          have n22 : W6.heap.size ≤ (X).heap.size := zU
          clear zU
          generalize hgg : (X).heap.size = g22 at N22 n22 ⊢
          clear hgg
          refine hK.out _ _ ?_ (fun hHeld => ?_)
          · exact ⟨updCell U C0.out (by omega), updCell U C1.out (by omega)⟩
          clear hK K
          exact LEAFD63_22 X2 g22 q0 q1 q2 ⟨U, HRd, hq0, N22, n22⟩
      · intro X g0 g22 q0 q1 z0 ⟨U, HRd, hq0, Z0, N0, n0, N22, n22⟩
        have hHeld : (fun w' => ((w'.cell? ⟨g5, 0, none⟩ = some (.int .i64 k.s) ∧ w'.cell? ⟨g5, 1, none⟩ = some (.int .i64 k.b)) ∧ w'.cell? ⟨g0, q0, none⟩ = some (.int .i64 z0))) X := ⟨⟨updCell U C0.out (by omega), updCell U C1.out (by omega)⟩, Z0⟩
        refine wpAnyH_ready (rs := [13]) (by kernel_rfl) (by simp) ?_
        refine AllReadyH.cons rfl (fun K hK => ?_) AllReadyH.nil
        go_simp
        go_at_call 67
        refine (pick_any w0 _ R _ 2 HRd (by omega) (by omega) (by omega)).mono ?_
        rintro e X2 ⟨q2, rfl, hqq, HRd, u2⟩
        have Z0 := updCell u2 Z0 (by omega)
        have N0 := u2.keeps N0 (by omega)
        have N22 := u2.keeps N22 (by omega)
        have U := U.trans u2
        clear u2
        refine hK.out _ _ ?_ (fun hHeld => ?_)
        · exact ⟨⟨updCell U C0.out (by omega), updCell U C1.out (by omega)⟩, Z0⟩
        clear hK K
        exact LEAFD63_0_22 X2 g0 g22 q0 q1 q2 z0 ⟨U, HRd, hq0, Z0, N0, n0, N22, n22⟩
      · intro X g0 q0 q1 q2 z0 ⟨U, HRd, hq0, Z0, N0, n0⟩
        have hHeld : (fun w' => ((w'.cell? ⟨g5, 0, none⟩ = some (.int .i64 k.s) ∧ w'.cell? ⟨g5, 1, none⟩ = some (.int .i64 k.b)) ∧ w'.cell? ⟨g0, q0, none⟩ = some (.int .i64 z0))) X := ⟨⟨updCell U C0.out (by omega), updCell U C1.out (by omega)⟩, Z0⟩
        refine wpAnyH_ready (rs := [17, 22]) (by kernel_rfl) (by simp) ?_
        refine AllReadyH.cons rfl (fun K hK => ?_) (AllReadyH.cons rfl (fun K hK => ?_) AllReadyH.nil)
        · go_simp
          go_at_call 67
          refine (pick_anyI w0 _ R _ _ HRd hkb1 hkb2 (by omega)).mono ?_
          rintro e X2 ⟨q3, rfl, hqq, HRd, u2⟩
          have Z0 := updCell u2 Z0 (by omega)
          have N0 := u2.keeps N0 (by omega)
          have U := U.trans u2
          clear u2
          refine hK.out _ _ ?_ (fun hHeld => ?_)
          · exact ⟨⟨updCell U C0.out (by omega), updCell U C1.out (by omega)⟩, Z0⟩
          clear hK K
          refine wpAnyH_take (i := 18) (v := ?v28) rfl (by kernel_rfl) (by kernel_rfl) (by kernel_rfl) (fun _ _ _ h => h) (Or.inl ⟨by rfl, ?y28⟩) (by assumption) ?r28
          case y28 => (intro w hSw; go_simp; first | done | (with_reducible rfl))
          simp only [Act.put, List.getElem_toArray, List.getElem_cons_zero, List.getElem_cons_succ, List.setIfInBounds_toArray, List.set_cons_zero, List.set_cons_succ]
          exact LEAFD64_0 X2 g0 q0 q1 q2 q3 z0 ⟨U, HRd, hq0, Z0, N0, n0⟩
        · go_simp
          have N22 := heap_alloc_new (X) Zwn
          have b2 := bal (Below.refl (X).heap.size (X)) Zwn
          have zU := U.size
          generalize hX2 : (X).alloc Zwn = X2 at N22 b2 ⊢
          have Z0 := updCell (Upd.ofBelow (S := fun _ => False) b2) Z0 (fun h => h)
          have N0 := bKeeps b2 N0
          have HRd := HRd.keepB b2
          have U := U.trans (Upd.ofBelow b2)
          clear b2 hX2
          have n22 : W6.heap.size ≤ (X).heap.size := zU
          clear zU
          generalize hgg : (X).heap.size = g22 at N22 n22 ⊢
          clear hgg
          refine hK.out _ _ ?_ (fun hHeld => ?_)
          · exact ⟨⟨updCell U C0.out (by omega), updCell U C1.out (by omega)⟩, Z0⟩
          clear hK K
          exact LEAFD63_0_22 X2 g0 g22 q0 q1 q2 z0 ⟨U, HRd, hq0, Z0, N0, n0, N22, n22⟩
      · intro X g22 q0 q1 q2 ⟨U, HRd, hq0, N22, n22⟩
        have hHeld : (fun w' => w'.cell? ⟨g5, 0, none⟩ = some (.int .i64 k.s) ∧ w'.cell? ⟨g5, 1, none⟩ = some (.int .i64 k.b)) X := ⟨updCell U C0.out (by omega), updCell U C1.out (by omega)⟩
        refine wpAnyH_ready (rs := [0, 17]) (by kernel_rfl) (by simp) ?_
        refine AllReadyH.cons rfl (fun K hK => ?_) (AllReadyH.cons rfl (fun K hK => ?_) AllReadyH.nil)
        · go_simp
          have N0 := heap_alloc_new (X) (.cells #[.int .i64 2, .int .i64 4] 3)
          have b2 := bal (Below.refl (X).heap.size (X)) (.cells #[.int .i64 2, .int .i64 4] 3)
          have zU := U.size
          generalize hX2 : (X).alloc (.cells #[.int .i64 2, .int .i64 4] 3) = X2 at N0 b2 ⊢
          have N22 := bKeeps b2 N22
          have HRd := HRd.keepB b2
          have U := U.trans (Upd.ofBelow b2)
          clear b2 hX2
          have n0 : W6.heap.size ≤ (X).heap.size := zU
          clear zU
          generalize hgg : (X).heap.size = g0 at N0 n0 ⊢
          clear hgg
          refine hK.out _ _ ?_ (fun hHeld => ?_)
          · exact ⟨updCell U C0.out (by omega), updCell U C1.out (by omega)⟩
          clear hK K
          obtain ⟨z0, hz0⟩ := lit24 q0 hq0
          have Z0 := (boxAt N0 q0).trans hz0
          clear hz0
          refine wpAnyH_strong (S' := fun w' => ((w'.cell? ⟨g5, 0, none⟩ = some (.int .i64 k.s) ∧ w'.cell? ⟨g5, 1, none⟩ = some (.int .i64 k.b)) ∧ w'.cell? ⟨g0, q0, none⟩ = some (.int .i64 z0))) (fun w h => h.1) ?_
          have hHeld := And.intro hHeld Z0
          refine wpAnyH_take (i := 3) (v := ?v29) rfl (by kernel_rfl) (by kernel_rfl) (by kernel_rfl) (fun _ _ _ h => h) (Or.inl ⟨by rfl, ?hy29⟩) (by assumption) ?rest29
          case hy29 => ((intro w hSw; (try dsimp only at hSw); (try simp only [List.getElem_toArray, List.getElem_cons_zero, List.getElem_cons_succ]); go_simp; first | done | (with_reducible rfl)))
          simp only [Act.put, List.getElem_toArray, List.getElem_cons_zero, List.getElem_cons_succ, List.setIfInBounds_toArray, List.set_cons_zero, List.set_cons_succ]
          refine wpAnyH_take (i := 4) (v := ?v30) rfl (by kernel_rfl) (by kernel_rfl) (by kernel_rfl) (fun _ _ _ h => h) (Or.inl ⟨by rfl, ?hy30⟩) (by assumption) ?rest30
          case hy30 => ((intro w hSw; (try dsimp only at hSw); (try simp only [List.getElem_toArray, List.getElem_cons_zero, List.getElem_cons_succ]); go_simp; first | done | (with_reducible rfl)))
          simp only [Act.put, List.getElem_toArray, List.getElem_cons_zero, List.getElem_cons_succ, List.setIfInBounds_toArray, List.set_cons_zero, List.set_cons_succ]
          exact LEAFD63_0_22 X2 g0 g22 q0 q1 q2 z0 ⟨U, HRd, hq0, Z0, N0, n0, N22, n22⟩
        · go_simp
          go_at_call 67
          refine (pick_anyI w0 _ R _ _ HRd hkb1 hkb2 (by omega)).mono ?_
          rintro e X2 ⟨q3, rfl, hqq, HRd, u2⟩
          have N22 := u2.keeps N22 (by omega)
          have U := U.trans u2
          clear u2
          refine hK.out _ _ ?_ (fun hHeld => ?_)
          · exact ⟨updCell U C0.out (by omega), updCell U C1.out (by omega)⟩
          clear hK K
          refine wpAnyH_take (i := 18) (v := ?v31) rfl (by kernel_rfl) (by kernel_rfl) (by kernel_rfl) (fun _ _ _ h => h) (Or.inl ⟨by rfl, ?y31⟩) (by assumption) ?r31
          case y31 => (intro w hSw; go_simp; first | done | (with_reducible rfl))
          simp only [Act.put, List.getElem_toArray, List.getElem_cons_zero, List.getElem_cons_succ, List.setIfInBounds_toArray, List.set_cons_zero, List.set_cons_succ]
          exact LEAFD64_22 X2 g22 q0 q1 q2 q3 ⟨U, HRd, hq0, N22, n22⟩
      · intro X q0 q1 q2 q3 ⟨U, HRd, hq0⟩
        have hHeld : (fun w' => w'.cell? ⟨g5, 0, none⟩ = some (.int .i64 k.s) ∧ w'.cell? ⟨g5, 1, none⟩ = some (.int .i64 k.b)) X := ⟨updCell U C0.out (by omega), updCell U C1.out (by omega)⟩
        refine wpAnyH_ready (rs := [0, 20, 22]) (by kernel_rfl) (by simp) ?_
        refine AllReadyH.cons rfl (fun K hK => ?_) (AllReadyH.cons rfl (fun K hK => ?_) (AllReadyH.cons rfl (fun K hK => ?_) AllReadyH.nil))
        · go_simp
          have N0 := heap_alloc_new (X) (.cells #[.int .i64 2, .int .i64 4] 3)
          have b2 := bal (Below.refl (X).heap.size (X)) (.cells #[.int .i64 2, .int .i64 4] 3)
          have zU := U.size
          generalize hX2 : (X).alloc (.cells #[.int .i64 2, .int .i64 4] 3) = X2 at N0 b2 ⊢
          have HRd := HRd.keepB b2
          have U := U.trans (Upd.ofBelow b2)
          clear b2 hX2
          have n0 : W6.heap.size ≤ (X).heap.size := zU
          clear zU
          generalize hgg : (X).heap.size = g0 at N0 n0 ⊢
          clear hgg
          refine hK.out _ _ ?_ (fun hHeld => ?_)
          · exact ⟨updCell U C0.out (by omega), updCell U C1.out (by omega)⟩
          clear hK K
          obtain ⟨z0, hz0⟩ := lit24 q0 hq0
          have Z0 := (boxAt N0 q0).trans hz0
          clear hz0
          refine wpAnyH_strong (S' := fun w' => ((w'.cell? ⟨g5, 0, none⟩ = some (.int .i64 k.s) ∧ w'.cell? ⟨g5, 1, none⟩ = some (.int .i64 k.b)) ∧ w'.cell? ⟨g0, q0, none⟩ = some (.int .i64 z0))) (fun w h => h.1) ?_
          have hHeld := And.intro hHeld Z0
          refine wpAnyH_take (i := 3) (v := ?v32) rfl (by kernel_rfl) (by kernel_rfl) (by kernel_rfl) (fun _ _ _ h => h) (Or.inl ⟨by rfl, ?hy32⟩) (by assumption) ?rest32
          case hy32 => ((intro w hSw; (try dsimp only at hSw); (try simp only [List.getElem_toArray, List.getElem_cons_zero, List.getElem_cons_succ]); go_simp; first | done | (with_reducible rfl)))
          simp only [Act.put, List.getElem_toArray, List.getElem_cons_zero, List.getElem_cons_succ, List.setIfInBounds_toArray, List.set_cons_zero, List.set_cons_succ]
          refine wpAnyH_take (i := 4) (v := ?v33) rfl (by kernel_rfl) (by kernel_rfl) (by kernel_rfl) (fun _ _ _ h => h) (Or.inl ⟨by rfl, ?hy33⟩) (by assumption) ?rest33
          case hy33 => ((intro w hSw; (try dsimp only at hSw); (try simp only [List.getElem_toArray, List.getElem_cons_zero, List.getElem_cons_succ]); go_simp; first | done | (with_reducible rfl)))
          simp only [Act.put, List.getElem_toArray, List.getElem_cons_zero, List.getElem_cons_succ, List.setIfInBounds_toArray, List.set_cons_zero, List.set_cons_succ]
          exact LEAFD64_0 X2 g0 q0 q1 q2 q3 z0 ⟨U, HRd, hq0, Z0, N0, n0⟩
        · go_simp
          go_at_call 68
          refine (l72Cmd_any w0 _ R _ HRd (by omega)).mono ?_
          rintro e X2 ⟨x5, p5, rfl, HRd, hp5, u2⟩
          have U := U.trans u2
          have hp5 : p5 ≤ pr + 24 := by omega
          clear u2
          refine hK.out _ _ ?_ (fun hHeld => ?_)
          · exact ⟨updCell U C0.out (by omega), updCell U C1.out (by omega)⟩
          clear hK K
          exact LEAFD65 X2 q0 q1 q2 q3 x5 p5 ⟨U, HRd, hp5, hq0⟩
        · go_simp
          have N22 := heap_alloc_new (X) Zwn
          have b2 := bal (Below.refl (X).heap.size (X)) Zwn
          have zU := U.size
          generalize hX2 : (X).alloc Zwn = X2 at N22 b2 ⊢
          have HRd := HRd.keepB b2
          have U := U.trans (Upd.ofBelow b2)
          clear b2 hX2
          have n22 : W6.heap.size ≤ (X).heap.size := zU
          clear zU
          generalize hgg : (X).heap.size = g22 at N22 n22 ⊢
          clear hgg
          refine hK.out _ _ ?_ (fun hHeld => ?_)
          · exact ⟨updCell U C0.out (by omega), updCell U C1.out (by omega)⟩
          clear hK K
          exact LEAFD64_22 X2 g22 q0 q1 q2 q3 ⟨U, HRd, hq0, N22, n22⟩
      · intro X g0 g22 q0 q1 q2 z0 ⟨U, HRd, hq0, Z0, N0, n0, N22, n22⟩
        have hHeld : (fun w' => ((w'.cell? ⟨g5, 0, none⟩ = some (.int .i64 k.s) ∧ w'.cell? ⟨g5, 1, none⟩ = some (.int .i64 k.b)) ∧ w'.cell? ⟨g0, q0, none⟩ = some (.int .i64 z0))) X := ⟨⟨updCell U C0.out (by omega), updCell U C1.out (by omega)⟩, Z0⟩
        refine wpAnyH_ready (rs := [17]) (by kernel_rfl) (by simp) ?_
        refine AllReadyH.cons rfl (fun K hK => ?_) AllReadyH.nil
        go_simp
        go_at_call 67
        refine (pick_anyI w0 _ R _ _ HRd hkb1 hkb2 (by omega)).mono ?_
        rintro e X2 ⟨q3, rfl, hqq, HRd, u2⟩
        have Z0 := updCell u2 Z0 (by omega)
        have N0 := u2.keeps N0 (by omega)
        have N22 := u2.keeps N22 (by omega)
        have U := U.trans u2
        clear u2
        refine hK.out _ _ ?_ (fun hHeld => ?_)
        · exact ⟨⟨updCell U C0.out (by omega), updCell U C1.out (by omega)⟩, Z0⟩
        clear hK K
        refine wpAnyH_take (i := 18) (v := ?v34) rfl (by kernel_rfl) (by kernel_rfl) (by kernel_rfl) (fun _ _ _ h => h) (Or.inl ⟨by rfl, ?y34⟩) (by assumption) ?r34
        case y34 => (intro w hSw; go_simp; first | done | (with_reducible rfl))
        simp only [Act.put, List.getElem_toArray, List.getElem_cons_zero, List.getElem_cons_succ, List.setIfInBounds_toArray, List.set_cons_zero, List.set_cons_succ]
        exact LEAFD64_0_22 X2 g0 g22 q0 q1 q2 q3 z0 ⟨U, HRd, hq0, Z0, N0, n0, N22, n22⟩
      · intro X g0 q0 q1 q2 q3 z0 ⟨U, HRd, hq0, Z0, N0, n0⟩
        have hHeld : (fun w' => ((w'.cell? ⟨g5, 0, none⟩ = some (.int .i64 k.s) ∧ w'.cell? ⟨g5, 1, none⟩ = some (.int .i64 k.b)) ∧ w'.cell? ⟨g0, q0, none⟩ = some (.int .i64 z0))) X := ⟨⟨updCell U C0.out (by omega), updCell U C1.out (by omega)⟩, Z0⟩
        refine wpAnyH_ready (rs := [20, 22]) (by kernel_rfl) (by simp) ?_
        refine AllReadyH.cons rfl (fun K hK => ?_) (AllReadyH.cons rfl (fun K hK => ?_) AllReadyH.nil)
        · go_simp
          go_at_call 68
          refine (l72Cmd_any w0 _ R _ HRd (by omega)).mono ?_
          rintro e X2 ⟨x5, p5, rfl, HRd, hp5, u2⟩
          have Z0 := updCell u2 Z0 (by omega)
          have N0 := u2.keeps N0 (by omega)
          have U := U.trans u2
          have hp5 : p5 ≤ pr + 24 := by omega
          clear u2
          refine hK.out _ _ ?_ (fun hHeld => ?_)
          · exact ⟨⟨updCell U C0.out (by omega), updCell U C1.out (by omega)⟩, Z0⟩
          clear hK K
          refine wpAnyH_take (i := 21) (v := .agg (fwarr (toldW z0 q1 me k.b k.s _ x5))) rfl (by kernel_rfl) (by kernel_rfl) (by kernel_rfl) (fun _ _ _ h => h) (yields_build rfl 47 _ rfl [(0, .int .i64 z0), (1, .int .i64 q1), (2, .int .i64 me), (3, .int .i64 k.b), (4, .int .i64 k.s), (5, .int .i64 _), (6, .agg #[.int .i64 x5.c0, .int .i64 x5.c1, .int .i64 x5.c2, .int .i64 x5.c3, .int .i64 x5.c4, .int .i64 x5.c5, .int .i64 x5.c6, .int .i64 x5.c7, .int .i64 x5.c8, .int .i64 x5.c9])] _ ((by (conv => lhs; simp only [List.map_toArray, List.map_cons, List.map_nil]); rfl)) (builtTold _ _ _ _ _ _ _)) (by assumption) ?_
          simp only [Act.put, List.getElem_toArray, List.getElem_cons_zero, List.getElem_cons_succ, List.setIfInBounds_toArray, List.set_cons_zero, List.set_cons_succ]
          generalize hy : toldW z0 q1 me k.b k.s _ x5 = y
          have hyf : Flat y := by rw [← hy]; exact ⟨rfl, rfl⟩
          clear hy
          exact LEAFD65_0 X2 g0 q0 q1 q2 q3 x5 p5 z0 y ⟨U, HRd, hp5, hq0, Z0, N0, n0, hyf⟩
        · go_simp
          have N22 := heap_alloc_new (X) Zwn
          have b2 := bal (Below.refl (X).heap.size (X)) Zwn
          have zU := U.size
          generalize hX2 : (X).alloc Zwn = X2 at N22 b2 ⊢
          have Z0 := updCell (Upd.ofBelow (S := fun _ => False) b2) Z0 (fun h => h)
          have N0 := bKeeps b2 N0
          have HRd := HRd.keepB b2
          have U := U.trans (Upd.ofBelow b2)
          clear b2 hX2
          have n22 : W6.heap.size ≤ (X).heap.size := zU
          clear zU
          generalize hgg : (X).heap.size = g22 at N22 n22 ⊢
          clear hgg
          refine hK.out _ _ ?_ (fun hHeld => ?_)
          · exact ⟨⟨updCell U C0.out (by omega), updCell U C1.out (by omega)⟩, Z0⟩
          clear hK K
          exact LEAFD64_0_22 X2 g0 g22 q0 q1 q2 q3 z0 ⟨U, HRd, hq0, Z0, N0, n0, N22, n22⟩
      · intro X g22 q0 q1 q2 q3 ⟨U, HRd, hq0, N22, n22⟩
        have hHeld : (fun w' => w'.cell? ⟨g5, 0, none⟩ = some (.int .i64 k.s) ∧ w'.cell? ⟨g5, 1, none⟩ = some (.int .i64 k.b)) X := ⟨updCell U C0.out (by omega), updCell U C1.out (by omega)⟩
        refine wpAnyH_ready (rs := [0, 20]) (by kernel_rfl) (by simp) ?_
        refine AllReadyH.cons rfl (fun K hK => ?_) (AllReadyH.cons rfl (fun K hK => ?_) AllReadyH.nil)
        · go_simp
          have N0 := heap_alloc_new (X) (.cells #[.int .i64 2, .int .i64 4] 3)
          have b2 := bal (Below.refl (X).heap.size (X)) (.cells #[.int .i64 2, .int .i64 4] 3)
          have zU := U.size
          generalize hX2 : (X).alloc (.cells #[.int .i64 2, .int .i64 4] 3) = X2 at N0 b2 ⊢
          have N22 := bKeeps b2 N22
          have HRd := HRd.keepB b2
          have U := U.trans (Upd.ofBelow b2)
          clear b2 hX2
          have n0 : W6.heap.size ≤ (X).heap.size := zU
          clear zU
          generalize hgg : (X).heap.size = g0 at N0 n0 ⊢
          clear hgg
          refine hK.out _ _ ?_ (fun hHeld => ?_)
          · exact ⟨updCell U C0.out (by omega), updCell U C1.out (by omega)⟩
          clear hK K
          obtain ⟨z0, hz0⟩ := lit24 q0 hq0
          have Z0 := (boxAt N0 q0).trans hz0
          clear hz0
          refine wpAnyH_strong (S' := fun w' => ((w'.cell? ⟨g5, 0, none⟩ = some (.int .i64 k.s) ∧ w'.cell? ⟨g5, 1, none⟩ = some (.int .i64 k.b)) ∧ w'.cell? ⟨g0, q0, none⟩ = some (.int .i64 z0))) (fun w h => h.1) ?_
          have hHeld := And.intro hHeld Z0
          refine wpAnyH_take (i := 3) (v := ?v35) rfl (by kernel_rfl) (by kernel_rfl) (by kernel_rfl) (fun _ _ _ h => h) (Or.inl ⟨by rfl, ?hy35⟩) (by assumption) ?rest35
          case hy35 => ((intro w hSw; (try dsimp only at hSw); (try simp only [List.getElem_toArray, List.getElem_cons_zero, List.getElem_cons_succ]); go_simp; first | done | (with_reducible rfl)))
          simp only [Act.put, List.getElem_toArray, List.getElem_cons_zero, List.getElem_cons_succ, List.setIfInBounds_toArray, List.set_cons_zero, List.set_cons_succ]
          refine wpAnyH_take (i := 4) (v := ?v36) rfl (by kernel_rfl) (by kernel_rfl) (by kernel_rfl) (fun _ _ _ h => h) (Or.inl ⟨by rfl, ?hy36⟩) (by assumption) ?rest36
          case hy36 => ((intro w hSw; (try dsimp only at hSw); (try simp only [List.getElem_toArray, List.getElem_cons_zero, List.getElem_cons_succ]); go_simp; first | done | (with_reducible rfl)))
          simp only [Act.put, List.getElem_toArray, List.getElem_cons_zero, List.getElem_cons_succ, List.setIfInBounds_toArray, List.set_cons_zero, List.set_cons_succ]
          exact LEAFD64_0_22 X2 g0 g22 q0 q1 q2 q3 z0 ⟨U, HRd, hq0, Z0, N0, n0, N22, n22⟩
        · go_simp
          go_at_call 68
          refine (l72Cmd_any w0 _ R _ HRd (by omega)).mono ?_
          rintro e X2 ⟨x5, p5, rfl, HRd, hp5, u2⟩
          have N22 := u2.keeps N22 (by omega)
          have U := U.trans u2
          have hp5 : p5 ≤ pr + 24 := by omega
          clear u2
          refine hK.out _ _ ?_ (fun hHeld => ?_)
          · exact ⟨updCell U C0.out (by omega), updCell U C1.out (by omega)⟩
          clear hK K
          exact LEAFD65_22 X2 g22 q0 q1 q2 q3 x5 p5 ⟨U, HRd, hp5, hq0, N22, n22⟩
      · intro X q0 q1 q2 q3 x5 p5 ⟨U, HRd, hp5, hq0⟩
        have hHeld : (fun w' => w'.cell? ⟨g5, 0, none⟩ = some (.int .i64 k.s) ∧ w'.cell? ⟨g5, 1, none⟩ = some (.int .i64 k.b)) X := ⟨updCell U C0.out (by omega), updCell U C1.out (by omega)⟩
        refine wpAnyH_ready (rs := [0, 22]) (by kernel_rfl) (by simp) ?_
        refine AllReadyH.cons rfl (fun K hK => ?_) (AllReadyH.cons rfl (fun K hK => ?_) AllReadyH.nil)
        · go_simp
          have N0 := heap_alloc_new (X) (.cells #[.int .i64 2, .int .i64 4] 3)
          have b2 := bal (Below.refl (X).heap.size (X)) (.cells #[.int .i64 2, .int .i64 4] 3)
          have zU := U.size
          generalize hX2 : (X).alloc (.cells #[.int .i64 2, .int .i64 4] 3) = X2 at N0 b2 ⊢
          have HRd := HRd.keepB b2
          have U := U.trans (Upd.ofBelow b2)
          clear b2 hX2
          have n0 : W6.heap.size ≤ (X).heap.size := zU
          clear zU
          generalize hgg : (X).heap.size = g0 at N0 n0 ⊢
          clear hgg
          refine hK.out _ _ ?_ (fun hHeld => ?_)
          · exact ⟨updCell U C0.out (by omega), updCell U C1.out (by omega)⟩
          clear hK K
          obtain ⟨z0, hz0⟩ := lit24 q0 hq0
          have Z0 := (boxAt N0 q0).trans hz0
          clear hz0
          refine wpAnyH_strong (S' := fun w' => ((w'.cell? ⟨g5, 0, none⟩ = some (.int .i64 k.s) ∧ w'.cell? ⟨g5, 1, none⟩ = some (.int .i64 k.b)) ∧ w'.cell? ⟨g0, q0, none⟩ = some (.int .i64 z0))) (fun w h => h.1) ?_
          have hHeld := And.intro hHeld Z0
          refine wpAnyH_take (i := 3) (v := ?v37) rfl (by kernel_rfl) (by kernel_rfl) (by kernel_rfl) (fun _ _ _ h => h) (Or.inl ⟨by rfl, ?hy37⟩) (by assumption) ?rest37
          case hy37 => ((intro w hSw; (try dsimp only at hSw); (try simp only [List.getElem_toArray, List.getElem_cons_zero, List.getElem_cons_succ]); go_simp; first | done | (with_reducible rfl)))
          simp only [Act.put, List.getElem_toArray, List.getElem_cons_zero, List.getElem_cons_succ, List.setIfInBounds_toArray, List.set_cons_zero, List.set_cons_succ]
          refine wpAnyH_take (i := 4) (v := ?v38) rfl (by kernel_rfl) (by kernel_rfl) (by kernel_rfl) (fun _ _ _ h => h) (Or.inl ⟨by rfl, ?hy38⟩) (by assumption) ?rest38
          case hy38 => ((intro w hSw; (try dsimp only at hSw); (try simp only [List.getElem_toArray, List.getElem_cons_zero, List.getElem_cons_succ]); go_simp; first | done | (with_reducible rfl)))
          simp only [Act.put, List.getElem_toArray, List.getElem_cons_zero, List.getElem_cons_succ, List.setIfInBounds_toArray, List.set_cons_zero, List.set_cons_succ]
          refine wpAnyH_take (i := 21) (v := .agg (fwarr (toldW z0 q1 me k.b k.s _ x5))) rfl (by kernel_rfl) (by kernel_rfl) (by kernel_rfl) (fun _ _ _ h => h) (yields_build rfl 47 _ rfl [(0, .int .i64 z0), (1, .int .i64 q1), (2, .int .i64 me), (3, .int .i64 k.b), (4, .int .i64 k.s), (5, .int .i64 _), (6, .agg #[.int .i64 x5.c0, .int .i64 x5.c1, .int .i64 x5.c2, .int .i64 x5.c3, .int .i64 x5.c4, .int .i64 x5.c5, .int .i64 x5.c6, .int .i64 x5.c7, .int .i64 x5.c8, .int .i64 x5.c9])] _ ((by (conv => lhs; simp only [List.map_toArray, List.map_cons, List.map_nil]); rfl)) (builtTold _ _ _ _ _ _ _)) (by assumption) ?_
          simp only [Act.put, List.getElem_toArray, List.getElem_cons_zero, List.getElem_cons_succ, List.setIfInBounds_toArray, List.set_cons_zero, List.set_cons_succ]
          generalize hy : toldW z0 q1 me k.b k.s _ x5 = y
          have hyf : Flat y := by rw [← hy]; exact ⟨rfl, rfl⟩
          clear hy
          exact LEAFD65_0 X2 g0 q0 q1 q2 q3 x5 p5 z0 y ⟨U, HRd, hp5, hq0, Z0, N0, n0, hyf⟩
        · go_simp
          have N22 := heap_alloc_new (X) Zwn
          have b2 := bal (Below.refl (X).heap.size (X)) Zwn
          have zU := U.size
          generalize hX2 : (X).alloc Zwn = X2 at N22 b2 ⊢
          have HRd := HRd.keepB b2
          have U := U.trans (Upd.ofBelow b2)
          clear b2 hX2
          have n22 : W6.heap.size ≤ (X).heap.size := zU
          clear zU
          generalize hgg : (X).heap.size = g22 at N22 n22 ⊢
          clear hgg
          refine hK.out _ _ ?_ (fun hHeld => ?_)
          · exact ⟨updCell U C0.out (by omega), updCell U C1.out (by omega)⟩
          clear hK K
          exact LEAFD65_22 X2 g22 q0 q1 q2 q3 x5 p5 ⟨U, HRd, hp5, hq0, N22, n22⟩
      · intro X g0 g22 q0 q1 q2 q3 z0 ⟨U, HRd, hq0, Z0, N0, n0, N22, n22⟩
        have hHeld : (fun w' => ((w'.cell? ⟨g5, 0, none⟩ = some (.int .i64 k.s) ∧ w'.cell? ⟨g5, 1, none⟩ = some (.int .i64 k.b)) ∧ w'.cell? ⟨g0, q0, none⟩ = some (.int .i64 z0))) X := ⟨⟨updCell U C0.out (by omega), updCell U C1.out (by omega)⟩, Z0⟩
        refine wpAnyH_ready (rs := [20]) (by kernel_rfl) (by simp) ?_
        refine AllReadyH.cons rfl (fun K hK => ?_) AllReadyH.nil
        go_simp
        go_at_call 68
        refine (l72Cmd_any w0 _ R _ HRd (by omega)).mono ?_
        rintro e X2 ⟨x5, p5, rfl, HRd, hp5, u2⟩
        have Z0 := updCell u2 Z0 (by omega)
        have N0 := u2.keeps N0 (by omega)
        have N22 := u2.keeps N22 (by omega)
        have U := U.trans u2
        have hp5 : p5 ≤ pr + 24 := by omega
        clear u2
        refine hK.out _ _ ?_ (fun hHeld => ?_)
        · exact ⟨⟨updCell U C0.out (by omega), updCell U C1.out (by omega)⟩, Z0⟩
        clear hK K
        refine wpAnyH_take (i := 21) (v := .agg (fwarr (toldW z0 q1 me k.b k.s _ x5))) rfl (by kernel_rfl) (by kernel_rfl) (by kernel_rfl) (fun _ _ _ h => h) (yields_build rfl 47 _ rfl [(0, .int .i64 z0), (1, .int .i64 q1), (2, .int .i64 me), (3, .int .i64 k.b), (4, .int .i64 k.s), (5, .int .i64 _), (6, .agg #[.int .i64 x5.c0, .int .i64 x5.c1, .int .i64 x5.c2, .int .i64 x5.c3, .int .i64 x5.c4, .int .i64 x5.c5, .int .i64 x5.c6, .int .i64 x5.c7, .int .i64 x5.c8, .int .i64 x5.c9])] _ ((by (conv => lhs; simp only [List.map_toArray, List.map_cons, List.map_nil]); rfl)) (builtTold _ _ _ _ _ _ _)) (by assumption) ?_
        simp only [Act.put, List.getElem_toArray, List.getElem_cons_zero, List.getElem_cons_succ, List.setIfInBounds_toArray, List.set_cons_zero, List.set_cons_succ]
        generalize hy : toldW z0 q1 me k.b k.s _ x5 = y
        have hyf : Flat y := by rw [← hy]; exact ⟨rfl, rfl⟩
        clear hy
        exact LEAFD65_0_22 X2 g0 g22 q0 q1 q2 q3 x5 p5 z0 y ⟨U, HRd, hp5, hq0, Z0, N0, n0, hyf, N22, n22⟩
      · intro X g0 q0 q1 q2 q3 x5 p5 z0 y ⟨U, HRd, hp5, hq0, Z0, N0, n0, hyf⟩
        have hHeld : (fun w' => ((w'.cell? ⟨g5, 0, none⟩ = some (.int .i64 k.s) ∧ w'.cell? ⟨g5, 1, none⟩ = some (.int .i64 k.b)) ∧ w'.cell? ⟨g0, q0, none⟩ = some (.int .i64 z0))) X := ⟨⟨updCell U C0.out (by omega), updCell U C1.out (by omega)⟩, Z0⟩
        refine wpAnyH_ready (rs := [22]) (by kernel_rfl) (by simp) ?_
        refine AllReadyH.cons rfl (fun K hK => ?_) AllReadyH.nil
        go_simp
        have N22 := heap_alloc_new (X) Zwn
        have b2 := bal (Below.refl (X).heap.size (X)) Zwn
        have zU := U.size
        generalize hX2 : (X).alloc Zwn = X2 at N22 b2 ⊢
        have Z0 := updCell (Upd.ofBelow (S := fun _ => False) b2) Z0 (fun h => h)
        have N0 := bKeeps b2 N0
        have HRd := HRd.keepB b2
        have U := U.trans (Upd.ofBelow b2)
        clear b2 hX2
        have n22 : W6.heap.size ≤ (X).heap.size := zU
        clear zU
        generalize hgg : (X).heap.size = g22 at N22 n22 ⊢
        clear hgg
        refine hK.out _ _ ?_ (fun hHeld => ?_)
        · exact ⟨⟨updCell U C0.out (by omega), updCell U C1.out (by omega)⟩, Z0⟩
        clear hK K
        exact LEAFD65_0_22 X2 g0 g22 q0 q1 q2 q3 x5 p5 z0 y ⟨U, HRd, hp5, hq0, Z0, N0, n0, hyf, N22, n22⟩
      · intro X g22 q0 q1 q2 q3 x5 p5 ⟨U, HRd, hp5, hq0, N22, n22⟩
        have hHeld : (fun w' => w'.cell? ⟨g5, 0, none⟩ = some (.int .i64 k.s) ∧ w'.cell? ⟨g5, 1, none⟩ = some (.int .i64 k.b)) X := ⟨updCell U C0.out (by omega), updCell U C1.out (by omega)⟩
        refine wpAnyH_ready (rs := [0]) (by kernel_rfl) (by simp) ?_
        refine AllReadyH.cons rfl (fun K hK => ?_) AllReadyH.nil
        go_simp
        have N0 := heap_alloc_new (X) (.cells #[.int .i64 2, .int .i64 4] 3)
        have b2 := bal (Below.refl (X).heap.size (X)) (.cells #[.int .i64 2, .int .i64 4] 3)
        have zU := U.size
        generalize hX2 : (X).alloc (.cells #[.int .i64 2, .int .i64 4] 3) = X2 at N0 b2 ⊢
        have N22 := bKeeps b2 N22
        have HRd := HRd.keepB b2
        have U := U.trans (Upd.ofBelow b2)
        clear b2 hX2
        have n0 : W6.heap.size ≤ (X).heap.size := zU
        clear zU
        generalize hgg : (X).heap.size = g0 at N0 n0 ⊢
        clear hgg
        refine hK.out _ _ ?_ (fun hHeld => ?_)
        · exact ⟨updCell U C0.out (by omega), updCell U C1.out (by omega)⟩
        clear hK K
        obtain ⟨z0, hz0⟩ := lit24 q0 hq0
        have Z0 := (boxAt N0 q0).trans hz0
        clear hz0
        refine wpAnyH_strong (S' := fun w' => ((w'.cell? ⟨g5, 0, none⟩ = some (.int .i64 k.s) ∧ w'.cell? ⟨g5, 1, none⟩ = some (.int .i64 k.b)) ∧ w'.cell? ⟨g0, q0, none⟩ = some (.int .i64 z0))) (fun w h => h.1) ?_
        have hHeld := And.intro hHeld Z0
        refine wpAnyH_take (i := 3) (v := ?v39) rfl (by kernel_rfl) (by kernel_rfl) (by kernel_rfl) (fun _ _ _ h => h) (Or.inl ⟨by rfl, ?hy39⟩) (by assumption) ?rest39
        case hy39 => ((intro w hSw; (try dsimp only at hSw); (try simp only [List.getElem_toArray, List.getElem_cons_zero, List.getElem_cons_succ]); go_simp; first | done | (with_reducible rfl)))
        simp only [Act.put, List.getElem_toArray, List.getElem_cons_zero, List.getElem_cons_succ, List.setIfInBounds_toArray, List.set_cons_zero, List.set_cons_succ]
        refine wpAnyH_take (i := 4) (v := ?v40) rfl (by kernel_rfl) (by kernel_rfl) (by kernel_rfl) (fun _ _ _ h => h) (Or.inl ⟨by rfl, ?hy40⟩) (by assumption) ?rest40
        case hy40 => ((intro w hSw; (try dsimp only at hSw); (try simp only [List.getElem_toArray, List.getElem_cons_zero, List.getElem_cons_succ]); go_simp; first | done | (with_reducible rfl)))
        simp only [Act.put, List.getElem_toArray, List.getElem_cons_zero, List.getElem_cons_succ, List.setIfInBounds_toArray, List.set_cons_zero, List.set_cons_succ]
        refine wpAnyH_take (i := 21) (v := .agg (fwarr (toldW z0 q1 me k.b k.s _ x5))) rfl (by kernel_rfl) (by kernel_rfl) (by kernel_rfl) (fun _ _ _ h => h) (yields_build rfl 47 _ rfl [(0, .int .i64 z0), (1, .int .i64 q1), (2, .int .i64 me), (3, .int .i64 k.b), (4, .int .i64 k.s), (5, .int .i64 _), (6, .agg #[.int .i64 x5.c0, .int .i64 x5.c1, .int .i64 x5.c2, .int .i64 x5.c3, .int .i64 x5.c4, .int .i64 x5.c5, .int .i64 x5.c6, .int .i64 x5.c7, .int .i64 x5.c8, .int .i64 x5.c9])] _ ((by (conv => lhs; simp only [List.map_toArray, List.map_cons, List.map_nil]); rfl)) (builtTold _ _ _ _ _ _ _)) (by assumption) ?_
        simp only [Act.put, List.getElem_toArray, List.getElem_cons_zero, List.getElem_cons_succ, List.setIfInBounds_toArray, List.set_cons_zero, List.set_cons_succ]
        generalize hy : toldW z0 q1 me k.b k.s _ x5 = y
        have hyf : Flat y := by rw [← hy]; exact ⟨rfl, rfl⟩
        clear hy
        exact LEAFD65_0_22 X2 g0 g22 q0 q1 q2 q3 x5 p5 z0 y ⟨U, HRd, hp5, hq0, Z0, N0, n0, hyf, N22, n22⟩
      · intro X g0 g22 q0 q1 q2 q3 x5 p5 z0 y ⟨U, HRd, hp5, hq0, Z0, N0, n0, hyf, N22, n22⟩
        have hHeld : (fun w' => ((w'.cell? ⟨g5, 0, none⟩ = some (.int .i64 k.s) ∧ w'.cell? ⟨g5, 1, none⟩ = some (.int .i64 k.b)) ∧ w'.cell? ⟨g0, q0, none⟩ = some (.int .i64 z0))) X := ⟨⟨updCell U C0.out (by omega), updCell U C1.out (by omega)⟩, Z0⟩
        have ne0 : ¬ g0 = g22 := by
          intro e
          rw [e, N22] at N0
          simp at N0
        have s23 := updRow X g22 (fwarr y)
        have zX := U.size
        have hz22 := heap_lt N22
        refine wpAnyH_ready (rs := [23]) (by kernel_rfl) (by simp) ?_
        refine AllReadyH.cons rfl (fun K hK => ?_) AllReadyH.nil
        (refine wp_store_row 47 (.tmp 8) (.tmp 59) rfl g22 (fwarr y) rfl rfl _ _ N22 infoWd rfl (fw_one _) ?_)
        refine hK.out _ _ ?_ (fun hHeld => ?_)
        · exact ⟨⟨updCell s23 (updCell U C0.out (by omega)) (by omega), updCell s23 (updCell U C1.out (by omega)) (by omega)⟩, updCell s23 Z0 ne0⟩
        clear hK K
        refine wpAnyH_done (by kernel_rfl) ?_ _
        refine NoPanic.normal ?_
        clear hHeld Z0 N0 n0 ne0 hq0 C0 C1
        -- the word is heard
        have N8 := hide (setRow_heap _ _ _ (fwarr y) _ _ N22)
        have M5 := hide (s23.keeps (U.keeps H5.out (by omega)) (by omega))
        have RY := hide (rowA_keep_box (by decide) (HR.out.keep U (fun j h1 h2 => by omega)) N22 s23)
        have HRd := HRd.keep s23 (by omega) (fun j h => by omega)
        have U8 : Upd (fun j => j = R ∨ j = g5) X0 (X.setRow g22 (fwarr y)) := (UX.out.trans (U.mono (fun j h => .inl h))).transN s23 (fun j h => by have := UX.out.size; omega)
        generalize X.setRow g22 (fwarr y) = V at N8 M5 RY HRd U8 ⊢
        clear U N22 s23 n22 hz22 zX
        have cH := specSynHearA_any (.agg (skarr k (.slice yo k.ys.length yc))) k me (.agg (fwarr y)) y V ⟨yo, yc, rfl, (RY.out.row (by omega)).reads⟩ (fwR _ hyf) (by omega)
        have hsh := hearR_len k me y
        have hbi := hearR_inv k me y hkb
        obtain ⟨Q, hQ⟩ : ∃ Q, hearR k me y = Q := ⟨_, rfl⟩
        rw [hQ] at cH hsh hbi
        clear hQ hyf
        go_wp2_with (first
          | (refine wpList_load_row rfl 39 (.tmp 5) rfl g5 rfl _ (skarr k (.slice yo k.ys.length yc)) (0, 0) _ M5.out Try.underlying39 rfl infoSk ?_)
          | (refine wpList_load_row rfl 47 (.tmp 8) rfl g22 rfl _ (fwarr y) (0, 0) _ N8.out Try.underlying47 rfl infoWd ?_))
        refine cH.mono ?_
        rintro e V2 ⟨v2, u2, rfl, ⟨yo2, yc2, rfl, r2⟩, -, b2⟩
        clear cH N8
        have zV := U8.size
        have z2 := b2.size
        have a3 := bal (Below.refl V2.heap.size V2) (.cells (skarr Q.1 (.slice yo2 Q.1.ys.length yc2)) 39)
        have N9 := hide (heap_alloc_new V2 (.cells (skarr Q.1 (.slice yo2 Q.1.ys.length yc2)) 39))
        have R2 := hide ((r2.mono (show W.heap.size ≤ V.heap.size by omega)).keepB a3)
        have M5 := hide (bKeeps (bAll b2 a3) M5.out)
        have RY := hide (RY.out.keepB (bAll b2 a3))
        have HRd := HRd.keepB (bAll b2 a3)
        have U8 := U8.trans (Upd.ofBelow (bAll b2 a3))
        have hg9 : ¬ g5 = V2.heap.size := by omega
        clear r2
        go_upto_region 8 with (refine wpList_store_row rfl 39 (.tmp 9) (.tmp 65) rfl V2.heap.size (skarr Q.1 (.slice yo2 Q.1.ys.length yc2)) rfl rfl _ _ (heap_alloc_new V2 _) infoSk (show (26 : Nat) = 26 from rfl) (skarr_one _ _ _ _) ?_; rw [World.setRow_alloc_new])
        generalize hX3 : V2.alloc (.cells (skarr Q.1 (.slice yo2 Q.1.ys.length yc2)) 39) = X3 at N9 R2 M5 RY HRd U8 ⊢
        generalize V2.heap.size = g9 at N9 hg9 ⊢
        clear hX3 a3 b2 z2
        obtain ⟨ch, hch⟩ : ∃ c, Q.2.2 = c := ⟨_, rfl⟩
        rw [hch]
        clear hch
        cases ch
        case true =>
          go_wp2_with fail
          go_roundw
          case rel => exact ⟨n', k, yo, yc, p5, by omega, by go_num, M5.out, RY.out, by omega, hkb, HRd, by omega, U8⟩
          case measure => simp [intOf] <;> omega
        case false =>
          have s10 := updRow X3 g5 (skarr Q.1 (.slice yo2 Q.1.ys.length yc2))
          have M6 := hide (setRow_heap _ _ _ (skarr Q.1 (.slice yo2 Q.1.ys.length yc2)) _ _ M5.out)
          have R6 := hide (rowA_keep_box (by decide) R2.out M5.out s10)
          have HRd := HRd.keep s10 (by omega) (fun j h => by omega)
          have U8 := U8.trans (s10.mono (T := fun j => j = R ∨ j = g5) (fun j h => .inr h))
          go_wp2_with (first
            | (refine wpList_load_row rfl 39 (.tmp 9) rfl g9 rfl _ (skarr Q.1 (.slice yo2 Q.1.ys.length yc2)) (0, 0) _ N9.out Try.underlying39 rfl infoSk ?_)
            | (refine wpList_store_row rfl 39 (.tmp 5) (.tmp 70) rfl g5 (skarr Q.1 (.slice yo2 Q.1.ys.length yc2)) rfl rfl _ _ M5.out infoSk (show (26 : Nat) = 26 from rfl) (skarr_one _ _ _ _) ?_))
          go_roundw
          case rel => exact ⟨n', Q.1, yo2, yc2, p5, by omega, by go_num, M6.out, R6.out, by omega, hbi, HRd, by omega, U8⟩
          case measure => simp [intOf] <;> omega
    · have hstop : (0 < n → ¬ 0 < k.ph) := fun h1 h2 => hgo ⟨h1, h2⟩
      have B0 := hide (UX.out.keeps B0.out (by omega))
      have UW : Upd (fun j => j = R) W wr := upd_mix U7 UX.out (fun j h => by omega)
      have hb := hkb.b
      rcases Nat.eq_zero_or_pos n with hz | hz
      · subst hz
        clear hstop hgo
        go_wp2_with fail
        refine (pick_any w0 _ R _ 16 hrd (by omega) (by omega) (by omega)).mono ?_
        rintro e w8 ⟨q8, rfl, hq8, hr8, hu8⟩
        have z8 := hu8.size
        have N8 := hide (hu8.keeps H5.out (by omega))
        have R8 := hide (HR.out.keep hu8 (fun j h1 h2 => by omega))
        have B8 := hide (hu8.keeps B0.out (by omega))
        have U8 := UW.trans hu8
        have hg58 := heap_lt N8.out
        have zU8 := U8.size
        clear hu8 H5 HR B0 UX UW x0 x1 x2 hrd
        rcases (by omega : q8 = 0 ∨ q8 = 1 ∨ q8 = 2 ∨ 3 ≤ q8) with h | h | h | h
        · subst h
          go_wp2_with fail
          refine (pick_any w0 _ R _ 5 hr8 (by omega) (by omega) (by omega)).mono ?_
          rintro e w9 ⟨q9, rfl, hq9, hr9, hu9⟩
          have N9 := hide (hu9.keeps N8.out (by omega))
          have R9 := hide (R8.out.keep hu9 (fun j h1 h2 => by omega))
          have B9 := hide (hu9.keeps B8.out (by omega))
          have U9 := U8.trans hu9
          have c0 : w9.cell? ⟨g5, 2, none⟩ = some (.int .i64 k.ph) := boxAt N9.out 2
          have c1 : w9.frozen? ⟨g5, 2, none⟩ = false := boxFz N9.out 2
          clear hu9 N8 R8 B8 U8 hr8
          go_upto_region 17 with fail
          generalize hV : World.setCell _ _ _ = V
          have u6 : Upd (fun j => j = g5) w9 V := by rw [← hV]; exact Upd.setCell _ _ _ _ rfl
          have N10 : Hid (V.heap[g5]? = some (.cells (skarr { k with ph := (q9 : Int) - 1 } (.slice yo k.ys.length yc)) 39 (0, 0))) := by show _ = _; rw [← hV]; exact row_set _ N9.out
          have R10 := hide (rowA_keep_box (by decide) R9.out N9.out u6)
          have B10 := hide (u6.keeps B9.out (by omega))
          have hr10 := hr9.keep u6 (by omega) (fun j h => by omega)
          have U10 := upd_mix U9 u6 (fun j h => .inr (by omega))
          clear hV c0 c1 N9 R9 B9 hr9 U9
          have s9 := updRow V w.heap.size (skarr { k with ph := (q9 : Int) - 1 } (.slice yo k.ys.length yc))
          have zu := U10.size
          go_wp2_with (first
            | (refine wpList_load_row rfl 39 (.tmp 5) rfl g5 rfl _ (skarr { k with ph := (q9 : Int) - 1 } (.slice yo k.ys.length yc)) (0, 0) _ N10.out Try.underlying39 rfl infoSk ?_)
            | (refine wpList_store_row rfl 39 (.tmp 2) (.tmp 99) rfl w.heap.size (skarr { k with ph := (q9 : Int) - 1 } (.slice yo k.ys.length yc)) rfl rfl _ _ B10.out infoSk (show (26 : Nat) = 26 from rfl) (skarr_one _ _ _ _) ?_))
          refine bodyPost_ret (v := .tuple #[.agg (skarr { k with ph := (q9 : Int) - 1 } (.slice yo k.ys.length yc)), .int .i64 _]) (results_row_tmp Try.results66 _ _ w.heap.size _ _ (0, 0) _ _ rfl rfl (setRow_heap _ _ _ _ _ _ B10.out) Try.underlying39 rfl infoSk) rfl ?_
          exact ⟨_, { k with ph := (q9 : Int) - 1 }, _, _, rfl, ⟨yo, yc, rfl, (R10.out.keep s9 (fun j h1 h2 => by omega)).mono (by omega)⟩, by show k.ys.length ≤ 4; omega, ⟨by first | exact hb.1 | (simp; omega), by first | omega | (simp; omega)⟩, hr10.keep s9 (by omega) (fun j h => by omega), by omega, upd_mix ((Upd.ofBelow al).trans U10) s9 (fun j h => .inr (by omega))⟩
        · subst h
          have l8 : w8.cell? ⟨g5, 25, none⟩ = some (.slice yo k.ys.length yc) := boxAt N8.out 25
          have al8 := bal (Below.refl w8.heap.size w8) (.cells #[.int .i64 3] 3)
          have rowV := R8.out.keepB al8
          have NV := hide (newI_cells w8 3 3)
          have T8 := hide (bKeeps al8 N8.out)
          have B9 := hide (bKeeps al8 B8.out)
          go_wp2_with (at_builtin; refine wpList_appendA _ rfl _ _ 26 rfl W.heap.size 3 i1 (.int .i64 0) 1 8 Try.underlying26 gi gz0 gz1 gz2 rfl (by decide) _ k.ys.length (ints k.ys) rfl rowV ⟨w8.heap.size, 0, none⟩ 1 1 [.int .i64 3] rfl rfl NV.out (oneI _) (by decide) ?q63 ?qby ?qbase ?_)
          case q63 => unfold maxLen; omega
          case qby => omega
          case qbase => (have := al8.size; omega)
          intro v9 w9 r9 u9
          obtain ⟨so9, sc9, rfl, hcap9⟩ := owns_shape r9
          have N9 := hide (typed_keeps (by decide) u9 T8.out)
          have B9 := hide (typed_keeps (by decide) u9 B9.out)
          have R9 := hide (show RowA w9 W.heap.size 3 1 _ _ _ from .inl r9)
          have z9 := u9.size
          have zal := al8.size
          have hr9 := (hr8.keepB al8).keep u9 (fun h => by have := h.1; omega) (fun j h => by have := h.1; omega)
          have U9 := upd_mix (U8.trans (Upd.ofBelow al8)) u9 (fun j h => .inr (by have := h.1; omega))
          have c0 : w9.cell? ⟨g5, 25, none⟩ = some (.slice yo k.ys.length yc) := boxAt N9.out 25
          have c1 : w9.frozen? ⟨g5, 25, none⟩ = false := boxFz N9.out 25
          clear l8 rowV NV T8 al8 r9 u9 N8 R8 B8 U8 hr8
          go_upto_region 17 with fail
          generalize hV : World.setCell _ _ _ = V
          have u6 : Upd (fun j => j = g5) w9 V := by rw [← hV]; exact Upd.setCell _ _ _ _ rfl
          have N10 : Hid (V.heap[g5]? = some (.cells (skarr k (.slice so9 (k.ys.length + 1) sc9)) 39 (0, 0))) := by show _ = _; rw [← hV]; exact row_set _ N9.out
          have R10 := hide (rowA_keep_box (by decide) R9.out N9.out u6)
          have B10 := hide (u6.keeps B9.out (by omega))
          have hr10 := hr9.keep u6 (by omega) (fun j h => by omega)
          have U10 := upd_mix U9 u6 (fun j h => .inr (by omega))
          clear hV c0 c1 N9 R9 B9 hr9 U9
          have s9 := updRow V w.heap.size (skarr k (.slice so9 (k.ys.length + 1) sc9))
          have zu := U10.size
          go_wp2_with (first
            | (refine wpList_load_row rfl 39 (.tmp 5) rfl g5 rfl _ (skarr k (.slice so9 (k.ys.length + 1) sc9)) (0, 0) _ N10.out Try.underlying39 rfl infoSk ?_)
            | (refine wpList_store_row rfl 39 (.tmp 2) (.tmp 99) rfl w.heap.size (skarr k (.slice so9 (k.ys.length + 1) sc9)) rfl rfl _ _ B10.out infoSk (show (26 : Nat) = 26 from rfl) (skarr_one _ _ _ _) ?_))
          refine bodyPost_ret (v := .tuple #[.agg (skarr k (.slice so9 (k.ys.length + 1) sc9)), .int .i64 _]) (results_row_tmp Try.results66 _ _ w.heap.size _ _ (0, 0) _ _ rfl rfl (setRow_heap _ _ _ _ _ _ B10.out) Try.underlying39 rfl infoSk) rfl ?_
          exact ⟨_, { k with ys := k.ys ++ [3] }, _, _, rfl, ⟨so9, sc9, by simp [sk_ys], by simpa [ints] using ((R10.out.keep s9 (fun j h1 h2 => by omega)).mono (base' := w.heap.size) (by omega))⟩, by simp; omega, ⟨by first | exact hb.1 | (simp; omega), by first | omega | (simp; omega)⟩, hr10.keep s9 (by omega) (fun j h => by omega), by omega, upd_mix ((Upd.ofBelow al).trans U10) s9 (fun j h => .inr (by omega))⟩
        · subst h
          go_upto_region 16 with fail
          have dd := bDrewB (Below.refl w8.heap.size w8)
          have hrd8 := hr8.keepB dd
          have N9 := hide (bKeeps dd N8.out)
          have zdd : w8.drew.heap.size = w8.heap.size := rfl
          refine wp_region_noPanic ?_
          refine wp_region_held_drew (S := (fun w' => w'.cell? ⟨g5, 0, none⟩ = some (.int .i64 k.s) ∧ w'.cell? ⟨g5, 1, none⟩ = some (.int .i64 k.b))) (by kernel_rfl) ?_ (fun hHeld => ?_)
          · exact ⟨boxAt N9.out 0, boxAt N9.out 1⟩
          refine wpAnyH_take (i := 0) (v := ?v41) rfl (by kernel_rfl) (by kernel_rfl) (by kernel_rfl) (fun _ _ _ h => h) (Or.inl ⟨by rfl, ?hy41⟩) (by assumption) ?rest41
          case hy41 => ((intro w hSw; (try dsimp only at hSw); (try simp only [List.getElem_toArray, List.getElem_cons_zero]); go_simp; first | done | (with_reducible rfl)))
          simp only [Act.put, List.getElem_toArray, List.getElem_cons_zero, List.setIfInBounds_toArray, List.set_cons_zero, List.set_cons_succ]
          refine wpAnyH_take (i := 1) (v := ?v42) rfl (by kernel_rfl) (by kernel_rfl) (by kernel_rfl) (fun _ _ _ h => h) (Or.inl ⟨by rfl, ?hy42⟩) (by assumption) ?rest42
          case hy42 => ((intro w hSw; (try dsimp only at hSw); (try simp only [List.getElem_toArray, List.getElem_cons_zero, List.getElem_cons_succ]); go_simp; first | done | (with_reducible rfl)))
          simp only [Act.put, List.getElem_toArray, List.getElem_cons_zero, List.getElem_cons_succ, List.setIfInBounds_toArray, List.set_cons_zero, List.set_cons_succ]
          refine wpAnyH_take (i := 2) (v := ?v43) rfl (by kernel_rfl) (by kernel_rfl) (by kernel_rfl) (fun _ _ _ h => h) (Or.inl ⟨by rfl, ?hy43⟩) (by assumption) ?rest43
          case hy43 => ((intro w hSw; (try dsimp only at hSw); (try simp only [List.getElem_toArray, List.getElem_cons_zero, List.getElem_cons_succ]); go_simp; first | done | (with_reducible rfl)))
          simp only [Act.put, List.getElem_toArray, List.getElem_cons_zero, List.getElem_cons_succ, List.setIfInBounds_toArray, List.set_cons_zero, List.set_cons_succ]
          refine wpAnyH_take (i := 3) (v := ?v44) rfl (by kernel_rfl) (by kernel_rfl) (by kernel_rfl) (fun _ _ _ h => h) (Or.inl ⟨by rfl, ?hy44⟩) (by assumption) ?rest44
          case hy44 => ((intro w hSw; (try dsimp only at hSw); (try simp only [List.getElem_toArray, List.getElem_cons_zero, List.getElem_cons_succ]); go_simp; first | done | (with_reducible rfl)))
          simp only [Act.put, List.getElem_toArray, List.getElem_cons_zero, List.getElem_cons_succ, List.setIfInBounds_toArray, List.set_cons_zero, List.set_cons_succ]
          refine wpAnyH_take (i := 4) (v := ?v45) rfl (by kernel_rfl) (by kernel_rfl) (by kernel_rfl) (fun _ _ _ h => h) (Or.inl ⟨by rfl, ?hy45⟩) (by assumption) ?rest45
          case hy45 => ((intro w hSw; (try dsimp only at hSw); (try simp only [List.getElem_toArray, List.getElem_cons_zero, List.getElem_cons_succ]); go_simp; first | done | (with_reducible rfl)))
          simp only [Act.put, List.getElem_toArray, List.getElem_cons_zero, List.getElem_cons_succ, List.setIfInBounds_toArray, List.set_cons_zero, List.set_cons_succ]
          refine wpAnyH_take (i := 7) (v := ?v46) rfl (by kernel_rfl) (by kernel_rfl) (by kernel_rfl) (fun _ _ _ h => h) (Or.inl ⟨by rfl, ?hy46⟩) (by assumption) ?rest46
          case hy46 => ((intro w hSw; (try dsimp only at hSw); (try simp only [List.getElem_toArray, List.getElem_cons_zero, List.getElem_cons_succ]); go_simp; first | done | (with_reducible rfl)))
          simp only [Act.put, List.getElem_toArray, List.getElem_cons_zero, List.getElem_cons_succ, List.setIfInBounds_toArray, List.set_cons_zero, List.set_cons_succ]
          refine wpAnyH_ready (rs := [5]) (by kernel_rfl) (by simp) ?_
          refine AllReadyH.cons rfl (fun K hK => ?_) AllReadyH.nil
          go_simp
          (go_at_call 67; refine (pick_any w0 _ R _ 2 hrd8 (by omega) (by omega) (by omega)).mono ?_; rintro e w9 ⟨q9, rfl, hq9, hr9, hu9⟩; have N10 := hide (hu9.keeps N9.out (by omega)))
          refine hK.out _ _ ?_ (fun hHeld => ?_)
          · exact ⟨boxAt N10.out 0, boxAt N10.out 1⟩
          clear hK K
          refine wpAnyH_take (i := 6) (v := ?v47) rfl (by kernel_rfl) (by kernel_rfl) (by kernel_rfl) (fun _ _ _ h => h) (Or.inl ⟨by rfl, ?y47⟩) (by assumption) ?r47
          case y47 => (intro w hSw; go_simp; first | done | (with_reducible rfl))
          simp only [Act.put, List.getElem_toArray, List.getElem_cons_zero, List.getElem_cons_succ, List.setIfInBounds_toArray, List.set_cons_zero, List.set_cons_succ]
          refine wpAnyH_ready (rs := [8]) (by kernel_rfl) (by simp) ?_
          refine AllReadyH.cons rfl (fun K hK => ?_) AllReadyH.nil
          go_simp
          (go_at_call 68; refine (l72Cmd_any w0 _ R _ hr9 (by omega)).mono ?_; rintro e w10 ⟨x10, p10, rfl, hr10, hp10, hu10⟩; have N11 := hide (hu10.keeps N10.out (by omega)))
          refine hK.out _ _ ?_ (fun hHeld => ?_)
          · exact ⟨boxAt N11.out 0, boxAt N11.out 1⟩
          clear hK K
          refine wpAnyH_take (i := 9) (v := .agg (pparr (k.s, _, x10))) rfl (by kernel_rfl) (by kernel_rfl) (by kernel_rfl) (fun _ _ _ h => h) (yields_build rfl 37 _ rfl [(0, .int .i64 k.s), (1, .int .i64 _), (2, .agg #[.int .i64 x10.c0, .int .i64 x10.c1, .int .i64 x10.c2, .int .i64 x10.c3, .int .i64 x10.c4, .int .i64 x10.c5, .int .i64 x10.c6, .int .i64 x10.c7, .int .i64 x10.c8, .int .i64 x10.c9])] _ ((by (conv => lhs; simp only [List.map_toArray, List.map_cons, List.map_nil]); rfl)) (builtBestC _ _ _)) (by assumption) ?_
          simp only [Act.put, List.getElem_toArray, List.getElem_cons_zero, List.getElem_cons_succ, List.setIfInBounds_toArray, List.set_cons_zero, List.set_cons_succ]
          generalize hpp : ((k.s, _, x10) : Pp) = pp
          clear hpp
          have zU9 := hu9.size
          have zU10 := hu10.size
          have s11 := updRow w10 g5 (skarr { k with p := pp } (.slice yo k.ys.length yc))
          have N12 := hide (setRow_heap _ _ _ (skarr { k with p := pp } (.slice yo k.ys.length yc)) _ _ N11.out)
          have hput : putAt (skarr k (.slice yo k.ys.length yc)) 13 (pparr pp) = skarr { k with p := pp } (.slice yo k.ys.length yc) := rfl
          refine wpAnyH_take (i := 10) (v := ?v48) rfl (by kernel_rfl) (by kernel_rfl) (by kernel_rfl) (fun _ _ _ h => h) (Or.inl ⟨by rfl, ?hy48⟩) (by assumption) ?rest48
          case hy48 => ((intro w hSw; (try dsimp only at hSw); (try simp only [List.getElem_toArray, List.getElem_cons_zero, List.getElem_cons_succ]); go_simp; first | done | (with_reducible rfl)))
          simp only [Act.put, List.getElem_toArray, List.getElem_cons_zero, List.getElem_cons_succ, List.setIfInBounds_toArray, List.set_cons_zero, List.set_cons_succ]
          refine wpAnyH_ready (rs := [11]) (by kernel_rfl) (by simp) ?_
          refine AllReadyH.cons rfl (fun K hK => ?_) AllReadyH.nil
          (refine wp_store_at 37 (.tmp 98) (.tmp 97) rfl g5 13 (pparr pp) rfl rfl _ _ N11.out infoPpS (show (13 + 12 : Nat) ≤ 26 by omega) (pparr_one _) ?_; rw [hput])
          refine hK.out _ _ ?_ (fun hHeld => ?_)
          · exact ⟨boxAt N12.out 0, boxAt N12.out 1⟩
          clear hK K
          refine wpAnyH_done (by kernel_rfl) ?_ _
          refine NoPanic.normal ?_
          clear hHeld
          have R12 := hide (rowA_keep_box (by decide) (((R8.out.keepB dd).keep hu9 (fun j h1 h2 => by omega)).keep hu10 (fun j h1 h2 => by omega)) N11.out s11)
          have B12 := hide (s11.keeps (hu10.keeps (hu9.keeps (bKeeps dd B8.out) (by omega)) (by omega)) (by omega))
          have hr12 := hr10.keep s11 (by omega) (fun j h => by omega)
          have U12 := upd_mix (((U8.trans (Upd.ofBelow dd)).trans hu9).trans hu10) s11 (fun j h => .inr (by omega))
          generalize w10.setRow g5 (skarr { k with p := pp } (.slice yo k.ys.length yc)) = V at N12 R12 B12 hr12 U12 ⊢
          clear hput s11 N11 hu10 hu9 hrd8 dd N8 R8 B8 U8 hr8 hr9 hr10
          have s9 := updRow V w.heap.size (skarr { k with p := pp } (.slice yo k.ys.length yc))
          have zu := U12.size
          go_wp2_with (first
            | (refine wpList_load_row rfl 39 (.tmp 5) rfl g5 rfl _ (skarr { k with p := pp } (.slice yo k.ys.length yc)) (0, 0) _ N12.out Try.underlying39 rfl infoSk ?_)
            | (refine wpList_store_row rfl 39 (.tmp 2) (.tmp 99) rfl w.heap.size (skarr { k with p := pp } (.slice yo k.ys.length yc)) rfl rfl _ _ B12.out infoSk (show (26 : Nat) = 26 from rfl) (skarr_one _ _ _ _) ?_))
          refine bodyPost_ret (v := .tuple #[.agg (skarr { k with p := pp } (.slice yo k.ys.length yc)), .int .i64 _]) (results_row_tmp Try.results66 _ _ w.heap.size _ _ (0, 0) _ _ rfl rfl (setRow_heap _ _ _ _ _ _ B12.out) Try.underlying39 rfl infoSk) rfl ?_
          exact ⟨_, { k with p := pp }, _, _, rfl, ⟨yo, yc, rfl, (R12.out.keep s9 (fun j h1 h2 => by omega)).mono (by omega)⟩, by show k.ys.length ≤ 4; omega, ⟨by first | exact hb.1 | (simp; omega), by first | omega | (simp; omega)⟩, hr12.keep s9 (by omega) (fun j h => by omega), by omega, upd_mix ((Upd.ofBelow al).trans U12) s9 (fun j h => .inr (by omega))⟩
        · have e0 : ((q8 : Int) == 0) = false := by simp; omega
          have e1 : ((q8 : Int) == 1) = false := by simp; omega
          have e2 : ((q8 : Int) == 2) = false := by simp; omega
          have s9 := updRow w8 w.heap.size (skarr k (.slice yo k.ys.length yc))
          have zu := U8.size
          go_wp2_with (first
            | (refine wpList_load_row rfl 39 (.tmp 5) rfl g5 rfl _ (skarr k (.slice yo k.ys.length yc)) (0, 0) _ N8.out Try.underlying39 rfl infoSk ?_)
            | (refine wpList_store_row rfl 39 (.tmp 2) (.tmp 99) rfl w.heap.size (skarr k (.slice yo k.ys.length yc)) rfl rfl _ _ B8.out infoSk (show (26 : Nat) = 26 from rfl) (skarr_one _ _ _ _) ?_))
          refine bodyPost_ret (v := .tuple #[.agg (skarr k (.slice yo k.ys.length yc)), .int .i64 _]) (results_row_tmp Try.results66 _ _ w.heap.size _ _ (0, 0) _ _ rfl rfl (setRow_heap _ _ _ _ _ _ B8.out) Try.underlying39 rfl infoSk) rfl ?_
          exact ⟨_, k, _, _, rfl, ⟨yo, yc, rfl, (R8.out.keep s9 (fun j h1 h2 => by omega)).mono (by omega)⟩, by omega, ⟨by first | exact hb.1 | (simp; omega), by first | omega | (simp; omega)⟩, hr8.keep s9 (by omega) (fun j h => by omega), by omega, upd_mix ((Upd.ofBelow al).trans U8) s9 (fun j h => .inr (by omega))⟩
      · obtain ⟨n', rfl⟩ : ∃ n', n = n' + 1 := ⟨n - 1, by omega⟩
        have hi : (0 : Int) < ((n' + 1 : Nat) : Int) := by omega
        have hi2 : decide (((n' + 1 : Nat) : Int) > 0) = true := decide_eq_true hi
        have hph : decide (k.ph > 0) = false := decide_eq_false (hstop hz)
        clear hstop hgo
        go_wp2_with fail
        refine (pick_any w0 _ R _ 16 hrd (by omega) (by omega) (by omega)).mono ?_
        rintro e w8 ⟨q8, rfl, hq8, hr8, hu8⟩
        have z8 := hu8.size
        have N8 := hide (hu8.keeps H5.out (by omega))
        have R8 := hide (HR.out.keep hu8 (fun j h1 h2 => by omega))
        have B8 := hide (hu8.keeps B0.out (by omega))
        have U8 := UW.trans hu8
        have hg58 := heap_lt N8.out
        have zU8 := U8.size
        clear hu8 H5 HR B0 UX UW x0 x1 x2 hrd
        rcases (by omega : q8 = 0 ∨ q8 = 1 ∨ q8 = 2 ∨ 3 ≤ q8) with h | h | h | h
        · subst h
          go_wp2_with fail
          refine (pick_any w0 _ R _ 5 hr8 (by omega) (by omega) (by omega)).mono ?_
          rintro e w9 ⟨q9, rfl, hq9, hr9, hu9⟩
          have N9 := hide (hu9.keeps N8.out (by omega))
          have R9 := hide (R8.out.keep hu9 (fun j h1 h2 => by omega))
          have B9 := hide (hu9.keeps B8.out (by omega))
          have U9 := U8.trans hu9
          have c0 : w9.cell? ⟨g5, 2, none⟩ = some (.int .i64 k.ph) := boxAt N9.out 2
          have c1 : w9.frozen? ⟨g5, 2, none⟩ = false := boxFz N9.out 2
          clear hu9 N8 R8 B8 U8 hr8
          go_upto_region 17 with fail
          generalize hV : World.setCell _ _ _ = V
          have u6 : Upd (fun j => j = g5) w9 V := by rw [← hV]; exact Upd.setCell _ _ _ _ rfl
          have N10 : Hid (V.heap[g5]? = some (.cells (skarr { k with ph := (q9 : Int) - 1 } (.slice yo k.ys.length yc)) 39 (0, 0))) := by show _ = _; rw [← hV]; exact row_set _ N9.out
          have R10 := hide (rowA_keep_box (by decide) R9.out N9.out u6)
          have B10 := hide (u6.keeps B9.out (by omega))
          have hr10 := hr9.keep u6 (by omega) (fun j h => by omega)
          have U10 := upd_mix U9 u6 (fun j h => .inr (by omega))
          clear hV c0 c1 N9 R9 B9 hr9 U9
          have s9 := updRow V w.heap.size (skarr { k with ph := (q9 : Int) - 1 } (.slice yo k.ys.length yc))
          have zu := U10.size
          go_wp2_with (first
            | (refine wpList_load_row rfl 39 (.tmp 5) rfl g5 rfl _ (skarr { k with ph := (q9 : Int) - 1 } (.slice yo k.ys.length yc)) (0, 0) _ N10.out Try.underlying39 rfl infoSk ?_)
            | (refine wpList_store_row rfl 39 (.tmp 2) (.tmp 99) rfl w.heap.size (skarr { k with ph := (q9 : Int) - 1 } (.slice yo k.ys.length yc)) rfl rfl _ _ B10.out infoSk (show (26 : Nat) = 26 from rfl) (skarr_one _ _ _ _) ?_))
          refine bodyPost_ret (v := .tuple #[.agg (skarr { k with ph := (q9 : Int) - 1 } (.slice yo k.ys.length yc)), .int .i64 _]) (results_row_tmp Try.results66 _ _ w.heap.size _ _ (0, 0) _ _ rfl rfl (setRow_heap _ _ _ _ _ _ B10.out) Try.underlying39 rfl infoSk) rfl ?_
          exact ⟨_, { k with ph := (q9 : Int) - 1 }, _, _, rfl, ⟨yo, yc, rfl, (R10.out.keep s9 (fun j h1 h2 => by omega)).mono (by omega)⟩, by show k.ys.length ≤ 4; omega, ⟨by first | exact hb.1 | (simp; omega), by first | omega | (simp; omega)⟩, hr10.keep s9 (by omega) (fun j h => by omega), by omega, upd_mix ((Upd.ofBelow al).trans U10) s9 (fun j h => .inr (by omega))⟩
        · subst h
          have l8 : w8.cell? ⟨g5, 25, none⟩ = some (.slice yo k.ys.length yc) := boxAt N8.out 25
          have al8 := bal (Below.refl w8.heap.size w8) (.cells #[.int .i64 3] 3)
          have rowV := R8.out.keepB al8
          have NV := hide (newI_cells w8 3 3)
          have T8 := hide (bKeeps al8 N8.out)
          have B9 := hide (bKeeps al8 B8.out)
          go_wp2_with (at_builtin; refine wpList_appendA _ rfl _ _ 26 rfl W.heap.size 3 i1 (.int .i64 0) 1 8 Try.underlying26 gi gz0 gz1 gz2 rfl (by decide) _ k.ys.length (ints k.ys) rfl rowV ⟨w8.heap.size, 0, none⟩ 1 1 [.int .i64 3] rfl rfl NV.out (oneI _) (by decide) ?q63 ?qby ?qbase ?_)
          case q63 => unfold maxLen; omega
          case qby => omega
          case qbase => (have := al8.size; omega)
          intro v9 w9 r9 u9
          obtain ⟨so9, sc9, rfl, hcap9⟩ := owns_shape r9
          have N9 := hide (typed_keeps (by decide) u9 T8.out)
          have B9 := hide (typed_keeps (by decide) u9 B9.out)
          have R9 := hide (show RowA w9 W.heap.size 3 1 _ _ _ from .inl r9)
          have z9 := u9.size
          have zal := al8.size
          have hr9 := (hr8.keepB al8).keep u9 (fun h => by have := h.1; omega) (fun j h => by have := h.1; omega)
          have U9 := upd_mix (U8.trans (Upd.ofBelow al8)) u9 (fun j h => .inr (by have := h.1; omega))
          have c0 : w9.cell? ⟨g5, 25, none⟩ = some (.slice yo k.ys.length yc) := boxAt N9.out 25
          have c1 : w9.frozen? ⟨g5, 25, none⟩ = false := boxFz N9.out 25
          clear l8 rowV NV T8 al8 r9 u9 N8 R8 B8 U8 hr8
          go_upto_region 17 with fail
          generalize hV : World.setCell _ _ _ = V
          have u6 : Upd (fun j => j = g5) w9 V := by rw [← hV]; exact Upd.setCell _ _ _ _ rfl
          have N10 : Hid (V.heap[g5]? = some (.cells (skarr k (.slice so9 (k.ys.length + 1) sc9)) 39 (0, 0))) := by show _ = _; rw [← hV]; exact row_set _ N9.out
          have R10 := hide (rowA_keep_box (by decide) R9.out N9.out u6)
          have B10 := hide (u6.keeps B9.out (by omega))
          have hr10 := hr9.keep u6 (by omega) (fun j h => by omega)
          have U10 := upd_mix U9 u6 (fun j h => .inr (by omega))
          clear hV c0 c1 N9 R9 B9 hr9 U9
          have s9 := updRow V w.heap.size (skarr k (.slice so9 (k.ys.length + 1) sc9))
          have zu := U10.size
          go_wp2_with (first
            | (refine wpList_load_row rfl 39 (.tmp 5) rfl g5 rfl _ (skarr k (.slice so9 (k.ys.length + 1) sc9)) (0, 0) _ N10.out Try.underlying39 rfl infoSk ?_)
            | (refine wpList_store_row rfl 39 (.tmp 2) (.tmp 99) rfl w.heap.size (skarr k (.slice so9 (k.ys.length + 1) sc9)) rfl rfl _ _ B10.out infoSk (show (26 : Nat) = 26 from rfl) (skarr_one _ _ _ _) ?_))
          refine bodyPost_ret (v := .tuple #[.agg (skarr k (.slice so9 (k.ys.length + 1) sc9)), .int .i64 _]) (results_row_tmp Try.results66 _ _ w.heap.size _ _ (0, 0) _ _ rfl rfl (setRow_heap _ _ _ _ _ _ B10.out) Try.underlying39 rfl infoSk) rfl ?_
          exact ⟨_, { k with ys := k.ys ++ [3] }, _, _, rfl, ⟨so9, sc9, by simp [sk_ys], by simpa [ints] using ((R10.out.keep s9 (fun j h1 h2 => by omega)).mono (base' := w.heap.size) (by omega))⟩, by simp; omega, ⟨by first | exact hb.1 | (simp; omega), by first | omega | (simp; omega)⟩, hr10.keep s9 (by omega) (fun j h => by omega), by omega, upd_mix ((Upd.ofBelow al).trans U10) s9 (fun j h => .inr (by omega))⟩
        · subst h
          go_upto_region 16 with fail
          have dd := bDrewB (Below.refl w8.heap.size w8)
          have hrd8 := hr8.keepB dd
          have N9 := hide (bKeeps dd N8.out)
          have zdd : w8.drew.heap.size = w8.heap.size := rfl
          refine wp_region_noPanic ?_
          refine wp_region_held_drew (S := (fun w' => w'.cell? ⟨g5, 0, none⟩ = some (.int .i64 k.s) ∧ w'.cell? ⟨g5, 1, none⟩ = some (.int .i64 k.b))) (by kernel_rfl) ?_ (fun hHeld => ?_)
          · exact ⟨boxAt N9.out 0, boxAt N9.out 1⟩
          refine wpAnyH_take (i := 0) (v := ?v49) rfl (by kernel_rfl) (by kernel_rfl) (by kernel_rfl) (fun _ _ _ h => h) (Or.inl ⟨by rfl, ?hy49⟩) (by assumption) ?rest49
          case hy49 => ((intro w hSw; (try dsimp only at hSw); (try simp only [List.getElem_toArray, List.getElem_cons_zero]); go_simp; first | done | (with_reducible rfl)))
          simp only [Act.put, List.getElem_toArray, List.getElem_cons_zero, List.setIfInBounds_toArray, List.set_cons_zero, List.set_cons_succ]
          refine wpAnyH_take (i := 1) (v := ?v50) rfl (by kernel_rfl) (by kernel_rfl) (by kernel_rfl) (fun _ _ _ h => h) (Or.inl ⟨by rfl, ?hy50⟩) (by assumption) ?rest50
          case hy50 => ((intro w hSw; (try dsimp only at hSw); (try simp only [List.getElem_toArray, List.getElem_cons_zero, List.getElem_cons_succ]); go_simp; first | done | (with_reducible rfl)))
          simp only [Act.put, List.getElem_toArray, List.getElem_cons_zero, List.getElem_cons_succ, List.setIfInBounds_toArray, List.set_cons_zero, List.set_cons_succ]
          refine wpAnyH_take (i := 2) (v := ?v51) rfl (by kernel_rfl) (by kernel_rfl) (by kernel_rfl) (fun _ _ _ h => h) (Or.inl ⟨by rfl, ?hy51⟩) (by assumption) ?rest51
          case hy51 => ((intro w hSw; (try dsimp only at hSw); (try simp only [List.getElem_toArray, List.getElem_cons_zero, List.getElem_cons_succ]); go_simp; first | done | (with_reducible rfl)))
          simp only [Act.put, List.getElem_toArray, List.getElem_cons_zero, List.getElem_cons_succ, List.setIfInBounds_toArray, List.set_cons_zero, List.set_cons_succ]
          refine wpAnyH_take (i := 3) (v := ?v52) rfl (by kernel_rfl) (by kernel_rfl) (by kernel_rfl) (fun _ _ _ h => h) (Or.inl ⟨by rfl, ?hy52⟩) (by assumption) ?rest52
          case hy52 => ((intro w hSw; (try dsimp only at hSw); (try simp only [List.getElem_toArray, List.getElem_cons_zero, List.getElem_cons_succ]); go_simp; first | done | (with_reducible rfl)))
          simp only [Act.put, List.getElem_toArray, List.getElem_cons_zero, List.getElem_cons_succ, List.setIfInBounds_toArray, List.set_cons_zero, List.set_cons_succ]
          refine wpAnyH_take (i := 4) (v := ?v53) rfl (by kernel_rfl) (by kernel_rfl) (by kernel_rfl) (fun _ _ _ h => h) (Or.inl ⟨by rfl, ?hy53⟩) (by assumption) ?rest53
          case hy53 => ((intro w hSw; (try dsimp only at hSw); (try simp only [List.getElem_toArray, List.getElem_cons_zero, List.getElem_cons_succ]); go_simp; first | done | (with_reducible rfl)))
          simp only [Act.put, List.getElem_toArray, List.getElem_cons_zero, List.getElem_cons_succ, List.setIfInBounds_toArray, List.set_cons_zero, List.set_cons_succ]
          refine wpAnyH_take (i := 7) (v := ?v54) rfl (by kernel_rfl) (by kernel_rfl) (by kernel_rfl) (fun _ _ _ h => h) (Or.inl ⟨by rfl, ?hy54⟩) (by assumption) ?rest54
          case hy54 => ((intro w hSw; (try dsimp only at hSw); (try simp only [List.getElem_toArray, List.getElem_cons_zero, List.getElem_cons_succ]); go_simp; first | done | (with_reducible rfl)))
          simp only [Act.put, List.getElem_toArray, List.getElem_cons_zero, List.getElem_cons_succ, List.setIfInBounds_toArray, List.set_cons_zero, List.set_cons_succ]
          refine wpAnyH_ready (rs := [5]) (by kernel_rfl) (by simp) ?_
          refine AllReadyH.cons rfl (fun K hK => ?_) AllReadyH.nil
          go_simp
          (go_at_call 67; refine (pick_any w0 _ R _ 2 hrd8 (by omega) (by omega) (by omega)).mono ?_; rintro e w9 ⟨q9, rfl, hq9, hr9, hu9⟩; have N10 := hide (hu9.keeps N9.out (by omega)))
          refine hK.out _ _ ?_ (fun hHeld => ?_)
          · exact ⟨boxAt N10.out 0, boxAt N10.out 1⟩
          clear hK K
          refine wpAnyH_take (i := 6) (v := ?v55) rfl (by kernel_rfl) (by kernel_rfl) (by kernel_rfl) (fun _ _ _ h => h) (Or.inl ⟨by rfl, ?y55⟩) (by assumption) ?r55
          case y55 => (intro w hSw; go_simp; first | done | (with_reducible rfl))
          simp only [Act.put, List.getElem_toArray, List.getElem_cons_zero, List.getElem_cons_succ, List.setIfInBounds_toArray, List.set_cons_zero, List.set_cons_succ]
          refine wpAnyH_ready (rs := [8]) (by kernel_rfl) (by simp) ?_
          refine AllReadyH.cons rfl (fun K hK => ?_) AllReadyH.nil
          go_simp
          (go_at_call 68; refine (l72Cmd_any w0 _ R _ hr9 (by omega)).mono ?_; rintro e w10 ⟨x10, p10, rfl, hr10, hp10, hu10⟩; have N11 := hide (hu10.keeps N10.out (by omega)))
          refine hK.out _ _ ?_ (fun hHeld => ?_)
          · exact ⟨boxAt N11.out 0, boxAt N11.out 1⟩
          clear hK K
          refine wpAnyH_take (i := 9) (v := .agg (pparr (k.s, _, x10))) rfl (by kernel_rfl) (by kernel_rfl) (by kernel_rfl) (fun _ _ _ h => h) (yields_build rfl 37 _ rfl [(0, .int .i64 k.s), (1, .int .i64 _), (2, .agg #[.int .i64 x10.c0, .int .i64 x10.c1, .int .i64 x10.c2, .int .i64 x10.c3, .int .i64 x10.c4, .int .i64 x10.c5, .int .i64 x10.c6, .int .i64 x10.c7, .int .i64 x10.c8, .int .i64 x10.c9])] _ ((by (conv => lhs; simp only [List.map_toArray, List.map_cons, List.map_nil]); rfl)) (builtBestC _ _ _)) (by assumption) ?_
          simp only [Act.put, List.getElem_toArray, List.getElem_cons_zero, List.getElem_cons_succ, List.setIfInBounds_toArray, List.set_cons_zero, List.set_cons_succ]
          generalize hpp : ((k.s, _, x10) : Pp) = pp
          clear hpp
          have zU9 := hu9.size
          have zU10 := hu10.size
          have s11 := updRow w10 g5 (skarr { k with p := pp } (.slice yo k.ys.length yc))
          have N12 := hide (setRow_heap _ _ _ (skarr { k with p := pp } (.slice yo k.ys.length yc)) _ _ N11.out)
          have hput : putAt (skarr k (.slice yo k.ys.length yc)) 13 (pparr pp) = skarr { k with p := pp } (.slice yo k.ys.length yc) := rfl
          refine wpAnyH_take (i := 10) (v := ?v56) rfl (by kernel_rfl) (by kernel_rfl) (by kernel_rfl) (fun _ _ _ h => h) (Or.inl ⟨by rfl, ?hy56⟩) (by assumption) ?rest56
          case hy56 => ((intro w hSw; (try dsimp only at hSw); (try simp only [List.getElem_toArray, List.getElem_cons_zero, List.getElem_cons_succ]); go_simp; first | done | (with_reducible rfl)))
          simp only [Act.put, List.getElem_toArray, List.getElem_cons_zero, List.getElem_cons_succ, List.setIfInBounds_toArray, List.set_cons_zero, List.set_cons_succ]
          refine wpAnyH_ready (rs := [11]) (by kernel_rfl) (by simp) ?_
          refine AllReadyH.cons rfl (fun K hK => ?_) AllReadyH.nil
          (refine wp_store_at 37 (.tmp 98) (.tmp 97) rfl g5 13 (pparr pp) rfl rfl _ _ N11.out infoPpS (show (13 + 12 : Nat) ≤ 26 by omega) (pparr_one _) ?_; rw [hput])
          refine hK.out _ _ ?_ (fun hHeld => ?_)
          · exact ⟨boxAt N12.out 0, boxAt N12.out 1⟩
          clear hK K
          refine wpAnyH_done (by kernel_rfl) ?_ _
          refine NoPanic.normal ?_
          clear hHeld
          have R12 := hide (rowA_keep_box (by decide) (((R8.out.keepB dd).keep hu9 (fun j h1 h2 => by omega)).keep hu10 (fun j h1 h2 => by omega)) N11.out s11)
          have B12 := hide (s11.keeps (hu10.keeps (hu9.keeps (bKeeps dd B8.out) (by omega)) (by omega)) (by omega))
          have hr12 := hr10.keep s11 (by omega) (fun j h => by omega)
          have U12 := upd_mix (((U8.trans (Upd.ofBelow dd)).trans hu9).trans hu10) s11 (fun j h => .inr (by omega))
          generalize w10.setRow g5 (skarr { k with p := pp } (.slice yo k.ys.length yc)) = V at N12 R12 B12 hr12 U12 ⊢
          clear hput s11 N11 hu10 hu9 hrd8 dd N8 R8 B8 U8 hr8 hr9 hr10
          have s9 := updRow V w.heap.size (skarr { k with p := pp } (.slice yo k.ys.length yc))
          have zu := U12.size
          go_wp2_with (first
            | (refine wpList_load_row rfl 39 (.tmp 5) rfl g5 rfl _ (skarr { k with p := pp } (.slice yo k.ys.length yc)) (0, 0) _ N12.out Try.underlying39 rfl infoSk ?_)
            | (refine wpList_store_row rfl 39 (.tmp 2) (.tmp 99) rfl w.heap.size (skarr { k with p := pp } (.slice yo k.ys.length yc)) rfl rfl _ _ B12.out infoSk (show (26 : Nat) = 26 from rfl) (skarr_one _ _ _ _) ?_))
          refine bodyPost_ret (v := .tuple #[.agg (skarr { k with p := pp } (.slice yo k.ys.length yc)), .int .i64 _]) (results_row_tmp Try.results66 _ _ w.heap.size _ _ (0, 0) _ _ rfl rfl (setRow_heap _ _ _ _ _ _ B12.out) Try.underlying39 rfl infoSk) rfl ?_
          exact ⟨_, { k with p := pp }, _, _, rfl, ⟨yo, yc, rfl, (R12.out.keep s9 (fun j h1 h2 => by omega)).mono (by omega)⟩, by show k.ys.length ≤ 4; omega, ⟨by first | exact hb.1 | (simp; omega), by first | omega | (simp; omega)⟩, hr12.keep s9 (by omega) (fun j h => by omega), by omega, upd_mix ((Upd.ofBelow al).trans U12) s9 (fun j h => .inr (by omega))⟩
        · have e0 : ((q8 : Int) == 0) = false := by simp; omega
          have e1 : ((q8 : Int) == 1) = false := by simp; omega
          have e2 : ((q8 : Int) == 2) = false := by simp; omega
          have s9 := updRow w8 w.heap.size (skarr k (.slice yo k.ys.length yc))
          have zu := U8.size
          go_wp2_with (first
            | (refine wpList_load_row rfl 39 (.tmp 5) rfl g5 rfl _ (skarr k (.slice yo k.ys.length yc)) (0, 0) _ N8.out Try.underlying39 rfl infoSk ?_)
            | (refine wpList_store_row rfl 39 (.tmp 2) (.tmp 99) rfl w.heap.size (skarr k (.slice yo k.ys.length yc)) rfl rfl _ _ B8.out infoSk (show (26 : Nat) = 26 from rfl) (skarr_one _ _ _ _) ?_))
          refine bodyPost_ret (v := .tuple #[.agg (skarr k (.slice yo k.ys.length yc)), .int .i64 _]) (results_row_tmp Try.results66 _ _ w.heap.size _ _ (0, 0) _ _ rfl rfl (setRow_heap _ _ _ _ _ _ B8.out) Try.underlying39 rfl infoSk) rfl ?_
          exact ⟨_, k, _, _, rfl, ⟨yo, yc, rfl, (R8.out.keep s9 (fun j h1 h2 => by omega)).mono (by omega)⟩, by omega, ⟨by first | exact hb.1 | (simp; omega), by first | omega | (simp; omega)⟩, hr8.keep s9 (by omega) (fun j h => by omega), by omega, upd_mix ((Upd.ofBelow al).trans U8) s9 (fun j h => .inr (by omega))⟩

end Go.Proofs.Yteddhdbglciahaa
