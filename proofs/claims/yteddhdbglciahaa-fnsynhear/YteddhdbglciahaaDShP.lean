/- DrawSynHear: a seeker, a number and a word that are drawn: a contract; no statement of the seat is proved here. (Written by wip/tools/mkdsh.py.) -/
import Derived.Test.YteddhdbglciahaaDSkP
import Derived.Test.YteddhdbglciahaaLk13
namespace Go.Proofs.Yteddhdbglciahaa
open Go.RowKit

theorem hearR_b (k : Sk) (me : Int) (x : Wd) : (hearR k me x).1.b = k.b := by
  unfold hearR toldK
  repeat' split
  all_goals rfl
theorem hearR_s (k : Sk) (me : Int) (x : Wd) : (hearR k me x).1.s = k.s := by
  unfold hearR toldK
  repeat' split
  all_goals rfl
theorem lit224 (q : Nat) (h : (q : Int) < 3) : ∃ z : Int, (#[.int .i64 2, .int .i64 2, .int .i64 4] : Array Value)[q]? = some (.int .i64 z) := by
  rcases (by omega : q = 0 ∨ q = 1 ∨ q = 2) with rfl | rfl | rfl
  · exact ⟨2, rfl⟩
  · exact ⟨2, rfl⟩
  · exact ⟨4, rfl⟩
def saidW (z f me b s : Int) (c : Wd) : Wd := { zeroW with a0 := z, a1 := f, a2 := me, a3 := b, a4 := s, c0 := c.c0, c1 := c.c1, c2 := c.c2, c3 := c.c3, c4 := c.c4, c5 := c.c5, c6 := c.c6, c7 := c.c7, c8 := c.c8, c9 := c.c9 }
theorem builtSaid (z f me b s : Int) (c : Wd) : Try.prog.built 47 [(0, .int .i64 z), (1, .int .i64 f), (2, .int .i64 me), (3, .int .i64 b), (4, .int .i64 s), (6, .agg #[.int .i64 c.c0, .int .i64 c.c1, .int .i64 c.c2, .int .i64 c.c3, .int .i64 c.c4, .int .i64 c.c5, .int .i64 c.c6, .int .i64 c.c7, .int .i64 c.c8, .int .i64 c.c9])] = some (fwarr (saidW z f me b s c)) := by kernel_rfl
theorem shareRN {R : Prop} {F : World → Nat → Prop} (G : World → Nat → Prop) (h1 : (∀ X x0, F X x0 → G X x0) → R) (h2 : ∀ X x0, F X x0 → G X x0) : R := h1 h2
theorem shareR {R : Prop} {F : World → Prop} (G : World → Prop) (h1 : (∀ X , F X  → G X ) → R) (h2 : ∀ X , F X  → G X ) : R := h1 h2
theorem shareRNNI {R : Prop} {F : World → Nat → Nat → Int → Prop} (G : World → Nat → Nat → Int → Prop) (h1 : (∀ X x0 x1 x2, F X x0 x1 x2 → G X x0 x1 x2) → R) (h2 : ∀ X x0 x1 x2, F X x0 x1 x2 → G X x0 x1 x2) : R := h1 h2
theorem shareRNN {R : Prop} {F : World → Nat → Nat → Prop} (G : World → Nat → Nat → Prop) (h1 : (∀ X x0 x1, F X x0 x1 → G X x0 x1) → R) (h2 : ∀ X x0 x1, F X x0 x1 → G X x0 x1) : R := h1 h2
theorem shareRNNNI {R : Prop} {F : World → Nat → Nat → Nat → Int → Prop} (G : World → Nat → Nat → Nat → Int → Prop) (h1 : (∀ X x0 x1 x2 x3, F X x0 x1 x2 x3 → G X x0 x1 x2 x3) → R) (h2 : ∀ X x0 x1 x2 x3, F X x0 x1 x2 x3 → G X x0 x1 x2 x3) : R := h1 h2
theorem shareRNNWN {R : Prop} {F : World → Nat → Nat → Wd → Nat → Prop} (G : World → Nat → Nat → Wd → Nat → Prop) (h1 : (∀ X x0 x1 x2 x3, F X x0 x1 x2 x3 → G X x0 x1 x2 x3) → R) (h2 : ∀ X x0 x1 x2 x3, F X x0 x1 x2 x3 → G X x0 x1 x2 x3) : R := h1 h2
theorem shareRNNNWNIW {R : Prop} {F : World → Nat → Nat → Nat → Wd → Nat → Int → Wd → Prop} (G : World → Nat → Nat → Nat → Wd → Nat → Int → Wd → Prop) (h1 : (∀ X x0 x1 x2 x3 x4 x5 x6, F X x0 x1 x2 x3 x4 x5 x6 → G X x0 x1 x2 x3 x4 x5 x6) → R) (h2 : ∀ X x0 x1 x2 x3 x4 x5 x6, F X x0 x1 x2 x3 x4 x5 x6 → G X x0 x1 x2 x3 x4 x5 x6) : R := h1 h2

set_option maxRecDepth 100000 in
set_option maxHeartbeats 32000000 in
theorem drawSynHear_any (w : World) (bo : Option Addr) (n cap : Nat) (bs : List Nat) (h : BytesIn w bo n cap bs) (hn : n ≤ 1048576) :
    Calls Try.prog 21 #[.slice bo n cap] w fun e w' => ∃ (v : Value) (k : Sk) (me : Int) (y : Value) (x : Wd), e = .returned (.tuple #[v, .int .i64 me, y]) ∧ SkR w' v k ∧ k.ys.length ≤ 5 ∧ WdR w' y x ∧ x.ps.length ≤ 61 ∧ x.ls.length ≤ 61 ∧ Below w.heap.size w w' := by
  have HB := hide h
  clear h
  go_enter Try.func21, Try.ntmps21
  go_upto_region 1 with fail
  generalize hW : World.alloc _ _ = W
  have al : Below w.heap.size w W := by rw [← hW]; exact bal (bal (Below.refl _ _) _) _
  have B0 : Hid (W.heap[w.heap.size]? = some (.cells (skarr zeroK (.slice none 0 0)) 39 (0, 0))) := by show _ = _; rw [← hW]; exact al2_0 w _ _
  have B1 : Hid (W.heap[w.heap.size + 1]? = some (.cells #[.int .i64 0, .int .i64 0, .int .i64 0, .int .i64 0, .int .i64 0, .int .i64 0, .int .i64 0, .int .i64 0, .int .i64 0, .int .i64 0, .int .i64 0, .int .i64 0, .int .i64 0, .int .i64 0, .int .i64 0, .int .i64 0, .int .i64 0, .int .i64 0, .int .i64 0, .int .i64 0, .int .i64 0, .int .i64 0, .int .i64 0, .int .i64 0, .slice none 0 0, .slice none 0 0] 47 (0, 0))) := by show _ = _; rw [← hW]; exact al2_1 w _ _
  have ltW := heap_lt B1.out
  clear hW
  go_wp2_with fail
  refine (l6Open_any W bo n cap bs (HB.out.keep al) hn).mono ?_
  rintro e w1 ⟨rfl, hr1, b1⟩
  obtain ⟨R, hR⟩ : ∃ R, W.heap.size = R := ⟨_, rfl⟩
  have z1 := b1.size
  rw [hR] at hr1
  have hRl := hr1.lt.1
  have hWR : W.heap.size ≤ R := by omega
  have hRW : R ≤ W.heap.size := by omega
  have c1 : Below W.heap.size W w1 := b1
  rw [hR]
  clear hR HB b1
  go_wp2_with fail
  refine (l72Seeker_any W w1 R 0 hr1 (by omega)).mono ?_
  rintro e w2 ⟨v2, k, me, p2, rfl, ⟨so, sc, rfl, row2⟩, hkl, hb, hr2, hp2, hu2⟩
  have z2 := hu2.size
  have c2 := c1.trans (hu2.below c1.size (fun j h => by omega))
  have a2 := bal (Below.refl w2.heap.size w2) (.cells (skarr k (.slice so k.ys.length sc)) 39)
  have H6 := hide (heap_alloc_new w2 (.cells (skarr k (.slice so k.ys.length sc)) 39))
  have HR := hide ((row2.mono (show w1.heap.size ≤ w1.heap.size by omega)).keepB a2)
  have hrd := hr2.keepB a2
  have cW := c2.trans (a2.mono c2.size)
  clear row2 hu2 hr1 hr2 c1 c2
  go_upto_region 3 with (refine wpList_store_row rfl 39 (.tmp 6) (.tmp 14) rfl w2.heap.size (skarr k (.slice so k.ys.length sc)) rfl rfl _ _ (heap_alloc_new w2 _) infoSk (show (26 : Nat) = 26 from rfl) (skarr_one _ _ _ _) ?_; rw [World.setRow_alloc_new])
  generalize hX : w2.alloc (.cells (skarr k (.slice so k.ys.length sc)) 39) = X at H6 HR hrd cW a2 ⊢
  have zX := a2.size
  have hg6X := heap_lt H6.out
  have hg6 : w1.heap.size ≤ w2.heap.size := z2
  clear hX a2
  generalize w2.heap.size = g6 at z2 zX hg6X H6 hg6 ⊢
  have hRg6 : R < g6 := by omega
  have HR : Hid (RowA X (R + 1) 3 1 (.slice so k.ys.length sc) k.ys.length (ints k.ys)) := HR.out.mono (show R + 1 ≤ w1.heap.size by omega)
  have zcW := cW.size
  clear z1 z2 zX hRl hg6
  go_wp2_with fail
  refine (pick_any W _ R _ 2 hrd (by omega) (by omega) (by omega)).mono ?_
  rintro e w3 ⟨q, rfl, hq, hr3, hu3⟩
  have z3 := hu3.size
  have H6 := hide (hu3.keeps H6.out (by omega))
  have HR := hide (HR.out.keep hu3 (fun j h1 h2 => by omega))
  have cW := cW.trans (hu3.below cW.size (fun j h => by omega))
  have zcW := cW.size
  have hg6X := heap_lt H6.out
  clear hrd hu3
  go_upto_if 18 with fail
  -- perhaps a word is heard
  go_cut [7] (fun s7 wx => ∃ (k : Sk) (so : Option Addr) (sc p' : Nat), s7 = .int .i64 me ∧ wx.heap[g6]? = some (.cells (skarr k (.slice so k.ys.length sc)) 39 (0, 0)) ∧ RowA wx (R + 1) 3 1 (.slice so k.ys.length sc) k.ys.length (ints k.ys) ∧ k.ys.length ≤ 5 ∧ (0 ≤ k.b ∧ k.b ≤ 41) ∧ Rd W wx R p' ∧ p' ≤ 300 ∧ Below W.heap.size W wx)
  case first =>
   as_aux_lemma =>
    rcases (by omega : q = 0 ∨ q = 1) with h | h
    case inr =>
      subst h
      go_wp2_with fail
      go_meet
      exact ⟨k, so, sc, _, rfl, H6.out, HR.out, by omega, hb, hr3, by omega, cW⟩
    subst h
    go_upto_region 4 with fail
    obtain ⟨pr, hpr⟩ : ∃ pr, p2 + 1 = pr := ⟨_, rfl⟩
    rw [hpr] at hr3
    have hpr : pr ≤ 201 := by omega
    have hrd := hr3
    have hRW6 : R < w3.heap.size := by omega
    clear hr3 z3
    generalize w3 = W6 at H6 HR cW zcW hg6X hrd hRW6 ⊢
    have C0 : Hid (W6.cell? ⟨g6, 0, none⟩ = some (.int .i64 k.s)) := boxAt H6.out 0
    have C1 : Hid (W6.cell? ⟨g6, 1, none⟩ = some (.int .i64 k.b)) := boxAt H6.out 1
    have U : Upd (fun j => j = R) W6 W6.drew := Upd.ofBelow (bDrewB (Below.refl _ _))
    have HRd : Rd W W6.drew R (pr + 0) := hrd.keepB (bDrewB (Below.refl _ _))
    clear hrd
    refine wp_region_noPanic ?_
    refine wp_region_held_drew (S := (fun w' => w'.cell? ⟨g6, 0, none⟩ = some (.int .i64 k.s) ∧ w'.cell? ⟨g6, 1, none⟩ = some (.int .i64 k.b))) (by kernel_rfl) ?_ (fun hHeld => ?_)
    · exact ⟨updCell U C0.out (by omega), updCell U C1.out (by omega)⟩
    refine wpAnyH_take (i := 1) (v := ?v1) rfl (by kernel_rfl) (by kernel_rfl) (by kernel_rfl) (fun _ _ _ h => h) (Or.inl ⟨by rfl, ?hy1⟩) (by assumption) ?rest1
    case hy1 => ((intro w hSw; (try dsimp only at hSw); (try simp only [List.getElem_toArray, List.getElem_cons_zero, List.getElem_cons_succ]); go_simp; first | done | (with_reducible rfl)))
    simp only [Act.put, List.getElem_toArray, List.getElem_cons_zero, List.getElem_cons_succ, List.setIfInBounds_toArray, List.set_cons_zero, List.set_cons_succ]
    refine wpAnyH_take (i := 3) (v := ?v2) rfl (by kernel_rfl) (by kernel_rfl) (by kernel_rfl) (fun _ _ _ h => h) (Or.inl ⟨by rfl, ?hy2⟩) (by assumption) ?rest2
    case hy2 => ((intro w hSw; (try dsimp only at hSw); (try simp only [List.getElem_toArray, List.getElem_cons_zero, List.getElem_cons_succ]); go_simp; first | done | (with_reducible rfl)))
    simp only [Act.put, List.getElem_toArray, List.getElem_cons_zero, List.getElem_cons_succ, List.setIfInBounds_toArray, List.set_cons_zero, List.set_cons_succ]
    refine wpAnyH_take (i := 7) (v := ?v3) rfl (by kernel_rfl) (by kernel_rfl) (by kernel_rfl) (fun _ _ _ h => h) (Or.inl ⟨by rfl, ?hy3⟩) (by assumption) ?rest3
    case hy3 => ((intro w hSw; (try dsimp only at hSw); (try simp only [List.getElem_toArray, List.getElem_cons_zero, List.getElem_cons_succ]); go_simp; first | done | (with_reducible rfl)))
    simp only [Act.put, List.getElem_toArray, List.getElem_cons_zero, List.getElem_cons_succ, List.setIfInBounds_toArray, List.set_cons_zero, List.set_cons_succ]
    refine wpAnyH_take (i := 9) (v := ?v4) rfl (by kernel_rfl) (by kernel_rfl) (by kernel_rfl) (fun _ _ _ h => h) (Or.inl ⟨by rfl, ?hy4⟩) (by assumption) ?rest4
    case hy4 => ((intro w hSw; (try dsimp only at hSw); (try simp only [List.getElem_toArray, List.getElem_cons_zero, List.getElem_cons_succ]); go_simp; first | done | (with_reducible rfl)))
    simp only [Act.put, List.getElem_toArray, List.getElem_cons_zero, List.getElem_cons_succ, List.setIfInBounds_toArray, List.set_cons_zero, List.set_cons_succ]
    refine wpAnyH_take (i := 10) (v := ?v5) rfl (by kernel_rfl) (by kernel_rfl) (by kernel_rfl) (fun _ _ _ h => h) (Or.inl ⟨by rfl, ?hy5⟩) (by assumption) ?rest5
    case hy5 => ((intro w hSw; (try dsimp only at hSw); (try simp only [List.getElem_toArray, List.getElem_cons_zero, List.getElem_cons_succ]); go_simp; first | done | (with_reducible rfl)))
    simp only [Act.put, List.getElem_toArray, List.getElem_cons_zero, List.getElem_cons_succ, List.setIfInBounds_toArray, List.set_cons_zero, List.set_cons_succ]
    refine wpAnyH_take (i := 11) (v := ?v6) rfl (by kernel_rfl) (by kernel_rfl) (by kernel_rfl) (fun _ _ _ h => h) (Or.inl ⟨by rfl, ?hy6⟩) (by assumption) ?rest6
    case hy6 => ((intro w hSw; (try dsimp only at hSw); (try simp only [List.getElem_toArray, List.getElem_cons_zero, List.getElem_cons_succ]); go_simp; first | done | (with_reducible rfl)))
    simp only [Act.put, List.getElem_toArray, List.getElem_cons_zero, List.getElem_cons_succ, List.setIfInBounds_toArray, List.set_cons_zero, List.set_cons_succ]
    refine wpAnyH_take (i := 12) (v := ?v7) rfl (by kernel_rfl) (by kernel_rfl) (by kernel_rfl) (fun _ _ _ h => h) (Or.inl ⟨by rfl, ?hy7⟩) (by assumption) ?rest7
    case hy7 => ((intro w hSw; (try dsimp only at hSw); (try simp only [List.getElem_toArray, List.getElem_cons_zero, List.getElem_cons_succ]); go_simp; first | done | (with_reducible rfl)))
    simp only [Act.put, List.getElem_toArray, List.getElem_cons_zero, List.getElem_cons_succ, List.setIfInBounds_toArray, List.set_cons_zero, List.set_cons_succ]
    refine wpAnyH_take (i := 13) (v := ?v8) rfl (by kernel_rfl) (by kernel_rfl) (by kernel_rfl) (fun _ _ _ h => h) (Or.inl ⟨by rfl, ?hy8⟩) (by assumption) ?rest8
    case hy8 => ((intro w hSw; (try dsimp only at hSw); (try simp only [List.getElem_toArray, List.getElem_cons_zero, List.getElem_cons_succ]); go_simp; first | done | (with_reducible rfl)))
    simp only [Act.put, List.getElem_toArray, List.getElem_cons_zero, List.getElem_cons_succ, List.setIfInBounds_toArray, List.set_cons_zero, List.set_cons_succ]
    refine wpAnyH_take (i := 14) (v := ?v9) rfl (by kernel_rfl) (by kernel_rfl) (by kernel_rfl) (fun _ _ _ h => h) (Or.inl ⟨by rfl, ?hy9⟩) (by assumption) ?rest9
    case hy9 => ((intro w hSw; (try dsimp only at hSw); (try simp only [List.getElem_toArray, List.getElem_cons_zero, List.getElem_cons_succ]); go_simp; first | done | (with_reducible rfl)))
    simp only [Act.put, List.getElem_toArray, List.getElem_cons_zero, List.getElem_cons_succ, List.setIfInBounds_toArray, List.set_cons_zero, List.set_cons_succ]
    generalize hX00 : W6.drew = X00 at U HRd hHeld ⊢
    clear hX00
    apply shareRNNNWNIW (F := fun X g0 q0 q1 xc pc z0 y => (Upd (fun j => j = R) W6 X) ∧ (Rd W X R pc) ∧ (pc ≤ pr + 22) ∧ ((q0 : Int) < 3) ∧ (X.cell? ⟨g0, q0, none⟩ = some (.int .i64 z0)) ∧ (Flat y) ∧ (X.heap[g0]? = some (.cells #[.int .i64 2, .int .i64 2, .int .i64 4] 3 (0, 0))) ∧ (W6.heap.size ≤ g0))
    intro LEAFR43_0_2
    apply shareRNNWN (F := fun X q0 q1 xc pc => (Upd (fun j => j = R) W6 X) ∧ (Rd W X R pc) ∧ (pc ≤ pr + 22) ∧ ((q0 : Int) < 3))
    intro LEAFR43_0
    apply shareRNNNWNIW (F := fun X g0 q0 q1 xc pc z0 y => (Upd (fun j => j = R) W6 X) ∧ (Rd W X R pc) ∧ (pc ≤ pr + 22) ∧ ((q0 : Int) < 3) ∧ (X.cell? ⟨g0, q0, none⟩ = some (.int .i64 z0)) ∧ (Flat y) ∧ (X.heap[g0]? = some (.cells #[.int .i64 2, .int .i64 2, .int .i64 4] 3 (0, 0))) ∧ (W6.heap.size ≤ g0))
    intro LEAFR43_2
    apply shareRNNNI (F := fun X g0 q0 q1 z0 => (Upd (fun j => j = R) W6 X) ∧ (Rd W X R (pr + 2)) ∧ ((q0 : Int) < 3) ∧ (X.cell? ⟨g0, q0, none⟩ = some (.int .i64 z0)) ∧ (X.heap[g0]? = some (.cells #[.int .i64 2, .int .i64 2, .int .i64 4] 3 (0, 0))) ∧ (W6.heap.size ≤ g0))
    intro LEAFR42_0_2
    apply shareRNNWN (F := fun X q0 q1 xc pc => (Upd (fun j => j = R) W6 X) ∧ (Rd W X R pc) ∧ (pc ≤ pr + 22) ∧ ((q0 : Int) < 3))
    intro LEAFR43
    apply shareRNN (F := fun X q0 q1 => (Upd (fun j => j = R) W6 X) ∧ (Rd W X R (pr + 2)) ∧ ((q0 : Int) < 3))
    intro LEAFR42_0
    apply shareRNNNI (F := fun X g0 q0 q1 z0 => (Upd (fun j => j = R) W6 X) ∧ (Rd W X R (pr + 2)) ∧ ((q0 : Int) < 3) ∧ (X.cell? ⟨g0, q0, none⟩ = some (.int .i64 z0)) ∧ (X.heap[g0]? = some (.cells #[.int .i64 2, .int .i64 2, .int .i64 4] 3 (0, 0))) ∧ (W6.heap.size ≤ g0))
    intro LEAFR42_2
    apply shareRNNI (F := fun X g0 q0 z0 => (Upd (fun j => j = R) W6 X) ∧ (Rd W X R (pr + 1)) ∧ ((q0 : Int) < 3) ∧ (X.cell? ⟨g0, q0, none⟩ = some (.int .i64 z0)) ∧ (X.heap[g0]? = some (.cells #[.int .i64 2, .int .i64 2, .int .i64 4] 3 (0, 0))) ∧ (W6.heap.size ≤ g0))
    intro LEAFR41_0_2
    apply shareRNN (F := fun X q0 q1 => (Upd (fun j => j = R) W6 X) ∧ (Rd W X R (pr + 2)) ∧ ((q0 : Int) < 3))
    intro LEAFR42
    apply shareRN (F := fun X q0 => (Upd (fun j => j = R) W6 X) ∧ (Rd W X R (pr + 1)) ∧ ((q0 : Int) < 3))
    intro LEAFR41_0
    apply shareRNNI (F := fun X g0 q0 z0 => (Upd (fun j => j = R) W6 X) ∧ (Rd W X R (pr + 1)) ∧ ((q0 : Int) < 3) ∧ (X.cell? ⟨g0, q0, none⟩ = some (.int .i64 z0)) ∧ (X.heap[g0]? = some (.cells #[.int .i64 2, .int .i64 2, .int .i64 4] 3 (0, 0))) ∧ (W6.heap.size ≤ g0))
    intro LEAFR41_2
    apply shareRN (F := fun X g0 => (Upd (fun j => j = R) W6 X) ∧ (Rd W X R (pr + 0)) ∧ (X.heap[g0]? = some (.cells #[.int .i64 2, .int .i64 2, .int .i64 4] 3 (0, 0))) ∧ (W6.heap.size ≤ g0))
    intro LEAFR40_0_2
    apply shareRN (F := fun X q0 => (Upd (fun j => j = R) W6 X) ∧ (Rd W X R (pr + 1)) ∧ ((q0 : Int) < 3))
    intro LEAFR41
    apply shareR (F := fun X  => (Upd (fun j => j = R) W6 X) ∧ (Rd W X R (pr + 0)))
    intro LEAFR40_0
    apply shareRN (F := fun X g0 => (Upd (fun j => j = R) W6 X) ∧ (Rd W X R (pr + 0)) ∧ (X.heap[g0]? = some (.cells #[.int .i64 2, .int .i64 2, .int .i64 4] 3 (0, 0))) ∧ (W6.heap.size ≤ g0))
    intro LEAFR40_2
    · refine wpAnyH_ready (rs := [0, 2, 4]) (by kernel_rfl) (by simp) ?_
      refine AllReadyH.cons rfl (fun K hK => ?_) (AllReadyH.cons rfl (fun K hK => ?_) (AllReadyH.cons rfl (fun K hK => ?_) AllReadyH.nil))
      · refine wp_load_at 39 (.tmp 6) rfl g6 0 rfl (skarr k (.slice so k.ys.length sc)) _ (fun j u hj => by rw [Nat.zero_add, boxAt (U.keeps H6.out (by omega)) j]; exact hj) Try.underlying39 rfl infoSk ?_
        refine hK.out _ _ ?_ (fun hHeld => ?_)
        · exact ⟨updCell U C0.out (by omega), updCell U C1.out (by omega)⟩
        clear hK K
        simp only [Act.put, List.getElem_toArray, List.getElem_cons_zero, List.setIfInBounds_toArray, List.set_cons_zero, List.set_cons_succ]
        exact LEAFR40_0 X00  ⟨U, HRd⟩
      · go_simp
        have N0 := heap_alloc_new (X00) (.cells #[.int .i64 2, .int .i64 2, .int .i64 4] 3)
        have b2 := bal (Below.refl (X00).heap.size (X00)) (.cells #[.int .i64 2, .int .i64 2, .int .i64 4] 3)
        have zU := U.size
        generalize hX2 : (X00).alloc (.cells #[.int .i64 2, .int .i64 2, .int .i64 4] 3) = X2 at N0 b2 ⊢
        have HRd := HRd.keepB b2
        have U := U.trans (Upd.ofBelow b2)
        clear b2 hX2
        have n0 : W6.heap.size ≤ (X00).heap.size := zU
        clear zU
        generalize hgg : (X00).heap.size = g0 at N0 n0 ⊢
        clear hgg
        refine hK.out _ _ ?_ (fun hHeld => ?_)
        · exact ⟨updCell U C0.out (by omega), updCell U C1.out (by omega)⟩
        clear hK K
        exact LEAFR40_2 X2 g0 ⟨U, HRd, N0, n0⟩
      · go_simp
        go_at_call 67
        refine (pick_any W _ R _ 3 HRd (by omega) (by omega) (by omega)).mono ?_
        rintro e X2 ⟨q0, rfl, hqq, HRd, u2⟩
        have U := U.trans u2
        have hq0 : (q0 : Int) < 3 := by omega
        clear u2
        refine hK.out _ _ ?_ (fun hHeld => ?_)
        · exact ⟨updCell U C0.out (by omega), updCell U C1.out (by omega)⟩
        clear hK K
        exact LEAFR41 X2 q0 ⟨U, HRd, hq0⟩
    · intro X g0 ⟨U, HRd, N0, n0⟩
      have hHeld : (fun w' => w'.cell? ⟨g6, 0, none⟩ = some (.int .i64 k.s) ∧ w'.cell? ⟨g6, 1, none⟩ = some (.int .i64 k.b)) X := ⟨updCell U C0.out (by omega), updCell U C1.out (by omega)⟩
      refine wpAnyH_ready (rs := [0, 4]) (by kernel_rfl) (by simp) ?_
      refine AllReadyH.cons rfl (fun K hK => ?_) (AllReadyH.cons rfl (fun K hK => ?_) AllReadyH.nil)
      · refine wp_load_at 39 (.tmp 6) rfl g6 0 rfl (skarr k (.slice so k.ys.length sc)) _ (fun j u hj => by rw [Nat.zero_add, boxAt (U.keeps H6.out (by omega)) j]; exact hj) Try.underlying39 rfl infoSk ?_
        refine hK.out _ _ ?_ (fun hHeld => ?_)
        · exact ⟨updCell U C0.out (by omega), updCell U C1.out (by omega)⟩
        clear hK K
        simp only [Act.put, List.getElem_toArray, List.getElem_cons_zero, List.setIfInBounds_toArray, List.set_cons_zero, List.set_cons_succ]
        exact LEAFR40_0_2 X g0 ⟨U, HRd, N0, n0⟩
      · go_simp
        go_at_call 67
        refine (pick_any W _ R _ 3 HRd (by omega) (by omega) (by omega)).mono ?_
        rintro e X2 ⟨q0, rfl, hqq, HRd, u2⟩
        have N0 := u2.keeps N0 (by omega)
        have U := U.trans u2
        have hq0 : (q0 : Int) < 3 := by omega
        clear u2
        refine hK.out _ _ ?_ (fun hHeld => ?_)
        · exact ⟨updCell U C0.out (by omega), updCell U C1.out (by omega)⟩
        clear hK K
        obtain ⟨z0, hz0⟩ := lit224 q0 hq0
        have Z0 := (boxAt N0 q0).trans hz0
        clear hz0
        refine wpAnyH_strong (S' := fun w' => ((w'.cell? ⟨g6, 0, none⟩ = some (.int .i64 k.s) ∧ w'.cell? ⟨g6, 1, none⟩ = some (.int .i64 k.b)) ∧ w'.cell? ⟨g0, q0, none⟩ = some (.int .i64 z0))) (fun w h => h.1) ?_
        have hHeld := And.intro hHeld Z0
        refine wpAnyH_take (i := 5) (v := ?v10) rfl (by kernel_rfl) (by kernel_rfl) (by kernel_rfl) (fun _ _ _ h => h) (Or.inl ⟨by rfl, ?hy10⟩) (by assumption) ?rest10
        case hy10 => ((intro w hSw; (try dsimp only at hSw); (try simp only [List.getElem_toArray, List.getElem_cons_zero, List.getElem_cons_succ]); go_simp; first | done | (with_reducible rfl)))
        simp only [Act.put, List.getElem_toArray, List.getElem_cons_zero, List.getElem_cons_succ, List.setIfInBounds_toArray, List.set_cons_zero, List.set_cons_succ]
        refine wpAnyH_take (i := 6) (v := ?v11) rfl (by kernel_rfl) (by kernel_rfl) (by kernel_rfl) (fun _ _ _ h => h) (Or.inl ⟨by rfl, ?hy11⟩) (by assumption) ?rest11
        case hy11 => ((intro w hSw; (try dsimp only at hSw); (try simp only [List.getElem_toArray, List.getElem_cons_zero, List.getElem_cons_succ]); go_simp; first | done | (with_reducible rfl)))
        simp only [Act.put, List.getElem_toArray, List.getElem_cons_zero, List.getElem_cons_succ, List.setIfInBounds_toArray, List.set_cons_zero, List.set_cons_succ]
        exact LEAFR41_2 X2 g0 q0 z0 ⟨U, HRd, hq0, Z0, N0, n0⟩
    · intro X  ⟨U, HRd⟩
      have hHeld : (fun w' => w'.cell? ⟨g6, 0, none⟩ = some (.int .i64 k.s) ∧ w'.cell? ⟨g6, 1, none⟩ = some (.int .i64 k.b)) X := ⟨updCell U C0.out (by omega), updCell U C1.out (by omega)⟩
      refine wpAnyH_ready (rs := [2, 4]) (by kernel_rfl) (by simp) ?_
      refine AllReadyH.cons rfl (fun K hK => ?_) (AllReadyH.cons rfl (fun K hK => ?_) AllReadyH.nil)
      · go_simp
        have N0 := heap_alloc_new (X) (.cells #[.int .i64 2, .int .i64 2, .int .i64 4] 3)
        have b2 := bal (Below.refl (X).heap.size (X)) (.cells #[.int .i64 2, .int .i64 2, .int .i64 4] 3)
        have zU := U.size
        generalize hX2 : (X).alloc (.cells #[.int .i64 2, .int .i64 2, .int .i64 4] 3) = X2 at N0 b2 ⊢
        have HRd := HRd.keepB b2
        have U := U.trans (Upd.ofBelow b2)
        clear b2 hX2
        have n0 : W6.heap.size ≤ (X).heap.size := zU
        clear zU
        generalize hgg : (X).heap.size = g0 at N0 n0 ⊢
        clear hgg
        refine hK.out _ _ ?_ (fun hHeld => ?_)
        · exact ⟨updCell U C0.out (by omega), updCell U C1.out (by omega)⟩
        clear hK K
        exact LEAFR40_0_2 X2 g0 ⟨U, HRd, N0, n0⟩
      · go_simp
        go_at_call 67
        refine (pick_any W _ R _ 3 HRd (by omega) (by omega) (by omega)).mono ?_
        rintro e X2 ⟨q0, rfl, hqq, HRd, u2⟩
        have U := U.trans u2
        have hq0 : (q0 : Int) < 3 := by omega
        clear u2
        refine hK.out _ _ ?_ (fun hHeld => ?_)
        · exact ⟨updCell U C0.out (by omega), updCell U C1.out (by omega)⟩
        clear hK K
        exact LEAFR41_0 X2 q0 ⟨U, HRd, hq0⟩
    · intro X q0 ⟨U, HRd, hq0⟩
      have hHeld : (fun w' => w'.cell? ⟨g6, 0, none⟩ = some (.int .i64 k.s) ∧ w'.cell? ⟨g6, 1, none⟩ = some (.int .i64 k.b)) X := ⟨updCell U C0.out (by omega), updCell U C1.out (by omega)⟩
      refine wpAnyH_ready (rs := [0, 2, 8]) (by kernel_rfl) (by simp) ?_
      refine AllReadyH.cons rfl (fun K hK => ?_) (AllReadyH.cons rfl (fun K hK => ?_) (AllReadyH.cons rfl (fun K hK => ?_) AllReadyH.nil))
      · refine wp_load_at 39 (.tmp 6) rfl g6 0 rfl (skarr k (.slice so k.ys.length sc)) _ (fun j u hj => by rw [Nat.zero_add, boxAt (U.keeps H6.out (by omega)) j]; exact hj) Try.underlying39 rfl infoSk ?_
        refine hK.out _ _ ?_ (fun hHeld => ?_)
        · exact ⟨updCell U C0.out (by omega), updCell U C1.out (by omega)⟩
        clear hK K
        simp only [Act.put, List.getElem_toArray, List.getElem_cons_zero, List.setIfInBounds_toArray, List.set_cons_zero, List.set_cons_succ]
        exact LEAFR41_0 X q0 ⟨U, HRd, hq0⟩
      · go_simp
        have N0 := heap_alloc_new (X) (.cells #[.int .i64 2, .int .i64 2, .int .i64 4] 3)
        have b2 := bal (Below.refl (X).heap.size (X)) (.cells #[.int .i64 2, .int .i64 2, .int .i64 4] 3)
        have zU := U.size
        generalize hX2 : (X).alloc (.cells #[.int .i64 2, .int .i64 2, .int .i64 4] 3) = X2 at N0 b2 ⊢
        have HRd := HRd.keepB b2
        have U := U.trans (Upd.ofBelow b2)
        clear b2 hX2
        have n0 : W6.heap.size ≤ (X).heap.size := zU
        clear zU
        generalize hgg : (X).heap.size = g0 at N0 n0 ⊢
        clear hgg
        refine hK.out _ _ ?_ (fun hHeld => ?_)
        · exact ⟨updCell U C0.out (by omega), updCell U C1.out (by omega)⟩
        clear hK K
        obtain ⟨z0, hz0⟩ := lit224 q0 hq0
        have Z0 := (boxAt N0 q0).trans hz0
        clear hz0
        refine wpAnyH_strong (S' := fun w' => ((w'.cell? ⟨g6, 0, none⟩ = some (.int .i64 k.s) ∧ w'.cell? ⟨g6, 1, none⟩ = some (.int .i64 k.b)) ∧ w'.cell? ⟨g0, q0, none⟩ = some (.int .i64 z0))) (fun w h => h.1) ?_
        have hHeld := And.intro hHeld Z0
        refine wpAnyH_take (i := 5) (v := ?v12) rfl (by kernel_rfl) (by kernel_rfl) (by kernel_rfl) (fun _ _ _ h => h) (Or.inl ⟨by rfl, ?hy12⟩) (by assumption) ?rest12
        case hy12 => ((intro w hSw; (try dsimp only at hSw); (try simp only [List.getElem_toArray, List.getElem_cons_zero, List.getElem_cons_succ]); go_simp; first | done | (with_reducible rfl)))
        simp only [Act.put, List.getElem_toArray, List.getElem_cons_zero, List.getElem_cons_succ, List.setIfInBounds_toArray, List.set_cons_zero, List.set_cons_succ]
        refine wpAnyH_take (i := 6) (v := ?v13) rfl (by kernel_rfl) (by kernel_rfl) (by kernel_rfl) (fun _ _ _ h => h) (Or.inl ⟨by rfl, ?hy13⟩) (by assumption) ?rest13
        case hy13 => ((intro w hSw; (try dsimp only at hSw); (try simp only [List.getElem_toArray, List.getElem_cons_zero, List.getElem_cons_succ]); go_simp; first | done | (with_reducible rfl)))
        simp only [Act.put, List.getElem_toArray, List.getElem_cons_zero, List.getElem_cons_succ, List.setIfInBounds_toArray, List.set_cons_zero, List.set_cons_succ]
        exact LEAFR41_2 X2 g0 q0 z0 ⟨U, HRd, hq0, Z0, N0, n0⟩
      · go_simp
        go_at_call 67
        refine (pick_any W _ R _ 3 HRd (by omega) (by omega) (by omega)).mono ?_
        rintro e X2 ⟨q1, rfl, hqq, HRd, u2⟩
        have U := U.trans u2
        clear u2
        refine hK.out _ _ ?_ (fun hHeld => ?_)
        · exact ⟨updCell U C0.out (by omega), updCell U C1.out (by omega)⟩
        clear hK K
        exact LEAFR42 X2 q0 q1 ⟨U, HRd, hq0⟩
    · intro X g0 ⟨U, HRd, N0, n0⟩
      have hHeld : (fun w' => w'.cell? ⟨g6, 0, none⟩ = some (.int .i64 k.s) ∧ w'.cell? ⟨g6, 1, none⟩ = some (.int .i64 k.b)) X := ⟨updCell U C0.out (by omega), updCell U C1.out (by omega)⟩
      refine wpAnyH_ready (rs := [4]) (by kernel_rfl) (by simp) ?_
      refine AllReadyH.cons rfl (fun K hK => ?_) AllReadyH.nil
      go_simp
      go_at_call 67
      refine (pick_any W _ R _ 3 HRd (by omega) (by omega) (by omega)).mono ?_
      rintro e X2 ⟨q0, rfl, hqq, HRd, u2⟩
      have N0 := u2.keeps N0 (by omega)
      have U := U.trans u2
      have hq0 : (q0 : Int) < 3 := by omega
      clear u2
      refine hK.out _ _ ?_ (fun hHeld => ?_)
      · exact ⟨updCell U C0.out (by omega), updCell U C1.out (by omega)⟩
      clear hK K
      obtain ⟨z0, hz0⟩ := lit224 q0 hq0
      have Z0 := (boxAt N0 q0).trans hz0
      clear hz0
      refine wpAnyH_strong (S' := fun w' => ((w'.cell? ⟨g6, 0, none⟩ = some (.int .i64 k.s) ∧ w'.cell? ⟨g6, 1, none⟩ = some (.int .i64 k.b)) ∧ w'.cell? ⟨g0, q0, none⟩ = some (.int .i64 z0))) (fun w h => h.1) ?_
      have hHeld := And.intro hHeld Z0
      refine wpAnyH_take (i := 5) (v := ?v14) rfl (by kernel_rfl) (by kernel_rfl) (by kernel_rfl) (fun _ _ _ h => h) (Or.inl ⟨by rfl, ?hy14⟩) (by assumption) ?rest14
      case hy14 => ((intro w hSw; (try dsimp only at hSw); (try simp only [List.getElem_toArray, List.getElem_cons_zero, List.getElem_cons_succ]); go_simp; first | done | (with_reducible rfl)))
      simp only [Act.put, List.getElem_toArray, List.getElem_cons_zero, List.getElem_cons_succ, List.setIfInBounds_toArray, List.set_cons_zero, List.set_cons_succ]
      refine wpAnyH_take (i := 6) (v := ?v15) rfl (by kernel_rfl) (by kernel_rfl) (by kernel_rfl) (fun _ _ _ h => h) (Or.inl ⟨by rfl, ?hy15⟩) (by assumption) ?rest15
      case hy15 => ((intro w hSw; (try dsimp only at hSw); (try simp only [List.getElem_toArray, List.getElem_cons_zero, List.getElem_cons_succ]); go_simp; first | done | (with_reducible rfl)))
      simp only [Act.put, List.getElem_toArray, List.getElem_cons_zero, List.getElem_cons_succ, List.setIfInBounds_toArray, List.set_cons_zero, List.set_cons_succ]
      exact LEAFR41_0_2 X2 g0 q0 z0 ⟨U, HRd, hq0, Z0, N0, n0⟩
    · intro X g0 q0 z0 ⟨U, HRd, hq0, Z0, N0, n0⟩
      have hHeld : (fun w' => ((w'.cell? ⟨g6, 0, none⟩ = some (.int .i64 k.s) ∧ w'.cell? ⟨g6, 1, none⟩ = some (.int .i64 k.b)) ∧ w'.cell? ⟨g0, q0, none⟩ = some (.int .i64 z0))) X := ⟨⟨updCell U C0.out (by omega), updCell U C1.out (by omega)⟩, Z0⟩
      refine wpAnyH_ready (rs := [0, 8]) (by kernel_rfl) (by simp) ?_
      refine AllReadyH.cons rfl (fun K hK => ?_) (AllReadyH.cons rfl (fun K hK => ?_) AllReadyH.nil)
      · refine wp_load_at 39 (.tmp 6) rfl g6 0 rfl (skarr k (.slice so k.ys.length sc)) _ (fun j u hj => by rw [Nat.zero_add, boxAt (U.keeps H6.out (by omega)) j]; exact hj) Try.underlying39 rfl infoSk ?_
        refine hK.out _ _ ?_ (fun hHeld => ?_)
        · exact ⟨⟨updCell U C0.out (by omega), updCell U C1.out (by omega)⟩, Z0⟩
        clear hK K
        simp only [Act.put, List.getElem_toArray, List.getElem_cons_zero, List.setIfInBounds_toArray, List.set_cons_zero, List.set_cons_succ]
        exact LEAFR41_0_2 X g0 q0 z0 ⟨U, HRd, hq0, Z0, N0, n0⟩
      · go_simp
        go_at_call 67
        refine (pick_any W _ R _ 3 HRd (by omega) (by omega) (by omega)).mono ?_
        rintro e X2 ⟨q1, rfl, hqq, HRd, u2⟩
        have Z0 := updCell u2 Z0 (by omega)
        have N0 := u2.keeps N0 (by omega)
        have U := U.trans u2
        clear u2
        refine hK.out _ _ ?_ (fun hHeld => ?_)
        · exact ⟨⟨updCell U C0.out (by omega), updCell U C1.out (by omega)⟩, Z0⟩
        clear hK K
        exact LEAFR42_2 X2 g0 q0 q1 z0 ⟨U, HRd, hq0, Z0, N0, n0⟩
    · intro X q0 ⟨U, HRd, hq0⟩
      have hHeld : (fun w' => w'.cell? ⟨g6, 0, none⟩ = some (.int .i64 k.s) ∧ w'.cell? ⟨g6, 1, none⟩ = some (.int .i64 k.b)) X := ⟨updCell U C0.out (by omega), updCell U C1.out (by omega)⟩
      refine wpAnyH_ready (rs := [2, 8]) (by kernel_rfl) (by simp) ?_
      refine AllReadyH.cons rfl (fun K hK => ?_) (AllReadyH.cons rfl (fun K hK => ?_) AllReadyH.nil)
      · go_simp
        have N0 := heap_alloc_new (X) (.cells #[.int .i64 2, .int .i64 2, .int .i64 4] 3)
        have b2 := bal (Below.refl (X).heap.size (X)) (.cells #[.int .i64 2, .int .i64 2, .int .i64 4] 3)
        have zU := U.size
        generalize hX2 : (X).alloc (.cells #[.int .i64 2, .int .i64 2, .int .i64 4] 3) = X2 at N0 b2 ⊢
        have HRd := HRd.keepB b2
        have U := U.trans (Upd.ofBelow b2)
        clear b2 hX2
        have n0 : W6.heap.size ≤ (X).heap.size := zU
        clear zU
        generalize hgg : (X).heap.size = g0 at N0 n0 ⊢
        clear hgg
        refine hK.out _ _ ?_ (fun hHeld => ?_)
        · exact ⟨updCell U C0.out (by omega), updCell U C1.out (by omega)⟩
        clear hK K
        obtain ⟨z0, hz0⟩ := lit224 q0 hq0
        have Z0 := (boxAt N0 q0).trans hz0
        clear hz0
        refine wpAnyH_strong (S' := fun w' => ((w'.cell? ⟨g6, 0, none⟩ = some (.int .i64 k.s) ∧ w'.cell? ⟨g6, 1, none⟩ = some (.int .i64 k.b)) ∧ w'.cell? ⟨g0, q0, none⟩ = some (.int .i64 z0))) (fun w h => h.1) ?_
        have hHeld := And.intro hHeld Z0
        refine wpAnyH_take (i := 5) (v := ?v16) rfl (by kernel_rfl) (by kernel_rfl) (by kernel_rfl) (fun _ _ _ h => h) (Or.inl ⟨by rfl, ?hy16⟩) (by assumption) ?rest16
        case hy16 => ((intro w hSw; (try dsimp only at hSw); (try simp only [List.getElem_toArray, List.getElem_cons_zero, List.getElem_cons_succ]); go_simp; first | done | (with_reducible rfl)))
        simp only [Act.put, List.getElem_toArray, List.getElem_cons_zero, List.getElem_cons_succ, List.setIfInBounds_toArray, List.set_cons_zero, List.set_cons_succ]
        refine wpAnyH_take (i := 6) (v := ?v17) rfl (by kernel_rfl) (by kernel_rfl) (by kernel_rfl) (fun _ _ _ h => h) (Or.inl ⟨by rfl, ?hy17⟩) (by assumption) ?rest17
        case hy17 => ((intro w hSw; (try dsimp only at hSw); (try simp only [List.getElem_toArray, List.getElem_cons_zero, List.getElem_cons_succ]); go_simp; first | done | (with_reducible rfl)))
        simp only [Act.put, List.getElem_toArray, List.getElem_cons_zero, List.getElem_cons_succ, List.setIfInBounds_toArray, List.set_cons_zero, List.set_cons_succ]
        exact LEAFR41_0_2 X2 g0 q0 z0 ⟨U, HRd, hq0, Z0, N0, n0⟩
      · go_simp
        go_at_call 67
        refine (pick_any W _ R _ 3 HRd (by omega) (by omega) (by omega)).mono ?_
        rintro e X2 ⟨q1, rfl, hqq, HRd, u2⟩
        have U := U.trans u2
        clear u2
        refine hK.out _ _ ?_ (fun hHeld => ?_)
        · exact ⟨updCell U C0.out (by omega), updCell U C1.out (by omega)⟩
        clear hK K
        exact LEAFR42_0 X2 q0 q1 ⟨U, HRd, hq0⟩
    · intro X q0 q1 ⟨U, HRd, hq0⟩
      have hHeld : (fun w' => w'.cell? ⟨g6, 0, none⟩ = some (.int .i64 k.s) ∧ w'.cell? ⟨g6, 1, none⟩ = some (.int .i64 k.b)) X := ⟨updCell U C0.out (by omega), updCell U C1.out (by omega)⟩
      refine wpAnyH_ready (rs := [0, 2, 15]) (by kernel_rfl) (by simp) ?_
      refine AllReadyH.cons rfl (fun K hK => ?_) (AllReadyH.cons rfl (fun K hK => ?_) (AllReadyH.cons rfl (fun K hK => ?_) AllReadyH.nil))
      · refine wp_load_at 39 (.tmp 6) rfl g6 0 rfl (skarr k (.slice so k.ys.length sc)) _ (fun j u hj => by rw [Nat.zero_add, boxAt (U.keeps H6.out (by omega)) j]; exact hj) Try.underlying39 rfl infoSk ?_
        refine hK.out _ _ ?_ (fun hHeld => ?_)
        · exact ⟨updCell U C0.out (by omega), updCell U C1.out (by omega)⟩
        clear hK K
        simp only [Act.put, List.getElem_toArray, List.getElem_cons_zero, List.setIfInBounds_toArray, List.set_cons_zero, List.set_cons_succ]
        exact LEAFR42_0 X q0 q1 ⟨U, HRd, hq0⟩
      · go_simp
        have N0 := heap_alloc_new (X) (.cells #[.int .i64 2, .int .i64 2, .int .i64 4] 3)
        have b2 := bal (Below.refl (X).heap.size (X)) (.cells #[.int .i64 2, .int .i64 2, .int .i64 4] 3)
        have zU := U.size
        generalize hX2 : (X).alloc (.cells #[.int .i64 2, .int .i64 2, .int .i64 4] 3) = X2 at N0 b2 ⊢
        have HRd := HRd.keepB b2
        have U := U.trans (Upd.ofBelow b2)
        clear b2 hX2
        have n0 : W6.heap.size ≤ (X).heap.size := zU
        clear zU
        generalize hgg : (X).heap.size = g0 at N0 n0 ⊢
        clear hgg
        refine hK.out _ _ ?_ (fun hHeld => ?_)
        · exact ⟨updCell U C0.out (by omega), updCell U C1.out (by omega)⟩
        clear hK K
        obtain ⟨z0, hz0⟩ := lit224 q0 hq0
        have Z0 := (boxAt N0 q0).trans hz0
        clear hz0
        refine wpAnyH_strong (S' := fun w' => ((w'.cell? ⟨g6, 0, none⟩ = some (.int .i64 k.s) ∧ w'.cell? ⟨g6, 1, none⟩ = some (.int .i64 k.b)) ∧ w'.cell? ⟨g0, q0, none⟩ = some (.int .i64 z0))) (fun w h => h.1) ?_
        have hHeld := And.intro hHeld Z0
        refine wpAnyH_take (i := 5) (v := ?v18) rfl (by kernel_rfl) (by kernel_rfl) (by kernel_rfl) (fun _ _ _ h => h) (Or.inl ⟨by rfl, ?hy18⟩) (by assumption) ?rest18
        case hy18 => ((intro w hSw; (try dsimp only at hSw); (try simp only [List.getElem_toArray, List.getElem_cons_zero, List.getElem_cons_succ]); go_simp; first | done | (with_reducible rfl)))
        simp only [Act.put, List.getElem_toArray, List.getElem_cons_zero, List.getElem_cons_succ, List.setIfInBounds_toArray, List.set_cons_zero, List.set_cons_succ]
        refine wpAnyH_take (i := 6) (v := ?v19) rfl (by kernel_rfl) (by kernel_rfl) (by kernel_rfl) (fun _ _ _ h => h) (Or.inl ⟨by rfl, ?hy19⟩) (by assumption) ?rest19
        case hy19 => ((intro w hSw; (try dsimp only at hSw); (try simp only [List.getElem_toArray, List.getElem_cons_zero, List.getElem_cons_succ]); go_simp; first | done | (with_reducible rfl)))
        simp only [Act.put, List.getElem_toArray, List.getElem_cons_zero, List.getElem_cons_succ, List.setIfInBounds_toArray, List.set_cons_zero, List.set_cons_succ]
        exact LEAFR42_2 X2 g0 q0 q1 z0 ⟨U, HRd, hq0, Z0, N0, n0⟩
      · go_simp
        go_at_call 68
        refine (l72Cmd_any W _ R _ HRd (by omega)).mono ?_
        rintro e X2 ⟨xc, pc, rfl, HRd, hp5, u2⟩
        have U := U.trans u2
        have hp5 : pc ≤ pr + 22 := by omega
        clear u2
        refine hK.out _ _ ?_ (fun hHeld => ?_)
        · exact ⟨updCell U C0.out (by omega), updCell U C1.out (by omega)⟩
        clear hK K
        exact LEAFR43 X2 q0 q1 xc pc ⟨U, HRd, hp5, hq0⟩
    · intro X g0 q0 z0 ⟨U, HRd, hq0, Z0, N0, n0⟩
      have hHeld : (fun w' => ((w'.cell? ⟨g6, 0, none⟩ = some (.int .i64 k.s) ∧ w'.cell? ⟨g6, 1, none⟩ = some (.int .i64 k.b)) ∧ w'.cell? ⟨g0, q0, none⟩ = some (.int .i64 z0))) X := ⟨⟨updCell U C0.out (by omega), updCell U C1.out (by omega)⟩, Z0⟩
      refine wpAnyH_ready (rs := [8]) (by kernel_rfl) (by simp) ?_
      refine AllReadyH.cons rfl (fun K hK => ?_) AllReadyH.nil
      go_simp
      go_at_call 67
      refine (pick_any W _ R _ 3 HRd (by omega) (by omega) (by omega)).mono ?_
      rintro e X2 ⟨q1, rfl, hqq, HRd, u2⟩
      have Z0 := updCell u2 Z0 (by omega)
      have N0 := u2.keeps N0 (by omega)
      have U := U.trans u2
      clear u2
      refine hK.out _ _ ?_ (fun hHeld => ?_)
      · exact ⟨⟨updCell U C0.out (by omega), updCell U C1.out (by omega)⟩, Z0⟩
      clear hK K
      exact LEAFR42_0_2 X2 g0 q0 q1 z0 ⟨U, HRd, hq0, Z0, N0, n0⟩
    · intro X g0 q0 q1 z0 ⟨U, HRd, hq0, Z0, N0, n0⟩
      have hHeld : (fun w' => ((w'.cell? ⟨g6, 0, none⟩ = some (.int .i64 k.s) ∧ w'.cell? ⟨g6, 1, none⟩ = some (.int .i64 k.b)) ∧ w'.cell? ⟨g0, q0, none⟩ = some (.int .i64 z0))) X := ⟨⟨updCell U C0.out (by omega), updCell U C1.out (by omega)⟩, Z0⟩
      refine wpAnyH_ready (rs := [0, 15]) (by kernel_rfl) (by simp) ?_
      refine AllReadyH.cons rfl (fun K hK => ?_) (AllReadyH.cons rfl (fun K hK => ?_) AllReadyH.nil)
      · refine wp_load_at 39 (.tmp 6) rfl g6 0 rfl (skarr k (.slice so k.ys.length sc)) _ (fun j u hj => by rw [Nat.zero_add, boxAt (U.keeps H6.out (by omega)) j]; exact hj) Try.underlying39 rfl infoSk ?_
        refine hK.out _ _ ?_ (fun hHeld => ?_)
        · exact ⟨⟨updCell U C0.out (by omega), updCell U C1.out (by omega)⟩, Z0⟩
        clear hK K
        simp only [Act.put, List.getElem_toArray, List.getElem_cons_zero, List.setIfInBounds_toArray, List.set_cons_zero, List.set_cons_succ]
        exact LEAFR42_0_2 X g0 q0 q1 z0 ⟨U, HRd, hq0, Z0, N0, n0⟩
      · go_simp
        go_at_call 68
        refine (l72Cmd_any W _ R _ HRd (by omega)).mono ?_
        rintro e X2 ⟨xc, pc, rfl, HRd, hp5, u2⟩
        have Z0 := updCell u2 Z0 (by omega)
        have N0 := u2.keeps N0 (by omega)
        have U := U.trans u2
        have hp5 : pc ≤ pr + 22 := by omega
        clear u2
        refine hK.out _ _ ?_ (fun hHeld => ?_)
        · exact ⟨⟨updCell U C0.out (by omega), updCell U C1.out (by omega)⟩, Z0⟩
        clear hK K
        refine wpAnyH_take (i := 16) (v := .agg (fwarr (saidW z0 q1 me k.b k.s xc))) rfl (by kernel_rfl) (by kernel_rfl) (by kernel_rfl) (fun _ _ _ h => h) (yields_build rfl 47 _ rfl [(0, .int .i64 z0), (1, .int .i64 q1), (2, .int .i64 me), (3, .int .i64 k.b), (4, .int .i64 k.s), (6, .agg #[.int .i64 xc.c0, .int .i64 xc.c1, .int .i64 xc.c2, .int .i64 xc.c3, .int .i64 xc.c4, .int .i64 xc.c5, .int .i64 xc.c6, .int .i64 xc.c7, .int .i64 xc.c8, .int .i64 xc.c9])] _ ((by (conv => lhs; simp only [List.map_toArray, List.map_cons, List.map_nil]); rfl)) (builtSaid _ _ _ _ _ _)) (by assumption) ?_
        simp only [Act.put, List.getElem_toArray, List.getElem_cons_zero, List.getElem_cons_succ, List.setIfInBounds_toArray, List.set_cons_zero, List.set_cons_succ]
        generalize hy : saidW z0 q1 me k.b k.s xc = y
        have hyf : Flat y := by rw [← hy]; exact ⟨rfl, rfl⟩
        clear hy
        exact LEAFR43_2 X2 g0 q0 q1 xc pc z0 y ⟨U, HRd, hp5, hq0, Z0, hyf, N0, n0⟩
    · intro X q0 q1 ⟨U, HRd, hq0⟩
      have hHeld : (fun w' => w'.cell? ⟨g6, 0, none⟩ = some (.int .i64 k.s) ∧ w'.cell? ⟨g6, 1, none⟩ = some (.int .i64 k.b)) X := ⟨updCell U C0.out (by omega), updCell U C1.out (by omega)⟩
      refine wpAnyH_ready (rs := [2, 15]) (by kernel_rfl) (by simp) ?_
      refine AllReadyH.cons rfl (fun K hK => ?_) (AllReadyH.cons rfl (fun K hK => ?_) AllReadyH.nil)
      · go_simp
        have N0 := heap_alloc_new (X) (.cells #[.int .i64 2, .int .i64 2, .int .i64 4] 3)
        have b2 := bal (Below.refl (X).heap.size (X)) (.cells #[.int .i64 2, .int .i64 2, .int .i64 4] 3)
        have zU := U.size
        generalize hX2 : (X).alloc (.cells #[.int .i64 2, .int .i64 2, .int .i64 4] 3) = X2 at N0 b2 ⊢
        have HRd := HRd.keepB b2
        have U := U.trans (Upd.ofBelow b2)
        clear b2 hX2
        have n0 : W6.heap.size ≤ (X).heap.size := zU
        clear zU
        generalize hgg : (X).heap.size = g0 at N0 n0 ⊢
        clear hgg
        refine hK.out _ _ ?_ (fun hHeld => ?_)
        · exact ⟨updCell U C0.out (by omega), updCell U C1.out (by omega)⟩
        clear hK K
        obtain ⟨z0, hz0⟩ := lit224 q0 hq0
        have Z0 := (boxAt N0 q0).trans hz0
        clear hz0
        refine wpAnyH_strong (S' := fun w' => ((w'.cell? ⟨g6, 0, none⟩ = some (.int .i64 k.s) ∧ w'.cell? ⟨g6, 1, none⟩ = some (.int .i64 k.b)) ∧ w'.cell? ⟨g0, q0, none⟩ = some (.int .i64 z0))) (fun w h => h.1) ?_
        have hHeld := And.intro hHeld Z0
        refine wpAnyH_take (i := 5) (v := ?v20) rfl (by kernel_rfl) (by kernel_rfl) (by kernel_rfl) (fun _ _ _ h => h) (Or.inl ⟨by rfl, ?hy20⟩) (by assumption) ?rest20
        case hy20 => ((intro w hSw; (try dsimp only at hSw); (try simp only [List.getElem_toArray, List.getElem_cons_zero, List.getElem_cons_succ]); go_simp; first | done | (with_reducible rfl)))
        simp only [Act.put, List.getElem_toArray, List.getElem_cons_zero, List.getElem_cons_succ, List.setIfInBounds_toArray, List.set_cons_zero, List.set_cons_succ]
        refine wpAnyH_take (i := 6) (v := ?v21) rfl (by kernel_rfl) (by kernel_rfl) (by kernel_rfl) (fun _ _ _ h => h) (Or.inl ⟨by rfl, ?hy21⟩) (by assumption) ?rest21
        case hy21 => ((intro w hSw; (try dsimp only at hSw); (try simp only [List.getElem_toArray, List.getElem_cons_zero, List.getElem_cons_succ]); go_simp; first | done | (with_reducible rfl)))
        simp only [Act.put, List.getElem_toArray, List.getElem_cons_zero, List.getElem_cons_succ, List.setIfInBounds_toArray, List.set_cons_zero, List.set_cons_succ]
        exact LEAFR42_0_2 X2 g0 q0 q1 z0 ⟨U, HRd, hq0, Z0, N0, n0⟩
      · go_simp
        go_at_call 68
        refine (l72Cmd_any W _ R _ HRd (by omega)).mono ?_
        rintro e X2 ⟨xc, pc, rfl, HRd, hp5, u2⟩
        have U := U.trans u2
        have hp5 : pc ≤ pr + 22 := by omega
        clear u2
        refine hK.out _ _ ?_ (fun hHeld => ?_)
        · exact ⟨updCell U C0.out (by omega), updCell U C1.out (by omega)⟩
        clear hK K
        exact LEAFR43_0 X2 q0 q1 xc pc ⟨U, HRd, hp5, hq0⟩
    · intro X q0 q1 xc pc ⟨U, HRd, hp5, hq0⟩
      have hHeld : (fun w' => w'.cell? ⟨g6, 0, none⟩ = some (.int .i64 k.s) ∧ w'.cell? ⟨g6, 1, none⟩ = some (.int .i64 k.b)) X := ⟨updCell U C0.out (by omega), updCell U C1.out (by omega)⟩
      refine wpAnyH_ready (rs := [0, 2]) (by kernel_rfl) (by simp) ?_
      refine AllReadyH.cons rfl (fun K hK => ?_) (AllReadyH.cons rfl (fun K hK => ?_) AllReadyH.nil)
      · refine wp_load_at 39 (.tmp 6) rfl g6 0 rfl (skarr k (.slice so k.ys.length sc)) _ (fun j u hj => by rw [Nat.zero_add, boxAt (U.keeps H6.out (by omega)) j]; exact hj) Try.underlying39 rfl infoSk ?_
        refine hK.out _ _ ?_ (fun hHeld => ?_)
        · exact ⟨updCell U C0.out (by omega), updCell U C1.out (by omega)⟩
        clear hK K
        simp only [Act.put, List.getElem_toArray, List.getElem_cons_zero, List.setIfInBounds_toArray, List.set_cons_zero, List.set_cons_succ]
        exact LEAFR43_0 X q0 q1 xc pc ⟨U, HRd, hp5, hq0⟩
      · go_simp
        have N0 := heap_alloc_new (X) (.cells #[.int .i64 2, .int .i64 2, .int .i64 4] 3)
        have b2 := bal (Below.refl (X).heap.size (X)) (.cells #[.int .i64 2, .int .i64 2, .int .i64 4] 3)
        have zU := U.size
        generalize hX2 : (X).alloc (.cells #[.int .i64 2, .int .i64 2, .int .i64 4] 3) = X2 at N0 b2 ⊢
        have HRd := HRd.keepB b2
        have U := U.trans (Upd.ofBelow b2)
        clear b2 hX2
        have n0 : W6.heap.size ≤ (X).heap.size := zU
        clear zU
        generalize hgg : (X).heap.size = g0 at N0 n0 ⊢
        clear hgg
        refine hK.out _ _ ?_ (fun hHeld => ?_)
        · exact ⟨updCell U C0.out (by omega), updCell U C1.out (by omega)⟩
        clear hK K
        obtain ⟨z0, hz0⟩ := lit224 q0 hq0
        have Z0 := (boxAt N0 q0).trans hz0
        clear hz0
        refine wpAnyH_strong (S' := fun w' => ((w'.cell? ⟨g6, 0, none⟩ = some (.int .i64 k.s) ∧ w'.cell? ⟨g6, 1, none⟩ = some (.int .i64 k.b)) ∧ w'.cell? ⟨g0, q0, none⟩ = some (.int .i64 z0))) (fun w h => h.1) ?_
        have hHeld := And.intro hHeld Z0
        refine wpAnyH_take (i := 5) (v := ?v22) rfl (by kernel_rfl) (by kernel_rfl) (by kernel_rfl) (fun _ _ _ h => h) (Or.inl ⟨by rfl, ?hy22⟩) (by assumption) ?rest22
        case hy22 => ((intro w hSw; (try dsimp only at hSw); (try simp only [List.getElem_toArray, List.getElem_cons_zero, List.getElem_cons_succ]); go_simp; first | done | (with_reducible rfl)))
        simp only [Act.put, List.getElem_toArray, List.getElem_cons_zero, List.getElem_cons_succ, List.setIfInBounds_toArray, List.set_cons_zero, List.set_cons_succ]
        refine wpAnyH_take (i := 6) (v := ?v23) rfl (by kernel_rfl) (by kernel_rfl) (by kernel_rfl) (fun _ _ _ h => h) (Or.inl ⟨by rfl, ?hy23⟩) (by assumption) ?rest23
        case hy23 => ((intro w hSw; (try dsimp only at hSw); (try simp only [List.getElem_toArray, List.getElem_cons_zero, List.getElem_cons_succ]); go_simp; first | done | (with_reducible rfl)))
        simp only [Act.put, List.getElem_toArray, List.getElem_cons_zero, List.getElem_cons_succ, List.setIfInBounds_toArray, List.set_cons_zero, List.set_cons_succ]
        refine wpAnyH_take (i := 16) (v := .agg (fwarr (saidW z0 q1 me k.b k.s xc))) rfl (by kernel_rfl) (by kernel_rfl) (by kernel_rfl) (fun _ _ _ h => h) (yields_build rfl 47 _ rfl [(0, .int .i64 z0), (1, .int .i64 q1), (2, .int .i64 me), (3, .int .i64 k.b), (4, .int .i64 k.s), (6, .agg #[.int .i64 xc.c0, .int .i64 xc.c1, .int .i64 xc.c2, .int .i64 xc.c3, .int .i64 xc.c4, .int .i64 xc.c5, .int .i64 xc.c6, .int .i64 xc.c7, .int .i64 xc.c8, .int .i64 xc.c9])] _ ((by (conv => lhs; simp only [List.map_toArray, List.map_cons, List.map_nil]); rfl)) (builtSaid _ _ _ _ _ _)) (by assumption) ?_
        simp only [Act.put, List.getElem_toArray, List.getElem_cons_zero, List.getElem_cons_succ, List.setIfInBounds_toArray, List.set_cons_zero, List.set_cons_succ]
        generalize hy : saidW z0 q1 me k.b k.s xc = y
        have hyf : Flat y := by rw [← hy]; exact ⟨rfl, rfl⟩
        clear hy
        exact LEAFR43_2 X2 g0 q0 q1 xc pc z0 y ⟨U, HRd, hp5, hq0, Z0, hyf, N0, n0⟩
    · intro X g0 q0 q1 z0 ⟨U, HRd, hq0, Z0, N0, n0⟩
      have hHeld : (fun w' => ((w'.cell? ⟨g6, 0, none⟩ = some (.int .i64 k.s) ∧ w'.cell? ⟨g6, 1, none⟩ = some (.int .i64 k.b)) ∧ w'.cell? ⟨g0, q0, none⟩ = some (.int .i64 z0))) X := ⟨⟨updCell U C0.out (by omega), updCell U C1.out (by omega)⟩, Z0⟩
      refine wpAnyH_ready (rs := [15]) (by kernel_rfl) (by simp) ?_
      refine AllReadyH.cons rfl (fun K hK => ?_) AllReadyH.nil
      go_simp
      go_at_call 68
      refine (l72Cmd_any W _ R _ HRd (by omega)).mono ?_
      rintro e X2 ⟨xc, pc, rfl, HRd, hp5, u2⟩
      have Z0 := updCell u2 Z0 (by omega)
      have N0 := u2.keeps N0 (by omega)
      have U := U.trans u2
      have hp5 : pc ≤ pr + 22 := by omega
      clear u2
      refine hK.out _ _ ?_ (fun hHeld => ?_)
      · exact ⟨⟨updCell U C0.out (by omega), updCell U C1.out (by omega)⟩, Z0⟩
      clear hK K
      refine wpAnyH_take (i := 16) (v := .agg (fwarr (saidW z0 q1 me k.b k.s xc))) rfl (by kernel_rfl) (by kernel_rfl) (by kernel_rfl) (fun _ _ _ h => h) (yields_build rfl 47 _ rfl [(0, .int .i64 z0), (1, .int .i64 q1), (2, .int .i64 me), (3, .int .i64 k.b), (4, .int .i64 k.s), (6, .agg #[.int .i64 xc.c0, .int .i64 xc.c1, .int .i64 xc.c2, .int .i64 xc.c3, .int .i64 xc.c4, .int .i64 xc.c5, .int .i64 xc.c6, .int .i64 xc.c7, .int .i64 xc.c8, .int .i64 xc.c9])] _ ((by (conv => lhs; simp only [List.map_toArray, List.map_cons, List.map_nil]); rfl)) (builtSaid _ _ _ _ _ _)) (by assumption) ?_
      simp only [Act.put, List.getElem_toArray, List.getElem_cons_zero, List.getElem_cons_succ, List.setIfInBounds_toArray, List.set_cons_zero, List.set_cons_succ]
      generalize hy : saidW z0 q1 me k.b k.s xc = y
      have hyf : Flat y := by rw [← hy]; exact ⟨rfl, rfl⟩
      clear hy
      exact LEAFR43_0_2 X2 g0 q0 q1 xc pc z0 y ⟨U, HRd, hp5, hq0, Z0, hyf, N0, n0⟩
    · intro X g0 q0 q1 xc pc z0 y ⟨U, HRd, hp5, hq0, Z0, hyf, N0, n0⟩
      have hHeld : (fun w' => ((w'.cell? ⟨g6, 0, none⟩ = some (.int .i64 k.s) ∧ w'.cell? ⟨g6, 1, none⟩ = some (.int .i64 k.b)) ∧ w'.cell? ⟨g0, q0, none⟩ = some (.int .i64 z0))) X := ⟨⟨updCell U C0.out (by omega), updCell U C1.out (by omega)⟩, Z0⟩
      refine wpAnyH_ready (rs := [0]) (by kernel_rfl) (by simp) ?_
      refine AllReadyH.cons rfl (fun K hK => ?_) AllReadyH.nil
      refine wp_load_at 39 (.tmp 6) rfl g6 0 rfl (skarr k (.slice so k.ys.length sc)) _ (fun j u hj => by rw [Nat.zero_add, boxAt (U.keeps H6.out (by omega)) j]; exact hj) Try.underlying39 rfl infoSk ?_
      refine hK.out _ _ ?_ (fun hHeld => ?_)
      · exact ⟨⟨updCell U C0.out (by omega), updCell U C1.out (by omega)⟩, Z0⟩
      clear hK K
      simp only [Act.put, List.getElem_toArray, List.getElem_cons_zero, List.setIfInBounds_toArray, List.set_cons_zero, List.set_cons_succ]
      exact LEAFR43_0_2 X g0 q0 q1 xc pc z0 y ⟨U, HRd, hp5, hq0, Z0, hyf, N0, n0⟩
    · intro X q0 q1 xc pc ⟨U, HRd, hp5, hq0⟩
      have hHeld : (fun w' => w'.cell? ⟨g6, 0, none⟩ = some (.int .i64 k.s) ∧ w'.cell? ⟨g6, 1, none⟩ = some (.int .i64 k.b)) X := ⟨updCell U C0.out (by omega), updCell U C1.out (by omega)⟩
      refine wpAnyH_ready (rs := [2]) (by kernel_rfl) (by simp) ?_
      refine AllReadyH.cons rfl (fun K hK => ?_) AllReadyH.nil
      go_simp
      have N0 := heap_alloc_new (X) (.cells #[.int .i64 2, .int .i64 2, .int .i64 4] 3)
      have b2 := bal (Below.refl (X).heap.size (X)) (.cells #[.int .i64 2, .int .i64 2, .int .i64 4] 3)
      have zU := U.size
      generalize hX2 : (X).alloc (.cells #[.int .i64 2, .int .i64 2, .int .i64 4] 3) = X2 at N0 b2 ⊢
      have HRd := HRd.keepB b2
      have U := U.trans (Upd.ofBelow b2)
      clear b2 hX2
      have n0 : W6.heap.size ≤ (X).heap.size := zU
      clear zU
      generalize hgg : (X).heap.size = g0 at N0 n0 ⊢
      clear hgg
      refine hK.out _ _ ?_ (fun hHeld => ?_)
      · exact ⟨updCell U C0.out (by omega), updCell U C1.out (by omega)⟩
      clear hK K
      obtain ⟨z0, hz0⟩ := lit224 q0 hq0
      have Z0 := (boxAt N0 q0).trans hz0
      clear hz0
      refine wpAnyH_strong (S' := fun w' => ((w'.cell? ⟨g6, 0, none⟩ = some (.int .i64 k.s) ∧ w'.cell? ⟨g6, 1, none⟩ = some (.int .i64 k.b)) ∧ w'.cell? ⟨g0, q0, none⟩ = some (.int .i64 z0))) (fun w h => h.1) ?_
      have hHeld := And.intro hHeld Z0
      refine wpAnyH_take (i := 5) (v := ?v24) rfl (by kernel_rfl) (by kernel_rfl) (by kernel_rfl) (fun _ _ _ h => h) (Or.inl ⟨by rfl, ?hy24⟩) (by assumption) ?rest24
      case hy24 => ((intro w hSw; (try dsimp only at hSw); (try simp only [List.getElem_toArray, List.getElem_cons_zero, List.getElem_cons_succ]); go_simp; first | done | (with_reducible rfl)))
      simp only [Act.put, List.getElem_toArray, List.getElem_cons_zero, List.getElem_cons_succ, List.setIfInBounds_toArray, List.set_cons_zero, List.set_cons_succ]
      refine wpAnyH_take (i := 6) (v := ?v25) rfl (by kernel_rfl) (by kernel_rfl) (by kernel_rfl) (fun _ _ _ h => h) (Or.inl ⟨by rfl, ?hy25⟩) (by assumption) ?rest25
      case hy25 => ((intro w hSw; (try dsimp only at hSw); (try simp only [List.getElem_toArray, List.getElem_cons_zero, List.getElem_cons_succ]); go_simp; first | done | (with_reducible rfl)))
      simp only [Act.put, List.getElem_toArray, List.getElem_cons_zero, List.getElem_cons_succ, List.setIfInBounds_toArray, List.set_cons_zero, List.set_cons_succ]
      refine wpAnyH_take (i := 16) (v := .agg (fwarr (saidW z0 q1 me k.b k.s xc))) rfl (by kernel_rfl) (by kernel_rfl) (by kernel_rfl) (fun _ _ _ h => h) (yields_build rfl 47 _ rfl [(0, .int .i64 z0), (1, .int .i64 q1), (2, .int .i64 me), (3, .int .i64 k.b), (4, .int .i64 k.s), (6, .agg #[.int .i64 xc.c0, .int .i64 xc.c1, .int .i64 xc.c2, .int .i64 xc.c3, .int .i64 xc.c4, .int .i64 xc.c5, .int .i64 xc.c6, .int .i64 xc.c7, .int .i64 xc.c8, .int .i64 xc.c9])] _ ((by (conv => lhs; simp only [List.map_toArray, List.map_cons, List.map_nil]); rfl)) (builtSaid _ _ _ _ _ _)) (by assumption) ?_
      simp only [Act.put, List.getElem_toArray, List.getElem_cons_zero, List.getElem_cons_succ, List.setIfInBounds_toArray, List.set_cons_zero, List.set_cons_succ]
      generalize hy : saidW z0 q1 me k.b k.s xc = y
      have hyf : Flat y := by rw [← hy]; exact ⟨rfl, rfl⟩
      clear hy
      exact LEAFR43_0_2 X2 g0 q0 q1 xc pc z0 y ⟨U, HRd, hp5, hq0, Z0, hyf, N0, n0⟩
    · intro X g0 q0 q1 xc pc z0 y ⟨U, HRd, hp5, hq0, Z0, hyf, N0, n0⟩
      have hHeld : (fun w' => ((w'.cell? ⟨g6, 0, none⟩ = some (.int .i64 k.s) ∧ w'.cell? ⟨g6, 1, none⟩ = some (.int .i64 k.b)) ∧ w'.cell? ⟨g0, q0, none⟩ = some (.int .i64 z0))) X := ⟨⟨updCell U C0.out (by omega), updCell U C1.out (by omega)⟩, Z0⟩
      have N6 := U.keeps H6.out (by omega)
      have cH := specSynHearA_any (.agg (skarr k (.slice so k.ys.length sc))) k me (.agg (fwarr y)) y X ⟨so, sc, rfl, ((HR.out.keep U (fun j h1 h2 => by omega)).row (by omega)).reads⟩ (fwR _ hyf) (by omega)
      have hsh := hearR_len k me y
      have hbi := hearR_b k me y
      have hsi := hearR_s k me y
      obtain ⟨Q, hQ⟩ : ∃ Q, hearR k me y = Q := ⟨_, rfl⟩
      rw [hQ] at cH hsh hbi hsi
      clear hQ hyf
      have zX := U.size
      refine wpAnyH_ready (rs := [17]) (by kernel_rfl) (by simp) ?_
      refine AllReadyH.cons rfl (fun K hK => ?_) AllReadyH.nil
      go_simp
      (go_at_call 9; refine cH.mono ?_; rintro e X3 ⟨v3, u3, rfl, ⟨so3, sc3, rfl, r3⟩, -, b3⟩; have N6 := bKeeps b3 N6)
      refine hK.out _ _ ?_ (fun hHeld => ?_)
      · exact ⟨⟨boxAt N6 0, boxAt N6 1⟩, updCell (Upd.ofBelow (S := fun _ => False) b3) Z0 (fun h => h)⟩
      clear hK K
      refine wpAnyH_take (i := 18) (v := ?v26) rfl (by kernel_rfl) (by kernel_rfl) (by kernel_rfl) (fun _ _ _ h => h) (Or.inl ⟨by rfl, ?y26⟩) (by assumption) ?r26
      case y26 => (intro w hSw; go_simp; first | done | (with_reducible rfl))
      simp only [Act.put, List.getElem_toArray, List.getElem_cons_zero, List.getElem_cons_succ, List.setIfInBounds_toArray, List.set_cons_zero, List.set_cons_succ]
      refine wpAnyH_take (i := 19) (v := ?v27) rfl (by kernel_rfl) (by kernel_rfl) (by kernel_rfl) (fun _ _ _ h => h) (Or.inl ⟨by rfl, ?y27⟩) (by assumption) ?r27
      case y27 => (intro w hSw; go_simp; first | done | (with_reducible rfl))
      simp only [Act.put, List.getElem_toArray, List.getElem_cons_zero, List.getElem_cons_succ, List.setIfInBounds_toArray, List.set_cons_zero, List.set_cons_succ]
      refine wpAnyH_take (i := 20) (v := ?v28) rfl (by kernel_rfl) (by kernel_rfl) (by kernel_rfl) (fun _ _ _ h => h) (Or.inl ⟨by rfl, ?y28⟩) (by assumption) ?r28
      case y28 => (intro w hSw; go_simp; first | done | (with_reducible rfl))
      simp only [Act.put, List.getElem_toArray, List.getElem_cons_zero, List.getElem_cons_succ, List.setIfInBounds_toArray, List.set_cons_zero, List.set_cons_succ]
      refine wpAnyH_take (i := 21) (v := ?v29) rfl (by kernel_rfl) (by kernel_rfl) (by kernel_rfl) (fun _ _ _ h => h) (Or.inl ⟨by rfl, ?y29⟩) (by assumption) ?r29
      case y29 => (intro w hSw; go_simp; first | done | (with_reducible rfl))
      simp only [Act.put, List.getElem_toArray, List.getElem_cons_zero, List.getElem_cons_succ, List.setIfInBounds_toArray, List.set_cons_zero, List.set_cons_succ]
      have s22 := updRow X3 g6 (skarr Q.1 (.slice so3 Q.1.ys.length sc3))
      have N7 := setRow_heap _ _ _ (skarr Q.1 (.slice so3 Q.1.ys.length sc3)) _ _ N6
      have z3 := b3.size
      have n7a : (X3.setRow g6 (skarr Q.1 (.slice so3 Q.1.ys.length sc3))).cell? ⟨g6, 0, none⟩ = some (.int .i64 k.s) := by rw [← hsi]; exact boxAt N7 0
      have n7b : (X3.setRow g6 (skarr Q.1 (.slice so3 Q.1.ys.length sc3))).cell? ⟨g6, 1, none⟩ = some (.int .i64 k.b) := by rw [← hbi]; exact boxAt N7 1
      refine wpAnyH_ready (rs := [22]) (by kernel_rfl) (by simp) ?_
      refine AllReadyH.cons rfl (fun K hK => ?_) AllReadyH.nil
      (refine wp_store_row 39 (.tmp 6) (.tmp 38) rfl g6 (skarr Q.1 (.slice so3 Q.1.ys.length sc3)) rfl rfl _ _ N6 infoSk (show (26 : Nat) = 26 from rfl) (skarr_one _ _ _ _) ?_)
      refine hK.out _ _ ?_ (fun hHeld => ?_)
      · exact ⟨⟨n7a, n7b⟩, updCell s22 (updCell (Upd.ofBelow (S := fun _ => False) b3) Z0 (fun h => h)) (by omega)⟩
      clear hK K
      refine wpAnyH_done (by kernel_rfl) ?_ _
      refine NoPanic.normal ?_
      clear hHeld n7a n7b
      go_wp2_with fail
      go_meet
      exact ⟨Q.1, so3, sc3, pc, rfl, N7, rowA_keep_box (by decide) (r3.mono (show R + 1 ≤ X.heap.size by omega)) N6 s22, by omega, by rw [hbi]; exact hb, (HRd.keepB b3).keep s22 (by omega) (fun j h => by omega), by omega, ((cW.trans (U.below cW.size (fun j h => by omega))).trans (b3.mono (by omega))).trans (s22.below (by omega) (fun j h => by omega))⟩
  case rest =>
  obtain ⟨k, so, sc, p3, rfl, H6', HR', hkl, hb, hrd, hp3, cW⟩ := hcut
  have H6 := hide H6'
  have HR := hide HR'
  have zcW := cW.size
  have hg6X := heap_lt H6'
  clear H6' HR'
  go_wp2_with fail
  refine (l72Word_any W wc R p3 hrd (by omega)).mono ?_
  rintro e w4 ⟨v4, x, p4, rfl, d4, hxp, hxl, hr4, hp4, hu4⟩
  obtain ⟨cs, rfl, hs, h1⟩ := d4.reads.agg
  have D4 := hide (wdIn d4)
  have z4 := hu4.size
  have H6 := hide (hu4.keeps H6.out (by omega))
  have HR := hide (HR.out.keep hu4 (fun j h1 h2 => by omega))
  have cW := cW.trans (hu4.below cW.size (fun j h => by omega))
  have a4 := bal (Below.refl w4.heap.size w4) (.cells cs 47)
  have H8 := hide (heap_alloc_new w4 (.cells cs 47))
  have D4 := hide (D4.out.keepB a4)
  have H6 := hide (bKeeps a4 H6.out)
  have HR := hide (HR.out.keepB a4)
  have hrd := hr4.keepB a4
  have cW := cW.trans (a4.mono cW.size)
  have HI := hide (infoAt infoWd hs)
  have HZ := hide (zero26.trans hs.symm)
  have H1s := hide h1
  clear d4 hu4 hr4
  go_upto_region 6 with (refine wpList_store_row rfl 47 (.tmp 8) (.tmp 42) rfl w4.heap.size cs rfl rfl _ _ (heap_alloc_new w4 _) HI.out HZ.out H1s.out ?_; rw [World.setRow_alloc_new])
  generalize hX : w4.alloc (.cells cs 47) = X at H6 HR H8 D4 hrd cW a4 ⊢
  have zX := a4.size
  have zcW := cW.size
  have hg6g8 : g6 < w4.heap.size := by omega
  have hRg8 : R < w4.heap.size := by omega
  clear hX a4 HZ
  generalize w4.heap.size = g8 at H8 D4 hg6g8 hRg8 zX ⊢
  have hg8X := heap_lt H8.out
  clear zX z4
  go_wp2_with fail
  refine (pick_any W _ R _ 5 hrd (by omega) (by omega) (by omega)).mono ?_
  rintro e w5 ⟨q, rfl, hq, hr5, hu5⟩
  have z5 := hu5.size
  have H6 := hide (hu5.keeps H6.out (by omega))
  have HR := hide (HR.out.keep hu5 (fun j h1 h2 => by omega))
  have H8 := hide (hu5.keeps H8.out (by omega))
  have D4 := hide (D4.out.keep hu5 (fun j h1 h2 => by omega))
  have cW := cW.trans (hu5.below cW.size (fun j h => by omega))
  have zcW := cW.size
  have hg6X := heap_lt H6.out
  have hg8X := heap_lt H8.out
  clear hrd hu5
  go_upto_if 45 with fail
  -- perhaps another word
  go_cut [8] (fun s8 wx => ∃ (cs : Array Value) (x : Wd) (lo p' : Nat), s8 = .pointer (some ⟨g8, 0, none⟩) ∧ wx.heap[g6]? = some (.cells (skarr k (.slice so k.ys.length sc)) 39 (0, 0)) ∧ RowA wx (R + 1) 3 1 (.slice so k.ys.length sc) k.ys.length (ints k.ys) ∧ wx.heap[g8]? = some (.cells cs 47 (0, 0)) ∧ WdO wx (fun j => R < j) (.agg cs) x ∧ cs.size = 26 ∧ cs.all (·.oneCell') = true ∧ x.ps.length ≤ 61 ∧ x.ls.length ≤ 61 ∧ Rd W wx R p' ∧ p' ≤ 10000 ∧ Below W.heap.size W wx ∧ R < lo ∧ lo ≤ g8)
  case first =>
   as_aux_lemma =>
    rcases Nat.eq_zero_or_pos q with h | h
    · subst h
      go_wp2_with fail
      go_meet
      exact ⟨cs, x, g8, _, rfl, H6.out, HR.out, H8.out, D4.out.mono (fun j _ h => by omega), hs, H1s.out, hxp, hxl, hr5, by omega, cW, by omega, by omega⟩
    have hq0 : decide ((q : Int) > 0) = true := by simp; omega
    go_upto_region 7 with fail
    obtain ⟨pr, hpr⟩ : ∃ pr, p4 + 1 = pr := ⟨_, rfl⟩
    rw [hpr] at hr5
    have hpr : pr ≤ 9000 := by omega
    have hrd := hr5
    have hRW6 : R < w5.heap.size := by omega
    have hcs8 := hs
    clear hr5 z5 hq0 D4
    generalize w5 = W6 at H6 HR H8 cW zcW hg6X hg8X hrd hRW6 ⊢
    have C0 : Hid (W6.cell? ⟨g6, 0, none⟩ = some (.int .i64 k.s)) := boxAt H6.out 0
    have C1 : Hid (W6.cell? ⟨g6, 1, none⟩ = some (.int .i64 k.b)) := boxAt H6.out 1
    have U : Upd (fun j => j = R) W6 W6.drew := Upd.ofBelow (bDrewB (Below.refl _ _))
    have HRd : Rd W W6.drew R (pr + 0) := hrd.keepB (bDrewB (Below.refl _ _))
    clear hrd
    refine wp_region_noPanic ?_
    refine wp_region_held_drew (S := (fun w' => w'.cell? ⟨g6, 0, none⟩ = some (.int .i64 k.s) ∧ w'.cell? ⟨g6, 1, none⟩ = some (.int .i64 k.b))) (by kernel_rfl) ?_ (fun hHeld => ?_)
    · exact ⟨updCell U C0.out (by omega), updCell U C1.out (by omega)⟩
    refine wpAnyH_take (i := 1) (v := ?v30) rfl (by kernel_rfl) (by kernel_rfl) (by kernel_rfl) (fun _ _ _ h => h) (Or.inl ⟨by rfl, ?hy30⟩) (by assumption) ?rest30
    case hy30 => ((intro w hSw; (try dsimp only at hSw); (try simp only [List.getElem_toArray, List.getElem_cons_zero, List.getElem_cons_succ]); go_simp; first | done | (with_reducible rfl)))
    simp only [Act.put, List.getElem_toArray, List.getElem_cons_zero, List.getElem_cons_succ, List.setIfInBounds_toArray, List.set_cons_zero, List.set_cons_succ]
    refine wpAnyH_take (i := 5) (v := ?v31) rfl (by kernel_rfl) (by kernel_rfl) (by kernel_rfl) (fun _ _ _ h => h) (Or.inl ⟨by rfl, ?hy31⟩) (by assumption) ?rest31
    case hy31 => ((intro w hSw; (try dsimp only at hSw); (try simp only [List.getElem_toArray, List.getElem_cons_zero, List.getElem_cons_succ]); go_simp; first | done | (with_reducible rfl)))
    simp only [Act.put, List.getElem_toArray, List.getElem_cons_zero, List.getElem_cons_succ, List.setIfInBounds_toArray, List.set_cons_zero, List.set_cons_succ]
    refine wpAnyH_take (i := 7) (v := ?v32) rfl (by kernel_rfl) (by kernel_rfl) (by kernel_rfl) (fun _ _ _ h => h) (Or.inl ⟨by rfl, ?hy32⟩) (by assumption) ?rest32
    case hy32 => ((intro w hSw; (try dsimp only at hSw); (try simp only [List.getElem_toArray, List.getElem_cons_zero, List.getElem_cons_succ]); go_simp; first | done | (with_reducible rfl)))
    simp only [Act.put, List.getElem_toArray, List.getElem_cons_zero, List.getElem_cons_succ, List.setIfInBounds_toArray, List.set_cons_zero, List.set_cons_succ]
    refine wpAnyH_take (i := 8) (v := ?v33) rfl (by kernel_rfl) (by kernel_rfl) (by kernel_rfl) (fun _ _ _ h => h) (Or.inl ⟨by rfl, ?hy33⟩) (by assumption) ?rest33
    case hy33 => ((intro w hSw; (try dsimp only at hSw); (try simp only [List.getElem_toArray, List.getElem_cons_zero, List.getElem_cons_succ]); go_simp; first | done | (with_reducible rfl)))
    simp only [Act.put, List.getElem_toArray, List.getElem_cons_zero, List.getElem_cons_succ, List.setIfInBounds_toArray, List.set_cons_zero, List.set_cons_succ]
    refine wpAnyH_take (i := 9) (v := ?v34) rfl (by kernel_rfl) (by kernel_rfl) (by kernel_rfl) (fun _ _ _ h => h) (Or.inl ⟨by rfl, ?hy34⟩) (by assumption) ?rest34
    case hy34 => ((intro w hSw; (try dsimp only at hSw); (try simp only [List.getElem_toArray, List.getElem_cons_zero, List.getElem_cons_succ]); go_simp; first | done | (with_reducible rfl)))
    simp only [Act.put, List.getElem_toArray, List.getElem_cons_zero, List.getElem_cons_succ, List.setIfInBounds_toArray, List.set_cons_zero, List.set_cons_succ]
    refine wpAnyH_take (i := 10) (v := ?v35) rfl (by kernel_rfl) (by kernel_rfl) (by kernel_rfl) (fun _ _ _ h => h) (Or.inl ⟨by rfl, ?hy35⟩) (by assumption) ?rest35
    case hy35 => ((intro w hSw; (try dsimp only at hSw); (try simp only [List.getElem_toArray, List.getElem_cons_zero, List.getElem_cons_succ]); go_simp; first | done | (with_reducible rfl)))
    simp only [Act.put, List.getElem_toArray, List.getElem_cons_zero, List.getElem_cons_succ, List.setIfInBounds_toArray, List.set_cons_zero, List.set_cons_succ]
    refine wpAnyH_take (i := 11) (v := ?v36) rfl (by kernel_rfl) (by kernel_rfl) (by kernel_rfl) (fun _ _ _ h => h) (Or.inl ⟨by rfl, ?hy36⟩) (by assumption) ?rest36
    case hy36 => ((intro w hSw; (try dsimp only at hSw); (try simp only [List.getElem_toArray, List.getElem_cons_zero, List.getElem_cons_succ]); go_simp; first | done | (with_reducible rfl)))
    simp only [Act.put, List.getElem_toArray, List.getElem_cons_zero, List.getElem_cons_succ, List.setIfInBounds_toArray, List.set_cons_zero, List.set_cons_succ]
    refine wpAnyH_take (i := 12) (v := ?v37) rfl (by kernel_rfl) (by kernel_rfl) (by kernel_rfl) (fun _ _ _ h => h) (Or.inl ⟨by rfl, ?hy37⟩) (by assumption) ?rest37
    case hy37 => ((intro w hSw; (try dsimp only at hSw); (try simp only [List.getElem_toArray, List.getElem_cons_zero, List.getElem_cons_succ]); go_simp; first | done | (with_reducible rfl)))
    simp only [Act.put, List.getElem_toArray, List.getElem_cons_zero, List.getElem_cons_succ, List.setIfInBounds_toArray, List.set_cons_zero, List.set_cons_succ]
    generalize hX00 : W6.drew = X00 at U HRd hHeld ⊢
    clear hX00
    apply shareRNNNWNIW (F := fun X g0 q0 q1 xc pc z0 y => (Upd (fun j => j = R) W6 X) ∧ (Rd W X R pc) ∧ (pc ≤ pr + 22) ∧ ((q0 : Int) < 2) ∧ (X.cell? ⟨g0, q0, none⟩ = some (.int .i64 z0)) ∧ (Flat y) ∧ (X.heap[g0]? = some (.cells #[.int .i64 2, .int .i64 4] 3 (0, 0))) ∧ (W6.heap.size ≤ g0))
    intro LEAFR73_0
    apply shareRNNWN (F := fun X q0 q1 xc pc => (Upd (fun j => j = R) W6 X) ∧ (Rd W X R pc) ∧ (pc ≤ pr + 22) ∧ ((q0 : Int) < 2))
    intro LEAFR73
    apply shareRNNNI (F := fun X g0 q0 q1 z0 => (Upd (fun j => j = R) W6 X) ∧ (Rd W X R (pr + 2)) ∧ ((q0 : Int) < 2) ∧ (X.cell? ⟨g0, q0, none⟩ = some (.int .i64 z0)) ∧ (X.heap[g0]? = some (.cells #[.int .i64 2, .int .i64 4] 3 (0, 0))) ∧ (W6.heap.size ≤ g0))
    intro LEAFR72_0
    apply shareRNN (F := fun X q0 q1 => (Upd (fun j => j = R) W6 X) ∧ (Rd W X R (pr + 2)) ∧ ((q0 : Int) < 2))
    intro LEAFR72
    apply shareRNNI (F := fun X g0 q0 z0 => (Upd (fun j => j = R) W6 X) ∧ (Rd W X R (pr + 1)) ∧ ((q0 : Int) < 2) ∧ (X.cell? ⟨g0, q0, none⟩ = some (.int .i64 z0)) ∧ (X.heap[g0]? = some (.cells #[.int .i64 2, .int .i64 4] 3 (0, 0))) ∧ (W6.heap.size ≤ g0))
    intro LEAFR71_0
    apply shareRN (F := fun X q0 => (Upd (fun j => j = R) W6 X) ∧ (Rd W X R (pr + 1)) ∧ ((q0 : Int) < 2))
    intro LEAFR71
    apply shareRN (F := fun X g0 => (Upd (fun j => j = R) W6 X) ∧ (Rd W X R (pr + 0)) ∧ (X.heap[g0]? = some (.cells #[.int .i64 2, .int .i64 4] 3 (0, 0))) ∧ (W6.heap.size ≤ g0))
    intro LEAFR70_0
    · refine wpAnyH_ready (rs := [0, 2]) (by kernel_rfl) (by simp) ?_
      refine AllReadyH.cons rfl (fun K hK => ?_) (AllReadyH.cons rfl (fun K hK => ?_) AllReadyH.nil)
      · go_simp
        have N0 := heap_alloc_new (X00) (.cells #[.int .i64 2, .int .i64 4] 3)
        have b2 := bal (Below.refl (X00).heap.size (X00)) (.cells #[.int .i64 2, .int .i64 4] 3)
        have zU := U.size
        generalize hX2 : (X00).alloc (.cells #[.int .i64 2, .int .i64 4] 3) = X2 at N0 b2 ⊢
        have HRd := HRd.keepB b2
        have U := U.trans (Upd.ofBelow b2)
        clear b2 hX2
        have n0 : W6.heap.size ≤ (X00).heap.size := zU
        clear zU
        generalize hgg : (X00).heap.size = g0 at N0 n0 ⊢
        clear hgg
        refine hK.out _ _ ?_ (fun hHeld => ?_)
        · exact ⟨updCell U C0.out (by omega), updCell U C1.out (by omega)⟩
        clear hK K
        exact LEAFR70_0 X2 g0 ⟨U, HRd, N0, n0⟩
      · go_simp
        go_at_call 67
        refine (pick_any W _ R _ 2 HRd (by omega) (by omega) (by omega)).mono ?_
        rintro e X2 ⟨q0, rfl, hqq, HRd, u2⟩
        have U := U.trans u2
        have hq0 : (q0 : Int) < 2 := by omega
        clear u2
        refine hK.out _ _ ?_ (fun hHeld => ?_)
        · exact ⟨updCell U C0.out (by omega), updCell U C1.out (by omega)⟩
        clear hK K
        exact LEAFR71 X2 q0 ⟨U, HRd, hq0⟩
    · intro X g0 ⟨U, HRd, N0, n0⟩
      have hHeld : (fun w' => w'.cell? ⟨g6, 0, none⟩ = some (.int .i64 k.s) ∧ w'.cell? ⟨g6, 1, none⟩ = some (.int .i64 k.b)) X := ⟨updCell U C0.out (by omega), updCell U C1.out (by omega)⟩
      refine wpAnyH_ready (rs := [2]) (by kernel_rfl) (by simp) ?_
      refine AllReadyH.cons rfl (fun K hK => ?_) AllReadyH.nil
      go_simp
      go_at_call 67
      refine (pick_any W _ R _ 2 HRd (by omega) (by omega) (by omega)).mono ?_
      rintro e X2 ⟨q0, rfl, hqq, HRd, u2⟩
      have N0 := u2.keeps N0 (by omega)
      have U := U.trans u2
      have hq0 : (q0 : Int) < 2 := by omega
      clear u2
      refine hK.out _ _ ?_ (fun hHeld => ?_)
      · exact ⟨updCell U C0.out (by omega), updCell U C1.out (by omega)⟩
      clear hK K
      obtain ⟨z0, hz0⟩ := lit24 q0 hq0
      have Z0 := (boxAt N0 q0).trans hz0
      clear hz0
      refine wpAnyH_strong (S' := fun w' => ((w'.cell? ⟨g6, 0, none⟩ = some (.int .i64 k.s) ∧ w'.cell? ⟨g6, 1, none⟩ = some (.int .i64 k.b)) ∧ w'.cell? ⟨g0, q0, none⟩ = some (.int .i64 z0))) (fun w h => h.1) ?_
      have hHeld := And.intro hHeld Z0
      refine wpAnyH_take (i := 3) (v := ?v38) rfl (by kernel_rfl) (by kernel_rfl) (by kernel_rfl) (fun _ _ _ h => h) (Or.inl ⟨by rfl, ?hy38⟩) (by assumption) ?rest38
      case hy38 => ((intro w hSw; (try dsimp only at hSw); (try simp only [List.getElem_toArray, List.getElem_cons_zero, List.getElem_cons_succ]); go_simp; first | done | (with_reducible rfl)))
      simp only [Act.put, List.getElem_toArray, List.getElem_cons_zero, List.getElem_cons_succ, List.setIfInBounds_toArray, List.set_cons_zero, List.set_cons_succ]
      refine wpAnyH_take (i := 4) (v := ?v39) rfl (by kernel_rfl) (by kernel_rfl) (by kernel_rfl) (fun _ _ _ h => h) (Or.inl ⟨by rfl, ?hy39⟩) (by assumption) ?rest39
      case hy39 => ((intro w hSw; (try dsimp only at hSw); (try simp only [List.getElem_toArray, List.getElem_cons_zero, List.getElem_cons_succ]); go_simp; first | done | (with_reducible rfl)))
      simp only [Act.put, List.getElem_toArray, List.getElem_cons_zero, List.getElem_cons_succ, List.setIfInBounds_toArray, List.set_cons_zero, List.set_cons_succ]
      exact LEAFR71_0 X2 g0 q0 z0 ⟨U, HRd, hq0, Z0, N0, n0⟩
    · intro X q0 ⟨U, HRd, hq0⟩
      have hHeld : (fun w' => w'.cell? ⟨g6, 0, none⟩ = some (.int .i64 k.s) ∧ w'.cell? ⟨g6, 1, none⟩ = some (.int .i64 k.b)) X := ⟨updCell U C0.out (by omega), updCell U C1.out (by omega)⟩
      refine wpAnyH_ready (rs := [0, 6]) (by kernel_rfl) (by simp) ?_
      refine AllReadyH.cons rfl (fun K hK => ?_) (AllReadyH.cons rfl (fun K hK => ?_) AllReadyH.nil)
      · go_simp
        have N0 := heap_alloc_new (X) (.cells #[.int .i64 2, .int .i64 4] 3)
        have b2 := bal (Below.refl (X).heap.size (X)) (.cells #[.int .i64 2, .int .i64 4] 3)
        have zU := U.size
        generalize hX2 : (X).alloc (.cells #[.int .i64 2, .int .i64 4] 3) = X2 at N0 b2 ⊢
        have HRd := HRd.keepB b2
        have U := U.trans (Upd.ofBelow b2)
        clear b2 hX2
        have n0 : W6.heap.size ≤ (X).heap.size := zU
        clear zU
        generalize hgg : (X).heap.size = g0 at N0 n0 ⊢
        clear hgg
        refine hK.out _ _ ?_ (fun hHeld => ?_)
        · exact ⟨updCell U C0.out (by omega), updCell U C1.out (by omega)⟩
        clear hK K
        obtain ⟨z0, hz0⟩ := lit24 q0 hq0
        have Z0 := (boxAt N0 q0).trans hz0
        clear hz0
        refine wpAnyH_strong (S' := fun w' => ((w'.cell? ⟨g6, 0, none⟩ = some (.int .i64 k.s) ∧ w'.cell? ⟨g6, 1, none⟩ = some (.int .i64 k.b)) ∧ w'.cell? ⟨g0, q0, none⟩ = some (.int .i64 z0))) (fun w h => h.1) ?_
        have hHeld := And.intro hHeld Z0
        refine wpAnyH_take (i := 3) (v := ?v40) rfl (by kernel_rfl) (by kernel_rfl) (by kernel_rfl) (fun _ _ _ h => h) (Or.inl ⟨by rfl, ?hy40⟩) (by assumption) ?rest40
        case hy40 => ((intro w hSw; (try dsimp only at hSw); (try simp only [List.getElem_toArray, List.getElem_cons_zero, List.getElem_cons_succ]); go_simp; first | done | (with_reducible rfl)))
        simp only [Act.put, List.getElem_toArray, List.getElem_cons_zero, List.getElem_cons_succ, List.setIfInBounds_toArray, List.set_cons_zero, List.set_cons_succ]
        refine wpAnyH_take (i := 4) (v := ?v41) rfl (by kernel_rfl) (by kernel_rfl) (by kernel_rfl) (fun _ _ _ h => h) (Or.inl ⟨by rfl, ?hy41⟩) (by assumption) ?rest41
        case hy41 => ((intro w hSw; (try dsimp only at hSw); (try simp only [List.getElem_toArray, List.getElem_cons_zero, List.getElem_cons_succ]); go_simp; first | done | (with_reducible rfl)))
        simp only [Act.put, List.getElem_toArray, List.getElem_cons_zero, List.getElem_cons_succ, List.setIfInBounds_toArray, List.set_cons_zero, List.set_cons_succ]
        exact LEAFR71_0 X2 g0 q0 z0 ⟨U, HRd, hq0, Z0, N0, n0⟩
      · go_simp
        go_at_call 67
        refine (pick_any W _ R _ 3 HRd (by omega) (by omega) (by omega)).mono ?_
        rintro e X2 ⟨q1, rfl, hqq, HRd, u2⟩
        have U := U.trans u2
        clear u2
        refine hK.out _ _ ?_ (fun hHeld => ?_)
        · exact ⟨updCell U C0.out (by omega), updCell U C1.out (by omega)⟩
        clear hK K
        exact LEAFR72 X2 q0 q1 ⟨U, HRd, hq0⟩
    · intro X g0 q0 z0 ⟨U, HRd, hq0, Z0, N0, n0⟩
      have hHeld : (fun w' => ((w'.cell? ⟨g6, 0, none⟩ = some (.int .i64 k.s) ∧ w'.cell? ⟨g6, 1, none⟩ = some (.int .i64 k.b)) ∧ w'.cell? ⟨g0, q0, none⟩ = some (.int .i64 z0))) X := ⟨⟨updCell U C0.out (by omega), updCell U C1.out (by omega)⟩, Z0⟩
      refine wpAnyH_ready (rs := [6]) (by kernel_rfl) (by simp) ?_
      refine AllReadyH.cons rfl (fun K hK => ?_) AllReadyH.nil
      go_simp
      go_at_call 67
      refine (pick_any W _ R _ 3 HRd (by omega) (by omega) (by omega)).mono ?_
      rintro e X2 ⟨q1, rfl, hqq, HRd, u2⟩
      have Z0 := updCell u2 Z0 (by omega)
      have N0 := u2.keeps N0 (by omega)
      have U := U.trans u2
      clear u2
      refine hK.out _ _ ?_ (fun hHeld => ?_)
      · exact ⟨⟨updCell U C0.out (by omega), updCell U C1.out (by omega)⟩, Z0⟩
      clear hK K
      exact LEAFR72_0 X2 g0 q0 q1 z0 ⟨U, HRd, hq0, Z0, N0, n0⟩
    · intro X q0 q1 ⟨U, HRd, hq0⟩
      have hHeld : (fun w' => w'.cell? ⟨g6, 0, none⟩ = some (.int .i64 k.s) ∧ w'.cell? ⟨g6, 1, none⟩ = some (.int .i64 k.b)) X := ⟨updCell U C0.out (by omega), updCell U C1.out (by omega)⟩
      refine wpAnyH_ready (rs := [0, 13]) (by kernel_rfl) (by simp) ?_
      refine AllReadyH.cons rfl (fun K hK => ?_) (AllReadyH.cons rfl (fun K hK => ?_) AllReadyH.nil)
      · go_simp
        have N0 := heap_alloc_new (X) (.cells #[.int .i64 2, .int .i64 4] 3)
        have b2 := bal (Below.refl (X).heap.size (X)) (.cells #[.int .i64 2, .int .i64 4] 3)
        have zU := U.size
        generalize hX2 : (X).alloc (.cells #[.int .i64 2, .int .i64 4] 3) = X2 at N0 b2 ⊢
        have HRd := HRd.keepB b2
        have U := U.trans (Upd.ofBelow b2)
        clear b2 hX2
        have n0 : W6.heap.size ≤ (X).heap.size := zU
        clear zU
        generalize hgg : (X).heap.size = g0 at N0 n0 ⊢
        clear hgg
        refine hK.out _ _ ?_ (fun hHeld => ?_)
        · exact ⟨updCell U C0.out (by omega), updCell U C1.out (by omega)⟩
        clear hK K
        obtain ⟨z0, hz0⟩ := lit24 q0 hq0
        have Z0 := (boxAt N0 q0).trans hz0
        clear hz0
        refine wpAnyH_strong (S' := fun w' => ((w'.cell? ⟨g6, 0, none⟩ = some (.int .i64 k.s) ∧ w'.cell? ⟨g6, 1, none⟩ = some (.int .i64 k.b)) ∧ w'.cell? ⟨g0, q0, none⟩ = some (.int .i64 z0))) (fun w h => h.1) ?_
        have hHeld := And.intro hHeld Z0
        refine wpAnyH_take (i := 3) (v := ?v42) rfl (by kernel_rfl) (by kernel_rfl) (by kernel_rfl) (fun _ _ _ h => h) (Or.inl ⟨by rfl, ?hy42⟩) (by assumption) ?rest42
        case hy42 => ((intro w hSw; (try dsimp only at hSw); (try simp only [List.getElem_toArray, List.getElem_cons_zero, List.getElem_cons_succ]); go_simp; first | done | (with_reducible rfl)))
        simp only [Act.put, List.getElem_toArray, List.getElem_cons_zero, List.getElem_cons_succ, List.setIfInBounds_toArray, List.set_cons_zero, List.set_cons_succ]
        refine wpAnyH_take (i := 4) (v := ?v43) rfl (by kernel_rfl) (by kernel_rfl) (by kernel_rfl) (fun _ _ _ h => h) (Or.inl ⟨by rfl, ?hy43⟩) (by assumption) ?rest43
        case hy43 => ((intro w hSw; (try dsimp only at hSw); (try simp only [List.getElem_toArray, List.getElem_cons_zero, List.getElem_cons_succ]); go_simp; first | done | (with_reducible rfl)))
        simp only [Act.put, List.getElem_toArray, List.getElem_cons_zero, List.getElem_cons_succ, List.setIfInBounds_toArray, List.set_cons_zero, List.set_cons_succ]
        exact LEAFR72_0 X2 g0 q0 q1 z0 ⟨U, HRd, hq0, Z0, N0, n0⟩
      · go_simp
        go_at_call 68
        refine (l72Cmd_any W _ R _ HRd (by omega)).mono ?_
        rintro e X2 ⟨xc, pc, rfl, HRd, hp5, u2⟩
        have U := U.trans u2
        have hp5 : pc ≤ pr + 22 := by omega
        clear u2
        refine hK.out _ _ ?_ (fun hHeld => ?_)
        · exact ⟨updCell U C0.out (by omega), updCell U C1.out (by omega)⟩
        clear hK K
        exact LEAFR73 X2 q0 q1 xc pc ⟨U, HRd, hp5, hq0⟩
    · intro X g0 q0 q1 z0 ⟨U, HRd, hq0, Z0, N0, n0⟩
      have hHeld : (fun w' => ((w'.cell? ⟨g6, 0, none⟩ = some (.int .i64 k.s) ∧ w'.cell? ⟨g6, 1, none⟩ = some (.int .i64 k.b)) ∧ w'.cell? ⟨g0, q0, none⟩ = some (.int .i64 z0))) X := ⟨⟨updCell U C0.out (by omega), updCell U C1.out (by omega)⟩, Z0⟩
      refine wpAnyH_ready (rs := [13]) (by kernel_rfl) (by simp) ?_
      refine AllReadyH.cons rfl (fun K hK => ?_) AllReadyH.nil
      go_simp
      go_at_call 68
      refine (l72Cmd_any W _ R _ HRd (by omega)).mono ?_
      rintro e X2 ⟨xc, pc, rfl, HRd, hp5, u2⟩
      have Z0 := updCell u2 Z0 (by omega)
      have N0 := u2.keeps N0 (by omega)
      have U := U.trans u2
      have hp5 : pc ≤ pr + 22 := by omega
      clear u2
      refine hK.out _ _ ?_ (fun hHeld => ?_)
      · exact ⟨⟨updCell U C0.out (by omega), updCell U C1.out (by omega)⟩, Z0⟩
      clear hK K
      refine wpAnyH_take (i := 14) (v := .agg (fwarr (saidW z0 q1 me k.b k.s xc))) rfl (by kernel_rfl) (by kernel_rfl) (by kernel_rfl) (fun _ _ _ h => h) (yields_build rfl 47 _ rfl [(0, .int .i64 z0), (1, .int .i64 q1), (2, .int .i64 me), (3, .int .i64 k.b), (4, .int .i64 k.s), (6, .agg #[.int .i64 xc.c0, .int .i64 xc.c1, .int .i64 xc.c2, .int .i64 xc.c3, .int .i64 xc.c4, .int .i64 xc.c5, .int .i64 xc.c6, .int .i64 xc.c7, .int .i64 xc.c8, .int .i64 xc.c9])] _ ((by (conv => lhs; simp only [List.map_toArray, List.map_cons, List.map_nil]); rfl)) (builtSaid _ _ _ _ _ _)) (by assumption) ?_
      simp only [Act.put, List.getElem_toArray, List.getElem_cons_zero, List.getElem_cons_succ, List.setIfInBounds_toArray, List.set_cons_zero, List.set_cons_succ]
      generalize hy : saidW z0 q1 me k.b k.s xc = y
      have hyf : Flat y := by rw [← hy]; exact ⟨rfl, rfl⟩
      clear hy
      exact LEAFR73_0 X2 g0 q0 q1 xc pc z0 y ⟨U, HRd, hp5, hq0, Z0, hyf, N0, n0⟩
    · intro X q0 q1 xc pc ⟨U, HRd, hp5, hq0⟩
      have hHeld : (fun w' => w'.cell? ⟨g6, 0, none⟩ = some (.int .i64 k.s) ∧ w'.cell? ⟨g6, 1, none⟩ = some (.int .i64 k.b)) X := ⟨updCell U C0.out (by omega), updCell U C1.out (by omega)⟩
      refine wpAnyH_ready (rs := [0]) (by kernel_rfl) (by simp) ?_
      refine AllReadyH.cons rfl (fun K hK => ?_) AllReadyH.nil
      go_simp
      have N0 := heap_alloc_new (X) (.cells #[.int .i64 2, .int .i64 4] 3)
      have b2 := bal (Below.refl (X).heap.size (X)) (.cells #[.int .i64 2, .int .i64 4] 3)
      have zU := U.size
      generalize hX2 : (X).alloc (.cells #[.int .i64 2, .int .i64 4] 3) = X2 at N0 b2 ⊢
      have HRd := HRd.keepB b2
      have U := U.trans (Upd.ofBelow b2)
      clear b2 hX2
      have n0 : W6.heap.size ≤ (X).heap.size := zU
      clear zU
      generalize hgg : (X).heap.size = g0 at N0 n0 ⊢
      clear hgg
      refine hK.out _ _ ?_ (fun hHeld => ?_)
      · exact ⟨updCell U C0.out (by omega), updCell U C1.out (by omega)⟩
      clear hK K
      obtain ⟨z0, hz0⟩ := lit24 q0 hq0
      have Z0 := (boxAt N0 q0).trans hz0
      clear hz0
      refine wpAnyH_strong (S' := fun w' => ((w'.cell? ⟨g6, 0, none⟩ = some (.int .i64 k.s) ∧ w'.cell? ⟨g6, 1, none⟩ = some (.int .i64 k.b)) ∧ w'.cell? ⟨g0, q0, none⟩ = some (.int .i64 z0))) (fun w h => h.1) ?_
      have hHeld := And.intro hHeld Z0
      refine wpAnyH_take (i := 3) (v := ?v44) rfl (by kernel_rfl) (by kernel_rfl) (by kernel_rfl) (fun _ _ _ h => h) (Or.inl ⟨by rfl, ?hy44⟩) (by assumption) ?rest44
      case hy44 => ((intro w hSw; (try dsimp only at hSw); (try simp only [List.getElem_toArray, List.getElem_cons_zero, List.getElem_cons_succ]); go_simp; first | done | (with_reducible rfl)))
      simp only [Act.put, List.getElem_toArray, List.getElem_cons_zero, List.getElem_cons_succ, List.setIfInBounds_toArray, List.set_cons_zero, List.set_cons_succ]
      refine wpAnyH_take (i := 4) (v := ?v45) rfl (by kernel_rfl) (by kernel_rfl) (by kernel_rfl) (fun _ _ _ h => h) (Or.inl ⟨by rfl, ?hy45⟩) (by assumption) ?rest45
      case hy45 => ((intro w hSw; (try dsimp only at hSw); (try simp only [List.getElem_toArray, List.getElem_cons_zero, List.getElem_cons_succ]); go_simp; first | done | (with_reducible rfl)))
      simp only [Act.put, List.getElem_toArray, List.getElem_cons_zero, List.getElem_cons_succ, List.setIfInBounds_toArray, List.set_cons_zero, List.set_cons_succ]
      refine wpAnyH_take (i := 14) (v := .agg (fwarr (saidW z0 q1 me k.b k.s xc))) rfl (by kernel_rfl) (by kernel_rfl) (by kernel_rfl) (fun _ _ _ h => h) (yields_build rfl 47 _ rfl [(0, .int .i64 z0), (1, .int .i64 q1), (2, .int .i64 me), (3, .int .i64 k.b), (4, .int .i64 k.s), (6, .agg #[.int .i64 xc.c0, .int .i64 xc.c1, .int .i64 xc.c2, .int .i64 xc.c3, .int .i64 xc.c4, .int .i64 xc.c5, .int .i64 xc.c6, .int .i64 xc.c7, .int .i64 xc.c8, .int .i64 xc.c9])] _ ((by (conv => lhs; simp only [List.map_toArray, List.map_cons, List.map_nil]); rfl)) (builtSaid _ _ _ _ _ _)) (by assumption) ?_
      simp only [Act.put, List.getElem_toArray, List.getElem_cons_zero, List.getElem_cons_succ, List.setIfInBounds_toArray, List.set_cons_zero, List.set_cons_succ]
      generalize hy : saidW z0 q1 me k.b k.s xc = y
      have hyf : Flat y := by rw [← hy]; exact ⟨rfl, rfl⟩
      clear hy
      exact LEAFR73_0 X2 g0 q0 q1 xc pc z0 y ⟨U, HRd, hp5, hq0, Z0, hyf, N0, n0⟩
    · intro X g0 q0 q1 xc pc z0 y ⟨U, HRd, hp5, hq0, Z0, hyf, N0, n0⟩
      have hHeld : (fun w' => ((w'.cell? ⟨g6, 0, none⟩ = some (.int .i64 k.s) ∧ w'.cell? ⟨g6, 1, none⟩ = some (.int .i64 k.b)) ∧ w'.cell? ⟨g0, q0, none⟩ = some (.int .i64 z0))) X := ⟨⟨updCell U C0.out (by omega), updCell U C1.out (by omega)⟩, Z0⟩
      have N8 := U.keeps H8.out (by omega)
      have zX := U.size
      have s15 := updRow X g8 (fwarr y)
      have N9 := setRow_heap _ _ _ (fwarr y) _ _ N8
      refine wpAnyH_ready (rs := [15]) (by kernel_rfl) (by simp) ?_
      refine AllReadyH.cons rfl (fun K hK => ?_) AllReadyH.nil
      (refine wp_store_row 47 (.tmp 8) (.tmp 60) rfl g8 (fwarr y) rfl rfl _ _ N8 infoWd (hcs8.trans rfl) (fw_one _) ?_)
      refine hK.out _ _ ?_ (fun hHeld => ?_)
      · exact ⟨⟨updCell s15 (updCell U C0.out (by omega)) (by omega), updCell s15 (updCell U C1.out (by omega)) (by omega)⟩, updCell s15 Z0 (by omega)⟩
      clear hK K
      refine wpAnyH_done (by kernel_rfl) ?_ _
      refine NoPanic.normal ?_
      clear hHeld Z0 N0 n0
      have N6 := hide (s15.keeps (U.keeps H6.out (by omega)) (by omega))
      have N9 := hide N9
      have HRd := HRd.keep s15 (by omega) (fun j h => by omega)
      have R9 := hide (rowA_keep_box (by decide) (HR.out.keep U (fun j h1 h2 => by omega)) N8 s15)
      have c9 : Below W.heap.size W (X.setRow g8 (fwarr y)) := (cW.trans (U.below cW.size (fun j h => by omega))).trans (s15.below (by omega) (fun j h => by omega))
      have lt8 := heap_lt N9.out
      generalize X.setRow g8 (fwarr y) = V at N6 N9 HRd R9 c9 lt8 ⊢
      clear s15 N8 U
      have l1 : V.cell? ⟨g6, 1, none⟩ = some (.int .i64 k.b) := boxAt N6.out 1
      by_cases hb1 : k.b > 1
      case neg =>
        have e1 : decide (k.b > 1) = false := decide_eq_false hb1
        go_wp2_with fail
        go_meet
        exact ⟨fwarr y, y, g8, pc, rfl, N6.out, R9.out, N9.out, fwO _ _ hyf, rfl, fw_one _, by rw [hyf.1]; simp, by rw [hyf.2]; simp, HRd, by omega, c9, by omega, by omega⟩
      have e1 : decide (k.b > 1) = true := decide_eq_true hb1
      go_wp2_with fail
      refine (pick_any W _ R _ 2 HRd (by omega) (by omega) (by omega)).mono ?_
      rintro e V2 ⟨p1, rfl, hp1, hr2, u2⟩
      have N6 := hide (u2.keeps N6.out (by omega))
      have N9 := hide (u2.keeps N9.out (by omega))
      have R9 := hide (R9.out.keep u2 (fun j h1 h2 => by omega))
      have c9 := c9.trans (u2.below c9.size (fun j h => by omega))
      have lt8 := heap_lt N9.out
      clear u2 HRd l1
      rcases (by omega : p1 = 0 ∨ p1 = 1) with h | h
      · subst h
        have l1 : V2.cell? ⟨g6, 1, none⟩ = some (.int .i64 k.b) := boxAt N6.out 1
        go_wp2_with fail
        refine (pick_anyI W _ R _ _ hr2 (by omega) (by omega) (by omega)).mono ?_
        rintro e V3 ⟨p2, rfl, hp2, hr3, u3⟩
        have N6 := hide (u3.keeps N6.out (by omega))
        have N9 := hide (u3.keeps N9.out (by omega))
        have R9 := hide (R9.out.keep u3 (fun j h1 h2 => by omega))
        have c9 := c9.trans (u3.below c9.size (fun j h => by omega))
        have l5 : V3.cell? ⟨g8, 5, none⟩ = some (.int .i64 y.a5) := boxAt N9.out 5
        have f5 : V3.frozen? ⟨g8, 5, none⟩ = false := boxFz N9.out 5
        clear u3 hr2 l1
        go_wp2_with fail
        go_meet
        have s4 : Upd (fun j => j = g8) V3 (V3.setCell ⟨g8, 5, none⟩ (.int .i64 p2)) := Upd.setCell _ _ _ _ rfl
        exact ⟨fwarr { y with a5 := (p2 : Int) }, { y with a5 := (p2 : Int) }, g8, pc + 1 + 1, rfl, s4.keeps N6.out (by omega), rowA_keep_box (by decide) R9.out N9.out s4, row_set _ N9.out, fwO _ _ ⟨hyf.1, hyf.2⟩, rfl, fw_one _, by rw [show ({ y with a5 := (p2 : Int) } : Wd).ps = y.ps from rfl, hyf.1]; simp, by rw [show ({ y with a5 := (p2 : Int) } : Wd).ls = y.ls from rfl, hyf.2]; simp, hr3.keep s4 (by omega) (fun j h => by omega), by omega, c9.trans (s4.below c9.size (fun j h => by omega)), by omega, by omega⟩
      · subst h
        go_wp2_with fail
        go_meet
        exact ⟨fwarr y, y, g8, pc + 1, rfl, N6.out, R9.out, N9.out, fwO _ _ hyf, rfl, fw_one _, by rw [hyf.1]; simp, by rw [hyf.2]; simp, hr2, by omega, c9, by omega, by omega⟩
  case rest =>
  obtain ⟨ds, x, lo, p5, rfl, H6', HR', H8', D8, hs, h1, hxp, hxl, hrd, hp5, cW, hlo, -⟩ := hcut
  have H6 := hide H6'
  have HR := hide HR'
  have H8 := hide H8'
  have HI := hide (infoAt infoWd hs)
  have HZ := hide (zero26.trans hs.symm)
  have H1s := hide h1
  have zcW := cW.size
  have B0 := hide (bKeeps cW B0.out)
  have B1 := hide (bKeeps cW B1.out)
  clear H6' HR' H8'
  go_upto_region 10 with fail
  have dd := bDrewB (Below.refl wc.heap.size wc)
  have zdd : wc.drew.heap.size = wc.heap.size := rfl
  have s3 := updRow wc.drew w.heap.size (skarr k (.slice so k.ys.length sc))
  have s5 := updRow (wc.drew.setRow w.heap.size (skarr k (.slice so k.ys.length sc))) (w.heap.size + 1) ds
  have N6 := bKeeps dd H6.out
  have N8 := bKeeps dd H8.out
  have A1b := hide (s3.keeps (bKeeps dd B1.out) (by omega))
  refine wp_region_noPanic ?_
  refine wp_region_held_drew (S := (fun w' => w'.heap[g6]? = some (.cells (skarr k (.slice so k.ys.length sc)) 39 (0, 0)) ∧ w'.heap[g8]? = some (.cells ds 47 (0, 0)))) (by kernel_rfl) ?_ (fun hHeld => ?_)
  · exact ⟨N6, N8⟩
  refine wpAnyH_take (i := 0) (v := .agg (skarr k (.slice so k.ys.length sc))) rfl (by kernel_rfl) (by kernel_rfl) (by kernel_rfl) (fun _ _ _ h => h) (yields_row rfl 39 (.tmp 6) rfl (g6) rfl _ (skarr k (.slice so k.ys.length sc)) _ (fun _ h => h.1) Try.underlying39 rfl infoSk) (by assumption) ?_
  simp only [Act.put, List.getElem_toArray, List.getElem_cons_zero, List.setIfInBounds_toArray, List.set_cons_zero, List.set_cons_succ]
  refine wpAnyH_take (i := 1) (v := ?v46) rfl (by kernel_rfl) (by kernel_rfl) (by kernel_rfl) (fun _ _ _ h => h) (Or.inl ⟨by rfl, ?y46⟩) (by assumption) ?r46
  case y46 => (intro w hSw; go_simp; first | done | (with_reducible rfl))
  simp only [Act.put, List.getElem_toArray, List.getElem_cons_zero, List.getElem_cons_succ, List.setIfInBounds_toArray, List.set_cons_zero, List.set_cons_succ]
  refine wpAnyH_take (i := 2) (v := .agg ds) rfl (by kernel_rfl) (by kernel_rfl) (by kernel_rfl) (fun _ _ _ h => h) (yields_row rfl 47 (.tmp 8) rfl (g8) rfl _ ds _ (fun _ h => h.2) Try.underlying47 rfl HI.out) (by assumption) ?_
  simp only [Act.put, List.getElem_toArray, List.getElem_cons_zero, List.getElem_cons_succ, List.setIfInBounds_toArray, List.set_cons_zero, List.set_cons_succ]
  refine wpAnyH_ready (rs := [3]) (by kernel_rfl) (by simp) ?_
  refine AllReadyH.cons rfl (fun K hK => ?_) AllReadyH.nil
  (refine wp_store_row 39 (.tmp 2) (.tmp 75) rfl w.heap.size (skarr k (.slice so k.ys.length sc)) rfl rfl _ _ (bKeeps dd B0.out) infoSk (show (26 : Nat) = 26 from rfl) (skarr_one _ _ _ _) ?_)
  refine hK.out _ _ ?_ (fun hHeld => ?_)
  · exact ⟨s3.keeps N6 (by omega), s3.keeps N8 (by omega)⟩
  clear hK K
  refine wpAnyH_take (i := 4) (v := ?v47) rfl (by kernel_rfl) (by kernel_rfl) (by kernel_rfl) (fun _ _ _ h => h) (Or.inl ⟨by rfl, ?y47⟩) (by assumption) ?r47
  case y47 => (intro w hSw; go_simp; first | done | (with_reducible rfl))
  simp only [Act.put, List.getElem_toArray, List.getElem_cons_zero, List.getElem_cons_succ, List.setIfInBounds_toArray, List.set_cons_zero, List.set_cons_succ]
  refine wpAnyH_ready (rs := [5]) (by kernel_rfl) (by simp) ?_
  refine AllReadyH.cons rfl (fun K hK => ?_) AllReadyH.nil
  (refine wp_store_row 47 (.tmp 4) (.tmp 77) rfl (w.heap.size + 1) ds rfl rfl _ _ A1b.out HI.out HZ.out H1s.out ?_)
  refine hK.out _ _ ?_ (fun hHeld => ?_)
  · exact ⟨s5.keeps (s3.keeps N6 (by omega)) (by omega), s5.keeps (s3.keeps N8 (by omega)) (by omega)⟩
  clear hK K
  refine wpAnyH_done (by kernel_rfl) ?_ _
  refine NoPanic.normal ?_
  clear hHeld
  go_wp2_with fail
  refine bodyPost_ret (v := .tuple #[.agg (skarr k (.slice so k.ys.length sc)), .int .i64 _, .agg ds]) (results_row_tmp_row Try.results21 _ _ w.heap.size (w.heap.size + 1) _ _ _ _ (0, 0) (0, 0) _ _ _ rfl rfl rfl (s5.keeps (setRow_heap _ _ _ _ _ _ (bKeeps dd B0.out)) (by omega)) (setRow_heap _ _ _ _ _ _ A1b.out) Try.underlying39 rfl infoSk Try.underlying47 rfl HI.out) rfl ?_
  have cw := (bAll al cW)
  have z3 := s3.size
  refine ⟨_, k, me, _, x, rfl, ⟨so, sc, rfl, (((HR.out.keepB dd).keep s3 (fun j h1 h2 => by omega)).keep s5 (fun j h1 h2 => by omega)).row (by omega) |>.reads⟩, hkl, (((D8.keepB dd).keep s3 (fun j h1 h2 => by omega)).keep s5 (fun j h1 h2 => by omega)).reads, hxp, hxl, ?_⟩
  exact ((cw.trans (dd.mono cw.size)).trans (s3.below (by have := cw.size; omega) (fun j h => by omega))).trans (s5.below (by have := cw.size; omega) (fun j h => by omega))
end Go.Proofs.Yteddhdbglciahaa
