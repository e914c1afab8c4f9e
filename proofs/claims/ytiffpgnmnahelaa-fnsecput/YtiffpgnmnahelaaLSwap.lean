/- What the law FnSecSwap does: its walk; the statement itself is proved elsewhere. -/
import Derived.Test.YtiffpgnmnahelaaLFlush
import Derived.Test.YtiffpgnmnahelaaDraw6
import Derived.Test.YtiffpgnmnahelaaIPut
namespace Go.Proofs.Ytiffpgnmnahelaa
open Go.RowKit

theorem upd_box {w : World} {B : Nat} {x y x' y' : Value} {t : TypeId} (h : w.heap[B]? = some (.cells #[x, y] t (0, 0))) :
    ((w.setCell ⟨B, 0, none⟩ x').setCell ⟨B, 1, none⟩ y').heap[B]? = some (.cells #[x', y'] t (0, 0)) := row_set _ (row_set _ h)

/-- A disk in rows that are none of a box stays as it is when the box is written. -/
theorem DiskO.keepBox {w w' : World} {S : Nat → Prop} {v : Value} {kept : List ByteArray} {wait : List (Int × ByteArray)} {B : Nat} {xs : Array Value} (h : DiskO w S v kept wait) (hB : w.heap[B]? = some (.cells xs 26 (0, 0))) (hu : Upd (fun k => k = B) w w') : DiskO w' S v kept wait := by
  obtain ⟨vk, vw, rfl, h1, h2⟩ := h
  exact ⟨vk, vw, rfl, (h1.typed.keep hu (fun k ht e => by subst e; exact typed_box hB (by decide) rfl ht)).mono (fun _ _ h => h.1), (h2.typed.keep hu (fun k ht e => by subst e; exact typed_box hB (by decide) rfl ht)).mono (fun _ _ h => h.1)⟩

theorem DiskAA.diskO {w : World} {base : Nat} {v : Value} {kept : List ByteArray} {wait : List (Int × ByteArray)} (h : DiskAA w base v kept wait) (hk : kept.length ≤ 9223372036854775807) (hw : wait.length ≤ 9223372036854775807) : DiskO w (fun k => base ≤ k) v kept wait := by
  obtain ⟨vk, vw, rfl, a1, a2⟩ := h
  exact ⟨vk, vw, rfl, a1.row hk, a2.row hw⟩

theorem swap_all {kept : List ByteArray} {wait : List (Int × ByteArray)} {a b : Int} {s t : ByteArray} (hab : a ≠ b) (h1 : putB kept wait a s = true) (h2 : putB (putK kept wait) (putW kept wait a s) b t = true) (h3 : putB kept wait b t = true) (h4 : putB (putK kept wait) (putW kept wait b t) a s = true) :
    flushK (putK (putK kept wait) (putW kept wait a s)) (putW (putK kept wait) (putW kept wait a s) b t) = flushK (putK (putK kept wait) (putW kept wait b t)) (putW (putK kept wait) (putW kept wait b t) a s) := by
  obtain ⟨o1, a1, -, -, k1, w1, -⟩ := put_true h1
  obtain ⟨o3, b1, -, -, k3, w3, -⟩ := put_true h3
  rw [k1, w1] at h2 ⊢
  rw [k1, w3] at h4
  rw [w3]
  obtain ⟨-, -, -, -, k2, w2, q2⟩ := put_true h2
  obtain ⟨-, -, -, -, k4, w4, q4⟩ := put_true h4
  rw [k2, w2, k4, w4]
  exact flushK_swap hab a1 b1 q2 q4

set_option maxRecDepth 100000 in
set_option maxHeartbeats 4000000 in
theorem lawSecSwap_walk (bo bo' : Option Addr) (n n' cap cap' : Nat) (bs bs' : List Nat) (w : World) (h : BytesIn w bo n cap bs) (h' : BytesIn w bo' n' cap' bs') :
    Calls Try.prog 6 #[.slice bo n cap, .slice bo' n' cap'] w fun e w' => e = .returned (.bool true) ∧ Below w.heap.size w w' := by
  by_cases hb1 : (n : Int) > 1048576
  · go_enter Try.func6, Try.ntmps6
    go_wp2
    go_ret
    exact ⟨rfl, Below.refl _ _⟩
  by_cases hb2 : (n' : Int) > 1048576
  · go_enter Try.func6, Try.ntmps6
    go_wp2
    go_ret
    exact ⟨rfl, Below.refl _ _⟩
  have HB := hide h
  have HB' := hide h'
  clear h h'
  go_enter Try.func6, Try.ntmps6
  go_wp2_with fail
  refine (drawSecPut_any w bo n cap bs HB.out (by omega)).mono ?_
  rintro e w1 ⟨v1, kept, wait, a, s, rfl, d1, sm, hss, b1⟩
  have D := d1.diskO (by have := sm.kl; omega) (by have := sm.wl; omega)
  obtain ⟨ao, ca, ao', ca', rfl⟩ := D.reads.shapeR
  clear d1
  have H5 := hide (al1_0 w1 (.cells #[.slice ao kept.length ca, .slice ao' wait.length ca'] 26))
  have c1 := bAll b1 (alB w1 (.cells #[.slice ao kept.length ca, .slice ao' wait.length ca'] 26))
  replace D := D.keepB (alB w1 (.cells #[.slice ao kept.length ca, .slice ao' wait.length ca'] 26))
  go_wp2_with fail
  refine (drawSecPut_any _ bo' n' cap' bs' (HB'.out.keep c1) (by omega)).mono ?_
  rintro e w2 ⟨v2, kept2, wait2, b, t, rfl, d2, sm2, hst, b2⟩
  obtain ⟨eo, ec, eo', ec', rfl⟩ := d2.shape
  have al2 := alB w2 (.cells #[.slice eo kept2.length ec, .slice eo' wait2.length ec'] 26)
  replace H5 := hide (bKeeps al2 (bKeeps b2 H5.out))
  replace D := (D.keepB b2).keepB al2
  have c2 := bAll (bAll c1 b2) al2
  clear d2 sm2
  -- what is known of the four writes, as letters
  have sm1 := sm.put a s hss
  have sm3 := sm.put b t hst
  have HS : Hid (a ≠ b → putB kept wait a s = true → putB (putK kept wait) (putW kept wait a s) b t = true → putB kept wait b t = true → putB (putK kept wait) (putW kept wait b t) a s = true → _) := fun h => swap_all h
  have Big := hide sm.big
  have Big1 := hide sm1.big
  have Big3 := hide sm3.big
  have Big2 := hide (sm1.put b t hst).big
  have Big4 := hide (sm3.put a s hss).big
  have C1s := fun v w hr => specSecPut_any v kept wait a s w hr Big.out.1 Big.out.2 (by omega)
  have C1 := fun v w hr => implSecPut_any v kept wait a s w hr Big.out.1 Big.out.2 (by omega)
  have C2 := fun v w hr => implSecPut_any v (putK kept wait) (putW kept wait a s) b t w hr Big1.out.1 Big1.out.2 (by omega)
  have C3 := fun v w hr => implSecPut_any v kept wait b t w hr Big.out.1 Big.out.2 (by omega)
  have C4 := fun v w hr => implSecPut_any v (putK kept wait) (putW kept wait b t) a s w hr Big3.out.1 Big3.out.2 (by omega)
  have F2 := fun v w hr => implSecFlush_any v (putK (putK kept wait) (putW kept wait a s)) (putW (putK kept wait) (putW kept wait a s) b t) w hr Big2.out.1 Big2.out.2
  have F4 := fun v w hr => implSecFlush_any v (putK (putK kept wait) (putW kept wait b t)) (putW (putK kept wait) (putW kept wait b t) a s) w hr Big4.out.1 Big4.out.2
  obtain ⟨K1, e1⟩ : ∃ K1, putK kept wait = K1 := ⟨_, rfl⟩
  obtain ⟨W1, e2⟩ : ∃ W1, putW kept wait a s = W1 := ⟨_, rfl⟩
  obtain ⟨W3, e3⟩ : ∃ W3, putW kept wait b t = W3 := ⟨_, rfl⟩
  obtain ⟨P1, e4⟩ : ∃ P1, putB kept wait a s = P1 := ⟨_, rfl⟩
  obtain ⟨P3, e5⟩ : ∃ P3, putB kept wait b t = P3 := ⟨_, rfl⟩
  rw [e1, e2, e4] at C1s C1
  rw [e1, e2] at C2 F2
  rw [e1, e3, e5] at C3
  rw [e1, e3] at C4 F4
  rw [e1, e2, e3, e4, e5] at HS
  obtain ⟨K2, e6⟩ : ∃ K2, putK K1 W1 = K2 := ⟨_, rfl⟩
  obtain ⟨W2, e7⟩ : ∃ W2, putW K1 W1 b t = W2 := ⟨_, rfl⟩
  obtain ⟨P2, e8⟩ : ∃ P2, putB K1 W1 b t = P2 := ⟨_, rfl⟩
  obtain ⟨K4, e9⟩ : ∃ K4, putK K1 W3 = K4 := ⟨_, rfl⟩
  obtain ⟨W4, e10⟩ : ∃ W4, putW K1 W3 a s = W4 := ⟨_, rfl⟩
  obtain ⟨P4, e11⟩ : ∃ P4, putB K1 W3 a s = P4 := ⟨_, rfl⟩
  rw [e6, e7, e8] at C2
  rw [e6, e7] at F2
  rw [e9, e10, e11] at C4
  rw [e9, e10] at F4
  rw [e6, e7, e8, e9, e10, e11] at HS
  replace C1s := hide C1s
  replace C1 := hide C1
  replace C2 := hide C2
  replace C3 := hide C3
  replace C4 := hide C4
  replace F2 := hide F2
  replace F4 := hide F4
  clear e1 e2 e3 e4 e5 e6 e7 e8 e9 e10 e11 sm sm1 sm3 Big Big1 Big2 Big3 Big4
  obtain ⟨p0, p1, pl⟩ := box2 H5.out
  go_wp2_with fail
  refine (unhide C1s _ _ D.reads).mono ?_
  rintro e w3 ⟨v3, rfl, d3, b3⟩
  obtain ⟨fo, fc, fo', fc', rfl⟩ := d3.reads.shapeR
  have al3 := alB w3 (.cells #[.slice fo K1.length fc, .slice fo' W1.length fc'] 26)
  have H11 := hide (al1_0 w3 (.cells #[.slice fo K1.length fc, .slice fo' W1.length fc'] 26))
  replace H5 := hide (bKeeps al3 (bKeeps b3 H5.out))
  replace D := (D.keepB b3).keepB al3
  replace d3 := d3.keepB al3
  have c3 := bAll (bAll c2 b3) al3
  clear p0 p1 pl
  obtain ⟨p0, p1, pl⟩ := box2 H5.out
  go_wp2_with fail
  refine (unhide C1 _ _ D.reads).mono ?_
  rintro e w4 ⟨v4, rfl, d4, b4⟩
  obtain ⟨go, gc, go', gc', rfl⟩ := d4.reads.shapeR
  have al4 := alB w4 (.cells #[.slice go K1.length gc, .slice go' W1.length gc'] 26)
  have H13 := hide (al1_0 w4 (.cells #[.slice go K1.length gc, .slice go' W1.length gc'] 26))
  replace H5 := hide (bKeeps al4 (bKeeps b4 H5.out))
  replace H11 := hide (bKeeps al4 (bKeeps b4 H11.out))
  replace D := (D.keepB b4).keepB al4
  replace d3 := (d3.keepB b4).keepB al4
  replace d4 := d4.keepB al4
  have c4 := bAll (bAll c3 b4) al4
  clear p0 p1 pl
  obtain ⟨p0, p1, pl⟩ := box2 H11.out
  obtain ⟨q0, q1, ql⟩ := box2 H13.out
  go_wp2_with fail
  refine (lpSec_true _ _ K1 W1 _ d4.reads d3.reads).mono ?_
  rintro e w5 ⟨rfl, b5⟩
  replace H5 := hide (bKeeps b5 H5.out)
  replace H11 := hide (bKeeps b5 H11.out)
  replace H13 := hide (bKeeps b5 H13.out)
  replace D := D.keepB b5
  replace d3 := d3.keepB b5
  replace d4 := d4.keepB b5
  have c5 := bAll c4 b5
  have z5 := heap_lt H13.out
  have z4w : w.heap.size ≤ w4.heap.size := by have := c3.size; have := b4.size; omega
  have z5w : w1.heap.size < w4.heap.size := by have := heap_lt H5.out; have := b2.size; have := b3.size; have := b4.size; simp only [World.size_alloc] at *; omega
  clear p0 p1 pl q0 q1 ql
  obtain ⟨p0, p1, pl⟩ := box2 H11.out
  obtain ⟨q0, q1, ql⟩ := box2 H13.out
  by_cases hab : a = b
  · go_wp2_with fail
    refine (lpSec_true _ _ K1 W1 _ d4.reads d3.reads).mono ?_
    rintro e w6 ⟨rfl, b6⟩
    go_wp2
    go_ret
    exact ⟨rfl, bAll c5 b6⟩
  · go_wp2_with fail
    refine (unhide C2 _ _ d4.reads).mono ?_
    rintro e w6 ⟨v6, rfl, d6, b6⟩
    obtain ⟨jo, jc, jo', jc', rfl⟩ := d6.reads.shapeR
    replace H5 := hide (bKeeps b6 H5.out)
    replace H13 := hide (bKeeps b6 H13.out)
    replace D := D.keepB b6
    have c6 := bAll c5 b6
    clear p0 p1 pl q0 q1 ql d3 d4 H11
    obtain ⟨p0, p1, pl⟩ := box2 H5.out
    obtain ⟨q0, q1, ql⟩ := box2 H13.out
    obtain ⟨q2, q3⟩ := box2f H13.out
    have u7 := upd_set2 w6 w4.heap.size 0 1 (.slice jo K2.length jc) (.slice jo' W2.length jc')
    obtain ⟨w7, hw7⟩ : ∃ w7, w7 = (w6.setCell ⟨w4.heap.size, 0, none⟩ (.slice jo K2.length jc)).setCell ⟨w4.heap.size, 1, none⟩ (.slice jo' W2.length jc') := ⟨_, rfl⟩
    have H5' := hide (u7.keeps H5.out (by have := heap_lt H5.out; omega))
    have H13' := hide (upd_box (x' := .slice jo K2.length jc) (y' := .slice jo' W2.length jc') H13.out)
    have D7 := D.keepBox H13.out u7
    have d7 := d6.keepBox H13.out u7
    have c7 := c6.trans (u7.below c6.size (fun k h => by have := z4w; omega))
    go_wp2_with fail
    rw [← hw7]
    rw [← hw7] at H5' H13' D7 d7 c7 u7
    have z7 := u7.size
    clear hw7 p0 p1 pl q0 q1 ql q2 q3 H5 H13 D d6
    refine (unhide C3 _ _ D7.reads).mono ?_
    rintro e w8 ⟨v8, rfl, d8, b8⟩
    obtain ⟨lo, lc, lo', lc', rfl⟩ := d8.reads.shapeR
    have al8 := alB w8 (.cells #[.slice lo K1.length lc, .slice lo' W3.length lc'] 26)
    have H16 := hide (al1_0 w8 (.cells #[.slice lo K1.length lc, .slice lo' W3.length lc'] 26))
    have H13 := hide (bKeeps al8 (bKeeps b8 H13'.out))
    replace d7 := (d7.keepB b8).keepB al8
    replace d8 := d8.keepB al8
    have c8 := bAll (bAll c7 b8) al8
    clear H13' H5' D7
    go_wp2_with fail
    refine (unhide C4 _ _ d8.reads).mono ?_
    rintro e w9 ⟨v9, rfl, d9, b9⟩
    obtain ⟨ro, rc, ro', rc', rfl⟩ := d9.reads.shapeR
    replace H13 := hide (bKeeps b9 H13.out)
    replace H16 := hide (bKeeps b9 H16.out)
    replace d7 := d7.keepB b9
    have c9 := bAll c8 b9
    have l16 := heap_lt H16.out
    have l13 := heap_lt H13.out
    clear d8
    obtain ⟨q0, q1, ql⟩ := box2 H16.out
    obtain ⟨q2, q3⟩ := box2f H16.out
    have u10 := upd_set2 w9 w8.heap.size 0 1 (.slice ro K4.length rc) (.slice ro' W4.length rc')
    have z8 : w4.heap.size < w8.heap.size := by have := b8.size; have := b6.size; omega
    have G13 := hide (u10.keeps H13.out (by omega))
    have G16 := hide (upd_box (x' := .slice ro K4.length rc) (y' := .slice ro' W4.length rc') H16.out)
    have d10 := d7.keepBox H16.out u10
    have f10 := d9.keepBox H16.out u10
    have c10 := c9.trans (u10.below c9.size (fun k h => by have := z4w; omega))
    obtain ⟨w10, hw10⟩ : ∃ w10, w10 = (w9.setCell ⟨w8.heap.size, 0, none⟩ (.slice ro K4.length rc)).setCell ⟨w8.heap.size, 1, none⟩ (.slice ro' W4.length rc') := ⟨_, rfl⟩
    rw [← hw10] at G13 G16 d10 f10 c10
    by_cases hall : P1 = true ∧ P2 = true ∧ P3 = true ∧ P4 = true
    · obtain ⟨rfl, rfl, rfl, rfl⟩ := hall
      have hfl := HS.out hab rfl rfl rfl rfl
      replace F2 := unhide F2
      replace F4 := unhide F4
      rw [hfl] at F2
      obtain ⟨F, hF⟩ : ∃ F, flushK K4 W4 = F := ⟨_, rfl⟩
      rw [hF] at F2 F4
      replace F2 := hide F2
      replace F4 := hide F4
      clear hfl hF HS
      go_wp2
      rw [← hw10]
      clear hw10 q0 q1 ql q2 q3
      obtain ⟨m0, m1, ml⟩ := box2 G13.out
      obtain ⟨n0, n1, nl⟩ := box2 G16.out
      have hd := d10.reads.keep (bDrew w10)
      go_region_held3 (fun w' => (w'.cell? ⟨w4.heap.size, 0, none⟩ = some (.slice jo K2.length jc) ∧ w'.cell? ⟨w4.heap.size, 1, none⟩ = some (.slice jo' W2.length jc')) ∧ (w'.cell? ⟨w8.heap.size, 0, none⟩ = some (.slice ro K4.length rc) ∧ w'.cell? ⟨w8.heap.size, 1, none⟩ = some (.slice ro' W4.length rc')))
        ((refine heldTwo G13.out G16.out ?_; first | assumption | exact bDrew _ | exact Below.refl _ _))
        (first
        | (go_at_call 12; refine (lpSec_true _ _ F [] w12 (d11.reads.keep b12) d12.reads).mono ?_; rintro e w13 ⟨rfl, b13⟩; have b13' : Below w10.heap.size w10 w13 := bAll b12' b13)
        | (go_at_call 16; refine (unhide F4 _ w11 (f10.reads.keep b11')).mono ?_; rintro e w12 ⟨v12, rfl, d12, b12⟩; obtain ⟨uo, uc, uo', uc', rfl⟩ := d12.reads.shapeR; have b12' : Below w10.heap.size w10 w12 := bAll b11' b12)
        | (go_at_call 16; refine (unhide F2 _ _ hd).mono ?_; rintro e w11 ⟨v11, rfl, d11, b11⟩; obtain ⟨to, tc, to', tc', rfl⟩ := d11.reads.shapeR; have b11' : Below w10.heap.size w10 w11 := bUndrew b11))
      all_goals
        try go_wp2
        go_ret
        exact ⟨rfl, bAll c10 b13'⟩
    · clear HS F2 F4 C1s C1 C2 C3 C4
      cases P1 <;> cases P2 <;> cases P3 <;> cases P4 <;> first
        | exact absurd ⟨rfl, rfl, rfl, rfl⟩ hall
        | (go_wp2
           go_ret
           rw [← hw10]
           exact ⟨rfl, c10⟩)

end Go.Proofs.Ytiffpgnmnahelaa
