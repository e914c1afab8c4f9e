/- Contracts and plain facts that the claims of this seat lean on (texts SWalDo); no statement of the seat is proved here. -/
import Derived.Test.YtapflnabiobonaaDoorPk9
import Derived.Test.YtapflnabiobonaaDoorPk3
import Derived.Deep.RegionHeld3

/- What WalDo of the specification does: a contract; no statement of the seat is proved here. -/
namespace Go.Proofs.YtapflnabiobonaaDoor
open Go.RowKit

theorem alB' (w : World) (o : Obj) : Below w.heap.size w (w.alloc o) := (Below.refl _ _).alloc (Nat.le_refl _) _
theorem okB_big' {kept : List ByteArray} {wait : List (Int × ByteArray)} (h : okB kept wait = true) : (∀ s ∈ kept, s.size ≤ 9223372036854775807) ∧ ∀ x ∈ wait, x.2.size ≤ 9223372036854775807 := by
  obtain ⟨_, _, h3, h4⟩ := okB_parts h
  exact ⟨fun s hs => by have := h3 s hs; omega, fun x hx => by have := (h4 x hx).2.2; omega⟩
theorem DiskO.shapeO {w : World} {S : Nat → Prop} {v : Value} {kept : List ByteArray} {wait : List (Int × ByteArray)} (h : DiskO w S v kept wait) : ∃ ao ca ao' ca', v = .agg #[.slice ao kept.length ca, .slice ao' wait.length ca'] := by
  obtain ⟨vk, vw, rfl, ⟨ao, ca, rfl, -⟩, ⟨ao', ca', rfl, -⟩⟩ := h
  exact ⟨ao, ca, ao', ca', rfl⟩
/-- A disk in rows of its own stays as it is when a variable that holds a disk is written. -/
theorem DiskO.keepVar {w w' : World} {S : Nat → Prop} {v : Value} {kept : List ByteArray} {wait : List (Int × ByteArray)} {B : Nat} {xs : Array Value} (h : DiskO w S v kept wait) (hB : w.heap[B]? = some (.cells xs 31 (0, 0))) (hu : Upd (fun k => k = B) w w') : DiskO w' S v kept wait := by
  obtain ⟨vk, vw, rfl, h1, h2⟩ := h
  exact ⟨vk, vw, rfl, (h1.typed.keep hu (fun k ht e => by subst e; exact typed_box hB (by decide) rfl ht)).mono (fun _ _ h => h.1), (h2.typed.keep hu (fun k ht e => by subst e; exact typed_box hB (by decide) rfl ht)).mono (fun _ _ h => h.1)⟩
theorem var_set {w : World} {B : Nat} {x y x' y' : Value} {t : TypeId} (h : w.heap[B]? = some (.cells #[x, y] t (0, 0))) :
    ((w.setCell ⟨B, 0, none⟩ x').setCell ⟨B, 1, none⟩ y').heap[B]? = some (.cells #[x', y'] t (0, 0)) := row_set _ (row_set _ h)

set_option maxRecDepth 100000 in
set_option maxHeartbeats 4000000 in
theorem specWalDo_any (v : Value) (kept : List ByteArray) (wait : List (Int × ByteArray)) (so ko : Option Addr) (sc kc : Nat) (xs : List Stp) (cut : Bool) (after : Int) (ks : List Int) (w : World) (hr : DiskR w v kept wait)
    (hxs : RowR w 3 (.slice so xs.length sc) xs.length (scells xs)) (hxz : ∀ x ∈ xs, x.2.2.size ≤ 9223372036854775807) (hks : RowR w 1 (.slice ko ks.length kc) ks.length (ks.map (Value.int .i64))) (hs : ∀ s ∈ kept, s.size ≤ 9223372036854775807) (hs' : ∀ s ∈ wait, s.2.size ≤ 9223372036854775807) :
    Calls Tryd.prog 96 #[v, .slice so xs.length sc, .bool cut, .int .i64 after, .slice ko ks.length kc] w fun e w' => ∃ v', e = .returned v' ∧ DiskO w' (fun k => w.heap.size ≤ k) v' (doR kept wait xs cut after ks).1 (doR kept wait xs cut after ks).2 ∧ Below w.heap.size w w' := by
  have Hr := hide hr
  obtain ⟨ak, aw, rfl, ⟨ao, ca, rfl, -⟩, ⟨bo, cb, rfl, -⟩⟩ := hr
  have hal : Below w.heap.size w ((w.alloc (.cells #[.slice ao kept.length ca, .slice bo wait.length cb] 31)).alloc (.cells #[.slice none 0 0, .slice none 0 0] 31)) := ((Below.refl _ _).alloc (Nat.le_refl _) _).alloc (by simp) _
  have H0 := hide (al2_0 w (.cells #[.slice ao kept.length ca, .slice bo wait.length cb] 31) (.cells #[.slice none 0 0, .slice none 0 0] 31))
  have H1 := hide (al2_1 w (.cells #[.slice ao kept.length ca, .slice bo wait.length cb] 31) (.cells #[.slice none 0 0, .slice none 0 0] 31))
  have HKS := hide hks
  have HXS := hide hxs
  have HXZ := hide hxz
  have hxl : xs.length ≤ 9223372036854775807 := by obtain ⟨_, _, _, h, _⟩ := hxs; exact h
  have Hs := hide hs
  have Hs' := hide hs'
  clear hs hs' hks hxs hxz
  go_enter Tryd.func96, Tryd.ntmps96
  go_wp2_with fail
  refine (specSecOk_any _ kept wait _ (Hr.out.keep hal) Hs.out Hs'.out).mono ?_
  rintro e w1 ⟨rfl, b1⟩
  have z1 : w.heap.size + 1 + 1 ≤ w1.heap.size := by have := b1.size; simpa only [World.size_alloc] using this
  have c1 := bAll hal b1
  replace H0 := hide (bKeeps b1 H0.out)
  replace H1 := hide (bKeeps b1 H1.out)
  obtain ⟨p0, p1, pl⟩ := box2 H0.out
  obtain ⟨q0, q1, ql⟩ := box2 H1.out
  obtain ⟨q2, q3⟩ := box2f H1.out
  cases hok : okB kept wait
  · have Hx : Hid (doR kept wait xs cut after ks = ([], [])) := by show _ = _; simp [doR, hok]
    go_wp2
    have hu := upd_set2 w1 (w.heap.size + 1) 0 1 (.slice none 0 0) (.slice none 0 0)
    refine bodyPost_ret (v := .agg #[.slice none 0 0, .slice none 0 0]) (by simp [results, Tryd.results96, go_sem, q0, q1]) rfl ⟨_, rfl, ?_, c1.trans (hu.below (by omega) (by intro k hk; omega))⟩
    rw [Hx.out]
    exact ⟨_, _, rfl, Row.nil _ _ _ _, Row.nil _ _ _ _⟩
  by_cases hlen : (xs.length : Int) > 600
  · have Hx : Hid (doR kept wait xs cut after ks = ([], [])) := by show _ = _; simp [doR, show ¬ xs.length ≤ 600 by omega]
    go_wp2
    have hu := upd_set2 w1 (w.heap.size + 1) 0 1 (.slice none 0 0) (.slice none 0 0)
    refine bodyPost_ret (v := .agg #[.slice none 0 0, .slice none 0 0]) (by simp [results, Tryd.results96, go_sem, q0, q1]) rfl ⟨_, rfl, ?_, c1.trans (hu.below (by omega) (by intro k hk; omega))⟩
    rw [Hx.out]
    exact ⟨_, _, rfl, Row.nil _ _ _ _, Row.nil _ _ _ _⟩
  have hl6 : xs.length ≤ 600 := by omega
  have HR : Hid (doR kept wait xs cut after ks = if cut = true then (cutK (doL (kept, wait) (xs.take (doEnd cut after xs.length))).1 (doL (kept, wait) (xs.take (doEnd cut after xs.length))).2 ks, []) else doL (kept, wait) (xs.take (doEnd cut after xs.length))) := by
    show _ = _
    simp [doR, hok, hl6]
  have HOK := hide hok
  obtain ⟨hp1, hp2, -, -⟩ := okB_parts hok
  clear hok q0 q1 ql q2 q3
  go_wp2_with fail
  refine (l1Copy_any kept wait _ _ (Hr.out.keep c1) (by omega) (by omega)).mono ?_
  rintro e w2 ⟨v2, rfl, d2, b2⟩
  obtain ⟨eo, ec, eo', ec', rfl⟩ := d2.shapeO
  replace H0 := hide (bKeeps b2 H0.out)
  replace H1 := hide (bKeeps b2 H1.out)
  clear p0 p1 pl
  obtain ⟨p0, p1, pl⟩ := box2 H0.out
  obtain ⟨p2, p3⟩ := box2f H0.out
  have c2 := bAll c1 b2
  have z2 := b2.size
  have u3 := upd_set2 w2 w.heap.size 0 1 (.slice eo kept.length ec) (.slice eo' wait.length ec')
  have G0 := hide (var_set (x' := .slice eo kept.length ec) (y' := .slice eo' wait.length ec') H0.out)
  have G1 := hide (u3.keeps H1.out (by omega))
  have d3 := (d2.keepVar H0.out u3).mono (T := fun k => w.heap.size ≤ k) (fun k _ h => by have := c1.size; omega)
  have c3 := c2.trans (u3.below (by omega) (fun k h => by omega))
  go_wp2
  clear p0 p1 pl p2 p3 H0 H1 d2
  go_loopw [11] (fun iv wr => ∃ (k : Nat) (K : List ByteArray) (X : List (Int × ByteArray)) (go gw : Option Addr) (gc gd : Nat), k ≤ xs.length ∧ k ≤ doEnd cut after xs.length ∧ iv = .int .i64 k ∧ okB K X = true ∧ doL (kept, wait) (xs.take k) = (K, X) ∧
      wr.heap[w.heap.size]? = some (.cells #[.slice go K.length gc, .slice gw X.length gd] 31 (0, 0)) ∧ wr.heap[w.heap.size + 1]? = some (.cells #[.slice none 0 0, .slice none 0 0] 31 (0, 0)) ∧
      DiskO wr (fun k => w.heap.size ≤ k) (.agg #[.slice go K.length gc, .slice gw X.length gd]) K X ∧ Below w.heap.size w wr) (fun iv _ => xs.length - (intOf iv).toNat)
  case atStart => exact ⟨0, kept, wait, eo, eo', ec, ec', Nat.zero_le _, Nat.zero_le _, rfl, HOK.out, rfl, G0.out, G1.out, d3, c3⟩
  case round =>
    clear G0 G1 d3 c3
    obtain ⟨k, K, X, go, gw, gc, gd, hk, hke, rfl, hokK, hdo, B0, B1, hd, hbel⟩ := hrel
    have G0 := hide B0
    have G1 := hide B1
    have HDO := hide hdo
    have HOKK := hide hokK
    have hbig := hide (okB_big' hokK)
    clear B0 B1 hdo hokK
    obtain ⟨p0, p1, pl⟩ := box2 G0.out
    obtain ⟨p2, p3⟩ := box2f G0.out
    obtain ⟨q0, q1, ql⟩ := box2 G1.out
    obtain ⟨q2, q3⟩ := box2f G1.out
    by_cases hlt : k < xs.length
    · have hi : (k : Int) < (xs.length : Int) := by omega
      by_cases hc : cut = true ∧ after ≤ (k : Int)
      · obtain ⟨rfl, hca⟩ := hc
        have hke' : k = doEnd true after xs.length := by simp only [doEnd, if_true] at hke ⊢; omega
        have HR2 := HR.out
        rw [if_pos rfl, ← hke', HDO.out] at HR2
        have HR3 := hide HR2
        have hca' : (k : Int) ≥ after := hca
        clear HR2
        go_wp2_with fail
        refine (specSecCut_any _ K X ko kc ks _ hd.reads (RowR.keep HKS.out hbel) hbig.out.1 hbig.out.2).mono ?_
        rintro e w4 ⟨v4, rfl, d4, b4⟩
        obtain ⟨R, hR⟩ : ∃ R, cutK K X ks = R := ⟨_, rfl⟩
        rw [hR] at d4
        have HRR := hide hR
        clear hR
        obtain ⟨lo, lc, lo', lc', rfl⟩ := d4.shapeO
        have g1 := bKeeps b4 G1.out
        clear p0 p1 pl p2 p3 q0 q1 ql q2 q3
        obtain ⟨q0, q1, ql⟩ := box2 g1
        obtain ⟨q2, q3⟩ := box2f g1
        have hu := upd_set2 w4 (w.heap.size + 1) 0 1 (.slice lo R.length lc) (.slice lo' 0 lc')
        have d5 := d4.keepVar g1 hu
        have z4 := b4.size
        have zz := hbel.size
        clear g1
        go_wp2
        refine bodyPost_ret (v := .agg #[.slice lo R.length lc, .slice lo' 0 lc']) (by simp [results, Tryd.results96, go_sem, q0, q1]) rfl ⟨_, rfl, ?_, ?_⟩
        · rw [HR3.out, HRR.out]
          exact d5.mono (fun j _ h => by omega)
        · exact (hbel.trans (b4.mono (by omega))).trans (hu.below (by omega) (fun j h => by omega))
      · have hke2 : k + 1 ≤ doEnd cut after xs.length := by
          unfold doEnd at hke ⊢
          split
          · rename_i hcut
            have : ¬ after ≤ (k : Int) := fun h => hc ⟨hcut, h⟩
            omega
          · omega
        have hgo : cut = false ∨ (cut = true ∧ ¬ (k : Int) ≥ after) := by
          cases cut
          · exact .inl rfl
          · exact .inr ⟨rfl, fun h => hc ⟨rfl, h⟩⟩
        obtain ⟨_, _, ev, _, _, hrx⟩ := HXS.out
        simp only [Value.slice.injEq, true_and] at ev
        obtain ⟨rfl, rfl⟩ := ev
        obtain ⟨b1, o1, rfl, hc1⟩ := hrx (by omega)
        obtain ⟨⟨f, a, s⟩, hx⟩ := getAt xs k hlt
        have hss : s.size ≤ 9223372036854775807 := HXZ.out (f, a, s) (List.mem_of_getElem? hx)
        obtain ⟨f0, f1, f2, l1⟩ := step_cells hc1 hx hbel
        have hst := doL_take (kept, wait) xs k _ hx
        rw [HDO.out] at hst
        have HST := hide hst
        have HOK2 := hide (stepL_ok (s := (K, X)) (f, a, s) HOKK.out).1
        have zz := hbel.size
        clear hc1 hrx hx hst hc
        cases f
        · have hs1 : stepL (K, X) (false, a, s) = (putK K X, putW K X a s) := by simp [stepL]
          rw [hs1] at HST HOK2
          have Hp := hide (specSecPut_any _ K X a s wr.drew (hd.reads.keep ((Below.refl _ _).drew)) hbig.out.1 hbig.out.2 hss)
          obtain ⟨K2, hK2⟩ : ∃ K2, putK K X = K2 := ⟨_, rfl⟩
          obtain ⟨X2, hX2⟩ : ∃ X2, putW K X a s = X2 := ⟨_, rfl⟩
          rw [hK2, hX2] at Hp HST HOK2
          clear hK2 hX2 hs1
          rcases hgo with rfl | ⟨rfl, hna⟩
          all_goals
            go_wp2
            go_region_with (go_at_call 99; refine (unhide Hp).mono ?_; rintro e w4 ⟨v4, rfl, d4, b4⟩; have b4' : Below wr.heap.size wr w4 := bUndrew b4; obtain ⟨lo, lc, lo', lc', rfl⟩ := d4.shapeO; obtain ⟨t0, t1, tl⟩ := box2 (bKeeps b4' G0.out); obtain ⟨t2, t3⟩ := box2f (bKeeps b4' G0.out))
            all_goals
              have z4 := b4'.size
              have hu := upd_set2 w4 w.heap.size 0 1 (.slice lo K2.length lc) (.slice lo' X2.length lc')
              have d5 := d4.keepVar (bKeeps b4' G0.out) hu
              go_wp2
              go_roundw
              case rel => exact ⟨k + 1, K2, X2, lo, lo', lc, lc', by omega, hke2, by go_num, HOK2.out, HST.out, var_set (bKeeps b4' G0.out), hu.keeps (bKeeps b4' G1.out) (by omega), d5.mono (fun j _ h => Nat.le_trans zz h), (hbel.trans (b4'.mono zz)).trans (hu.below (by omega) (fun j h => by omega))⟩
              case measure => simp [intOf]; omega
        · have hs1 : stepL (K, X) (true, a, s) = (flushK K X, []) := by simp [stepL]
          rw [hs1] at HST HOK2
          have Hp := hide (specSecFlush_any _ K X wr hd.reads hbig.out.1 hbig.out.2)
          obtain ⟨K2, hK2⟩ : ∃ K2, flushK K X = K2 := ⟨_, rfl⟩
          rw [hK2] at Hp HST HOK2
          clear hK2 hs1
          rcases hgo with rfl | ⟨rfl, hna⟩
          all_goals
            go_wp2_with fail
            refine (unhide Hp).mono ?_
            rintro e w4 ⟨v4, rfl, d4, b4⟩
            obtain ⟨lo, lc, lo', lc', rfl⟩ := d4.shapeO
            obtain ⟨t0, t1, tl⟩ := box2 (bKeeps b4 G0.out)
            obtain ⟨t2, t3⟩ := box2f (bKeeps b4 G0.out)
            have z4 := b4.size
            have hu := upd_set2 w4 w.heap.size 0 1 (.slice lo K2.length lc) (.slice lo' 0 lc')
            have d5 := d4.keepVar (bKeeps b4 G0.out) hu
            go_wp2
            go_roundw
            case rel => exact ⟨k + 1, K2, [], lo, lo', lc, lc', by omega, hke2, by go_num, HOK2.out, HST.out, var_set (bKeeps b4 G0.out), hu.keeps (bKeeps b4 G1.out) (by omega), d5.mono (fun j _ h => Nat.le_trans zz h), (hbel.trans (b4.mono zz)).trans (hu.below (by omega) (fun j h => by omega))⟩
            case measure => simp [intOf]; omega
    · obtain rfl : k = xs.length := by omega
      have hke' : doEnd cut after xs.length = xs.length := by have := doEnd_le cut after xs.length; omega
      have HR2 := HR.out
      rw [hke', HDO.out] at HR2
      have HR3 := hide HR2
      have zz := hbel.size
      clear HR2 HR HDO hke' hke
      cases cut
      · have hu := upd_set2 wr (w.heap.size + 1) 0 1 (.slice go K.length gc) (.slice gw X.length gd)
        have d5 := hd.keepVar G1.out hu
        go_wp2
        refine bodyPost_ret (v := .agg #[.slice go K.length gc, .slice gw X.length gd]) (by simp [results, Tryd.results96, go_sem, q0, q1]) rfl ⟨_, rfl, ?_, ?_⟩
        · rw [HR3.out, if_neg (by simp)]
          exact d5
        · exact hbel.trans (hu.below (by omega) (fun j h => by omega))
      · go_wp2_with fail
        refine (specSecCut_any _ K X ko kc ks _ hd.reads (RowR.keep HKS.out hbel) hbig.out.1 hbig.out.2).mono ?_
        rintro e w4 ⟨v4, rfl, d4, b4⟩
        obtain ⟨R, hR⟩ : ∃ R, cutK K X ks = R := ⟨_, rfl⟩
        rw [hR] at d4
        have HRR := hide hR
        clear hR
        obtain ⟨lo, lc, lo', lc', rfl⟩ := d4.shapeO
        have g1 := bKeeps b4 G1.out
        clear p0 p1 pl p2 p3 q0 q1 ql q2 q3
        obtain ⟨q0, q1, ql⟩ := box2 g1
        obtain ⟨q2, q3⟩ := box2f g1
        have hu := upd_set2 w4 (w.heap.size + 1) 0 1 (.slice lo R.length lc) (.slice lo' 0 lc')
        have d5 := d4.keepVar g1 hu
        have z4 := b4.size
        clear g1
        go_wp2
        refine bodyPost_ret (v := .agg #[.slice lo R.length lc, .slice lo' 0 lc']) (by simp [results, Tryd.results96, go_sem, q0, q1]) rfl ⟨_, rfl, ?_, ?_⟩
        · rw [HR3.out, if_pos (by trivial), HRR.out]
          exact d5.mono (fun j _ h => Nat.le_trans zz h)
        · exact (hbel.trans (b4.mono zz)).trans (hu.below (by omega) (fun j h => by omega))

end Go.Proofs.YtapflnabiobonaaDoor
