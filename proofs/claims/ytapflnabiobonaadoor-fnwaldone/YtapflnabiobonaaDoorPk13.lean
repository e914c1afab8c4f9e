/- Contracts and plain facts that the claims of this seat lean on (texts WalNew, Draw6, IPut, Do, IWalDo); no statement of the seat is proved here. -/
import Derived.Test.YtapflnabiobonaaDoorPk1
import Derived.Deep.RegionHeld3
import Derived.Test.YtapflnabiobonaaDoorPk10
import Derived.Test.YtapflnabiobonaaDoorPk6
import Derived.Test.YtapflnabiobonaaDoorPk7
import Derived.Test.YtapflnabiobonaaDoorPk9
import Derived.Test.YtapflnabiobonaaDoorPk5
import Derived.Test.YtapflnabiobonaaDoorPk12

/- What WalNew does, in the specification and in the program, and what the law FnExactWalNew does; the statement itself is proved elsewhere. -/
namespace Go.Proofs.YtapflnabiobonaaDoor
open Go.RowKit

theorem upd_box2 (w : World) (B : Nat) (x y : Value) : Upd (fun k => k = B) w ((w.setCell ⟨B, 0, none⟩ x).setCell ⟨B, 1, none⟩ y) :=
  (Upd.setCell (S := fun k => k = B) w B 0 x rfl).trans (Upd.setCell (S := fun k => k = B) _ B 1 y rfl)

set_option maxHeartbeats 400000 in
theorem specWalNew_any (w : World) :
    Calls Tryd.prog 95 #[] w fun e w' => ∃ v, e = .returned v ∧ DiskO w' (fun k => w.heap.size ≤ k) v (newKept 501) [] ∧ Below w.heap.size w w' := by
  have al0 : Below w.heap.size w (w.alloc (.cells #[.slice none 0 0, .slice none 0 0] 31)) := (Below.refl _ _).alloc (Nat.le_refl _) _
  have H0 := hide (al1_0 w (.cells #[.slice none 0 0, .slice none 0 0] 31))
  go_enter Tryd.func95, Tryd.ntmps95
  go_wp2_with fail
  refine (specSecNew_any 501 _).mono ?_
  rintro e w1 ⟨v, rfl, d1, b1⟩
  obtain ⟨ao, ca, ao', ca', rfl⟩ := d1.shape
  have k0 := bKeeps b1 H0.out
  obtain ⟨q0, q1, ql⟩ := box2 k0
  obtain ⟨q2, q3⟩ := box2f k0
  have z1 := b1.size
  simp only [World.size_alloc] at z1 d1
  clear k0
  obtain ⟨K, hK⟩ : ∃ K, newKept 501 = K := ⟨_, rfl⟩
  rw [hK] at d1 ⊢
  have HK := hide hK
  clear hK
  go_wp2
  have hu := upd_box2 w1 w.heap.size (.slice ao K.length ca) (.slice ao' 0 ca')
  refine bodyPost_ret (v := .agg #[.slice ao K.length ca, .slice ao' 0 ca']) (by simp [results, Tryd.results95, go_sem, q0, q1]) rfl ⟨_, rfl, ?_, ?_⟩
  · rw [HK.out]
    exact (d1.keep hu (fun k hk h => by omega)).mono (fun k _ h => Nat.le_trans (Nat.le_succ _) h)
  · exact (bAll al0 b1).trans (hu.below (by omega) (fun k h => Nat.le_of_eq h.symm))

end Go.Proofs.YtapflnabiobonaaDoor

/- What the laws on SecPut are drawn from: a contract; no statement of the seat is proved here. -/
namespace Go.Proofs.YtapflnabiobonaaDoor
open Go.RowKit

theorem wrapLen (q : Nat) (h : q ≤ 512 + 1) : IntKind.i64.wrap ((q : Int) + 2) = ((q + 2 : Nat) : Int) := by
  simp [IntKind.wrap, IntKind.bits, IntKind.signed]
  omega

theorem heldUpd {W w' : World} {B R Q : Nat} {x y : Value} (t0 : W.cell? ⟨B, 0, none⟩ = some x) (t1 : W.cell? ⟨B, 1, none⟩ = some y) (tl : B < W.heap.size) (hne : ¬ B = R) (hnq : ¬ B = Q) (hu : Upd (fun j => j = R ∨ j = Q) W w') :
    w'.cell? ⟨B, 0, none⟩ = some x ∧ w'.cell? ⟨B, 1, none⟩ = some y :=
  ⟨(World.cell?_of_block (a := ⟨B, 0, none⟩) (hu.block B tl (by omega))).trans t0, (World.cell?_of_block (a := ⟨B, 1, none⟩) (hu.block B tl (by omega))).trans t1⟩
theorem updL {R Q : Nat} {W w' : World} (h : Upd (fun j => j = R) W w') : Upd (fun j => j = R ∨ j = Q) W w' := h.mono (fun _ h => .inl h)

end Go.Proofs.YtapflnabiobonaaDoor

/- What SecPut of the program does: a contract; no statement of the seat is proved here. -/
namespace Go.Proofs.YtapflnabiobonaaDoor
open Go.RowKit

theorem put_all {kept : List ByteArray} {wait : List (Int × ByteArray)} (a : Int) (s : ByteArray) (h : okB kept wait = true) : putB kept wait a s = putO kept wait a s ∧ putK kept wait = kept ∧ putW kept wait a s = putX kept wait a s := by
  have h1 : putB kept wait a s = putO kept wait a s := by simp [putB, putO, h]
  exact ⟨h1, by simp [putK, h], by simp [putW, putX, h, h1]⟩

end Go.Proofs.YtapflnabiobonaaDoor

/- What do of the program does with steps: a contract; no statement of the seat is proved here. -/
namespace Go.Proofs.YtapflnabiobonaaDoor
open Go.RowKit Go.Shelf

/-- A slice of steps that came in, ahead of all that may turn. -/
structure StepsIn (w : World) (base : Nat) (so : Option Addr) (sc : Nat) (xs : List Stp) : Prop where
  reads : RowR w 3 (.slice so xs.length sc) xs.length (scells xs)
  old : ∀ b off, 0 < xs.length → so = some ⟨b, off, none⟩ → b < base
  size : ∀ x ∈ xs, x.2.2.size ≤ 9223372036854775807

set_option maxRecDepth 100000 in
set_option maxHeartbeats 4000000 in
theorem do_any (kept : List ByteArray) (wait : List (Int × ByteArray)) (xs : List Stp) (base B : Nat) (no mo so : Option Addr) (cn cm sc : Nat) (w : World)
    (hbox : w.heap[B]? = some (.cells #[.slice no kept.length cn, .slice mo wait.length cm] 94 (0, 0)))
    (hrow : Row w 9 1 (fun k => base ≤ k) (.slice no kept.length cn) kept.length (kept.map Value.string))
    (hwait : RowA w base 63 2 (.slice mo wait.length cm) wait.length (wcells wait)) (hbase : base ≤ w.heap.size) (hB : base ≤ B) (hxs : StepsIn w base so sc xs) (hok : okB kept wait = true) :
    Calls Tryd.prog 59 #[.pointer (some ⟨B, 0, none⟩), .slice so xs.length sc] w fun e w' => e = .returned (.tuple #[]) ∧
      ∃ mo' cm', w'.heap[B]? = some (.cells #[.slice no kept.length cn, .slice mo' (doL (kept, wait) xs).2.length cm'] 94 (0, 0)) ∧
        Row w' 9 1 (fun k => base ≤ k) (.slice no kept.length cn) kept.length ((doL (kept, wait) xs).1.map Value.string) ∧
        RowA w' base 63 2 (.slice mo' (doL (kept, wait) xs).2.length cm') (doL (kept, wait) xs).2.length (wcells (doL (kept, wait) xs).2) ∧ Upd (fun k => base ≤ k) w w' := by
  obtain ⟨⟨_, _, ev, hn, hl, hr⟩, hold, hsz⟩ := hxs
  simp only [Value.slice.injEq, true_and] at ev
  obtain ⟨rfl, rfl⟩ := ev
  rw [scells_len] at hl
  have Hr := hide hr
  have Hold := hide hold
  have Hsz := hide hsz
  have HD : Hid (∀ k, doL (kept, wait) (xs.take k) = doL (kept, wait) (xs.take k)) := fun _ => rfl
  have HOK := hide hok
  have hkl : kept.length ≤ 512 := (okB_parts hok).1
  obtain ⟨n, hkn⟩ : ∃ n, kept.length = n := ⟨_, rfl⟩
  have HKN := hide hkn
  rw [hkn] at hbox hrow ⊢
  clear hr hold hsz hl HD hkn
  go_enter Tryd.func59, Tryd.ntmps59
  go_wp2
  go_loopw [8] (fun iv wr => ∃ (k : Nat) (K : List ByteArray) (X : List (Int × ByteArray)) (mo' : Option Addr) (cm' : Nat), k ≤ xs.length ∧ iv = .int .i64 k ∧ K.length = n ∧ okB K X = true ∧ doL (kept, wait) (xs.take k) = (K, X) ∧
      wr.heap[B]? = some (.cells #[.slice no n cn, .slice mo' X.length cm'] 94 (0, 0)) ∧ Row wr 9 1 (fun k => base ≤ k) (.slice no n cn) n (K.map Value.string) ∧
      RowA wr base 63 2 (.slice mo' X.length cm') X.length (wcells X) ∧ Upd (fun k => base ≤ k) w wr) (fun iv _ => xs.length - (intOf iv).toNat)
  case atStart => exact ⟨0, kept, wait, mo, cm, Nat.zero_le _, rfl, HKN.out, HOK.out, rfl, hbox, hrow, hwait, Upd.refl _ _⟩
  case round =>
    clear hbox hrow hwait
    obtain ⟨k, K, X, mo', cm', hk, rfl, hKn, hokK, hdo, hbx, hrw, hwt, hup⟩ := hrel
    have hKl : K.length ≤ 512 := (okB_parts hokK).1
    have hXl : X.length ≤ 600 := (okB_parts hokK).2.1
    by_cases hlt : k < xs.length
    · obtain ⟨b1, o1, rfl, hc1⟩ := Hr.out (by omega)
      have hb1 := Hold.out b1 o1 (by omega) rfl
      obtain ⟨⟨f, a, s⟩, hx⟩ := getAt xs k hlt
      have hss : s.size ≤ 9223372036854775807 := Hsz.out (f, a, s) (List.mem_of_getElem? hx)
      obtain ⟨e0, e1, e2⟩ := scells_at xs k (f, a, s) hx
      have cellAt : ∀ j u, (scells xs)[j]? = some u → wr.cell? ⟨b1, o1 + j, none⟩ = some u := fun j u hj => (World.cell?_of_block (a := ⟨b1, o1 + j, none⟩) (hup.block b1 (World.block_lt_of_cell? w _ (hc1 j u hj)) (by omega))).trans (hc1 j u hj)
      obtain ⟨f0, f1, f2, l1⟩ := step_cells cellAt hx (Below.refl _ wr)
      have hst := doL_take (kept, wait) xs k _ hx
      rw [hdo] at hst
      have HST := hide hst
      have hi : (k : Int) < (xs.length : Int) := by omega
      have HUP := hide hup
      obtain ⟨W, hW⟩ : ∃ W, W = wr.alloc (.cells #[.bool f, .int .i64 a, .string s] 50) := ⟨_, rfl⟩
      have alW : Below wr.heap.size wr W := by rw [hW]; exact (Below.refl _ _).alloc (Nat.le_refl _) _
      have bxW := hide (bKeeps alW hbx)
      have rwW := hide (hrw.keepB alW)
      have wtW := hide (hwt.keepB alW)
      have zW := alW.size
      have zr := hup.size
      have HOKK := hide hokK
      have HKn := hide hKn
      clear cellAt hc1 hx e0 e1 e2 hst hdo hup hbx hrw hwt hokK
      subst hKn
      cases f
      · go_wp2_with fail
        rw [← hW]
        clear hW f0 f1 f2
        refine (putA_any K X a s base B no mo' cn cm' W bxW.out wtW.out (by omega) hKl hXl hss).mono ?_
        rintro e w2 ⟨rfl, mo2, cm2, bx2, wt2, u2⟩
        obtain ⟨x1, x2, x3⟩ := put_all a s HOKK.out
        have hs1 : stepL (K, X) (false, a, s) = (K, putX K X a s) := by simp only [stepL, x2, x3]; simp
        have hok2 := (stepL_ok (s := (K, X)) (false, a, s) HOKK.out).1
        rw [hs1] at hok2
        have hdo2 := HST.out
        rw [hs1] at hdo2
        go_wp2
        go_roundw
        case rel =>
          refine ⟨k + 1, K, putX K X a s, mo2, cm2, by omega, by go_num, rfl, hok2, hdo2, bx2, ?_, wt2, (HUP.out.trans (Upd.ofBelow alW)).trans (u2.mono (fun j h => by rcases h with rfl | h; exact hB; exact h.1))⟩
          refine (rwW.out.typed.keep u2 ?_).mono (fun _ _ h => h.1)
          rintro j ht (rfl | h)
          · exact typed_box bxW.out (by decide) rfl ht
          · exact typed_apart (by decide) j ht h
        case measure => simp [intOf]; omega
      · go_wp2_with fail
        rw [← hW]
        clear hW f0 f1 f2
        refine (callsIn_wide.1 (flush_in K X _ _ B no mo' cn cm' W bxW.out rwW.out.typed (wtW.out.row (by omega)).typed (fun j => typed_apart (by decide) j) (typed_box bxW.out (by decide) rfl) (fun j h => by obtain ⟨_, c, hc⟩ := h; exact heap_lt hc) HOKK.out)).mono ?_
        rintro e w2 ⟨rfl, bx2, r2, u2⟩
        have hfk : flushK K X = flushL K X := by simp [flushK, HOKK.out]
        have hs1 : stepL (K, X) (true, a, s) = (flushL K X, []) := by simp only [stepL, hfk]; simp
        have hok2 := (stepL_ok (s := (K, X)) (true, a, s) HOKK.out).1
        rw [hs1] at hok2
        have hdo2 := HST.out
        rw [hs1] at hdo2
        go_wp2
        go_roundw
        case rel => exact ⟨k + 1, flushL K X, [], none, 0, by omega, by go_num, flushL_len _ _, hok2, hdo2, bx2, r2.mono (fun _ _ h => h.1), .inl (World.ownsRow_nil _ _ _ _), (HUP.out.trans (Upd.ofBelow alW)).trans (u2.mono (fun j h => by rcases h with h | rfl; exact h.1; exact hB))⟩
        case measure => simp [intOf]; omega
    · obtain rfl : k = xs.length := by omega
      rw [List.take_length] at hdo
      have HDO := hide hdo
      clear hdo
      go_wp2
      go_end0
      rw [HDO.out]
      exact ⟨rfl, mo', cm', hbx, hrw, hwt, hup⟩

end Go.Proofs.YtapflnabiobonaaDoor

/- What WalDo of the program does: a contract; no statement of the seat is proved here. -/
namespace Go.Proofs.YtapflnabiobonaaDoor
open Go.RowKit Go.Shelf

theorem RowR.prefix {w : World} {so : Option Addr} {sc n : Nat} {xs : List Stp} (h : RowR w 3 (.slice so xs.length sc) xs.length (scells xs)) (hn : n ≤ xs.length) : RowR w 3 (.slice so (xs.take n).length sc) (xs.take n).length (scells (xs.take n)) := by
  obtain ⟨_, _, ev, h1, h2, h3⟩ := h
  simp only [Value.slice.injEq, true_and] at ev
  obtain ⟨rfl, rfl⟩ := ev
  have hl : (xs.take n).length = n := by simp; omega
  refine ⟨so, sc, rfl, by omega, scells_len _, fun h0 => ?_⟩
  obtain ⟨b, off, rfl, hc⟩ := h3 (by omega)
  refine ⟨b, off, rfl, fun j u hj => hc j u ?_⟩
  have hj' := (List.getElem?_eq_some_iff.1 hj).1
  rw [scells_len, hl] at hj'
  obtain ⟨x, hx⟩ := getAt (xs.take n) (j / 3) (by omega)
  have h4 := scells_at _ _ _ hx
  rw [List.getElem?_take_of_lt (by omega)] at hx
  have h5 := scells_at _ _ _ hx
  rcases (by omega : j = 3 * (j / 3) ∨ j = 3 * (j / 3) + 1 ∨ j = 3 * (j / 3) + 2) with e | e | e
  · rw [← e] at h4 h5; rw [h5.1, ← h4.1]; exact hj
  · rw [← e] at h4 h5; rw [h5.2.1, ← h4.2.1]; exact hj
  · rw [← e] at h4 h5; rw [h5.2.2, ← h4.2.2]; exact hj

theorem do_at (kept : List ByteArray) (wait : List (Int × ByteArray)) (xs : List Stp) (base B m : Nat) (no mo so : Option Addr) (cn cm sc : Nat) (w : World) (hm : m = xs.length)
    (hbox : w.heap[B]? = some (.cells #[.slice no kept.length cn, .slice mo wait.length cm] 94 (0, 0)))
    (hrow : Row w 9 1 (fun k => base ≤ k) (.slice no kept.length cn) kept.length (kept.map Value.string))
    (hwait : RowA w base 63 2 (.slice mo wait.length cm) wait.length (wcells wait)) (hbase : base ≤ w.heap.size) (hB : base ≤ B) (hxs : StepsIn w base so sc xs) (hok : okB kept wait = true) :
    Calls Tryd.prog 59 #[.pointer (some ⟨B, 0, none⟩), .slice so m sc] w fun e w' => e = .returned (.tuple #[]) ∧
      ∃ mo' cm', w'.heap[B]? = some (.cells #[.slice no kept.length cn, .slice mo' (doL (kept, wait) xs).2.length cm'] 94 (0, 0)) ∧
        Row w' 9 1 (fun k => base ≤ k) (.slice no kept.length cn) kept.length ((doL (kept, wait) xs).1.map Value.string) ∧
        RowA w' base 63 2 (.slice mo' (doL (kept, wait) xs).2.length cm') (doL (kept, wait) xs).2.length (wcells (doL (kept, wait) xs).2) ∧ Upd (fun k => base ≤ k) w w' := by
  subst hm
  exact do_any kept wait xs base B no mo so cn cm sc w hbox hrow hwait hbase hB hxs hok

set_option maxRecDepth 100000 in
set_option maxHeartbeats 4000000 in
theorem implWalDo_any (v : Value) (kept : List ByteArray) (wait : List (Int × ByteArray)) (so ko : Option Addr) (sc kc : Nat) (xs : List Stp) (cut : Bool) (after : Int) (ks : List Int) (w : World) (hr : DiskR w v kept wait)
    (hxs : RowR w 3 (.slice so xs.length sc) xs.length (scells xs)) (hsc : xs.length ≤ sc) (hxz : ∀ x ∈ xs, x.2.2.size ≤ 9223372036854775807) (hks : RowR w 1 (.slice ko ks.length kc) ks.length (ks.map (Value.int .i64))) (hs : ∀ s ∈ kept, s.size ≤ 9223372036854775807) (hs' : ∀ s ∈ wait, s.2.size ≤ 9223372036854775807) :
    Calls Tryd.prog 28 #[v, .slice so xs.length sc, .bool cut, .int .i64 after, .slice ko ks.length kc] w fun e w' => ∃ v', e = .returned v' ∧ DiskO w' (fun k => w.heap.size ≤ k) v' (doR kept wait xs cut after ks).1 (doR kept wait xs cut after ks).2 ∧ Below w.heap.size w w' := by
  have Hr := hide hr
  obtain ⟨ak, aw, rfl, ⟨ao, ca, rfl, -⟩, ⟨bo, cb, rfl, -⟩⟩ := hr
  have hal : Below w.heap.size w ((w.alloc (.cells #[.slice ao kept.length ca, .slice bo wait.length cb] 31)).alloc (.cells #[.slice none 0 0, .slice none 0 0] 31)) := ((Below.refl _ _).alloc (Nat.le_refl _) _).alloc (by simp) _
  have H0 := hide (al2_0 w (.cells #[.slice ao kept.length ca, .slice bo wait.length cb] 31) (.cells #[.slice none 0 0, .slice none 0 0] 31))
  have H1 := hide (al2_1 w (.cells #[.slice ao kept.length ca, .slice bo wait.length cb] 31) (.cells #[.slice none 0 0, .slice none 0 0] 31))
  have HKS := hide hks
  have HXS := hide hxs
  have HXZ := hide hxz
  have hxl : xs.length ≤ 9223372036854775807 := by obtain ⟨_, _, _, h, _⟩ := hxs; exact h
  have Hs := hide hs
  have Hs' := hide hs'
  clear hs hs' hks hxs hxz
  go_enter Tryd.func28, Tryd.ntmps28
  go_wp2_with fail
  refine (implSecOk_any kept wait _ _ (Hr.out.keep hal) Hs.out Hs'.out).mono ?_
  rintro e w1 ⟨rfl, b1⟩
  have z1 : w.heap.size + 1 + 1 ≤ w1.heap.size := by have := b1.size; simpa only [World.size_alloc] using this
  have c1 := bAll hal b1
  replace H0 := hide (bKeeps b1 H0.out)
  replace H1 := hide (bKeeps b1 H1.out)
  obtain ⟨p0, p1, pl⟩ := box2 H0.out
  obtain ⟨q0, q1, ql⟩ := box2 H1.out
  obtain ⟨q2, q3⟩ := box2f H1.out
  cases hok : okB kept wait
  · have Hx : Hid (doR kept wait xs cut after ks = ([], [])) := by show _ = _; simp [doR, hok]
    go_wp2
    have hu := upd_set2 w1 (w.heap.size + 1) 0 1 (.slice none 0 0) (.slice none 0 0)
    refine bodyPost_ret (v := .agg #[.slice none 0 0, .slice none 0 0]) (by simp [results, Tryd.results28, go_sem, q0, q1]) rfl ⟨_, rfl, ?_, c1.trans (hu.below (by omega) (by intro k hk; omega))⟩
    rw [Hx.out]
    exact ⟨_, _, rfl, Row.nil _ _ _ _, Row.nil _ _ _ _⟩
  by_cases hlen : (xs.length : Int) > 600
  · have Hx : Hid (doR kept wait xs cut after ks = ([], [])) := by show _ = _; simp [doR, show ¬ xs.length ≤ 600 by omega]
    go_wp2
    have hu := upd_set2 w1 (w.heap.size + 1) 0 1 (.slice none 0 0) (.slice none 0 0)
    refine bodyPost_ret (v := .agg #[.slice none 0 0, .slice none 0 0]) (by simp [results, Tryd.results28, go_sem, q0, q1]) rfl ⟨_, rfl, ?_, c1.trans (hu.below (by omega) (by intro k hk; omega))⟩
    rw [Hx.out]
    exact ⟨_, _, rfl, Row.nil _ _ _ _, Row.nil _ _ _ _⟩
  have hl6 : xs.length ≤ 600 := by omega
  have HR : Hid (doR kept wait xs cut after ks = if cut = true then (cutK (doL (kept, wait) (xs.take (doEnd cut after xs.length))).1 (doL (kept, wait) (xs.take (doEnd cut after xs.length))).2 ks, []) else doL (kept, wait) (xs.take (doEnd cut after xs.length))) := by
    show _ = _
    simp [doR, hok, hl6]
  have HOK := hide hok
  obtain ⟨hp1, hp2, -, -⟩ := okB_parts hok
  clear hok q0 q1 ql q2 q3
  go_wp2_with fail
  refine (secOwnA_any kept wait _ _ (Hr.out.keep c1) (by omega) (by omega)).mono ?_
  rintro e w2 ⟨v2, rfl, ⟨vk, vw, rfl, r2, s2⟩, b2⟩
  obtain ⟨no, cn, rfl⟩ := r2.shape
  obtain ⟨mo, cm, rfl⟩ := s2.shape
  have z2 := b2.size
  have al3 := alB' w2 (.cells #[.slice no kept.length cn, .slice mo wait.length cm] 94)
  have hb3 := hide (al1_0 w2 (.cells #[.slice no kept.length cn, .slice mo wait.length cm] 94))
  have r3 := hide (r2.keepB al3)
  have s3 := hide (s2.keepB al3)
  have c3 := bAll (bAll c1 b2) al3
  replace H1 := hide (bKeeps al3 (bKeeps b2 H1.out))
  have hSI : ∀ n, n ≤ xs.length → StepsIn (w2.alloc (.cells #[.slice no kept.length cn, .slice mo wait.length cm] 94)) w1.heap.size so sc (xs.take n) := fun n hn => ⟨RowR.keep (RowR.prefix HXS.out hn) c3, fun b off h0 e => by
      obtain ⟨_, _, ev, _, _, h3⟩ := RowR.prefix HXS.out hn
      simp only [Value.slice.injEq, true_and] at ev
      obtain ⟨rfl, rfl⟩ := ev
      obtain ⟨b', off', e', hc⟩ := h3 h0
      rw [e] at e'
      simp only [Option.some.injEq, Addr.mk.injEq, and_true] at e'
      obtain ⟨rfl, rfl⟩ := e'
      obtain ⟨x, hx⟩ := getAt (xs.take n) 0 h0
      have := World.block_lt_of_cell? w _ (hc _ _ (scells_at _ _ _ hx).1)
      have := c1.size
      simp only at *
      omega, fun x hx => HXZ.out x (List.mem_of_mem_take hx)⟩
  have HSI := hide hSI
  clear p0 p1 pl hSI r2 s2
  cases cut
  · have hke : doEnd false after xs.length = xs.length := by simp [doEnd]
    have HR2 := HR.out
    rw [hke, List.take_length, if_neg (by simp)] at HR2
    have HR3 := hide HR2
    have hSI := HSI.out xs.length (Nat.le_refl _)
    rw [List.take_length] at hSI
    clear HR2 hke HR
    go_wp2_with fail
    refine (do_any kept wait xs w1.heap.size w2.heap.size no mo so cn cm sc _ hb3.out r3.out s3.out (by simp; omega) z2 hSI HOK.out).mono ?_
    rintro e w4 ⟨rfl, mo', cm', bx4, r4, s4, u4⟩
    have hdl := (doL_ok (s := (kept, wait)) xs HOK.out).2
    obtain ⟨K, X, hKX⟩ : ∃ K X, doL (kept, wait) xs = (K, X) := ⟨_, _, rfl⟩
    rw [hKX] at bx4 r4 s4 hdl
    have HKX := hide hKX
    clear hKX
    simp only at bx4 r4 s4 hdl
    have g1 := u4.keeps H1.out (by omega)
    have z4 := u4.size
    simp only [World.size_alloc] at z4
    have G1 := hide g1
    have BX4 := hide bx4
    clear g1 bx4
    obtain ⟨p0, p1, pl⟩ := box2 BX4.out
    go_wp2_with fail
    refine (disk_any no mo' _ cn _ cm' _).mono ?_
    rintro e w5 ⟨rfl, b5⟩
    have g1 := bKeeps b5 G1.out
    clear p0 p1 pl
    obtain ⟨q0, q1, ql⟩ := box2 g1
    obtain ⟨q2, q3⟩ := box2f g1
    have z5 := b5.size
    have G15 := hide g1
    clear g1
    have hu := upd_set2 w5 (w.heap.size + 1) 0 1 (.slice no kept.length cn) (.slice mo' X.length cm')
    go_wp2
    refine bodyPost_ret (v := .agg #[.slice no kept.length cn, .slice mo' X.length cm']) (by simp [results, Tryd.results28, go_sem, q0, q1]) rfl ⟨_, rfl, ?_, ?_⟩
    · rw [HR3.out, HKX.out]
      refine ⟨_, _, rfl, ?_, ?_⟩
      · rw [hdl]
        exact ((r4.keepB b5).keep hu (fun k hk h => by omega)).mono (fun k _ h => by omega)
      · exact (((s4.keepB b5).keep hu (fun k hk h => by omega)).row (by have := (okB_parts (doL_ok (s := (kept, wait)) xs HOK.out).1).2.1; rw [HKX.out] at this; simp only at this; omega)).mono (fun k _ h => by omega)
    · exact ((c3.trans (u4.below (by have := c3.size; omega) (fun k h => by omega))).trans (b5.mono (by omega))).trans (hu.below (by omega) (fun k h => by omega))
  · obtain ⟨M, hM⟩ : ∃ M, M = doEnd true after xs.length := ⟨_, rfl⟩
    have hMl : M ≤ xs.length := by rw [hM]; exact doEnd_le _ _ _
    have HR2 := HR.out
    rw [if_pos rfl, ← hM] at HR2
    have hMe : M = (min after (xs.length : Int)).toNat := by rw [hM]; simp [doEnd]
    obtain ⟨ys, hys⟩ : ∃ ys, xs.take M = ys := ⟨_, rfl⟩
    have hyl : ys.length = M := by rw [← hys]; simp; omega
    have hSI := HSI.out M hMl
    rw [hys] at HR2 hSI
    have hdl := (doL_ok (s := (kept, wait)) ys HOK.out).2
    have hdo := hide (doL_ok (s := (kept, wait)) ys HOK.out).1
    have Hdo := fun m hm => do_at kept wait ys w1.heap.size w2.heap.size m no mo so cn cm sc _ hm hb3.out r3.out s3.out (by simp; omega) z2 hSI HOK.out
    obtain ⟨K, X, hKX⟩ : ∃ K X, doL (kept, wait) ys = (K, X) := ⟨_, _, rfl⟩
    rw [hKX] at HR2 hdl hdo Hdo
    have HR3 := hide HR2
    replace Hdo := hide Hdo
    have HDL := hide hdl
    have hMe2 : (ys.length : Int) = (min after (xs.length : Int)).toNat := by omega
    clear HR2 hys hM hdl hKX HSI hSI HR hMe hyl
    go_wp2_with fail
    all_goals
      refine (unhide Hdo _ (by omega)).mono ?_
      rintro e w4 ⟨rfl, mo', cm', bx4, r4, s4, u4⟩
      have c4 := c3.trans (u4.below (by have := c3.size; omega) (fun k h => by omega))
      have G1 := hide (u4.keeps H1.out (by omega))
      have z4 := u4.size
      simp only [World.size_alloc] at z4
      have hdl := HDL.out
      rw [← hdl] at bx4 r4
      have hXl : X.length ≤ 600 := (okB_parts hdo.out).2.1
      have BX4 := hide bx4
      have R4 := hide r4.typed
      have S4 := hide (s4.row (by omega)).typed
      clear bx4 r4 s4 hdl
      go_wp2_with fail
      refine (callsIn_wide.1 (cut_in K X ks ko kc _ _ w2.heap.size no mo' cn cm' w4 BX4.out R4.out S4.out (RowR.keep HKS.out c4) (fun b off h0 e h => by have h1 := h.1; obtain ⟨b', off', cap', u, ev, hb', -, -⟩ := RowR.ptr HKS.out 0 h0; simp only [Value.slice.injEq, true_and] at ev; rw [ev.1] at e; simp only [Option.some.injEq, Addr.mk.injEq] at e; omega) (fun k => typed_apart (by decide) k) (typed_box BX4.out (by decide) rfl) (fun k h => by obtain ⟨_, c, hc⟩ := h; exact heap_lt hc) hdo.out)).mono ?_
      rintro e w5 ⟨rfl, bx5, r5, u5⟩
      have u5' : Upd (fun k => w1.heap.size ≤ k) w4 w5 := u5.mono (fun k h => by rcases h with h | h; exact h.1; omega)
      have G15 := hide (u5'.keeps G1.out (by omega))
      have z5 := u5.size
      obtain ⟨p0, p1, pl⟩ := box2 bx5
      clear bx5
      go_wp2_with fail
      refine (disk_any no none _ cn _ 0 _).mono ?_
      rintro e w6 ⟨rfl, b6⟩
      obtain ⟨q0, q1, ql⟩ := box2 (bKeeps b6 G15.out)
      obtain ⟨q2, q3⟩ := box2f (bKeeps b6 G15.out)
      have z6 := b6.size
      clear p0 p1 pl
      have hu := upd_set2 w6 (w.heap.size + 1) 0 1 (.slice no K.length cn) (.slice none 0 0)
      go_wp2
      refine bodyPost_ret (v := .agg #[.slice no K.length cn, .slice none 0 0]) (by simp [results, Tryd.results28, go_sem, q0, q1]) rfl ⟨_, rfl, ?_, ?_⟩
      · rw [HR3.out]
        have hck : cutK K X ks = cutL K X ks := by simp [cutK, hdo.out]
        simp only [hck]
        refine ⟨_, _, rfl, ?_, Row.nil _ _ _ _⟩
        rw [cutL_len]
        exact ((r5.keepB b6).keep hu (fun k h => by have := h.1; omega)).mono (fun k _ h => by have := h.1; omega)
      · exact ((c4.trans (u5'.below (by have := c4.size; omega) (fun k h => by omega))).trans (b6.mono (by omega))).trans (hu.below (by omega) (fun k h => by omega))

end Go.Proofs.YtapflnabiobonaaDoor
