/- What WalDo of the program does: a contract; no statement of the seat is proved here. -/
import Derived.Test.YtapflnabiobonaaDoorDo
import Derived.Test.YtapflnabiobonaaDoorCut
import Derived.Test.YtapflnabiobonaaDoorSWalDo
namespace Go.Proofs.YtapflnabiobonaaDoor
open Go.RowKit Go.Shelf

theorem RowR.prefix {w : World} {so : Option Addr} {sc n : Nat} {xs : List Stp} (h : RowR w 3 (.slice so xs.length sc) xs.length (scells xs)) (hn : n ≤ xs.length) : RowR w 3 (.slice so (xs.take n).length sc) (xs.take n).length (scells (xs.take n)) := by
  obtain ⟨_, _, ev, h1, h2, h3⟩ := h
  simp only [Value.slice.injEq, true_and] at ev
  obtain ⟨rfl, rfl⟩ := ev
  have hl : (xs.take n).length = n := by simp; omega
  refine ⟨so, sc, rfl, by omega, scells_len _, fun h0 => ?_⟩
  obtain ⟨b, off, rfl, hc⟩ := h3 (by omega)
  refine ⟨b, off, rfl, fun j u hj => hc j u ?_⟩
  have hj' := (List.getElem?_eq_some_iff.1 hj).1
  rw [scells_len, hl] at hj'
  obtain ⟨x, hx⟩ := getAt (xs.take n) (j / 3) (by omega)
  have h4 := scells_at _ _ _ hx
  rw [List.getElem?_take_of_lt (by omega)] at hx
  have h5 := scells_at _ _ _ hx
  rcases (by omega : j = 3 * (j / 3) ∨ j = 3 * (j / 3) + 1 ∨ j = 3 * (j / 3) + 2) with e | e | e
  · rw [← e] at h4 h5; rw [h5.1, ← h4.1]; exact hj
  · rw [← e] at h4 h5; rw [h5.2.1, ← h4.2.1]; exact hj
  · rw [← e] at h4 h5; rw [h5.2.2, ← h4.2.2]; exact hj

theorem do_at (kept : List ByteArray) (wait : List (Int × ByteArray)) (xs : List Stp) (base B m : Nat) (no mo so : Option Addr) (cn cm sc : Nat) (w : World) (hm : m = xs.length)
    (hbox : w.heap[B]? = some (.cells #[.slice no kept.length cn, .slice mo wait.length cm] 94 (0, 0)))
    (hrow : Row w 9 1 (fun k => base ≤ k) (.slice no kept.length cn) kept.length (kept.map Value.string))
    (hwait : RowA w base 63 2 (.slice mo wait.length cm) wait.length (wcells wait)) (hbase : base ≤ w.heap.size) (hB : base ≤ B) (hxs : StepsIn w base so sc xs) (hok : okB kept wait = true) :
    Calls Tryd.prog 59 #[.pointer (some ⟨B, 0, none⟩), .slice so m sc] w fun e w' => e = .returned (.tuple #[]) ∧
      ∃ mo' cm', w'.heap[B]? = some (.cells #[.slice no kept.length cn, .slice mo' (doL (kept, wait) xs).2.length cm'] 94 (0, 0)) ∧
        Row w' 9 1 (fun k => base ≤ k) (.slice no kept.length cn) kept.length ((doL (kept, wait) xs).1.map Value.string) ∧
        RowA w' base 63 2 (.slice mo' (doL (kept, wait) xs).2.length cm') (doL (kept, wait) xs).2.length (wcells (doL (kept, wait) xs).2) ∧ Upd (fun k => base ≤ k) w w' := by
  subst hm
  exact do_any kept wait xs base B no mo so cn cm sc w hbox hrow hwait hbase hB hxs hok

set_option maxRecDepth 100000 in
set_option maxHeartbeats 4000000 in
theorem implWalDo_any (v : Value) (kept : List ByteArray) (wait : List (Int × ByteArray)) (so ko : Option Addr) (sc kc : Nat) (xs : List Stp) (cut : Bool) (after : Int) (ks : List Int) (w : World) (hr : DiskR w v kept wait)
    (hxs : RowR w 3 (.slice so xs.length sc) xs.length (scells xs)) (hsc : xs.length ≤ sc) (hxz : ∀ x ∈ xs, x.2.2.size ≤ 9223372036854775807) (hks : RowR w 1 (.slice ko ks.length kc) ks.length (ks.map (Value.int .i64))) (hs : ∀ s ∈ kept, s.size ≤ 9223372036854775807) (hs' : ∀ s ∈ wait, s.2.size ≤ 9223372036854775807) :
    Calls Tryd.prog 28 #[v, .slice so xs.length sc, .bool cut, .int .i64 after, .slice ko ks.length kc] w fun e w' => ∃ v', e = .returned v' ∧ DiskO w' (fun k => w.heap.size ≤ k) v' (doR kept wait xs cut after ks).1 (doR kept wait xs cut after ks).2 ∧ Below w.heap.size w w' := by
  have Hr := hide hr
  obtain ⟨ak, aw, rfl, ⟨ao, ca, rfl, -⟩, ⟨bo, cb, rfl, -⟩⟩ := hr
  have hal : Below w.heap.size w ((w.alloc (.cells #[.slice ao kept.length ca, .slice bo wait.length cb] 31)).alloc (.cells #[.slice none 0 0, .slice none 0 0] 31)) := ((Below.refl _ _).alloc (Nat.le_refl _) _).alloc (by simp) _
  have H0 := hide (al2_0 w (.cells #[.slice ao kept.length ca, .slice bo wait.length cb] 31) (.cells #[.slice none 0 0, .slice none 0 0] 31))
  have H1 := hide (al2_1 w (.cells #[.slice ao kept.length ca, .slice bo wait.length cb] 31) (.cells #[.slice none 0 0, .slice none 0 0] 31))
  have HKS := hide hks
  have HXS := hide hxs
  have HXZ := hide hxz
  have hxl : xs.length ≤ 9223372036854775807 := by obtain ⟨_, _, _, h, _⟩ := hxs; exact h
  have Hs := hide hs
  have Hs' := hide hs'
  clear hs hs' hks hxs hxz
  go_enter Tryd.func28, Tryd.ntmps28
  go_wp2_with fail
  refine (implSecOk_any kept wait _ _ (Hr.out.keep hal) Hs.out Hs'.out).mono ?_
  rintro e w1 ⟨rfl, b1⟩
  have z1 : w.heap.size + 1 + 1 ≤ w1.heap.size := by have := b1.size; simpa only [World.size_alloc] using this
  have c1 := bAll hal b1
  replace H0 := hide (bKeeps b1 H0.out)
  replace H1 := hide (bKeeps b1 H1.out)
  obtain ⟨p0, p1, pl⟩ := box2 H0.out
  obtain ⟨q0, q1, ql⟩ := box2 H1.out
  obtain ⟨q2, q3⟩ := box2f H1.out
  cases hok : okB kept wait
  · have Hx : Hid (doR kept wait xs cut after ks = ([], [])) := by show _ = _; simp [doR, hok]
    go_wp2
    have hu := upd_set2 w1 (w.heap.size + 1) 0 1 (.slice none 0 0) (.slice none 0 0)
    refine bodyPost_ret (v := .agg #[.slice none 0 0, .slice none 0 0]) (by simp [results, Tryd.results28, go_sem, q0, q1]) rfl ⟨_, rfl, ?_, c1.trans (hu.below (by omega) (by intro k hk; omega))⟩
    rw [Hx.out]
    exact ⟨_, _, rfl, Row.nil _ _ _ _, Row.nil _ _ _ _⟩
  by_cases hlen : (xs.length : Int) > 600
  · have Hx : Hid (doR kept wait xs cut after ks = ([], [])) := by show _ = _; simp [doR, show ¬ xs.length ≤ 600 by omega]
    go_wp2
    have hu := upd_set2 w1 (w.heap.size + 1) 0 1 (.slice none 0 0) (.slice none 0 0)
    refine bodyPost_ret (v := .agg #[.slice none 0 0, .slice none 0 0]) (by simp [results, Tryd.results28, go_sem, q0, q1]) rfl ⟨_, rfl, ?_, c1.trans (hu.below (by omega) (by intro k hk; omega))⟩
    rw [Hx.out]
    exact ⟨_, _, rfl, Row.nil _ _ _ _, Row.nil _ _ _ _⟩
  have hl6 : xs.length ≤ 600 := by omega
  have HR : Hid (doR kept wait xs cut after ks = if cut = true then (cutK (doL (kept, wait) (xs.take (doEnd cut after xs.length))).1 (doL (kept, wait) (xs.take (doEnd cut after xs.length))).2 ks, []) else doL (kept, wait) (xs.take (doEnd cut after xs.length))) := by
    show _ = _
    simp [doR, hok, hl6]
  have HOK := hide hok
  obtain ⟨hp1, hp2, -, -⟩ := okB_parts hok
  clear hok q0 q1 ql q2 q3
  go_wp2_with fail
  refine (secOwnA_any kept wait _ _ (Hr.out.keep c1) (by omega) (by omega)).mono ?_
  rintro e w2 ⟨v2, rfl, ⟨vk, vw, rfl, r2, s2⟩, b2⟩
  obtain ⟨no, cn, rfl⟩ := r2.shape
  obtain ⟨mo, cm, rfl⟩ := s2.shape
  have z2 := b2.size
  have al3 := alB' w2 (.cells #[.slice no kept.length cn, .slice mo wait.length cm] 94)
  have hb3 := hide (al1_0 w2 (.cells #[.slice no kept.length cn, .slice mo wait.length cm] 94))
  have r3 := hide (r2.keepB al3)
  have s3 := hide (s2.keepB al3)
  have c3 := bAll (bAll c1 b2) al3
  replace H1 := hide (bKeeps al3 (bKeeps b2 H1.out))
  have hSI : ∀ n, n ≤ xs.length → StepsIn (w2.alloc (.cells #[.slice no kept.length cn, .slice mo wait.length cm] 94)) w1.heap.size so sc (xs.take n) := fun n hn => ⟨RowR.keep (RowR.prefix HXS.out hn) c3, fun b off h0 e => by
      obtain ⟨_, _, ev, _, _, h3⟩ := RowR.prefix HXS.out hn
      simp only [Value.slice.injEq, true_and] at ev
      obtain ⟨rfl, rfl⟩ := ev
      obtain ⟨b', off', e', hc⟩ := h3 h0
      rw [e] at e'
      simp only [Option.some.injEq, Addr.mk.injEq, and_true] at e'
      obtain ⟨rfl, rfl⟩ := e'
      obtain ⟨x, hx⟩ := getAt (xs.take n) 0 h0
      have := World.block_lt_of_cell? w _ (hc _ _ (scells_at _ _ _ hx).1)
      have := c1.size
      simp only at *
      omega, fun x hx => HXZ.out x (List.mem_of_mem_take hx)⟩
  have HSI := hide hSI
  clear p0 p1 pl hSI r2 s2
  cases cut
  · have hke : doEnd false after xs.length = xs.length := by simp [doEnd]
    have HR2 := HR.out
    rw [hke, List.take_length, if_neg (by simp)] at HR2
    have HR3 := hide HR2
    have hSI := HSI.out xs.length (Nat.le_refl _)
    rw [List.take_length] at hSI
    clear HR2 hke HR
    go_wp2_with fail
    refine (do_any kept wait xs w1.heap.size w2.heap.size no mo so cn cm sc _ hb3.out r3.out s3.out (by simp; omega) z2 hSI HOK.out).mono ?_
    rintro e w4 ⟨rfl, mo', cm', bx4, r4, s4, u4⟩
    have hdl := (doL_ok (s := (kept, wait)) xs HOK.out).2
    obtain ⟨K, X, hKX⟩ : ∃ K X, doL (kept, wait) xs = (K, X) := ⟨_, _, rfl⟩
    rw [hKX] at bx4 r4 s4 hdl
    have HKX := hide hKX
    clear hKX
    simp only at bx4 r4 s4 hdl
    have g1 := u4.keeps H1.out (by omega)
    have z4 := u4.size
    simp only [World.size_alloc] at z4
    have G1 := hide g1
    have BX4 := hide bx4
    clear g1 bx4
    obtain ⟨p0, p1, pl⟩ := box2 BX4.out
    go_wp2_with fail
    refine (disk_any no mo' _ cn _ cm' _).mono ?_
    rintro e w5 ⟨rfl, b5⟩
    have g1 := bKeeps b5 G1.out
    clear p0 p1 pl
    obtain ⟨q0, q1, ql⟩ := box2 g1
    obtain ⟨q2, q3⟩ := box2f g1
    have z5 := b5.size
    have G15 := hide g1
    clear g1
    have hu := upd_set2 w5 (w.heap.size + 1) 0 1 (.slice no kept.length cn) (.slice mo' X.length cm')
    go_wp2
    refine bodyPost_ret (v := .agg #[.slice no kept.length cn, .slice mo' X.length cm']) (by simp [results, Tryd.results28, go_sem, q0, q1]) rfl ⟨_, rfl, ?_, ?_⟩
    · rw [HR3.out, HKX.out]
      refine ⟨_, _, rfl, ?_, ?_⟩
      · rw [hdl]
        exact ((r4.keepB b5).keep hu (fun k hk h => by omega)).mono (fun k _ h => by omega)
      · exact (((s4.keepB b5).keep hu (fun k hk h => by omega)).row (by have := (okB_parts (doL_ok (s := (kept, wait)) xs HOK.out).1).2.1; rw [HKX.out] at this; simp only at this; omega)).mono (fun k _ h => by omega)
    · exact ((c3.trans (u4.below (by have := c3.size; omega) (fun k h => by omega))).trans (b5.mono (by omega))).trans (hu.below (by omega) (fun k h => by omega))
  · obtain ⟨M, hM⟩ : ∃ M, M = doEnd true after xs.length := ⟨_, rfl⟩
    have hMl : M ≤ xs.length := by rw [hM]; exact doEnd_le _ _ _
    have HR2 := HR.out
    rw [if_pos rfl, ← hM] at HR2
    have hMe : M = (min after (xs.length : Int)).toNat := by rw [hM]; simp [doEnd]
    obtain ⟨ys, hys⟩ : ∃ ys, xs.take M = ys := ⟨_, rfl⟩
    have hyl : ys.length = M := by rw [← hys]; simp; omega
    have hSI := HSI.out M hMl
    rw [hys] at HR2 hSI
    have hdl := (doL_ok (s := (kept, wait)) ys HOK.out).2
    have hdo := hide (doL_ok (s := (kept, wait)) ys HOK.out).1
    have Hdo := fun m hm => do_at kept wait ys w1.heap.size w2.heap.size m no mo so cn cm sc _ hm hb3.out r3.out s3.out (by simp; omega) z2 hSI HOK.out
    obtain ⟨K, X, hKX⟩ : ∃ K X, doL (kept, wait) ys = (K, X) := ⟨_, _, rfl⟩
    rw [hKX] at HR2 hdl hdo Hdo
    have HR3 := hide HR2
    replace Hdo := hide Hdo
    have HDL := hide hdl
    have hMe2 : (ys.length : Int) = (min after (xs.length : Int)).toNat := by omega
    clear HR2 hys hM hdl hKX HSI hSI HR hMe hyl
    go_wp2_with fail
    all_goals
      refine (unhide Hdo _ (by omega)).mono ?_
      rintro e w4 ⟨rfl, mo', cm', bx4, r4, s4, u4⟩
      have c4 := c3.trans (u4.below (by have := c3.size; omega) (fun k h => by omega))
      have G1 := hide (u4.keeps H1.out (by omega))
      have z4 := u4.size
      simp only [World.size_alloc] at z4
      have hdl := HDL.out
      rw [← hdl] at bx4 r4
      have hXl : X.length ≤ 600 := (okB_parts hdo.out).2.1
      have BX4 := hide bx4
      have R4 := hide r4.typed
      have S4 := hide (s4.row (by omega)).typed
      clear bx4 r4 s4 hdl
      go_wp2_with fail
      refine (callsIn_wide.1 (cut_in K X ks ko kc _ _ w2.heap.size no mo' cn cm' w4 BX4.out R4.out S4.out (RowR.keep HKS.out c4) (fun b off h0 e h => by have h1 := h.1; obtain ⟨b', off', cap', u, ev, hb', -, -⟩ := RowR.ptr HKS.out 0 h0; simp only [Value.slice.injEq, true_and] at ev; rw [ev.1] at e; simp only [Option.some.injEq, Addr.mk.injEq] at e; omega) (fun k => typed_apart (by decide) k) (typed_box BX4.out (by decide) rfl) (fun k h => by obtain ⟨_, c, hc⟩ := h; exact heap_lt hc) hdo.out)).mono ?_
      rintro e w5 ⟨rfl, bx5, r5, u5⟩
      have u5' : Upd (fun k => w1.heap.size ≤ k) w4 w5 := u5.mono (fun k h => by rcases h with h | h; exact h.1; omega)
      have G15 := hide (u5'.keeps G1.out (by omega))
      have z5 := u5.size
      obtain ⟨p0, p1, pl⟩ := box2 bx5
      clear bx5
      go_wp2_with fail
      refine (disk_any no none _ cn _ 0 _).mono ?_
      rintro e w6 ⟨rfl, b6⟩
      obtain ⟨q0, q1, ql⟩ := box2 (bKeeps b6 G15.out)
      obtain ⟨q2, q3⟩ := box2f (bKeeps b6 G15.out)
      have z6 := b6.size
      clear p0 p1 pl
      have hu := upd_set2 w6 (w.heap.size + 1) 0 1 (.slice no K.length cn) (.slice none 0 0)
      go_wp2
      refine bodyPost_ret (v := .agg #[.slice no K.length cn, .slice none 0 0]) (by simp [results, Tryd.results28, go_sem, q0, q1]) rfl ⟨_, rfl, ?_, ?_⟩
      · rw [HR3.out]
        have hck : cutK K X ks = cutL K X ks := by simp [cutK, hdo.out]
        simp only [hck]
        refine ⟨_, _, rfl, ?_, Row.nil _ _ _ _⟩
        rw [cutL_len]
        exact ((r5.keepB b6).keep hu (fun k h => by have := h.1; omega)).mono (fun k _ h => by have := h.1; omega)
      · exact ((c4.trans (u5'.below (by have := c4.size; omega) (fun k h => by omega))).trans (b6.mono (by omega))).trans (hu.below (by omega) (fun k h => by omega))

end Go.Proofs.YtapflnabiobonaaDoor
