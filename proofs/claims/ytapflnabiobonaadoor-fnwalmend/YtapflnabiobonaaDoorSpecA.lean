/- The specification's functions on disks, told so that what they give may be appended to: contracts; no statement of the seat is proved here. -/
import Derived.Test.YtapflnabiobonaaDoorSPut
import Derived.Test.YtapflnabiobonaaDoorRd2
namespace Go.Proofs.YtapflnabiobonaaDoor
open Go.RowKit

theorem RowA.keepT {w w' : World} {base : Nat} {e : TypeId} {size : Nat} {T : Nat → Prop} {v : Value} {n : Nat} {cs : List Value} (h : RowA w base e size v n cs) (hb : Upd T w w') (hT : ∀ k, typed w (fun k => base ≤ k) e k → ¬ T k) : RowA w' base e size v n cs := by
  rcases h with ⟨hl, h⟩ | h
  · refine .inl ⟨hl, ?_⟩
    rcases h with h | ⟨g, cap, cur, rfl, hg, hh, h1, h2, h3, h4⟩
    · exact .inl h
    · exact .inr ⟨g, cap, cur, rfl, hg, hb.keeps hh (hT g ⟨hg, cur, hh⟩), h1, h2, h3, h4⟩
  · exact .inr h

theorem RowA.at {w : World} {base : Nat} {e : TypeId} {v : Value} {n : Nat} {cs : List Value} (h : RowA w base e 1 v n cs) (i : Nat) (hi : i < n) :
    ∃ g cap u cur, v = .slice (some ⟨g, 0, none⟩) n cap ∧ base ≤ g ∧ w.heap[g]? = some (.cells cur e (0, 0)) ∧ w.cell? ⟨g, i, none⟩ = some u ∧ w.frozen? ⟨g, i, none⟩ = false ∧
      ∀ x, RowA (w.setCell ⟨g, i, none⟩ x) base e 1 v n (cs.set i x) := by
  rcases h with ⟨hl, ⟨rfl, rfl⟩ | ⟨g, cap, cur, rfl, hg, hh, h1, h2, h3, h4⟩⟩ | ⟨rfl, _⟩
  · omega
  · obtain ⟨u, hu⟩ : ∃ u, cur[i]? = some u := ⟨cur[i]'(by omega), by simp [show i < cur.size by omega]⟩
    refine ⟨g, cap, u, cur, rfl, hg, hh, (cell_of_row w g i cur e (0, 0) hh).trans hu, frozen_of_row w g i cur e hh, fun x => .inl ⟨by simpa using hl, .inr ⟨g, cap, _, rfl, hg, heap_setCell_same w g i cur e x hh, h1, h2, by simpa using h3, ?_⟩⟩⟩
    rw [Array.toList_setIfInBounds, ← h4, List.take_set]
  · omega

def DiskAA (w : World) (base : Nat) (v : Value) (kept : List ByteArray) (wait : List (Int × ByteArray)) : Prop :=
  ∃ vk vw, v = .agg #[vk, vw] ∧ RowA w base 9 1 vk kept.length (kept.map Value.string) ∧ RowA w base 63 2 vw wait.length (wcells wait)

theorem RowA.keepL {w w' : World} {base : Nat} {e : TypeId} {size : Nat} {T : Nat → Prop} {v : Value} {n : Nat} {cs : List Value} (h : RowA w base e size v n cs) (hb : Upd T w w') (hT : ∀ k, T k → k < base) : RowA w' base e size v n cs :=
  h.keep hb (fun k hk ht => by have := hT k ht; omega)

theorem DiskAA.keepB {w w' : World} {base : Nat} {v : Value} {kept : List ByteArray} {wait : List (Int × ByteArray)} (h : DiskAA w base v kept wait) (hb : Below w.heap.size w w') : DiskAA w' base v kept wait := by
  obtain ⟨vk, vw, rfl, h1, h2⟩ := h
  exact ⟨vk, vw, rfl, h1.keepB hb, h2.keepB hb⟩
theorem DiskAA.keepU {w w' : World} {base : Nat} {T : Nat → Prop} {v : Value} {kept : List ByteArray} {wait : List (Int × ByteArray)} (h : DiskAA w base v kept wait) (hb : Upd T w w') (h1 : ∀ k, typed w (fun k => base ≤ k) 9 k → ¬ T k) (h2 : ∀ k, typed w (fun k => base ≤ k) 63 k → ¬ T k) : DiskAA w' base v kept wait := by
  obtain ⟨vk, vw, rfl, a1, a2⟩ := h
  exact ⟨vk, vw, rfl, a1.keepT hb h1, a2.keepT hb h2⟩
theorem DiskAA.mono {w : World} {base base' : Nat} {v : Value} {kept : List ByteArray} {wait : List (Int × ByteArray)} (h : DiskAA w base v kept wait) (hb : base' ≤ base) : DiskAA w base' v kept wait := by
  obtain ⟨vk, vw, rfl, a1, a2⟩ := h
  exact ⟨vk, vw, rfl, a1.mono hb, a2.mono hb⟩
theorem DiskAA.reads {w : World} {base : Nat} {v : Value} {kept : List ByteArray} {wait : List (Int × ByteArray)} (h : DiskAA w base v kept wait) (hk : kept.length ≤ 9223372036854775807) (hw : wait.length ≤ 9223372036854775807) : DiskR w v kept wait := by
  obtain ⟨vk, vw, rfl, a1, a2⟩ := h
  exact ⟨vk, vw, rfl, (a1.row hk).reads, (a2.row hw).reads⟩
theorem DiskAA.shape {w : World} {base : Nat} {v : Value} {kept : List ByteArray} {wait : List (Int × ByteArray)} (h : DiskAA w base v kept wait) : ∃ ao ca ao' ca', v = .agg #[.slice ao kept.length ca, .slice ao' wait.length ca'] := by
  obtain ⟨vk, vw, rfl, a1, a2⟩ := h
  obtain ⟨ao, ca, rfl⟩ := a1.shape
  obtain ⟨ao', ca', rfl⟩ := a2.shape
  exact ⟨ao, ca, ao', ca', rfl⟩

set_option maxRecDepth 100000 in
set_option maxHeartbeats 2000000 in
theorem l1CopyAA_any (kept : List ByteArray) (wait : List (Int × ByteArray)) (v : Value) (w : World) (hr : DiskR w v kept wait) (hk : kept.length ≤ 1048576) (hw : wait.length ≤ 1048576) :
    Calls Tryd.prog 104 #[v] w fun e w' => ∃ v', e = .returned v' ∧ DiskAA w' w.heap.size v' kept wait ∧ Below w.heap.size w w' := by
  obtain ⟨ak, aw, rfl, a1, a2⟩ := hr
  obtain ⟨ao, ca, rfl⟩ : ∃ ao ca, ak = .slice ao kept.length ca := by obtain ⟨ao, ca, h, -⟩ := a1; exact ⟨ao, ca, h⟩
  obtain ⟨bo, cb, rfl⟩ : ∃ ao ca, aw = .slice ao wait.length ca := by obtain ⟨ao, ca, h, -⟩ := a2; exact ⟨ao, ca, h⟩
  have hal : Below w.heap.size w ((w.alloc (.cells #[.slice ao kept.length ca, .slice bo wait.length cb] 31)).alloc (.cells #[.slice none 0 0, .slice none 0 0] 31)) := ((Below.refl _ _).alloc (Nat.le_refl _) _).alloc (by simp) _
  obtain ⟨W, hW⟩ : ∃ W, W = (w.alloc (.cells #[.slice ao kept.length ca, .slice bo wait.length cb] 31)).alloc (.cells #[.slice none 0 0, .slice none 0 0] 31) := ⟨_, rfl⟩
  have B0 : W.heap[w.heap.size]? = some (.cells #[.slice ao kept.length ca, .slice bo wait.length cb] 31 (0, 0)) := by rw [hW]; exact al2_0 w _ _
  have B1 : W.heap[w.heap.size + 1]? = some (.cells #[.slice none 0 0, .slice none 0 0] 31 (0, 0)) := by rw [hW]; exact al2_1 w _ _
  have hsz : W.heap.size = w.heap.size + 2 := by rw [hW]; simp
  rw [← hW] at hal
  have k1 := hide (a1.keep hal)
  have k2 := hide (a2.keep hal)
  clear a1 a2
  obtain ⟨i0, hi, hz0, hz1, hz2⟩ := info_parts infoStr
  obtain ⟨i1, gi, gz0, gz1, gz2⟩ := info_parts infoWr
  go_enter Tryd.func104, Tryd.ntmps104
  go_wp2
  rw [← hW]
  clear hW
  obtain ⟨p0, p1, pl⟩ := box2 B0
  obtain ⟨q0, q1, ql⟩ := box2 B1
  obtain ⟨q2, q3⟩ := box2f B1
  have H0 := hide B0
  have H1 := hide B1
  clear B0 B1
  go_region_held_law (fun w' => (w'.cell? ⟨w.heap.size, 0, none⟩ = some (.slice ao kept.length ca) ∧ w'.cell? ⟨w.heap.size, 1, none⟩ = some (.slice bo wait.length cb)) ∧ Below (w.heap.size + 1) W w')
    ((refine keepS p0 p1 ?_; first | (refine Below.mono (B := W.heap.size) ?_ (by omega); (repeat (first | exact Below.refl _ _ | assumption | refine bAlloc ?_ _ | refine Below.drew ?_)); done) | (refine bSet (bSet ?_ _) _; exact b2'.mono (by omega))))
    (first
    | (refine step_copyA0 rfl (.tmp 3) (.tmp 5) 22 rfl 9 i0 (.string ⟨#[]⟩) 1 16 Tryd.underlying22 hi hz0 hz1 hz2 rfl (by decide) _ rfl (.slice ao kept.length ca) kept.length (kept.map Value.string) rfl (k1.out.keep (by repeat (first | exact Below.refl _ _ | assumption | refine bAlloc ?_ _ | refine Below.drew ?_))) (strs_one _) hk (by omega) ?_; intro v1 w1 r1 b1; obtain ⟨no, cn, rfl⟩ := r1.shape; have b1' : Below W.heap.size W w1 := bAll (by repeat (first | exact Below.refl _ _ | assumption | refine bAlloc ?_ _ | refine Below.drew ?_)) b1)
    | (refine step_copyA0 rfl (.tmp 7) (.tmp 9) 29 rfl 63 i1 (.agg #[.int .i64 0, .string ⟨#[]⟩]) 2 24 Tryd.underlying29 gi gz0 gz1 gz2 rfl (by decide) _ rfl (.slice bo wait.length cb) wait.length (wcells wait) rfl (k2.out.keep (by repeat (first | exact Below.refl _ _ | assumption | refine bAlloc ?_ _ | refine Below.drew ?_))) (wcells_one _) hw (by omega) ?_; intro v2 w2 r2 b2; obtain ⟨mo, cm, rfl⟩ := r2.shape; have b2' : Below W.heap.size W w2 := bAll (by repeat (first | exact Below.refl _ _ | assumption | refine bAlloc ?_ _ | refine Below.drew ?_)) b2; obtain ⟨t0, t1, tl⟩ := box2 (bKeeps b2' H1.out); obtain ⟨t2, t3⟩ := box2f (bKeeps b2' H1.out)))
  all_goals
    go_wp2
    have hu := upd_set2 w2 (w.heap.size + 1) 0 1 (.slice no kept.length cn) (.slice mo wait.length cm)
    have hz1' := b1'.size
    have hz2' := b2'.size
    refine bodyPost_ret (v := .agg #[.slice no kept.length cn, .slice mo wait.length cm]) (by simp [results, Tryd.results104, go_sem, t0, t1]) rfl ⟨_, rfl, ⟨_, _, rfl, ?_, ?_⟩, ?_⟩
    · refine (RowA.keep (RowA.keepB r1 ?_) hu ?_).mono ?_
      · first | exact b2 | exact bAll (bAlloc (Below.refl _ _) _) b2
      · intro k hk
        try simp at hk
        omega
      · try simp
        omega
    · refine (RowA.keep r2 hu ?_).mono ?_
      · intro k hk
        try simp at hk
        omega
      · try simp
        omega
    · exact (bAll hal b2').trans (hu.below (by omega) (by intro k hk; omega))

set_option maxRecDepth 100000 in
set_option maxHeartbeats 2000000 in
theorem specSecPutA_yes (v : Value) (kept : List ByteArray) (wait : List (Int × ByteArray)) (a : Int) (s : ByteArray) (w : World) (hr : DiskR w v kept wait) (hss : s.size ≤ 9223372036854775807) (hok : okB kept wait = true) :
    Calls Tryd.prog 99 #[v, .int .i64 a, .string s] w fun e w' => ∃ v', e = .returned (.tuple #[v', .bool (putB kept wait a s)]) ∧ DiskAA w' w.heap.size v' (putK kept wait) (putW kept wait a s) ∧ Below w.heap.size w w' := by
  obtain ⟨hp1, hp2, hp3, hp4⟩ := okB_parts hok
  have Hr := hide hr
  obtain ⟨ak, aw, rfl, ⟨ao, ca, rfl, -⟩, ⟨bo, cb, rfl, -⟩⟩ := hr
  have hal : Below w.heap.size w ((w.alloc (.cells #[.slice ao kept.length ca, .slice bo wait.length cb] 31)).alloc (.cells #[.slice none 0 0, .slice none 0 0] 31)) := ((Below.refl _ _).alloc (Nat.le_refl _) _).alloc (by simp) _
  have H0 := hide (al2_0 w (.cells #[.slice ao kept.length ca, .slice bo wait.length cb] 31) (.cells #[.slice none 0 0, .slice none 0 0] 31))
  have H1 := hide (al2_1 w (.cells #[.slice ao kept.length ca, .slice bo wait.length cb] 31) (.cells #[.slice none 0 0, .slice none 0 0] 31))
  have P3 := hide hp3
  have P4 := hide hp4
  clear hp3 hp4
  have HK : Hid (putK kept wait = kept) := by show _ = _; simp [putK, hok]
  obtain ⟨i1, gi, gz0, gz1, gz2⟩ := info_parts infoWr
  go_enter Tryd.func99, Tryd.ntmps99
  go_wp2_with fail
  refine (specSecOk_any _ kept wait _ (Hr.out.keep hal) (fun s hs => by have := P3.out s hs; omega) (fun s hs => by have := (P4.out s hs).2.2; omega)).mono ?_
  rintro e w1 ⟨rfl, b1⟩
  rw [hok]
  have HOK := hide hok
  clear hok
  have z1 : w.heap.size + 1 + 1 ≤ w1.heap.size := by have := b1.size; simpa only [World.size_alloc] using this
  have c1 := bAll hal b1
  replace H0 := hide (bKeeps b1 H0.out)
  replace H1 := hide (bKeeps b1 H1.out)
  obtain ⟨p0, p1, pl⟩ := box2 H0.out
  go_wp2_with fail
  refine (l1CopyAA_any kept wait _ _ (Hr.out.keep c1) (by omega) (by omega)).mono ?_
  rintro e w2 ⟨v2, rfl, ⟨vk, vw, rfl, r2, s2⟩, b2⟩
  obtain ⟨no, cn, rfl⟩ := r2.shape
  obtain ⟨mo, cm, rfl⟩ := s2.shape
  have z2 := b2.size
  have al2 : Below w2.heap.size w2 (w2.alloc (.cells #[.slice no kept.length cn, .slice mo wait.length cm] 31)) := (Below.refl _ _).alloc (Nat.le_refl _) _
  have H2 := hide (al1_0 w2 (.cells #[.slice no kept.length cn, .slice mo wait.length cm] 31))
  replace H0 := hide (bKeeps al2 (bKeeps b2 H0.out))
  replace H1 := hide (bKeeps al2 (bKeeps b2 H1.out))
  clear p0 p1 pl
  obtain ⟨p0, p1, pl⟩ := box2 H0.out
  go_wp2_with fail
  refine (l1WriteOk_any kept.length a s _ (by omega) hss).mono ?_
  rintro e w' ⟨rfl, rfl⟩
  clear p0 p1 pl
  obtain ⟨w', hW⟩ : ∃ W, W = w2.alloc (.cells #[.slice no kept.length cn, .slice mo wait.length cm] 31) := ⟨_, rfl⟩
  have ZW : Hid (w'.heap.size = w2.heap.size + 1) := by show _ = _; rw [hW]; simp
  rw [← hW] at al2 H2 H0 H1 ⊢
  clear hW
  have cW : Below w.heap.size w w' := bAll (bAll c1 b2) al2
  replace r2 := r2.keepB al2
  replace s2 := s2.keepB al2
  obtain ⟨p0, p1, pl⟩ := box2 H0.out
  obtain ⟨q0, q1, ql⟩ := box2 H1.out
  obtain ⟨q2, q3⟩ := box2f H1.out
  obtain ⟨t0, t1, tl⟩ := box2 H2.out
  obtain ⟨t2, t3⟩ := box2f H2.out
  have hu := upd_set2 w' (w.heap.size + 1) 0 1 (.slice no kept.length cn) (.slice mo wait.length cm)
  have D2 : DiskAA ((w'.setCell ⟨w.heap.size + 1, 0, none⟩ (.slice no kept.length cn)).setCell ⟨w.heap.size + 1, 1, none⟩ (.slice mo wait.length cm)) w.heap.size (.agg #[.slice no kept.length cn, .slice mo wait.length cm]) kept wait :=
    ⟨_, _, rfl, (r2.keep hu (fun k hk => by omega)).mono (by omega), (s2.keep hu (fun k hk => by omega)).mono (by omega)⟩
  cases hB : writeOkB kept.length (a, s)
  · have HX : Hid (putB kept wait a s = false ∧ putW kept wait a s = wait) := by
      have h1 : putB kept wait a s = false := by simp [putB, hB]
      exact ⟨h1, by simp [putW, h1, HOK.out]⟩
    clear hB
    go_wp2
    refine bodyPost_ret (v := .tuple #[.agg #[.slice no kept.length cn, .slice mo wait.length cm], .bool false]) (by simp [results, Tryd.results99, go_sem, q0, q1]) rfl ⟨.agg #[.slice no kept.length cn, .slice mo wait.length cm], ?_, ?_, ?_⟩
    · rw [HX.out.1]
    · rw [HX.out.2, HK.out]
      exact D2
    · exact cW.trans (hu.below (by have := unhide ZW; omega) (by intro k hk; omega))
  · by_cases hlen : (wait.length : Int) ≥ 600
    · have HX : Hid (putB kept wait a s = false ∧ putW kept wait a s = wait) := by
        have h1 : putB kept wait a s = false := by simp [putB, show ¬ wait.length < 600 by omega]
        exact ⟨h1, by simp [putW, h1, HOK.out]⟩
      clear hB
      go_wp2
      refine bodyPost_ret (v := .tuple #[.agg #[.slice no kept.length cn, .slice mo wait.length cm], .bool false]) (by simp [results, Tryd.results99, go_sem, q0, q1]) rfl ⟨.agg #[.slice no kept.length cn, .slice mo wait.length cm], ?_, ?_, ?_⟩
      · rw [HX.out.1]
      · rw [HX.out.2, HK.out]
        exact D2
      · exact cW.trans (hu.below (by have := unhide ZW; omega) (by intro k hk; omega))
    · have HX : Hid (putB kept wait a s = true ∧ putW kept wait a s = wait ++ [(a, s)]) := by
        have h1 : putB kept wait a s = true := by simp [putB, hB, HOK.out, show wait.length < 600 by omega]
        exact ⟨h1, by simp [putW, h1, HOK.out]⟩
      clear hB D2 hu
      have al3 : Below w'.heap.size w' (w'.alloc (.cells #[.int .i64 a, .string s] 63)) := (Below.refl _ _).alloc (Nat.le_refl _) _
      have s3 := s2.keepB al3
      have r3 := r2.keepB al3
      have N3 := hide (new_cells w' a s 63)
      replace H0 := hide (bKeeps al3 H0.out)
      replace H1 := hide (bKeeps al3 H1.out)
      replace H2 := hide (bKeeps al3 H2.out)
      go_wp2_with (at_builtin; refine wpList_appendA _ rfl _ _ 29 rfl w1.heap.size 63 i1 (.agg #[.int .i64 0, .string ⟨#[]⟩]) 2 24 Tryd.underlying29 gi gz0 gz1 gz2 rfl (by decide) _ wait.length (wcells wait) rfl s3 ⟨w'.heap.size, 0, none⟩ 1 1 [.int .i64 a, .string s] rfl rfl N3.out (new_one a s) (by decide) ?q63 ?qby ?qbase ?_)
      case q63 => unfold maxLen; omega
      case qby => omega
      case qbase => have := unhide ZW; simp; omega
      intro v4 w4 hown u4
      have zW := unhide ZW
      have z4 := u4.size
      simp only [World.size_alloc] at z4
      have r4 := r3.keepT u4 (fun k => typed_apart (by decide) k)
      have s4 : RowA w4 w1.heap.size 63 2 v4 (wait.length + 1) (wcells wait ++ [.int .i64 a, .string s]) := .inl hown
      obtain ⟨mo', cm', rfl⟩ := s4.shape
      have H1' := u4.keeps H1.out (typed_box H1.out (by decide) rfl)
      have H2' := u4.keeps H2.out (typed_box H2.out (by decide) rfl)
      clear p0 p1 pl q0 q1 ql q2 q3 t0 t1 tl t2 t3
      obtain ⟨q0, q1, ql⟩ := box2 H1'
      obtain ⟨q2, q3⟩ := box2f H1'
      obtain ⟨t0, t1, tl⟩ := box2 H2'
      obtain ⟨t2, t3⟩ := box2f H2'
      have G1 := hide H1'
      have G2 := hide H2'
      clear hown H1' H2'
      have hne : ¬ w.heap.size + 1 = w2.heap.size := by omega
      have hne' : ¬ w2.heap.size = w.heap.size + 1 := by omega
      go_wp2
      have hu := (Upd.setCell (S := fun k => k = w2.heap.size ∨ k = w.heap.size + 1) w4 w2.heap.size 1 (.slice mo' (wait.length + 1) cm') (.inl rfl)).trans ((upd_set2 _ (w.heap.size + 1) 0 1 (.slice no kept.length cn) (.slice mo' (wait.length + 1) cm')).mono (fun k h => .inr h))
      refine bodyPost_ret (v := .tuple #[.agg #[.slice no kept.length cn, .slice mo' (wait.length + 1) cm'], .bool true]) (by simp [results, Tryd.results99, go_sem, q0, q1]) rfl ⟨.agg #[.slice no kept.length cn, .slice mo' (wait.length + 1) cm'], ?_, ?_, ?_⟩
      · rw [HX.out.1]
      · rw [HX.out.2, HK.out]
        refine ⟨_, _, rfl, ?_, ?_⟩
        · exact (r4.keepT hu (by rintro k ht (rfl | rfl); exact typed_box G2.out (by decide) rfl ht; exact typed_box G1.out (by decide) rfl ht)).mono (by omega)
        · rw [wcells_snoc, List.length_append]
          exact (s4.keepT hu (by rintro k ht (rfl | rfl); exact typed_box G2.out (by decide) rfl ht; exact typed_box G1.out (by decide) rfl ht)).mono (by omega)
      · exact ((cW.trans (al3.mono (by omega))).trans (u4.below (by simp; omega) (fun k h => by have := h.1; omega))).trans (hu.below (by omega) (by intro k hk; omega))

set_option maxHeartbeats 400000 in
theorem specSecPutA_no (v : Value) (kept : List ByteArray) (wait : List (Int × ByteArray)) (a : Int) (s : ByteArray) (w : World) (hr : DiskR w v kept wait) (hs : ∀ s ∈ kept, s.size ≤ 9223372036854775807) (hs' : ∀ s ∈ wait, s.2.size ≤ 9223372036854775807) (hok : okB kept wait = false) :
    Calls Tryd.prog 99 #[v, .int .i64 a, .string s] w fun e w' => ∃ v', e = .returned (.tuple #[v', .bool (putB kept wait a s)]) ∧ DiskAA w' w.heap.size v' (putK kept wait) (putW kept wait a s) ∧ Below w.heap.size w w' := by
  have Hr := hide hr
  obtain ⟨ak, aw, rfl, ⟨ao, ca, rfl, -⟩, ⟨bo, cb, rfl, -⟩⟩ := hr
  have hal : Below w.heap.size w ((w.alloc (.cells #[.slice ao kept.length ca, .slice bo wait.length cb] 31)).alloc (.cells #[.slice none 0 0, .slice none 0 0] 31)) := ((Below.refl _ _).alloc (Nat.le_refl _) _).alloc (by simp) _
  have H1 := hide (al2_1 w (.cells #[.slice ao kept.length ca, .slice bo wait.length cb] 31) (.cells #[.slice none 0 0, .slice none 0 0] 31))
  have Hs := hide hs
  have Hs' := hide hs'
  clear hs hs'
  have HX : Hid (putB kept wait a s = false ∧ putK kept wait = [] ∧ putW kept wait a s = []) := ⟨by simp [putB, hok], by simp [putK, hok], by simp [putW, hok]⟩
  go_enter Tryd.func99, Tryd.ntmps99
  go_wp2_with fail
  refine (specSecOk_any _ kept wait _ (Hr.out.keep hal) Hs.out Hs'.out).mono ?_
  rintro e w1 ⟨rfl, b1⟩
  rw [hok]
  have B1 := bKeeps b1 H1.out
  obtain ⟨q0, q1, ql⟩ := box2 B1
  obtain ⟨q2, q3⟩ := box2f B1
  clear B1
  go_wp2
  have hu : Upd (fun k => k = w.heap.size + 1) w1 ((w1.setCell ⟨w.heap.size + 1, 0, none⟩ (.slice none 0 0)).setCell ⟨w.heap.size + 1, 1, none⟩ (.slice none 0 0)) :=
    upd_set2 _ _ _ _ _ _
  refine bodyPost_ret (v := .tuple #[.agg #[.slice none 0 0, .slice none 0 0], .bool false]) (by simp [results, Tryd.results99, go_sem, q0, q1]) rfl ⟨.agg #[.slice none 0 0, .slice none 0 0], ?_, ?_, (bAll hal b1).trans (hu.below (by have := b1.size; simp only [World.size_alloc] at this; omega) (by intro k hk; omega))⟩
  · rw [HX.out.1]
  · rw [HX.out.2.1, HX.out.2.2]
    exact ⟨_, _, rfl, .inl (World.ownsRow_nil _ _ _ _), .inl (World.ownsRow_nil _ _ _ _)⟩

theorem specSecPutA_any (v : Value) (kept : List ByteArray) (wait : List (Int × ByteArray)) (a : Int) (s : ByteArray) (w : World) (hr : DiskR w v kept wait) (hs : ∀ s ∈ kept, s.size ≤ 9223372036854775807) (hs' : ∀ s ∈ wait, s.2.size ≤ 9223372036854775807) (hss : s.size ≤ 9223372036854775807) :
    Calls Tryd.prog 99 #[v, .int .i64 a, .string s] w fun e w' => ∃ v', e = .returned (.tuple #[v', .bool (putB kept wait a s)]) ∧ DiskAA w' w.heap.size v' (putK kept wait) (putW kept wait a s) ∧ Below w.heap.size w w' := by
  cases hok : okB kept wait
  · exact specSecPutA_no v kept wait a s w hr hs hs' hok
  · exact specSecPutA_yes v kept wait a s w hr hss hok

set_option maxRecDepth 100000 in
set_option maxHeartbeats 2000000 in
theorem specSecFlushA_yes (v : Value) (kept : List ByteArray) (wait : List (Int × ByteArray)) (w : World) (hr : DiskR w v kept wait) (hok : okB kept wait = true) :
    Calls Tryd.prog 34 #[v] w fun e w' => ∃ v', e = .returned v' ∧ DiskAA w' w.heap.size v' (flushL kept wait) [] ∧ Below w.heap.size w w' := by
  obtain ⟨hp1, hp2, hp3, hp4⟩ := okB_parts hok
  have Hr := hide hr
  obtain ⟨ak, aw, rfl, a1, a2⟩ := hr
  obtain ⟨ao, ca, rfl⟩ : ∃ ao ca, ak = .slice ao kept.length ca := by obtain ⟨ao, ca, h, -⟩ := a1; exact ⟨ao, ca, h⟩
  obtain ⟨bo, cb, rfl⟩ : ∃ ao ca, aw = .slice ao wait.length ca := by obtain ⟨ao, ca, h, -⟩ := a2; exact ⟨ao, ca, h⟩
  have hal : Below w.heap.size w ((w.alloc (.cells #[.slice ao kept.length ca, .slice bo wait.length cb] 31)).alloc (.cells #[.slice none 0 0, .slice none 0 0] 31)) := ((Below.refl _ _).alloc (Nat.le_refl _) _).alloc (by simp) _
  have H0 := hide (al2_0 w (.cells #[.slice ao kept.length ca, .slice bo wait.length cb] 31) (.cells #[.slice none 0 0, .slice none 0 0] 31))
  have H1 := hide (al2_1 w (.cells #[.slice ao kept.length ca, .slice bo wait.length cb] 31) (.cells #[.slice none 0 0, .slice none 0 0] 31))
  have P3 := hide hp3
  have P4 := hide hp4
  clear hp3 hp4
  obtain ⟨i0, hi, hz0, hz1, hz2⟩ := info_parts infoStr
  go_enter Tryd.func34, Tryd.ntmps34
  go_wp2_with fail
  refine (specSecOk_any _ kept wait _ (Hr.out.keep hal) (fun s hs => by have := P3.out s hs; omega) (fun s hs => by have := (P4.out s hs).2.2; omega)).mono ?_
  rintro e w1 ⟨rfl, b1⟩
  rw [hok]
  have B0 := bKeeps b1 H0.out
  have B1 := bKeeps b1 H1.out
  clear H0 H1
  obtain ⟨p0, p1, pl⟩ := box2 B0
  have H0 := hide B0
  have H1 := hide B1
  clear B0 B1
  have k1 := a1.keep (bAll hal b1)
  have k2 := a2.keep (bAll hal b1)
  clear a1 a2
  go_wp2_with (at_builtin; refine wpList_append_row _ rfl _ _ 22 rfl w1.heap.size 9 i0 (.string ⟨#[]⟩) 1 16 Tryd.underlying22 hi hz0 hz1 hz2 rfl (by decide) _ 0 [] rfl ?qown _ kept.length (kept.map Value.string) rfl ?qrow (strs_one _) ?q63 ?qby ?qbase ?_)
  case qown => exact World.ownsRow_lit w1 #[] 0 (Nat.le_refl _) (by unfold maxLen; omega) rfl
  case qrow => exact k1.keep ((Below.refl _ _).alloc (Nat.le_refl _) _)
  case q63 => unfold maxLen; omega
  case qby => omega
  case qbase => simp
  intro v' w2 hown hgr
  try simp only [Nat.zero_add, List.nil_append] at hown
  have r2 : RowA w2 w1.heap.size 9 1 v' kept.length (kept.map Value.string) := .inl hown
  have b2 : Below w1.heap.size w1 w2 := ((Below.refl _ _).alloc (Nat.le_refl _) (.cells #[] 9)).grown hgr (by simp) (fun k e => by simp [Value.ownBlock] at e; omega)
  obtain ⟨no, cn, rfl⟩ := r2.shape
  clear hown hgr
  have B0 := bKeeps b2 H0.out
  have B1 := bKeeps b2 H1.out
  clear p0 p1 pl H0 H1
  obtain ⟨p0, p1, pl⟩ := box2 B0
  have H0 := hide B0
  have H1 := hide B1
  clear B0 B1
  have hbw2 : Below w.heap.size w w2 := (bAll hal b1).trans (b2.mono (by have := b1.size; simp only [World.size_alloc] at this; omega))
  have z1 : w.heap.size + 1 + 1 ≤ w1.heap.size := by have := b1.size; simpa only [World.size_alloc] using this
  have z2 := b2.size
  have al2 : Below w2.heap.size w2 (w2.alloc (.cells #[.slice no kept.length cn, .slice none 0 0] 31)) := (Below.refl _ _).alloc (Nat.le_refl _) _
  have HB2 := hide (al1_0 w2 (.cells #[.slice no kept.length cn, .slice none 0 0] 31))
  have HA2 : Hid (RowR w 2 (.slice bo wait.length cb) wait.length (wcells wait)) := by
    obtain ⟨_, _, e, -, h⟩ := Hr.out
    simp only [Value.agg.injEq, Array.mk.injEq, List.cons.injEq, and_true] at e
    rw [e.2]; exact h
  clear k1 k2
  go_wp2
  go_loopw [4] (fun i wr => ∃ k : Nat, k ≤ wait.length ∧ i = .int .i64 k ∧ RowA wr w1.heap.size 9 1 (.slice no kept.length cn) kept.length ((flushL kept (wait.take k)).map Value.string) ∧
      wr.heap[w.heap.size]? = some (.cells #[.slice ao kept.length ca, .slice bo wait.length cb] 31 (0, 0)) ∧ wr.heap[w.heap.size + 1]? = some (.cells #[.slice none 0 0, .slice none 0 0] 31 (0, 0)) ∧
      wr.heap[w2.heap.size]? = some (.cells #[.slice no kept.length cn, .slice none 0 0] 31 (0, 0)) ∧ Below w.heap.size w wr) (fun i _ => wait.length - (intOf i).toNat)
  case atStart => exact ⟨0, Nat.zero_le _, rfl, r2.keepB al2, bKeeps al2 H0.out, bKeeps al2 H1.out, HB2.out, hbw2.trans (al2.mono (by omega))⟩
  case round =>
    obtain ⟨k, hk, rfl, hrow, B0, B1, B2, hbel⟩ := hrel
    clear p0 p1 pl
    obtain ⟨p0, p1, pl⟩ := box2 B0
    obtain ⟨q0, q1, ql⟩ := box2 B1
    obtain ⟨q2, q3⟩ := box2f B1
    obtain ⟨t0, t1, tl⟩ := box2 B2
    have G0 := hide B0
    have G1 := hide B1
    have G2 := hide B2
    clear B0 B1 B2
    by_cases hlt : k < wait.length
    · obtain ⟨⟨a, s⟩, hsk⟩ := getAt wait k hlt
      obtain ⟨ha0, ha1, -⟩ := P4.out (a, s) (List.mem_of_getElem? hsk)
      simp only at ha0 ha1
      have Hsk := hide hsk
      obtain ⟨bo', cb', e2, -, -, hc0⟩ := HA2.out
      simp only [Value.slice.injEq, true_and] at e2
      obtain ⟨rfl, rfl⟩ := e2
      obtain ⟨b, off, rfl, hc⟩ := hc0 (by omega)
      clear hc0
      obtain ⟨e0, e1⟩ := wcells_at wait k (a, s) hsk
      have g1 := hc _ _ e0
      have g2 := hc _ _ e1
      have l1 : b < w.heap.size := World.block_lt_of_cell? w _ g1
      have f1 : wr.cell? ⟨b, off + k * 2, none⟩ = some (.int .i64 a) := by rw [Nat.mul_comm k 2]; exact (hbel.cell (p := ⟨b, off + 2 * k, none⟩) l1).trans g1
      have f2 : wr.cell? ⟨b, off + k * 2 + 1, none⟩ = some (.string s) := by rw [Nat.mul_comm k 2]; exact (hbel.cell (p := ⟨b, off + (2 * k + 1), none⟩) l1).trans g2
      have hi' : (k : Int) < (wait.length : Int) := by omega
      clear hc g1 g2 e0 e1 hsk
      obtain ⟨n, rfl⟩ := Int.eq_ofNat_of_zero_le ha0
      have hn' : n < kept.length := by omega
      obtain ⟨g, cap, u, cur, ev, hS, hgh, hcu, hfu, hset⟩ := hrow.at n hn'
      have hne1 : ¬ g = w2.heap.size := by
        intro e
        have h2 := G2.out
        rw [← e, hgh] at h2
        simp at h2
      have hgl := heap_lt hgh
      simp only [Value.slice.injEq, true_and] at ev
      obtain ⟨rfl, rfl⟩ := ev
      have Hset := hide hset
      clear hset ha0
      clear hgh
      go_wp2
      go_region
      all_goals
        go_wp2
        go_roundw
        case rel =>
          have hup : Upd (fun k => k = g) wr (wr.setCell ⟨g, n, none⟩ (.string s)).drew := ⟨rfl, rfl, rfl, by simp, (Upd.setCell (S := fun k => k = g) wr g n (.string s) rfl).block⟩
          refine ⟨k + 1, by omega, by go_num, ?_, hup.keeps G0.out (by omega), hup.keeps G1.out (by omega), hup.keeps G2.out (by omega), hbel.trans (hup.below (by have := hbel.size; omega) (by intro k hk; omega))⟩
          have h1 := (Hset.out (.string s)).keepB ((Below.refl _ _).drew)
          have h2 : flushL kept (wait.take (k + 1)) = (flushL kept (wait.take k)).set n s := by
            rw [List.take_add_one, Hsk.out, Option.toList_some, flushL_snoc]
            simp
          rw [h2, List.map_set]
          exact h1
        case measure => simp [intOf]; omega
    · obtain rfl : k = wait.length := by omega
      rw [List.take_of_length_le (Nat.le_refl _)] at hrow
      go_wp2
      have hu : Upd (fun k => k = w.heap.size + 1) wr ((wr.setCell ⟨w.heap.size + 1, 0, none⟩ (.slice no kept.length cn)).setCell ⟨w.heap.size + 1, 1, none⟩ (.slice none 0 0)) :=
        upd_set2 _ _ _ _ _ _
      refine bodyPost_ret (v := .agg #[.slice no kept.length cn, .slice none 0 0]) (by simp [results, Tryd.results34, go_sem, q0, q1]) rfl ⟨_, rfl, ⟨_, _, rfl, ?_, .inl (World.ownsRow_nil _ _ _ _)⟩, ?_⟩
      · rw [flushL_len]
        exact (hrow.keep hu (by intro k hk; omega)).mono (by omega)
      · exact hbel.trans (hu.below (by have := hbel.size; omega) (by intro k hk; omega))

set_option maxHeartbeats 400000 in
theorem specSecFlushA_no (v : Value) (kept : List ByteArray) (wait : List (Int × ByteArray)) (w : World) (hr : DiskR w v kept wait) (hs : ∀ s ∈ kept, s.size ≤ 9223372036854775807) (hs' : ∀ s ∈ wait, s.2.size ≤ 9223372036854775807) (hok : okB kept wait = false) :
    Calls Tryd.prog 34 #[v] w fun e w' => ∃ v', e = .returned v' ∧ DiskAA w' w.heap.size v' [] [] ∧ Below w.heap.size w w' := by
  have Hr := hide hr
  obtain ⟨ak, aw, rfl, ⟨ao, ca, rfl, -⟩, ⟨bo, cb, rfl, -⟩⟩ := hr
  have hal : Below w.heap.size w ((w.alloc (.cells #[.slice ao kept.length ca, .slice bo wait.length cb] 31)).alloc (.cells #[.slice none 0 0, .slice none 0 0] 31)) := ((Below.refl _ _).alloc (Nat.le_refl _) _).alloc (by simp) _
  have H1 := hide (al2_1 w (.cells #[.slice ao kept.length ca, .slice bo wait.length cb] 31) (.cells #[.slice none 0 0, .slice none 0 0] 31))
  have Hs := hide hs
  have Hs' := hide hs'
  clear hs hs'
  go_enter Tryd.func34, Tryd.ntmps34
  go_wp2_with fail
  refine (specSecOk_any _ kept wait _ (Hr.out.keep hal) Hs.out Hs'.out).mono ?_
  rintro e w1 ⟨rfl, b1⟩
  rw [hok]
  have B1 := bKeeps b1 H1.out
  obtain ⟨q0, q1, ql⟩ := box2 B1
  obtain ⟨q2, q3⟩ := box2f B1
  clear B1
  go_wp2
  have hu : Upd (fun k => k = w.heap.size + 1) w1 ((w1.setCell ⟨w.heap.size + 1, 0, none⟩ (.slice none 0 0)).setCell ⟨w.heap.size + 1, 1, none⟩ (.slice none 0 0)) :=
    upd_set2 _ _ _ _ _ _
  exact bodyPost_ret (v := .agg #[.slice none 0 0, .slice none 0 0]) (by simp [results, Tryd.results34, go_sem, q0, q1]) rfl ⟨_, rfl, ⟨_, _, rfl, .inl (World.ownsRow_nil _ _ _ _), .inl (World.ownsRow_nil _ _ _ _)⟩, (bAll hal b1).trans (hu.below (by have := b1.size; simp only [World.size_alloc] at this; omega) (by intro k hk; omega))⟩

theorem specSecFlushA_any (v : Value) (kept : List ByteArray) (wait : List (Int × ByteArray)) (w : World) (hr : DiskR w v kept wait) (hs : ∀ s ∈ kept, s.size ≤ 9223372036854775807) (hs' : ∀ s ∈ wait, s.2.size ≤ 9223372036854775807) :
    Calls Tryd.prog 34 #[v] w fun e w' => ∃ v', e = .returned v' ∧ DiskAA w' w.heap.size v' (flushK kept wait) [] ∧ Below w.heap.size w w' := by
  unfold flushK
  split
  · exact specSecFlushA_yes v kept wait w hr ‹_›
  · exact specSecFlushA_no v kept wait w hr hs hs' (by simpa using ‹¬ okB kept wait = true›)

end Go.Proofs.YtapflnabiobonaaDoor
