/- Contracts and plain facts that the claims of this seat lean on (texts SpecA, SM, SRead2, WLog, OwnC); no statement of the seat is proved here. -/
import Derived.Test.YtapflnabiobonaaDoorPk2
import Derived.Test.YtapflnabiobonaaDoorPk3
import Derived.Test.YtapflnabiobonaaDoorPk1

/- The specification's functions on disks, told so that what they give may be appended to: contracts; no statement of the seat is proved here. -/
namespace Go.Proofs.YtapflnabiobonaaDoor
open Go.RowKit

theorem RowA.keepT {w w' : World} {base : Nat} {e : TypeId} {size : Nat} {T : Nat → Prop} {v : Value} {n : Nat} {cs : List Value} (h : RowA w base e size v n cs) (hb : Upd T w w') (hT : ∀ k, typed w (fun k => base ≤ k) e k → ¬ T k) : RowA w' base e size v n cs := by
  rcases h with ⟨hl, h⟩ | h
  · refine .inl ⟨hl, ?_⟩
    rcases h with h | ⟨g, cap, cur, rfl, hg, hh, h1, h2, h3, h4⟩
    · exact .inl h
    · exact .inr ⟨g, cap, cur, rfl, hg, hb.keeps hh (hT g ⟨hg, cur, hh⟩), h1, h2, h3, h4⟩
  · exact .inr h

theorem RowA.at {w : World} {base : Nat} {e : TypeId} {v : Value} {n : Nat} {cs : List Value} (h : RowA w base e 1 v n cs) (i : Nat) (hi : i < n) :
    ∃ g cap u cur, v = .slice (some ⟨g, 0, none⟩) n cap ∧ base ≤ g ∧ w.heap[g]? = some (.cells cur e (0, 0)) ∧ w.cell? ⟨g, i, none⟩ = some u ∧ w.frozen? ⟨g, i, none⟩ = false ∧
      ∀ x, RowA (w.setCell ⟨g, i, none⟩ x) base e 1 v n (cs.set i x) := by
  rcases h with ⟨hl, ⟨rfl, rfl⟩ | ⟨g, cap, cur, rfl, hg, hh, h1, h2, h3, h4⟩⟩ | ⟨rfl, _⟩
  · omega
  · obtain ⟨u, hu⟩ : ∃ u, cur[i]? = some u := ⟨cur[i]'(by omega), by simp [show i < cur.size by omega]⟩
    refine ⟨g, cap, u, cur, rfl, hg, hh, (cell_of_row w g i cur e (0, 0) hh).trans hu, frozen_of_row w g i cur e hh, fun x => .inl ⟨by simpa using hl, .inr ⟨g, cap, _, rfl, hg, heap_setCell_same w g i cur e x hh, h1, h2, by simpa using h3, ?_⟩⟩⟩
    rw [Array.toList_setIfInBounds, ← h4, List.take_set]
  · omega

def DiskAA (w : World) (base : Nat) (v : Value) (kept : List ByteArray) (wait : List (Int × ByteArray)) : Prop :=
  ∃ vk vw, v = .agg #[vk, vw] ∧ RowA w base 9 1 vk kept.length (kept.map Value.string) ∧ RowA w base 63 2 vw wait.length (wcells wait)

theorem RowA.keepL {w w' : World} {base : Nat} {e : TypeId} {size : Nat} {T : Nat → Prop} {v : Value} {n : Nat} {cs : List Value} (h : RowA w base e size v n cs) (hb : Upd T w w') (hT : ∀ k, T k → k < base) : RowA w' base e size v n cs :=
  h.keep hb (fun k hk ht => by have := hT k ht; omega)

theorem DiskAA.keepB {w w' : World} {base : Nat} {v : Value} {kept : List ByteArray} {wait : List (Int × ByteArray)} (h : DiskAA w base v kept wait) (hb : Below w.heap.size w w') : DiskAA w' base v kept wait := by
  obtain ⟨vk, vw, rfl, h1, h2⟩ := h
  exact ⟨vk, vw, rfl, h1.keepB hb, h2.keepB hb⟩
theorem DiskAA.keepU {w w' : World} {base : Nat} {T : Nat → Prop} {v : Value} {kept : List ByteArray} {wait : List (Int × ByteArray)} (h : DiskAA w base v kept wait) (hb : Upd T w w') (h1 : ∀ k, typed w (fun k => base ≤ k) 9 k → ¬ T k) (h2 : ∀ k, typed w (fun k => base ≤ k) 63 k → ¬ T k) : DiskAA w' base v kept wait := by
  obtain ⟨vk, vw, rfl, a1, a2⟩ := h
  exact ⟨vk, vw, rfl, a1.keepT hb h1, a2.keepT hb h2⟩
theorem DiskAA.mono {w : World} {base base' : Nat} {v : Value} {kept : List ByteArray} {wait : List (Int × ByteArray)} (h : DiskAA w base v kept wait) (hb : base' ≤ base) : DiskAA w base' v kept wait := by
  obtain ⟨vk, vw, rfl, a1, a2⟩ := h
  exact ⟨vk, vw, rfl, a1.mono hb, a2.mono hb⟩
theorem DiskAA.reads {w : World} {base : Nat} {v : Value} {kept : List ByteArray} {wait : List (Int × ByteArray)} (h : DiskAA w base v kept wait) (hk : kept.length ≤ 9223372036854775807) (hw : wait.length ≤ 9223372036854775807) : DiskR w v kept wait := by
  obtain ⟨vk, vw, rfl, a1, a2⟩ := h
  exact ⟨vk, vw, rfl, (a1.row hk).reads, (a2.row hw).reads⟩
theorem DiskAA.shape {w : World} {base : Nat} {v : Value} {kept : List ByteArray} {wait : List (Int × ByteArray)} (h : DiskAA w base v kept wait) : ∃ ao ca ao' ca', v = .agg #[.slice ao kept.length ca, .slice ao' wait.length ca'] := by
  obtain ⟨vk, vw, rfl, a1, a2⟩ := h
  obtain ⟨ao, ca, rfl⟩ := a1.shape
  obtain ⟨ao', ca', rfl⟩ := a2.shape
  exact ⟨ao, ca, ao', ca', rfl⟩

set_option maxRecDepth 100000 in
set_option maxHeartbeats 2000000 in
theorem l1CopyAA_any (kept : List ByteArray) (wait : List (Int × ByteArray)) (v : Value) (w : World) (hr : DiskR w v kept wait) (hk : kept.length ≤ 1048576) (hw : wait.length ≤ 1048576) :
    Calls Tryd.prog 104 #[v] w fun e w' => ∃ v', e = .returned v' ∧ DiskAA w' w.heap.size v' kept wait ∧ Below w.heap.size w w' := by
  obtain ⟨ak, aw, rfl, a1, a2⟩ := hr
  obtain ⟨ao, ca, rfl⟩ : ∃ ao ca, ak = .slice ao kept.length ca := by obtain ⟨ao, ca, h, -⟩ := a1; exact ⟨ao, ca, h⟩
  obtain ⟨bo, cb, rfl⟩ : ∃ ao ca, aw = .slice ao wait.length ca := by obtain ⟨ao, ca, h, -⟩ := a2; exact ⟨ao, ca, h⟩
  have hal : Below w.heap.size w ((w.alloc (.cells #[.slice ao kept.length ca, .slice bo wait.length cb] 31)).alloc (.cells #[.slice none 0 0, .slice none 0 0] 31)) := ((Below.refl _ _).alloc (Nat.le_refl _) _).alloc (by simp) _
  obtain ⟨W, hW⟩ : ∃ W, W = (w.alloc (.cells #[.slice ao kept.length ca, .slice bo wait.length cb] 31)).alloc (.cells #[.slice none 0 0, .slice none 0 0] 31) := ⟨_, rfl⟩
  have B0 : W.heap[w.heap.size]? = some (.cells #[.slice ao kept.length ca, .slice bo wait.length cb] 31 (0, 0)) := by rw [hW]; exact al2_0 w _ _
  have B1 : W.heap[w.heap.size + 1]? = some (.cells #[.slice none 0 0, .slice none 0 0] 31 (0, 0)) := by rw [hW]; exact al2_1 w _ _
  have hsz : W.heap.size = w.heap.size + 2 := by rw [hW]; simp
  rw [← hW] at hal
  have k1 := hide (a1.keep hal)
  have k2 := hide (a2.keep hal)
  clear a1 a2
  obtain ⟨i0, hi, hz0, hz1, hz2⟩ := info_parts infoStr
  obtain ⟨i1, gi, gz0, gz1, gz2⟩ := info_parts infoWr
  go_enter Tryd.func104, Tryd.ntmps104
  go_wp2
  rw [← hW]
  clear hW
  obtain ⟨p0, p1, pl⟩ := box2 B0
  obtain ⟨q0, q1, ql⟩ := box2 B1
  obtain ⟨q2, q3⟩ := box2f B1
  have H0 := hide B0
  have H1 := hide B1
  clear B0 B1
  go_region_held_law (fun w' => (w'.cell? ⟨w.heap.size, 0, none⟩ = some (.slice ao kept.length ca) ∧ w'.cell? ⟨w.heap.size, 1, none⟩ = some (.slice bo wait.length cb)) ∧ Below (w.heap.size + 1) W w')
    ((refine keepS p0 p1 ?_; first | (refine Below.mono (B := W.heap.size) ?_ (by omega); (repeat (first | exact Below.refl _ _ | assumption | refine bAlloc ?_ _ | refine Below.drew ?_)); done) | (refine bSet (bSet ?_ _) _; exact b2'.mono (by omega))))
    (first
    | (refine step_copyA0 rfl (.tmp 3) (.tmp 5) 22 rfl 9 i0 (.string ⟨#[]⟩) 1 16 Tryd.underlying22 hi hz0 hz1 hz2 rfl (by decide) _ rfl (.slice ao kept.length ca) kept.length (kept.map Value.string) rfl (k1.out.keep (by repeat (first | exact Below.refl _ _ | assumption | refine bAlloc ?_ _ | refine Below.drew ?_))) (strs_one _) hk (by omega) ?_; intro v1 w1 r1 b1; obtain ⟨no, cn, rfl⟩ := r1.shape; have b1' : Below W.heap.size W w1 := bAll (by repeat (first | exact Below.refl _ _ | assumption | refine bAlloc ?_ _ | refine Below.drew ?_)) b1)
    | (refine step_copyA0 rfl (.tmp 7) (.tmp 9) 29 rfl 63 i1 (.agg #[.int .i64 0, .string ⟨#[]⟩]) 2 24 Tryd.underlying29 gi gz0 gz1 gz2 rfl (by decide) _ rfl (.slice bo wait.length cb) wait.length (wcells wait) rfl (k2.out.keep (by repeat (first | exact Below.refl _ _ | assumption | refine bAlloc ?_ _ | refine Below.drew ?_))) (wcells_one _) hw (by omega) ?_; intro v2 w2 r2 b2; obtain ⟨mo, cm, rfl⟩ := r2.shape; have b2' : Below W.heap.size W w2 := bAll (by repeat (first | exact Below.refl _ _ | assumption | refine bAlloc ?_ _ | refine Below.drew ?_)) b2; obtain ⟨t0, t1, tl⟩ := box2 (bKeeps b2' H1.out); obtain ⟨t2, t3⟩ := box2f (bKeeps b2' H1.out)))
  all_goals
    go_wp2
    have hu := upd_set2 w2 (w.heap.size + 1) 0 1 (.slice no kept.length cn) (.slice mo wait.length cm)
    have hz1' := b1'.size
    have hz2' := b2'.size
    refine bodyPost_ret (v := .agg #[.slice no kept.length cn, .slice mo wait.length cm]) (by simp [results, Tryd.results104, go_sem, t0, t1]) rfl ⟨_, rfl, ⟨_, _, rfl, ?_, ?_⟩, ?_⟩
    · refine (RowA.keep (RowA.keepB r1 ?_) hu ?_).mono ?_
      · first | exact b2 | exact bAll (bAlloc (Below.refl _ _) _) b2
      · intro k hk
        try simp at hk
        omega
      · try simp
        omega
    · refine (RowA.keep r2 hu ?_).mono ?_
      · intro k hk
        try simp at hk
        omega
      · try simp
        omega
    · exact (bAll hal b2').trans (hu.below (by omega) (by intro k hk; omega))

set_option maxRecDepth 100000 in
set_option maxHeartbeats 2000000 in
theorem specSecPutA_yes (v : Value) (kept : List ByteArray) (wait : List (Int × ByteArray)) (a : Int) (s : ByteArray) (w : World) (hr : DiskR w v kept wait) (hss : s.size ≤ 9223372036854775807) (hok : okB kept wait = true) :
    Calls Tryd.prog 99 #[v, .int .i64 a, .string s] w fun e w' => ∃ v', e = .returned (.tuple #[v', .bool (putB kept wait a s)]) ∧ DiskAA w' w.heap.size v' (putK kept wait) (putW kept wait a s) ∧ Below w.heap.size w w' := by
  obtain ⟨hp1, hp2, hp3, hp4⟩ := okB_parts hok
  have Hr := hide hr
  obtain ⟨ak, aw, rfl, ⟨ao, ca, rfl, -⟩, ⟨bo, cb, rfl, -⟩⟩ := hr
  have hal : Below w.heap.size w ((w.alloc (.cells #[.slice ao kept.length ca, .slice bo wait.length cb] 31)).alloc (.cells #[.slice none 0 0, .slice none 0 0] 31)) := ((Below.refl _ _).alloc (Nat.le_refl _) _).alloc (by simp) _
  have H0 := hide (al2_0 w (.cells #[.slice ao kept.length ca, .slice bo wait.length cb] 31) (.cells #[.slice none 0 0, .slice none 0 0] 31))
  have H1 := hide (al2_1 w (.cells #[.slice ao kept.length ca, .slice bo wait.length cb] 31) (.cells #[.slice none 0 0, .slice none 0 0] 31))
  have P3 := hide hp3
  have P4 := hide hp4
  clear hp3 hp4
  have HK : Hid (putK kept wait = kept) := by show _ = _; simp [putK, hok]
  obtain ⟨i1, gi, gz0, gz1, gz2⟩ := info_parts infoWr
  go_enter Tryd.func99, Tryd.ntmps99
  go_wp2_with fail
  refine (specSecOk_any _ kept wait _ (Hr.out.keep hal) (fun s hs => by have := P3.out s hs; omega) (fun s hs => by have := (P4.out s hs).2.2; omega)).mono ?_
  rintro e w1 ⟨rfl, b1⟩
  rw [hok]
  have HOK := hide hok
  clear hok
  have z1 : w.heap.size + 1 + 1 ≤ w1.heap.size := by have := b1.size; simpa only [World.size_alloc] using this
  have c1 := bAll hal b1
  replace H0 := hide (bKeeps b1 H0.out)
  replace H1 := hide (bKeeps b1 H1.out)
  obtain ⟨p0, p1, pl⟩ := box2 H0.out
  go_wp2_with fail
  refine (l1CopyAA_any kept wait _ _ (Hr.out.keep c1) (by omega) (by omega)).mono ?_
  rintro e w2 ⟨v2, rfl, ⟨vk, vw, rfl, r2, s2⟩, b2⟩
  obtain ⟨no, cn, rfl⟩ := r2.shape
  obtain ⟨mo, cm, rfl⟩ := s2.shape
  have z2 := b2.size
  have al2 : Below w2.heap.size w2 (w2.alloc (.cells #[.slice no kept.length cn, .slice mo wait.length cm] 31)) := (Below.refl _ _).alloc (Nat.le_refl _) _
  have H2 := hide (al1_0 w2 (.cells #[.slice no kept.length cn, .slice mo wait.length cm] 31))
  replace H0 := hide (bKeeps al2 (bKeeps b2 H0.out))
  replace H1 := hide (bKeeps al2 (bKeeps b2 H1.out))
  clear p0 p1 pl
  obtain ⟨p0, p1, pl⟩ := box2 H0.out
  go_wp2_with fail
  refine (l1WriteOk_any kept.length a s _ (by omega) hss).mono ?_
  rintro e w' ⟨rfl, rfl⟩
  clear p0 p1 pl
  obtain ⟨w', hW⟩ : ∃ W, W = w2.alloc (.cells #[.slice no kept.length cn, .slice mo wait.length cm] 31) := ⟨_, rfl⟩
  have ZW : Hid (w'.heap.size = w2.heap.size + 1) := by show _ = _; rw [hW]; simp
  rw [← hW] at al2 H2 H0 H1 ⊢
  clear hW
  have cW : Below w.heap.size w w' := bAll (bAll c1 b2) al2
  replace r2 := r2.keepB al2
  replace s2 := s2.keepB al2
  obtain ⟨p0, p1, pl⟩ := box2 H0.out
  obtain ⟨q0, q1, ql⟩ := box2 H1.out
  obtain ⟨q2, q3⟩ := box2f H1.out
  obtain ⟨t0, t1, tl⟩ := box2 H2.out
  obtain ⟨t2, t3⟩ := box2f H2.out
  have hu := upd_set2 w' (w.heap.size + 1) 0 1 (.slice no kept.length cn) (.slice mo wait.length cm)
  have D2 : DiskAA ((w'.setCell ⟨w.heap.size + 1, 0, none⟩ (.slice no kept.length cn)).setCell ⟨w.heap.size + 1, 1, none⟩ (.slice mo wait.length cm)) w.heap.size (.agg #[.slice no kept.length cn, .slice mo wait.length cm]) kept wait :=
    ⟨_, _, rfl, (r2.keep hu (fun k hk => by omega)).mono (by omega), (s2.keep hu (fun k hk => by omega)).mono (by omega)⟩
  cases hB : writeOkB kept.length (a, s)
  · have HX : Hid (putB kept wait a s = false ∧ putW kept wait a s = wait) := by
      have h1 : putB kept wait a s = false := by simp [putB, hB]
      exact ⟨h1, by simp [putW, h1, HOK.out]⟩
    clear hB
    go_wp2
    refine bodyPost_ret (v := .tuple #[.agg #[.slice no kept.length cn, .slice mo wait.length cm], .bool false]) (by simp [results, Tryd.results99, go_sem, q0, q1]) rfl ⟨.agg #[.slice no kept.length cn, .slice mo wait.length cm], ?_, ?_, ?_⟩
    · rw [HX.out.1]
    · rw [HX.out.2, HK.out]
      exact D2
    · exact cW.trans (hu.below (by have := unhide ZW; omega) (by intro k hk; omega))
  · by_cases hlen : (wait.length : Int) ≥ 600
    · have HX : Hid (putB kept wait a s = false ∧ putW kept wait a s = wait) := by
        have h1 : putB kept wait a s = false := by simp [putB, show ¬ wait.length < 600 by omega]
        exact ⟨h1, by simp [putW, h1, HOK.out]⟩
      clear hB
      go_wp2
      refine bodyPost_ret (v := .tuple #[.agg #[.slice no kept.length cn, .slice mo wait.length cm], .bool false]) (by simp [results, Tryd.results99, go_sem, q0, q1]) rfl ⟨.agg #[.slice no kept.length cn, .slice mo wait.length cm], ?_, ?_, ?_⟩
      · rw [HX.out.1]
      · rw [HX.out.2, HK.out]
        exact D2
      · exact cW.trans (hu.below (by have := unhide ZW; omega) (by intro k hk; omega))
    · have HX : Hid (putB kept wait a s = true ∧ putW kept wait a s = wait ++ [(a, s)]) := by
        have h1 : putB kept wait a s = true := by simp [putB, hB, HOK.out, show wait.length < 600 by omega]
        exact ⟨h1, by simp [putW, h1, HOK.out]⟩
      clear hB D2 hu
      have al3 : Below w'.heap.size w' (w'.alloc (.cells #[.int .i64 a, .string s] 63)) := (Below.refl _ _).alloc (Nat.le_refl _) _
      have s3 := s2.keepB al3
      have r3 := r2.keepB al3
      have N3 := hide (new_cells w' a s 63)
      replace H0 := hide (bKeeps al3 H0.out)
      replace H1 := hide (bKeeps al3 H1.out)
      replace H2 := hide (bKeeps al3 H2.out)
      go_wp2_with (at_builtin; refine wpList_appendA _ rfl _ _ 29 rfl w1.heap.size 63 i1 (.agg #[.int .i64 0, .string ⟨#[]⟩]) 2 24 Tryd.underlying29 gi gz0 gz1 gz2 rfl (by decide) _ wait.length (wcells wait) rfl s3 ⟨w'.heap.size, 0, none⟩ 1 1 [.int .i64 a, .string s] rfl rfl N3.out (new_one a s) (by decide) ?q63 ?qby ?qbase ?_)
      case q63 => unfold maxLen; omega
      case qby => omega
      case qbase => have := unhide ZW; simp; omega
      intro v4 w4 hown u4
      have zW := unhide ZW
      have z4 := u4.size
      simp only [World.size_alloc] at z4
      have r4 := r3.keepT u4 (fun k => typed_apart (by decide) k)
      have s4 : RowA w4 w1.heap.size 63 2 v4 (wait.length + 1) (wcells wait ++ [.int .i64 a, .string s]) := .inl hown
      obtain ⟨mo', cm', rfl⟩ := s4.shape
      have H1' := u4.keeps H1.out (typed_box H1.out (by decide) rfl)
      have H2' := u4.keeps H2.out (typed_box H2.out (by decide) rfl)
      clear p0 p1 pl q0 q1 ql q2 q3 t0 t1 tl t2 t3
      obtain ⟨q0, q1, ql⟩ := box2 H1'
      obtain ⟨q2, q3⟩ := box2f H1'
      obtain ⟨t0, t1, tl⟩ := box2 H2'
      obtain ⟨t2, t3⟩ := box2f H2'
      have G1 := hide H1'
      have G2 := hide H2'
      clear hown H1' H2'
      have hne : ¬ w.heap.size + 1 = w2.heap.size := by omega
      have hne' : ¬ w2.heap.size = w.heap.size + 1 := by omega
      go_wp2
      have hu := (Upd.setCell (S := fun k => k = w2.heap.size ∨ k = w.heap.size + 1) w4 w2.heap.size 1 (.slice mo' (wait.length + 1) cm') (.inl rfl)).trans ((upd_set2 _ (w.heap.size + 1) 0 1 (.slice no kept.length cn) (.slice mo' (wait.length + 1) cm')).mono (fun k h => .inr h))
      refine bodyPost_ret (v := .tuple #[.agg #[.slice no kept.length cn, .slice mo' (wait.length + 1) cm'], .bool true]) (by simp [results, Tryd.results99, go_sem, q0, q1]) rfl ⟨.agg #[.slice no kept.length cn, .slice mo' (wait.length + 1) cm'], ?_, ?_, ?_⟩
      · rw [HX.out.1]
      · rw [HX.out.2, HK.out]
        refine ⟨_, _, rfl, ?_, ?_⟩
        · exact (r4.keepT hu (by rintro k ht (rfl | rfl); exact typed_box G2.out (by decide) rfl ht; exact typed_box G1.out (by decide) rfl ht)).mono (by omega)
        · rw [wcells_snoc, List.length_append]
          exact (s4.keepT hu (by rintro k ht (rfl | rfl); exact typed_box G2.out (by decide) rfl ht; exact typed_box G1.out (by decide) rfl ht)).mono (by omega)
      · exact ((cW.trans (al3.mono (by omega))).trans (u4.below (by simp; omega) (fun k h => by have := h.1; omega))).trans (hu.below (by omega) (by intro k hk; omega))

set_option maxHeartbeats 400000 in
theorem specSecPutA_no (v : Value) (kept : List ByteArray) (wait : List (Int × ByteArray)) (a : Int) (s : ByteArray) (w : World) (hr : DiskR w v kept wait) (hs : ∀ s ∈ kept, s.size ≤ 9223372036854775807) (hs' : ∀ s ∈ wait, s.2.size ≤ 9223372036854775807) (hok : okB kept wait = false) :
    Calls Tryd.prog 99 #[v, .int .i64 a, .string s] w fun e w' => ∃ v', e = .returned (.tuple #[v', .bool (putB kept wait a s)]) ∧ DiskAA w' w.heap.size v' (putK kept wait) (putW kept wait a s) ∧ Below w.heap.size w w' := by
  have Hr := hide hr
  obtain ⟨ak, aw, rfl, ⟨ao, ca, rfl, -⟩, ⟨bo, cb, rfl, -⟩⟩ := hr
  have hal : Below w.heap.size w ((w.alloc (.cells #[.slice ao kept.length ca, .slice bo wait.length cb] 31)).alloc (.cells #[.slice none 0 0, .slice none 0 0] 31)) := ((Below.refl _ _).alloc (Nat.le_refl _) _).alloc (by simp) _
  have H1 := hide (al2_1 w (.cells #[.slice ao kept.length ca, .slice bo wait.length cb] 31) (.cells #[.slice none 0 0, .slice none 0 0] 31))
  have Hs := hide hs
  have Hs' := hide hs'
  clear hs hs'
  have HX : Hid (putB kept wait a s = false ∧ putK kept wait = [] ∧ putW kept wait a s = []) := ⟨by simp [putB, hok], by simp [putK, hok], by simp [putW, hok]⟩
  go_enter Tryd.func99, Tryd.ntmps99
  go_wp2_with fail
  refine (specSecOk_any _ kept wait _ (Hr.out.keep hal) Hs.out Hs'.out).mono ?_
  rintro e w1 ⟨rfl, b1⟩
  rw [hok]
  have B1 := bKeeps b1 H1.out
  obtain ⟨q0, q1, ql⟩ := box2 B1
  obtain ⟨q2, q3⟩ := box2f B1
  clear B1
  go_wp2
  have hu : Upd (fun k => k = w.heap.size + 1) w1 ((w1.setCell ⟨w.heap.size + 1, 0, none⟩ (.slice none 0 0)).setCell ⟨w.heap.size + 1, 1, none⟩ (.slice none 0 0)) :=
    upd_set2 _ _ _ _ _ _
  refine bodyPost_ret (v := .tuple #[.agg #[.slice none 0 0, .slice none 0 0], .bool false]) (by simp [results, Tryd.results99, go_sem, q0, q1]) rfl ⟨.agg #[.slice none 0 0, .slice none 0 0], ?_, ?_, (bAll hal b1).trans (hu.below (by have := b1.size; simp only [World.size_alloc] at this; omega) (by intro k hk; omega))⟩
  · rw [HX.out.1]
  · rw [HX.out.2.1, HX.out.2.2]
    exact ⟨_, _, rfl, .inl (World.ownsRow_nil _ _ _ _), .inl (World.ownsRow_nil _ _ _ _)⟩

theorem specSecPutA_any (v : Value) (kept : List ByteArray) (wait : List (Int × ByteArray)) (a : Int) (s : ByteArray) (w : World) (hr : DiskR w v kept wait) (hs : ∀ s ∈ kept, s.size ≤ 9223372036854775807) (hs' : ∀ s ∈ wait, s.2.size ≤ 9223372036854775807) (hss : s.size ≤ 9223372036854775807) :
    Calls Tryd.prog 99 #[v, .int .i64 a, .string s] w fun e w' => ∃ v', e = .returned (.tuple #[v', .bool (putB kept wait a s)]) ∧ DiskAA w' w.heap.size v' (putK kept wait) (putW kept wait a s) ∧ Below w.heap.size w w' := by
  cases hok : okB kept wait
  · exact specSecPutA_no v kept wait a s w hr hs hs' hok
  · exact specSecPutA_yes v kept wait a s w hr hss hok

set_option maxRecDepth 100000 in
set_option maxHeartbeats 2000000 in
theorem specSecFlushA_yes (v : Value) (kept : List ByteArray) (wait : List (Int × ByteArray)) (w : World) (hr : DiskR w v kept wait) (hok : okB kept wait = true) :
    Calls Tryd.prog 34 #[v] w fun e w' => ∃ v', e = .returned v' ∧ DiskAA w' w.heap.size v' (flushL kept wait) [] ∧ Below w.heap.size w w' := by
  obtain ⟨hp1, hp2, hp3, hp4⟩ := okB_parts hok
  have Hr := hide hr
  obtain ⟨ak, aw, rfl, a1, a2⟩ := hr
  obtain ⟨ao, ca, rfl⟩ : ∃ ao ca, ak = .slice ao kept.length ca := by obtain ⟨ao, ca, h, -⟩ := a1; exact ⟨ao, ca, h⟩
  obtain ⟨bo, cb, rfl⟩ : ∃ ao ca, aw = .slice ao wait.length ca := by obtain ⟨ao, ca, h, -⟩ := a2; exact ⟨ao, ca, h⟩
  have hal : Below w.heap.size w ((w.alloc (.cells #[.slice ao kept.length ca, .slice bo wait.length cb] 31)).alloc (.cells #[.slice none 0 0, .slice none 0 0] 31)) := ((Below.refl _ _).alloc (Nat.le_refl _) _).alloc (by simp) _
  have H0 := hide (al2_0 w (.cells #[.slice ao kept.length ca, .slice bo wait.length cb] 31) (.cells #[.slice none 0 0, .slice none 0 0] 31))
  have H1 := hide (al2_1 w (.cells #[.slice ao kept.length ca, .slice bo wait.length cb] 31) (.cells #[.slice none 0 0, .slice none 0 0] 31))
  have P3 := hide hp3
  have P4 := hide hp4
  clear hp3 hp4
  obtain ⟨i0, hi, hz0, hz1, hz2⟩ := info_parts infoStr
  go_enter Tryd.func34, Tryd.ntmps34
  go_wp2_with fail
  refine (specSecOk_any _ kept wait _ (Hr.out.keep hal) (fun s hs => by have := P3.out s hs; omega) (fun s hs => by have := (P4.out s hs).2.2; omega)).mono ?_
  rintro e w1 ⟨rfl, b1⟩
  rw [hok]
  have B0 := bKeeps b1 H0.out
  have B1 := bKeeps b1 H1.out
  clear H0 H1
  obtain ⟨p0, p1, pl⟩ := box2 B0
  have H0 := hide B0
  have H1 := hide B1
  clear B0 B1
  have k1 := a1.keep (bAll hal b1)
  have k2 := a2.keep (bAll hal b1)
  clear a1 a2
  go_wp2_with (at_builtin; refine wpList_append_row _ rfl _ _ 22 rfl w1.heap.size 9 i0 (.string ⟨#[]⟩) 1 16 Tryd.underlying22 hi hz0 hz1 hz2 rfl (by decide) _ 0 [] rfl ?qown _ kept.length (kept.map Value.string) rfl ?qrow (strs_one _) ?q63 ?qby ?qbase ?_)
  case qown => exact World.ownsRow_lit w1 #[] 0 (Nat.le_refl _) (by unfold maxLen; omega) rfl
  case qrow => exact k1.keep ((Below.refl _ _).alloc (Nat.le_refl _) _)
  case q63 => unfold maxLen; omega
  case qby => omega
  case qbase => simp
  intro v' w2 hown hgr
  try simp only [Nat.zero_add, List.nil_append] at hown
  have r2 : RowA w2 w1.heap.size 9 1 v' kept.length (kept.map Value.string) := .inl hown
  have b2 : Below w1.heap.size w1 w2 := ((Below.refl _ _).alloc (Nat.le_refl _) (.cells #[] 9)).grown hgr (by simp) (fun k e => by simp [Value.ownBlock] at e; omega)
  obtain ⟨no, cn, rfl⟩ := r2.shape
  clear hown hgr
  have B0 := bKeeps b2 H0.out
  have B1 := bKeeps b2 H1.out
  clear p0 p1 pl H0 H1
  obtain ⟨p0, p1, pl⟩ := box2 B0
  have H0 := hide B0
  have H1 := hide B1
  clear B0 B1
  have hbw2 : Below w.heap.size w w2 := (bAll hal b1).trans (b2.mono (by have := b1.size; simp only [World.size_alloc] at this; omega))
  have z1 : w.heap.size + 1 + 1 ≤ w1.heap.size := by have := b1.size; simpa only [World.size_alloc] using this
  have z2 := b2.size
  have al2 : Below w2.heap.size w2 (w2.alloc (.cells #[.slice no kept.length cn, .slice none 0 0] 31)) := (Below.refl _ _).alloc (Nat.le_refl _) _
  have HB2 := hide (al1_0 w2 (.cells #[.slice no kept.length cn, .slice none 0 0] 31))
  have HA2 : Hid (RowR w 2 (.slice bo wait.length cb) wait.length (wcells wait)) := by
    obtain ⟨_, _, e, -, h⟩ := Hr.out
    simp only [Value.agg.injEq, Array.mk.injEq, List.cons.injEq, and_true] at e
    rw [e.2]; exact h
  clear k1 k2
  go_wp2
  go_loopw [4] (fun i wr => ∃ k : Nat, k ≤ wait.length ∧ i = .int .i64 k ∧ RowA wr w1.heap.size 9 1 (.slice no kept.length cn) kept.length ((flushL kept (wait.take k)).map Value.string) ∧
      wr.heap[w.heap.size]? = some (.cells #[.slice ao kept.length ca, .slice bo wait.length cb] 31 (0, 0)) ∧ wr.heap[w.heap.size + 1]? = some (.cells #[.slice none 0 0, .slice none 0 0] 31 (0, 0)) ∧
      wr.heap[w2.heap.size]? = some (.cells #[.slice no kept.length cn, .slice none 0 0] 31 (0, 0)) ∧ Below w.heap.size w wr) (fun i _ => wait.length - (intOf i).toNat)
  case atStart => exact ⟨0, Nat.zero_le _, rfl, r2.keepB al2, bKeeps al2 H0.out, bKeeps al2 H1.out, HB2.out, hbw2.trans (al2.mono (by omega))⟩
  case round =>
    obtain ⟨k, hk, rfl, hrow, B0, B1, B2, hbel⟩ := hrel
    clear p0 p1 pl
    obtain ⟨p0, p1, pl⟩ := box2 B0
    obtain ⟨q0, q1, ql⟩ := box2 B1
    obtain ⟨q2, q3⟩ := box2f B1
    obtain ⟨t0, t1, tl⟩ := box2 B2
    have G0 := hide B0
    have G1 := hide B1
    have G2 := hide B2
    clear B0 B1 B2
    by_cases hlt : k < wait.length
    · obtain ⟨⟨a, s⟩, hsk⟩ := getAt wait k hlt
      obtain ⟨ha0, ha1, -⟩ := P4.out (a, s) (List.mem_of_getElem? hsk)
      simp only at ha0 ha1
      have Hsk := hide hsk
      obtain ⟨bo', cb', e2, -, -, hc0⟩ := HA2.out
      simp only [Value.slice.injEq, true_and] at e2
      obtain ⟨rfl, rfl⟩ := e2
      obtain ⟨b, off, rfl, hc⟩ := hc0 (by omega)
      clear hc0
      obtain ⟨e0, e1⟩ := wcells_at wait k (a, s) hsk
      have g1 := hc _ _ e0
      have g2 := hc _ _ e1
      have l1 : b < w.heap.size := World.block_lt_of_cell? w _ g1
      have f1 : wr.cell? ⟨b, off + k * 2, none⟩ = some (.int .i64 a) := by rw [Nat.mul_comm k 2]; exact (hbel.cell (p := ⟨b, off + 2 * k, none⟩) l1).trans g1
      have f2 : wr.cell? ⟨b, off + k * 2 + 1, none⟩ = some (.string s) := by rw [Nat.mul_comm k 2]; exact (hbel.cell (p := ⟨b, off + (2 * k + 1), none⟩) l1).trans g2
      have hi' : (k : Int) < (wait.length : Int) := by omega
      clear hc g1 g2 e0 e1 hsk
      obtain ⟨n, rfl⟩ := Int.eq_ofNat_of_zero_le ha0
      have hn' : n < kept.length := by omega
      obtain ⟨g, cap, u, cur, ev, hS, hgh, hcu, hfu, hset⟩ := hrow.at n hn'
      have hne1 : ¬ g = w2.heap.size := by
        intro e
        have h2 := G2.out
        rw [← e, hgh] at h2
        simp at h2
      have hgl := heap_lt hgh
      simp only [Value.slice.injEq, true_and] at ev
      obtain ⟨rfl, rfl⟩ := ev
      have Hset := hide hset
      clear hset ha0
      clear hgh
      go_wp2
      go_region
      all_goals
        go_wp2
        go_roundw
        case rel =>
          have hup : Upd (fun k => k = g) wr (wr.setCell ⟨g, n, none⟩ (.string s)).drew := ⟨rfl, rfl, rfl, by simp, (Upd.setCell (S := fun k => k = g) wr g n (.string s) rfl).block⟩
          refine ⟨k + 1, by omega, by go_num, ?_, hup.keeps G0.out (by omega), hup.keeps G1.out (by omega), hup.keeps G2.out (by omega), hbel.trans (hup.below (by have := hbel.size; omega) (by intro k hk; omega))⟩
          have h1 := (Hset.out (.string s)).keepB ((Below.refl _ _).drew)
          have h2 : flushL kept (wait.take (k + 1)) = (flushL kept (wait.take k)).set n s := by
            rw [List.take_add_one, Hsk.out, Option.toList_some, flushL_snoc]
            simp
          rw [h2, List.map_set]
          exact h1
        case measure => simp [intOf]; omega
    · obtain rfl : k = wait.length := by omega
      rw [List.take_of_length_le (Nat.le_refl _)] at hrow
      go_wp2
      have hu : Upd (fun k => k = w.heap.size + 1) wr ((wr.setCell ⟨w.heap.size + 1, 0, none⟩ (.slice no kept.length cn)).setCell ⟨w.heap.size + 1, 1, none⟩ (.slice none 0 0)) :=
        upd_set2 _ _ _ _ _ _
      refine bodyPost_ret (v := .agg #[.slice no kept.length cn, .slice none 0 0]) (by simp [results, Tryd.results34, go_sem, q0, q1]) rfl ⟨_, rfl, ⟨_, _, rfl, ?_, .inl (World.ownsRow_nil _ _ _ _)⟩, ?_⟩
      · rw [flushL_len]
        exact (hrow.keep hu (by intro k hk; omega)).mono (by omega)
      · exact hbel.trans (hu.below (by have := hbel.size; omega) (by intro k hk; omega))

set_option maxHeartbeats 400000 in
theorem specSecFlushA_no (v : Value) (kept : List ByteArray) (wait : List (Int × ByteArray)) (w : World) (hr : DiskR w v kept wait) (hs : ∀ s ∈ kept, s.size ≤ 9223372036854775807) (hs' : ∀ s ∈ wait, s.2.size ≤ 9223372036854775807) (hok : okB kept wait = false) :
    Calls Tryd.prog 34 #[v] w fun e w' => ∃ v', e = .returned v' ∧ DiskAA w' w.heap.size v' [] [] ∧ Below w.heap.size w w' := by
  have Hr := hide hr
  obtain ⟨ak, aw, rfl, ⟨ao, ca, rfl, -⟩, ⟨bo, cb, rfl, -⟩⟩ := hr
  have hal : Below w.heap.size w ((w.alloc (.cells #[.slice ao kept.length ca, .slice bo wait.length cb] 31)).alloc (.cells #[.slice none 0 0, .slice none 0 0] 31)) := ((Below.refl _ _).alloc (Nat.le_refl _) _).alloc (by simp) _
  have H1 := hide (al2_1 w (.cells #[.slice ao kept.length ca, .slice bo wait.length cb] 31) (.cells #[.slice none 0 0, .slice none 0 0] 31))
  have Hs := hide hs
  have Hs' := hide hs'
  clear hs hs'
  go_enter Tryd.func34, Tryd.ntmps34
  go_wp2_with fail
  refine (specSecOk_any _ kept wait _ (Hr.out.keep hal) Hs.out Hs'.out).mono ?_
  rintro e w1 ⟨rfl, b1⟩
  rw [hok]
  have B1 := bKeeps b1 H1.out
  obtain ⟨q0, q1, ql⟩ := box2 B1
  obtain ⟨q2, q3⟩ := box2f B1
  clear B1
  go_wp2
  have hu : Upd (fun k => k = w.heap.size + 1) w1 ((w1.setCell ⟨w.heap.size + 1, 0, none⟩ (.slice none 0 0)).setCell ⟨w.heap.size + 1, 1, none⟩ (.slice none 0 0)) :=
    upd_set2 _ _ _ _ _ _
  exact bodyPost_ret (v := .agg #[.slice none 0 0, .slice none 0 0]) (by simp [results, Tryd.results34, go_sem, q0, q1]) rfl ⟨_, rfl, ⟨_, _, rfl, .inl (World.ownsRow_nil _ _ _ _), .inl (World.ownsRow_nil _ _ _ _)⟩, (bAll hal b1).trans (hu.below (by have := b1.size; simp only [World.size_alloc] at this; omega) (by intro k hk; omega))⟩

theorem specSecFlushA_any (v : Value) (kept : List ByteArray) (wait : List (Int × ByteArray)) (w : World) (hr : DiskR w v kept wait) (hs : ∀ s ∈ kept, s.size ≤ 9223372036854775807) (hs' : ∀ s ∈ wait, s.2.size ≤ 9223372036854775807) :
    Calls Tryd.prog 34 #[v] w fun e w' => ∃ v', e = .returned v' ∧ DiskAA w' w.heap.size v' (flushK kept wait) [] ∧ Below w.heap.size w w' := by
  unfold flushK
  split
  · exact specSecFlushA_yes v kept wait w hr ‹_›
  · exact specSecFlushA_no v kept wait w hr hs hs' (by simpa using ‹¬ okB kept wait = true›)

end Go.Proofs.YtapflnabiobonaaDoor

/- Plain facts on disks as lists: what a flush, a loss of power and a write leave; no statement of the seat is proved here. -/
namespace Go.Proofs.YtapflnabiobonaaDoor

theorem flushL_at (kept : List ByteArray) (wait : List (Int × ByteArray)) (i : Nat) : (flushL kept wait)[i]? = kept[i]? ∨ ∃ x ∈ wait, x.1.toNat = i ∧ (flushL kept wait)[i]? = some x.2 := by
  unfold flushL
  induction wait generalizing kept with
  | nil => exact .inl rfl
  | cons x xs ih =>
    simp only [List.foldl_cons]
    rcases ih (kept.set x.1.toNat x.2) with h | ⟨y, hy, h1, h2⟩
    · by_cases e : x.1.toNat = i
      · by_cases hl : i < kept.length
        · exact .inr ⟨x, List.mem_cons_self, e, by rw [h, e, List.getElem?_set_self hl]⟩
        · refine .inl ?_
          rw [h, List.getElem?_eq_none (by simp; omega), List.getElem?_eq_none (by omega)]
      · exact .inl (by rw [h, List.getElem?_set_ne e])
    · exact .inr ⟨y, List.mem_cons_of_mem _ hy, h1, h2⟩

theorem flushL_all {kept : List ByteArray} {wait : List (Int × ByteArray)} {P : ByteArray → Prop} (h1 : ∀ s ∈ kept, P s) (h2 : ∀ x ∈ wait, P x.2) : ∀ s ∈ flushL kept wait, P s := by
  intro s hs
  obtain ⟨i, hi⟩ := List.getElem?_of_mem hs
  rcases flushL_at kept wait i with h | ⟨x, hx, -, h⟩
  · rw [hi] at h
    exact h1 s (List.mem_of_getElem? h.symm)
  · rw [hi] at h
    rw [Option.some.inj h]
    exact h2 x hx

theorem okB_mk {kept : List ByteArray} {wait : List (Int × ByteArray)} (h1 : kept.length ≤ 512) (h2 : wait.length ≤ 600) (h3 : ∀ s ∈ kept, s.size ≤ 16) (h4 : ∀ x ∈ wait, 0 ≤ x.1 ∧ x.1 < kept.length ∧ x.2.size ≤ 16) : okB kept wait = true := by
  simp only [okB, Bool.and_eq_true, decide_eq_true_eq, List.all_eq_true, writeOkB, inB]
  exact ⟨⟨⟨h1, h2⟩, h3⟩, fun x hx => by have := h4 x hx; omega⟩

theorem ok_flush {kept : List ByteArray} {wait : List (Int × ByteArray)} (h : okB kept wait = true) : okB (flushL kept wait) [] = true := by
  obtain ⟨h1, h2, h3, h4⟩ := okB_parts h
  exact okB_mk (by rw [flushL_len]; exact h1) (by simp) (flushL_all h3 (fun x hx => (h4 x hx).2.2)) (by simp)

theorem okB_nil : okB [] [] = true := by decide

theorem ok_flushK (kept : List ByteArray) (wait : List (Int × ByteArray)) : okB (flushK kept wait) [] = true := by
  unfold flushK
  split
  · exact ok_flush ‹_›
  · exact okB_nil

theorem cutK_nil {kept : List ByteArray} (ks : List Int) (h : okB kept [] = true) : cutK kept [] ks = kept := by simp [cutK, h, cutL, selL, flushL]

theorem lookB_flush {kept : List ByteArray} {wait : List (Int × ByteArray)} (h : okB kept wait = true) (a : Int) : lookB (flushL kept wait) [] a = lookB kept wait a := by
  have e : flushL (flushL kept wait) [] = flushL kept wait := rfl
  simp only [lookB, h, ok_flush h, flushL_len, e]

theorem cutK_at {kept : List ByteArray} {wait : List (Int × ByteArray)} (ks : List Int) (h : okB kept wait = true) (i : Nat) (s : ByteArray) (hs : (cutK kept wait ks)[i]? = some s) : kept[i]? = some s ∨ (((i : Nat) : Int), s) ∈ wait := by
  obtain ⟨h1, h2, h3, h4⟩ := okB_parts h
  simp only [cutK, h, if_true, cutL] at hs
  rcases flushL_at kept (selL wait ks (List.range wait.length)) i with e | ⟨x, hx, hi, e⟩
  · exact .inl (by rw [← e]; exact hs)
  · have hm := selL_mem (Nat.le_refl _) hx
    have := h4 x hm
    rw [hs] at e
    rw [Option.some.inj e, show ((i : Nat) : Int) = x.1 by omega]
    exact .inr hm

theorem ok_cutK (kept : List ByteArray) (wait : List (Int × ByteArray)) (ks : List Int) : okB (cutK kept wait ks) [] = true := by
  unfold cutK
  split
  · rename_i h
    obtain ⟨h1, h2, h3, h4⟩ := okB_parts h
    exact okB_mk (by rw [cutL, flushL_len]; exact h1) (by simp) (flushL_all h3 (fun x hx => (h4 x (selL_mem (Nat.le_refl _) hx)).2.2)) (by simp)
  · exact okB_nil

theorem put_true {kept : List ByteArray} {wait : List (Int × ByteArray)} {a : Int} {s : ByteArray} (h : putB kept wait a s = true) :
    okB kept wait = true ∧ 0 ≤ a ∧ a < kept.length ∧ s.size ≤ 16 ∧ putK kept wait = kept ∧ putW kept wait a s = wait ++ [(a, s)] ∧ okB kept (wait ++ [(a, s)]) = true := by
  have h0 := h
  simp only [putB, Bool.and_eq_true, decide_eq_true_eq, writeOkB, inB] at h0
  obtain ⟨hok, ⟨⟨ha, hb⟩, hc⟩, hd⟩ := h0
  obtain ⟨h1, h2, h3, h4⟩ := okB_parts hok
  refine ⟨hok, ha, by omega, hc, by simp [putK, hok], by simp [putW, hok, h], okB_mk h1 (by simp; omega) h3 (fun x hx => ?_)⟩
  rcases List.mem_append.1 hx with hx | hx
  · exact h4 x hx
  · rw [List.mem_singleton] at hx
    subst hx
    exact ⟨ha, by simp only; omega, hc⟩

theorem put_false {kept : List ByteArray} {wait : List (Int × ByteArray)} {a : Int} {s : ByteArray} (h : putB kept wait a s = false) :
    (okB kept wait = false ∧ putK kept wait = [] ∧ putW kept wait a s = []) ∨ (okB kept wait = true ∧ putK kept wait = kept ∧ putW kept wait a s = wait) := by
  cases hok : okB kept wait
  · exact .inl ⟨rfl, by simp [putK, hok], by simp [putW, hok]⟩
  · exact .inr ⟨rfl, by simp [putK, hok], by simp [putW, hok, h]⟩

theorem lookB_put {kept : List ByteArray} {wait : List (Int × ByteArray)} {a : Int} {s : ByteArray} (h : putB kept wait a s = true) (i : Nat) (hi : i < kept.length) :
    lookB kept (wait ++ [(a, s)]) (i : Int) = if (i : Int) = a then s else lookB kept wait (i : Int) := by
  obtain ⟨hok, ha, hb, hc, -, -, hok2⟩ := put_true h
  have hin : inB (i : Int) 0 ((kept.length : Int) - 1) = true := by simp [inB]; omega
  simp only [lookB, hok, hok2, hin, and_self, if_true, flushL_snoc, Int.toNat_natCast]
  by_cases e : (i : Int) = a
  · rw [if_pos e, show a.toNat = i by omega, List.getElem?_set_self (by rw [flushL_len]; exact hi)]
    rfl
  · rw [if_neg e, List.getElem?_set_ne (by omega)]

theorem flushK_swap {kept : List ByteArray} {wait : List (Int × ByteArray)} {a b : Int} {s t : ByteArray} (hab : a ≠ b) (ha : 0 ≤ a) (hb : 0 ≤ b) (h1 : okB kept ((wait ++ [(a, s)]) ++ [(b, t)]) = true) (h2 : okB kept ((wait ++ [(b, t)]) ++ [(a, s)]) = true) :
    flushK kept ((wait ++ [(a, s)]) ++ [(b, t)]) = flushK kept ((wait ++ [(b, t)]) ++ [(a, s)]) := by
  simp only [flushK, h1, h2, if_true, flushL_snoc]
  exact List.set_comm _ _ (by omega)

end Go.Proofs.YtapflnabiobonaaDoor

/- What WalRead of the specification does: a contract; no statement of the seat is proved here. -/
namespace Go.Proofs.YtapflnabiobonaaDoor
open Go.RowKit

theorem RowA.cap {w : World} {base : Nat} {e : TypeId} {v : Value} {n : Nat} {cs : List Value} (h : RowA w base e 1 v n cs) (hn : 0 < n) : ∃ g cap, v = .slice (some ⟨g, 0, none⟩) n cap ∧ n ≤ cap ∧ base ≤ g ∧ g < w.heap.size := by
  rcases h with ⟨hl, ⟨rfl, rfl⟩ | ⟨g, cap, cur, rfl, hg, hh, h1, h2, h3, h4⟩⟩ | ⟨rfl, _⟩
  · omega
  · exact ⟨g, cap, rfl, by omega, hg, heap_lt hh⟩
  · omega

theorem RowR.drop251 {w : World} {g cap : Nat} {F : List ByteArray} (h : RowR w 1 (.slice (some ⟨g, 0, none⟩) F.length cap) F.length (F.map Value.string)) (hF : 501 ≤ F.length) : RowR w 1 (.slice (some ⟨g, 251, none⟩) (F.length - 251) (cap - 251)) (F.length - 251) ((F.drop 251).map Value.string) := by
  obtain ⟨_, _, ev, h1, h2, h3⟩ := h
  simp only [Value.slice.injEq, true_and] at ev
  obtain ⟨rfl, rfl⟩ := ev
  refine ⟨_, _, rfl, by omega, by simp, fun _ => ?_⟩
  obtain ⟨b, off, e, hc⟩ := h3 (by omega)
  simp only [Option.some.injEq, Addr.mk.injEq, and_true] at e
  obtain ⟨rfl, rfl⟩ := e
  refine ⟨g, 251, rfl, fun j u hj => ?_⟩
  have := hc (251 + j) u (by rw [List.getElem?_map, List.getElem?_drop] at hj; rw [List.getElem?_map]; exact hj)
  rwa [Nat.zero_add] at this

theorem logL_len (s : ByteArray) (F : List ByteArray) : (logL s F).length ≤ F.length := by
  simp only [logL, logS, List.length_map, List.length_take, List.length_drop]
  omega
theorem logL_bound {s : ByteArray} {F : List ByteArray} (h : logB s F = true) : ∀ x ∈ logL s F, 0 ≤ x.1 ∧ x.1 < 250 := by
  intro x hx
  simp only [logL, List.mem_map] at hx
  obtain ⟨t, ht, rfl⟩ := hx
  simp only [logB, Bool.and_eq_true, List.all_eq_true] at h
  have := h.2 t ht
  simp only [noteB, decide_eq_true_eq] at this
  simp only [noteW]
  omega

/-- The sign of a disk, whether it is readable, and what its homes say. -/
def sign0 (F : List ByteArray) : ByteArray := F[0]?.getD ⟨#[]⟩
def readB (kept : List ByteArray) (wait : List (Int × ByteArray)) : Bool := formB kept wait && logB (sign0 (flushK kept wait)) (flushK kept wait)
def homesL (F : List ByteArray) : List ByteArray := flushL (F.drop 251) (logL (sign0 F) F)
def readH (kept : List ByteArray) (wait : List (Int × ByteArray)) : List ByteArray := if readB kept wait = true then homesL (flushK kept wait) else []

theorem Row.none0 (w : World) (e : TypeId) (size : Nat) (S : Nat → Prop) (ao : Option Addr) (c : Nat) : Row w e size S (.slice ao 0 c) 0 [] := ⟨ao, c, rfl, by omega, by simp, fun h => by omega⟩

set_option maxRecDepth 100000 in
set_option maxHeartbeats 4000000 in
theorem specWalRead_yes (v : Value) (kept : List ByteArray) (wait : List (Int × ByteArray)) (w : World) (hr : DiskR w v kept wait) (hf : formB kept wait = true) :
    Calls Tryd.prog 10 #[v] w fun e w' => ∃ v', e = .returned (.tuple #[v', .bool (readB kept wait)]) ∧ Row w' 9 1 (fun k => w.heap.size ≤ k) v' (readH kept wait).length ((readH kept wait).map Value.string) ∧ Below w.heap.size w w' := by
  have hok : okB kept wait = true := by simp only [formB, Bool.and_eq_true] at hf; exact hf.1
  have h5 : kept.length = 501 := by simp only [formB, Bool.and_eq_true, decide_eq_true_eq] at hf; exact hf.2
  obtain ⟨hp1, hp2, hp3, hp4⟩ := okB_parts hok
  have P3 := hide hp3
  have P4 := hide hp4
  have Hr := hide hr
  obtain ⟨ak, aw, rfl, ⟨ao, ca, rfl, -⟩, ⟨bo, cb, rfl, -⟩⟩ := hr
  have hal : Below w.heap.size w (w.alloc (.cells #[.slice ao kept.length ca, .slice bo wait.length cb] 31)) := (Below.refl _ _).alloc (Nat.le_refl _) _
  have H0 := hide (al1_0 w (.cells #[.slice ao kept.length ca, .slice bo wait.length cb] 31))
  have hflK : flushK kept wait = flushL kept wait := by simp [flushK, hok]
  have hFl : (flushK kept wait).length = 501 := by rw [hflK, flushL_len, h5]
  have hFz : ∀ t ∈ flushK kept wait, t.size ≤ 16 := by rw [hflK]; exact flushL_all hp3 (fun x hx => (hp4 x hx).2.2)
  clear hp3 hp4 h5 hflK
  go_enter Tryd.func10, Tryd.ntmps10
  go_wp2_with fail
  refine (l2Form_any _ kept wait _ (Hr.out.keep hal) (fun s hs => by have := P3.out s hs; omega) (fun s hs => by have := (P4.out s hs).2.2; omega)).mono ?_
  rintro e w1 ⟨rfl, b1⟩
  rw [hf]
  have c1 := bAll hal b1
  obtain ⟨p0, p1, pl⟩ := box2 (bKeeps b1 H0.out)
  go_wp2_with fail
  refine (specSecFlushA_any _ kept wait _ (Hr.out.keep c1) (fun s hs => by have := P3.out s hs; omega) (fun s hs => by have := (P4.out s hs).2.2; omega)).mono ?_
  rintro e w2 ⟨v2, rfl, ⟨vk, vw, rfl, rk, rw2⟩, b2⟩
  obtain ⟨F, hF⟩ : ∃ F, flushK kept wait = F := ⟨_, rfl⟩
  have HRB : Hid (readB kept wait = logB (sign0 F) F ∧ (logB (sign0 F) F = true → readH kept wait = homesL F)) := by
    have h1 : readB kept wait = logB (sign0 F) F := by simp only [readB, hf, hF, Bool.true_and]
    exact ⟨h1, fun h => by simp only [readH, h1, h, hF, if_true]⟩
  rw [hF] at rk hFl hFz
  clear hF
  have hF1 : 501 ≤ F.length := by omega
  have hF2 : F.length ≤ 501 := by omega
  have HFl := hide hFl
  clear hFl
  obtain ⟨g, gc, rfl, hgc, hgb, hgl⟩ := rk.cap (by omega)
  obtain ⟨wo, wc, rfl⟩ := rw2.shape
  have hfk := fun w => field_kept (some ⟨g, 0, none⟩) wo F.length gc 0 wc w
  obtain ⟨s, hs0⟩ := getAt F 0 (by omega)
  have hsg : sign0 F = s := by simp [sign0, hs0]
  rw [hsg] at HRB
  have HSG := hide hsg
  clear hsg
  have c2 := bAll c1 b2
  clear p0 p1 pl
  go_wp2_with fail
  refine (specL2Logged_any _ _ F s w2 (rk.row (by omega)).reads hs0 (by omega) (by omega) hFz).mono ?_
  rintro e w3 ⟨v3, rfl, ⟨lo, ln, lc, rfl⟩, hlog, b3⟩
  have c3 := bAll c2 b3
  cases hlb : logB s F
  · have HNO : Hid (readB kept wait = false ∧ readH kept wait = []) := by
      have h1 : readB kept wait = false := HRB.out.1.trans hlb
      exact ⟨h1, by simp [readH, h1]⟩
    go_wp2
    go_ret2
    rw [HNO.out.1, HNO.out.2]
    exact ⟨_, rfl, Row.none0 _ _ _ _ _ _, c3.alloc c3.size _⟩
  · have hi5 : (251 : Int) ≤ (F.length : Int) := by omega
    have hgc' : (F.length : Int) ≤ (gc : Int) := by omega
    obtain ⟨i0, hi, hz0, hz1, hz2⟩ := info_parts infoStr
    have hL := hlog hlb
    obtain ⟨L, eL⟩ : ∃ L, logL s F = L := ⟨_, rfl⟩
    have hLb : ∀ x ∈ logL s F, 0 ≤ x.1 ∧ x.1 < 250 := logL_bound hlb
    rw [eL] at hL hLb
    have HLb := hide hLb
    have EL := hide eL
    have HLB := hide hlb
    obtain ⟨lo', lc', e3⟩ := hL.shape
    simp only [Value.slice.injEq] at e3
    obtain ⟨rfl, rfl, rfl⟩ := e3
    have hLr := hide (hL.row (by have := logL_len s F; rw [eL] at this; omega)).reads
    have hLlen : L.length ≤ 512 := by have := logL_len s F; rw [eL] at this; omega
    have kF := ((rk.row (by omega)).reads.keep b3)
    have kF2 := hide (RowR.drop251 kF hF1)
    clear hLb eL hlb hlog hL kF
    go_wp2_with (first | (go_at_call 36; refine (l2Home_any _ _ (by omega) (by omega)).mono ?_; rintro e w4 ⟨rfl, rfl⟩) | (at_builtin; refine wpList_append_row _ rfl _ _ 22 rfl w3.heap.size 9 i0 (.string ⟨#[]⟩) 1 16 Tryd.underlying22 hi hz0 hz1 hz2 rfl (by decide) _ 0 [] rfl ?qown _ (F.length - 251) ((F.drop 251).map Value.string) rfl ?qrow (strs_one _) ?q63 ?qby ?qbase ?_))
    case qown => exact World.ownsRow_lit w3 #[] 0 (Nat.le_refl _) (by unfold maxLen; omega) rfl
    case qrow => exact kF2.out.keep ((Below.refl _ _).alloc (Nat.le_refl _) _)
    case q63 => unfold maxLen; omega
    case qby => omega
    case qbase => simp
    intro v' w4 hown hgr
    try simp only [Nat.zero_add, List.nil_append] at hown
    have r4 := (Row.ofOwns hown (by omega)).mono (T := fun k => w3.heap.size ≤ k ∧ k < w4.heap.size) (fun k hk h => ⟨h, hk⟩)
    have b4 : Below w3.heap.size w3 w4 := ((Below.refl _ _).alloc (Nat.le_refl _) (.cells #[] 9)).grown hgr (by simp) (fun k e => by simp [Value.ownBlock] at e; omega)
    obtain ⟨ho, hc, rfl⟩ := r4.shape
    have c4 := bAll c3 b4
    have z3 := c3.size
    have z4 := b4.size
    obtain ⟨m, hm⟩ : ∃ m, F.length - 251 = m := ⟨_, rfl⟩
    have hm1 : m = 250 := by omega
    rw [hm] at r4 ⊢
    have HM := hide hm1
    clear hown hgr hm hm1
    go_wp2
    go_loopw [8] (fun iv wr => ∃ k : Nat, k ≤ L.length ∧ iv = .int .i64 k ∧ Row wr 9 1 (fun k => w3.heap.size ≤ k ∧ k < w4.heap.size) (.slice ho m hc) m ((flushL (F.drop 251) (L.take k)).map Value.string) ∧ Upd (fun k => w3.heap.size ≤ k ∧ k < w4.heap.size) w4 wr) (fun iv _ => L.length - (intOf iv).toNat)
    case atStart => exact ⟨0, Nat.zero_le _, rfl, by simpa [flushL] using r4, Upd.refl _ _⟩
    case round =>
      clear r4
      obtain ⟨k, hk, rfl, hrow, hup⟩ := hrel
      by_cases hlt : k < L.length
      · obtain ⟨⟨a, t⟩, hx⟩ := getAt L k hlt
        obtain ⟨ha0, ha1⟩ := HLb.out (a, t) (List.mem_of_getElem? hx)
        simp only at ha0 ha1
        obtain ⟨n, rfl⟩ := Int.eq_ofNat_of_zero_le ha0
        have hnm : n < m := by have := HM.out; omega
        have Hx := hide hx
        obtain ⟨_, _, ev, _, _, hc0⟩ := hLr.out
        simp only [Value.slice.injEq, true_and] at ev
        obtain ⟨rfl, rfl⟩ := ev
        obtain ⟨b, off, rfl, hcl⟩ := hc0 (by omega)
        obtain ⟨e0, e1⟩ := wcells_at L k _ hx
        have g1 := hcl _ _ e0
        have g2 := hcl _ _ e1
        have l1 : b < w3.heap.size := World.block_lt_of_cell? w3 _ g1
        have keep : ∀ j, wr.cell? ⟨b, j, none⟩ = w3.cell? ⟨b, j, none⟩ := fun j => (World.cell?_of_block (a := ⟨b, j, none⟩) (hup.block b (by omega) (by omega))).trans (b4.cell (p := ⟨b, j, none⟩) l1)
        have f1 : wr.cell? ⟨b, off + k * 2, none⟩ = some (.int .i64 (n : Int)) := by rw [Nat.mul_comm k 2, keep]; exact g1
        have f2 : wr.cell? ⟨b, off + k * 2 + 1, none⟩ = some (.string t) := by rw [Nat.mul_comm k 2, keep]; exact g2
        have hi' : (k : Int) < (L.length : Int) := by omega
        have hn' : (n : Int) < (m : Int) := by omega
        obtain ⟨gh, caph, u, ev, hS, hgl', hcu, -, hfu, hset⟩ := hrow.at n hnm
        simp only [Value.slice.injEq, true_and] at ev
        obtain ⟨rfl, rfl⟩ := ev
        have Hset := hide hset
        clear hset hcl g1 g2 e0 e1 hx hc0 keep
        go_wp2
        go_region
        all_goals
          go_wp2
          go_roundw
          case rel =>
            have hup2 : Upd (fun k => w3.heap.size ≤ k ∧ k < w4.heap.size) wr (wr.setCell ⟨gh, n, none⟩ (.string t)).drew := ⟨rfl, rfl, rfl, by simp, (Upd.setCell (S := fun k => w3.heap.size ≤ k ∧ k < w4.heap.size) wr gh n (.string t) hS).block⟩
            refine ⟨k + 1, by omega, by go_num, ?_, hup.trans hup2⟩
            have h1 := (Hset.out (.string t)).keepB ((Below.refl _ _).drew)
            have h2 : flushL (F.drop 251) (L.take (k + 1)) = (flushL (F.drop 251) (L.take k)).set n t := by
              rw [List.take_add_one, Hx.out, Option.toList_some, flushL_snoc]
              simp
            rw [h2, List.map_set]
            exact h1
          case measure => simp [intOf]; omega
      · obtain rfl : k = L.length := by omega
        rw [List.take_of_length_le (Nat.le_refl _)] at hrow
        go_wp2
        go_ret2
        have hh : readH kept wait = flushL (F.drop 251) L := by rw [HRB.out.2 HLB.out, homesL, HSG.out, EL.out]
        have hlen : (flushL (F.drop 251) L).length = m := by rw [flushL_len, List.length_drop]; have := HM.out; omega
        rw [HRB.out.1, HLB.out, hh, hlen]
        exact ⟨_, rfl, hrow.mono (fun j _ h => by omega), c4.trans (hup.below c4.size (fun j h => by omega))⟩

set_option maxRecDepth 100000 in
set_option maxHeartbeats 1000000 in
theorem specWalRead_any (v : Value) (kept : List ByteArray) (wait : List (Int × ByteArray)) (w : World) (hr : DiskR w v kept wait) (hs : ∀ s ∈ kept, s.size ≤ 9223372036854775807) (hs' : ∀ s ∈ wait, s.2.size ≤ 9223372036854775807) :
    Calls Tryd.prog 10 #[v] w fun e w' => ∃ v', e = .returned (.tuple #[v', .bool (readB kept wait)]) ∧ Row w' 9 1 (fun k => w.heap.size ≤ k) v' (readH kept wait).length ((readH kept wait).map Value.string) ∧ Below w.heap.size w w' := by
  cases hf : formB kept wait
  · have HNO : Hid (readB kept wait = false ∧ readH kept wait = []) := by
      have h1 : readB kept wait = false := by simp [readB, hf]
      exact ⟨h1, by simp [readH, h1]⟩
    have Hr := hide hr
    obtain ⟨ak, aw, rfl, ⟨ao, ca, rfl, -⟩, ⟨bo, cb, rfl, -⟩⟩ := hr
    have hal : Below w.heap.size w (w.alloc (.cells #[.slice ao kept.length ca, .slice bo wait.length cb] 31)) := (Below.refl _ _).alloc (Nat.le_refl _) _
    go_enter Tryd.func10, Tryd.ntmps10
    go_wp2_with fail
    refine (l2Form_any _ kept wait _ (Hr.out.keep hal) hs hs').mono ?_
    rintro e w1 ⟨rfl, b1⟩
    rw [hf]
    have c1 := bAll hal b1
    go_wp2
    go_ret2
    rw [HNO.out.1, HNO.out.2]
    exact ⟨_, rfl, Row.none0 _ _ _ _ _ _, c1.alloc c1.size _⟩
  · exact specWalRead_yes v kept wait w hr hf

end Go.Proofs.YtapflnabiobonaaDoor

/- The iterator over what is committed: its contract; no statement of the seat is proved here. -/
namespace Go.Proofs.YtapflnabiobonaaDoor
open Go.RowKit Go.Shelf

attribute [local go_sem] Oper.semAt_some

/-- The error that is told: none, or the fault of a sector. -/
def errV : Option Nat → Value
  | none => .nilIface
  | some n => .iface 104 (.agg #[.int .i64 (n : Nat)])
/-- What is told: a home, its text, and the fault. -/
abbrev Itm := Nat × ByteArray × Option Nat
def iEnc (x : Itm) : Array Value := #[.agg #[.int .i64 (x.1 : Nat), .string x.2.1], errV x.2.2]
def iW (x : Itm) : Int × ByteArray := (((x.1 : Nat) : Int), x.2.1)
/-- What is told to the end. -/
def logAll (s : ByteArray) (ss : List ByteArray) (ys : List Itm) : Prop := (∀ x ∈ ys, x.2.2 = none) → logB s ss = true ∧ ys.map iW = logL s ss
def logPre (s : ByteArray) (ss : List ByteArray) (pre : List Itm) : Prop := (∃ x ∈ pre, x.2.2 ≠ none) → logB s ss = false
/-- A round keeps these blocks. -/
def KpS (S : Nat → Prop) (W W' : World) : Prop := ∀ k, S k → W'.heap[k]? = W.heap[k]?
theorem kpS_t {S : Nat → Prop} {A B C : World} (h : KpS S A B) (k : KpS S B C) : KpS S A C := fun j hj => (k j hj).trans (h j hj)
theorem kpS_of {S : Nat → Prop} {W W' : World} (h : Below W.heap.size W W') (hS : ∀ k, S k → k < W.heap.size) : KpS S W W' := fun k hk => h.block k (hS k hk)
theorem kpS_b {S : Nat → Prop} {w : World} (hS : ∀ k, S k → k < w.heap.size) (W : World) (l : Nat) (o o' : Obj) (hl : w.heap.size ≤ l) (_ : W.heap[l]? = some o) (_ : o.isCells = false) (_ : o.isWalk = false) : KpS S W (W.putObj l o') :=
  fun k hk => World.putObj_heap_other (by have := hS k hk; omega)

theorem RowR.keepG {w w' : World} {size n cap g off : Nat} {cs : List Value} (h : RowR w size (.slice (some ⟨g, off, none⟩) n cap) n cs) (hg : w'.heap[g]? = w.heap[g]?) : RowR w' size (.slice (some ⟨g, off, none⟩) n cap) n cs := by
  obtain ⟨ao, ca, e, h1, h2, h3⟩ := h
  refine ⟨ao, ca, e, h1, h2, fun h0 => ?_⟩
  obtain ⟨b, o, rfl, hc⟩ := h3 h0
  simp only [Value.slice.injEq, Option.some.injEq] at e
  obtain ⟨e, -, -⟩ := e
  cases e
  exact ⟨g, off, rfl, fun j u hj => (World.cell?_of_block (a := ⟨g, off + j, none⟩) hg).trans (hc j u hj)⟩

theorem grown_of {w w' : World} (h : Below w.heap.size w w') : w.grownBy w' none := by
  constructor
  all_goals first | exact h.os | exact h.tape | exact h.output | exact h.size | (intro k hk _; exact h.block k hk) | skip

def okI (t : ByteArray) : Itm := (byte0 t, rest1 t, none)
theorem okI_enc {t : ByteArray} (i : Nat) (h : noteB t = true) : iEnc (okI t) = #[.agg #[.int .i64 (noteH t : Nat), .string (noteT t)], noteE i t] := by
  simp [iEnc, okI, errV, noteH, noteT, noteE, h]
theorem badI_enc {t : ByteArray} (i : Nat) (h : noteB t = false) : iEnc (0, ⟨#[]⟩, some i) = #[.agg #[.int .i64 (noteH t : Nat), .string (noteT t)], noteE i t] := by
  simp [iEnc, errV, noteH, noteT, noteE, h]
theorem okI_all {ts : List ByteArray} : ∀ x ∈ ts.map okI, x.2.2 = none := by
  intro x hx
  obtain ⟨t, _, rfl⟩ := List.mem_map.1 hx
  rfl
theorem okI_w (ts : List ByteArray) : (ts.map okI).map iW = ts.map noteW := by
  rw [List.map_map]; rfl
theorem comE_yes {s : ByteArray} (h : signB s = true) : comE s = .nilIface := by
  simp only [signB, decide_eq_true_eq] at h
  exact if_pos h
theorem comE_no {s : ByteArray} (h : signB s = false) : comE s = .iface 104 (.agg #[.int .i64 0]) := by
  simp only [signB, decide_eq_false_iff_not] at h
  exact if_neg h
theorem comN_le (s : ByteArray) : comN s ≤ 250 := by unfold comN; split <;> omega

set_option maxRecDepth 100000 in
set_option maxHeartbeats 4000000 in
theorem log1_in (n : Nat) (hn : 1 ≤ n) (l Bs g sc : Nat) (no : Option Addr) (m nc : Nat) (ss : List ByteArray) (s : ByteArray) (J Jx : List Itm → World → Prop) (W : World) (hJ : AbidesFrom W.heap.size J)
    (hY : ∀ pre x W1, J pre W1 → pre.length < 251 → YieldAt Fence.wide (n - 1) Tryd.prog l (iEnc x) W1 fun e W' =>
      (e = .returned (.bool true) ∧ J (pre ++ [x]) W' ∧ KpS (fun k => k = Bs ∨ k = g) W1 W') ∨ (e = .returned (.bool false) ∧ Jx (pre ++ [x]) W'))
    (hBs : W.heap[Bs]? = some (.cells #[.slice (some ⟨g, 0, none⟩) ss.length sc, .slice no m nc] 69 (0, 0)))
    (hr : RowR W 1 (.slice (some ⟨g, 0, none⟩) ss.length sc) ss.length (ss.map Value.string)) (hgl : g < W.heap.size) (h0 : ss[0]? = some s) (hz : ∀ t ∈ ss, t.size ≤ 16) (hlen : 251 ≤ ss.length) (hJ0 : J [] W) :
    CallsIn Fence.wide n Tryd.prog 88 #[.func (.yield l) #[] #[], .pointer (some ⟨Bs, 0, none⟩)] W fun e W' => (∃ v, e = .returned v) ∧
      ((∃ ys, logAll s ss ys ∧ J ys W') ∨ (∃ pre, logPre s ss pre ∧ Jx pre W')) := by
  have HZ := hide hz
  have HY := hide hY
  have HJ := hide hJ
  have HR := hide hr
  have HBs := hide hBs
  have hsz : s.size ≤ 16 := hz s (List.mem_of_getElem? h0)
  have H0 := hide h0
  have hBl := heap_lt hBs
  obtain ⟨q0, q1, ql⟩ := box2 hBs
  clear hz hY hJ hr hBs h0
  refine callsIn_of_wp Tryd.func88 rfl trivial ?_ rfl
  simp only [ Tryd.ntmps88, List.size_toArray, List.length_cons, List.length_nil, Nat.reduceAdd, Nat.reduceSub, Array.replicate_succ, Array.replicate_zero, List.push_toArray, List.append_toArray, List.nil_append, List.cons_append]
  gi_wp2_with fail
  refine ⟨trivial, ?_⟩
  refine (callsIn_wide.2 (committed_any _ no sc m nc ss s W HR.out H0.out (by omega))).mono ?_
  rintro e W1 ⟨rfl, b1⟩
  have hJ1 : J [] W1 := HJ.out _ W W1 none hJ0 (grown_of b1) (fun r e => by cases e)
  have k1 : KpS (fun k => k = Bs ∨ k = g) W W1 := kpS_of b1 (fun k h => by rcases h with rfl | rfl <;> assumption)
  have z1 := b1.size
  clear q0 q1 ql
  cases hsg : signB s
  · rw [comE_no hsg]
    obtain ⟨fn, tmps, assign, body, hy, hR⟩ := HY.out [] (0, ⟨#[]⟩, some 0) W1 hJ1 (by simp)
    have hw : iEnc (0, ⟨#[]⟩, some 0) = #[.agg #[.int .i64 0, .string ⟨#[]⟩], .iface 104 (.agg #[.int .i64 0])] := rfl
    rw [hw] at hy
    have HSG := hide hsg
    clear hw hsg
    gi_wp2
    refine hR.mono ?_
    rintro e W3 (⟨rfl, hJ3, -⟩ | ⟨rfl, hJx3⟩)
    · gi_wp2
      refine bodyPost_ret (results_none rfl _ _ _) rfl ?_
      exact ⟨⟨_, rfl⟩, .inl ⟨_, fun h => by simpa using h (0, ⟨#[]⟩, some 0) (by simp), hJ3⟩⟩
    · gi_wp2
      refine bodyPost_ret (results_none rfl _ _ _) rfl ?_
      exact ⟨⟨_, rfl⟩, .inr ⟨_, fun _ => by simp [logB, HSG.out], hJx3⟩⟩
  · rw [comE_yes hsg]
    have HSG := hide hsg
    clear hsg
    obtain ⟨c, hc⟩ : ∃ c, comN s = c := ⟨_, rfl⟩
    have hc2 : c ≤ 250 := by rw [← hc]; exact comN_le s
    rw [hc]
    have HC : Hid (logS s ss = (ss.drop 1).take c) := by show _ = _; rw [logS, hc]
    clear hc
    gi_wp2
    gi_loopw [5] (fun i wr => ∃ k : Nat, k ≤ c ∧ i = .int .i64 (1 + k : Nat) ∧ (∀ t ∈ (ss.drop 1).take k, noteB t = true) ∧ J (((ss.drop 1).take k).map okI) wr ∧ KpS (fun k => k = Bs ∨ k = g) W wr)
      (fun i _ => 1 + c - (intOf i).toNat)
    case atStart => exact ⟨0, Nat.zero_le _, rfl, by simp, by simpa using hJ1, k1⟩
    case round =>
      obtain ⟨k, hk, rfl, hall, hJs, hkp⟩ := hrel
      have HALL := hide hall
      clear hall
      by_cases hlt : k < c
      · obtain ⟨t, ht⟩ := getAt ss (1 + k) (by omega)
        have htk : (ss.drop 1).take (k + 1) = (ss.drop 1).take k ++ [t] := by
          rw [List.take_add_one, List.getElem?_drop, ht]; rfl
        have htz : t.size ≤ 9223372036854775807 := by have := HZ.out t (List.mem_of_getElem? ht); omega
        have HT := hide ht
        have HTK := hide htk
        have hbx : wr.heap[Bs]? = some (.cells #[.slice (some ⟨g, 0, none⟩) ss.length sc, .slice no m nc] 69 (0, 0)) := (hkp Bs (.inl rfl)).trans HBs.out
        obtain ⟨q0, q1, ql⟩ := box2 hbx
        have hgl2 : Bs < wr.heap.size ∧ g < wr.heap.size := ⟨heap_lt hbx, heap_lt ((hkp g (.inr rfl)).trans (Array.getElem?_eq_getElem hgl))⟩
        have hrr := hide (RowR.keepG HR.out (hkp g (.inr rfl)))
        have hi : ((1 + k : Nat) : Int) < 1 + (c : Int) := by omega
        clear ht htk hbx
        gi_wp2_with fail
        refine ⟨trivial, ?_⟩
        refine (callsIn_wide.2 (note_any _ no sc m nc (1 + k) ss t wr hrr.out HT.out htz)).mono ?_
        rintro e W2 ⟨rfl, b2⟩
        have k2 : KpS (fun k => k = Bs ∨ k = g) wr (W2.alloc (.cells #[.int .i64 (noteH t : Nat), .string (noteT t)] 109)) := kpS_of (bAll b2 ((Below.refl _ _).alloc (Nat.le_refl _) _)) (fun k h => by rcases h with rfl | rfl; exact hgl2.1; exact hgl2.2)
        have hJ2 : J (((ss.drop 1).take k).map okI) (W2.alloc (.cells #[.int .i64 (noteH t : Nat), .string (noteT t)] 109)) := HJ.out _ wr _ none hJs (grown_of (bAll b2 ((Below.refl _ _).alloc (Nat.le_refl _) _))) (fun r e => by cases e)
        have hpl : (((ss.drop 1).take k).map okI).length < 251 := by simp; omega
        clear q0 q1 ql
        have z2 := b2.size
        cases hnb : noteB t
        · obtain ⟨fn, tmps, assign, body, hy, hR⟩ := HY.out _ (0, ⟨#[]⟩, some (1 + k)) _ hJ2 hpl
          rw [badI_enc (1 + k) hnb] at hy
          have hE : noteE (1 + k) t = .iface 104 (.agg #[.int .i64 (1 + k : Nat)]) := by simp [noteE, hnb]
          rw [hE] at hy ⊢
          rw [show ((1 + k : Nat) : Int) = 1 + (k : Int) by omega] at hy
          have HNB := hide hnb
          clear hnb hE
          gi_wp2
          refine hR.mono ?_
          rintro e W3 (⟨rfl, hJ3, -⟩ | ⟨rfl, hJx3⟩)
          · gi_wp2
            refine bodyPost_ret (results_none rfl _ _ _) rfl ?_
            exact ⟨⟨_, rfl⟩, .inl ⟨_, fun h => by simpa using h (0, ⟨#[]⟩, some (1 + k)) (by simp), hJ3⟩⟩
          · gi_wp2
            refine bodyPost_ret (results_none rfl _ _ _) rfl ?_
            exact ⟨⟨_, rfl⟩, .inr ⟨_, fun _ => log_no HSG.out HC.out hlt HTK.out HNB.out, hJx3⟩⟩
        · obtain ⟨fn, tmps, assign, body, hy, hR⟩ := HY.out _ (okI t) _ hJ2 hpl
          rw [okI_enc (1 + k) hnb] at hy
          have hE : noteE (1 + k) t = .nilIface := by simp [noteE, hnb]
          rw [hE] at hy ⊢
          have HNB := hide hnb
          clear hnb hE
          gi_wp2
          refine hR.mono ?_
          rintro e W3 (⟨rfl, hJ3, hk3⟩ | ⟨rfl, hJx3⟩)
          · gi_wp2
            go_roundw
            case rel =>
              refine ⟨k + 1, by omega, by go_num, ?_, ?_, kpS_t hkp (kpS_t k2 hk3)⟩
              · rw [HTK.out]
                intro u hu
                rcases List.mem_append.1 hu with h | h
                · exact HALL.out u h
                · obtain rfl : u = t := by simpa using h
                  exact HNB.out
              · rw [HTK.out, List.map_append]; exact hJ3
            case measure => simp [intOf]; omega
          · gi_wp2
            refine bodyPost_ret (results_none rfl _ _ _) rfl ?_
            refine ⟨⟨_, rfl⟩, .inr ⟨_, fun ⟨x, hx, hn⟩ => ?_, hJx3⟩⟩
            rcases List.mem_append.1 hx with h | h
            · exact absurd (okI_all x h) hn
            · obtain rfl : x = okI t := by simpa using h
              exact absurd rfl hn
      · obtain rfl : k = c := by omega
        have hi : ¬ ((1 + k : Nat) : Int) < 1 + (k : Int) := by omega
        gi_wp2
        go_end0
        refine ⟨⟨_, rfl⟩, .inl ⟨_, fun _ => ⟨?_, ?_⟩, hJs⟩⟩
        · simp only [logB, HSG.out, Bool.true_and, List.all_eq_true]
          rw [HC.out]
          exact HALL.out
        · rw [okI_w, logL, HC.out]

end Go.Proofs.YtapflnabiobonaaDoor

/- The program's own copy of a disk, with room for its sectors: a contract; no statement of the seat is proved here. -/
namespace Go.Proofs.YtapflnabiobonaaDoor
open Go.RowKit

theorem RowA.capLe {w : World} {base n cap : Nat} {ao : Option Addr} {e : TypeId} {cs : List Value} (h : RowA w base e 1 (.slice ao n cap) n cs) : n ≤ cap := by
  rcases Nat.eq_zero_or_pos n with rfl | hp
  · omega
  · obtain ⟨g, c, ev, hc, -⟩ := h.cap hp
    simp only [Value.slice.injEq, true_and] at ev
    omega

set_option maxRecDepth 100000 in
set_option maxHeartbeats 2000000 in
theorem secOwnC_any (kept : List ByteArray) (wait : List (Int × ByteArray)) (v : Value) (w : World) (hr : DiskR w v kept wait) (hk : kept.length ≤ 1048576) (hw : wait.length ≤ 1048576) :
    Calls Tryd.prog 58 #[v] w fun e w' => ∃ no cn vw, e = .returned (.agg #[.slice no kept.length cn, vw]) ∧ kept.length ≤ cn ∧ Row w' 9 1 (fun k => w.heap.size ≤ k) (.slice no kept.length cn) kept.length (kept.map Value.string) ∧ RowA w' w.heap.size 63 2 vw wait.length (wcells wait) ∧ Below w.heap.size w w' := by
  obtain ⟨ak, aw, rfl, a1, a2⟩ := hr
  obtain ⟨ao, ca, rfl⟩ : ∃ ao ca, ak = .slice ao kept.length ca := by obtain ⟨ao, ca, h, -⟩ := a1; exact ⟨ao, ca, h⟩
  obtain ⟨bo, cb, rfl⟩ : ∃ ao ca, aw = .slice ao wait.length ca := by obtain ⟨ao, ca, h, -⟩ := a2; exact ⟨ao, ca, h⟩
  have hal : Below w.heap.size w ((w.alloc (.cells #[.slice ao kept.length ca, .slice bo wait.length cb] 31)).alloc (.cells #[.slice none 0 0, .slice none 0 0] 94)) := ((Below.refl _ _).alloc (Nat.le_refl _) _).alloc (by simp) _
  obtain ⟨W, hW⟩ : ∃ W, W = (w.alloc (.cells #[.slice ao kept.length ca, .slice bo wait.length cb] 31)).alloc (.cells #[.slice none 0 0, .slice none 0 0] 94) := ⟨_, rfl⟩
  have B0 : W.heap[w.heap.size]? = some (.cells #[.slice ao kept.length ca, .slice bo wait.length cb] 31 (0, 0)) := by rw [hW]; exact al2_0 w _ _
  have B1 : W.heap[w.heap.size + 1]? = some (.cells #[.slice none 0 0, .slice none 0 0] 94 (0, 0)) := by rw [hW]; exact al2_1 w _ _
  have hsz : W.heap.size = w.heap.size + 2 := by rw [hW]; simp
  rw [← hW] at hal
  have k1 := hide (a1.keep hal)
  have k2 := hide (a2.keep hal)
  clear a1 a2
  obtain ⟨i0, hi, hz0, hz1, hz2⟩ := info_parts infoStr
  obtain ⟨i1, gi, gz0, gz1, gz2⟩ := info_parts infoWr
  go_enter Tryd.func58, Tryd.ntmps58
  go_wp2
  rw [← hW]
  clear hW
  obtain ⟨p0, p1, pl⟩ := box2 B0
  obtain ⟨q0, q1, ql⟩ := box2 B1
  obtain ⟨q2, q3⟩ := box2f B1
  have H0 := hide B0
  have H1 := hide B1
  clear B0 B1
  go_region_law (first
    | (refine step_copyA rfl (.const (.slice none 0 0)) (.tmp 4) 22 rfl W.heap.size 9 i0 (.string ⟨#[]⟩) 1 16 Tryd.underlying22 hi hz0 hz1 hz2 rfl (by decide) (.slice none 0 0) (by simp [Act.eval]) (World.ownsRow_nil _ _ _ _) (.slice ao kept.length ca) kept.length (kept.map Value.string) (by simp [Act.eval, Act.put]) (k1.out.keep ((Below.refl _ _).drew)) (strs_one _) hk (by omega) (by simp) ?_; intro v1 w1 r1' b1; have r1 := r1'.row (by omega); obtain ⟨no, cn, rfl⟩ := r1.shape; have hcap := r1'.capLe; clear r1'; have b1' : Below W.heap.size W w1 := bUndrew b1; have s0 : w1.cell? ⟨w.heap.size, 1, none⟩ = some (.slice bo wait.length cb) := (b1'.cell (p := ⟨w.heap.size, 1, none⟩) pl).trans p1)
    | (refine step_copyA rfl (.const (.slice none 0 0)) (.tmp 8) 29 rfl w1.heap.size 63 i1 (.agg #[.int .i64 0, .string ⟨#[]⟩]) 2 24 Tryd.underlying29 gi gz0 gz1 gz2 rfl (by decide) (.slice none 0 0) (by simp [Act.eval]) (World.ownsRow_nil _ _ _ _) (.slice bo wait.length cb) wait.length (wcells wait) (by simp [Act.eval, Act.put]) (k2.out.keep b1') (wcells_one _) hw (by omega) (Nat.le_refl _) ?_; intro v2 w2 r2 b2; obtain ⟨mo, cm, rfl⟩ := r2.shape; obtain ⟨t0, t1, tl⟩ := box2 (bKeeps b2 (bKeeps b1' H1.out)); obtain ⟨t2, t3⟩ := box2f (bKeeps b2 (bKeeps b1' H1.out))))
  all_goals
    go_wp2
    have hu := upd_set2 w2 (w.heap.size + 1) 0 1 (.slice no kept.length cn) (.slice mo wait.length cm)
    have hz1' := b1'.size
    have hz2' := b2.size
    refine bodyPost_ret (v := .agg #[.slice no kept.length cn, .slice mo wait.length cm]) (by simp [results, Tryd.results58, go_sem, t0, t1]) rfl ⟨_, _, _, rfl, hcap, ?_, ?_, ?_⟩
    · exact ((r1.keepB b2).keep hu (by intro k hk; omega)).mono (fun k _ hk => by omega)
    · exact (r2.keep hu (by intro k hk; omega)).mono (by omega)
    · exact ((bAll hal b1').trans (b2.mono (by omega))).trans (hu.below (by omega) (by intro k hk; omega))

end Go.Proofs.YtapflnabiobonaaDoor
