/- What SecPut of the specification does: a contract; no statement of the seat is proved here. -/
import Derived.Test.YtapflnabiobonaaDoorOwn
namespace Go.Proofs.YtapflnabiobonaaDoor
open Go.RowKit

/-- Whether a write may wait. -/
def putB (kept : List ByteArray) (wait : List (Int × ByteArray)) (a : Int) (s : ByteArray) : Bool := okB kept wait && (writeOkB kept.length (a, s) && decide (wait.length < 600))
/-- What is kept, and what waits, behind a write. -/
def putK (kept : List ByteArray) (wait : List (Int × ByteArray)) : List ByteArray := if okB kept wait = true then kept else []
def putW (kept : List ByteArray) (wait : List (Int × ByteArray)) (a : Int) (s : ByteArray) : List (Int × ByteArray) :=
  if okB kept wait = true then (if putB kept wait a s = true then wait ++ [(a, s)] else wait) else []

theorem wcells_snoc (xs : List (Int × ByteArray)) (a : Int) (s : ByteArray) : wcells (xs ++ [(a, s)]) = wcells xs ++ [.int .i64 a, .string s] := by simp [wcells, wcell]

theorem new_cells (w : World) (a : Int) (s : ByteArray) (e : TypeId) : ∀ j u, [Value.int .i64 a, .string s][j]? = some u → (w.alloc (.cells #[.int .i64 a, .string s] e)).cell? ((⟨w.heap.size, 0, none⟩ : Addr).add j) = some u := by
  intro j u h
  rw [Addr.add_lit, Nat.zero_add, cell_of_row _ _ j _ _ (0, 0) (al1_0 w _)]
  simpa using h

theorem new_one (a : Int) (s : ByteArray) : ∀ u ∈ [Value.int .i64 a, .string s], u.oneCell' = true := by
  intro u hu
  simp only [List.mem_cons, List.not_mem_nil, or_false] at hu
  rcases hu with rfl | rfl <;> rfl

theorem typed_box {w W : World} {S : Nat → Prop} {e t : TypeId} {B : Nat} {xs : Array Value} (h : w.heap[B]? = some (.cells xs t (0, 0))) (he : t ≠ e) (hW : W.heap[B]? = w.heap[B]?) : ¬ typed W S e B := by
  rintro ⟨_, c, hc⟩
  rw [hW, h] at hc
  simp at hc
  exact he hc.2

set_option maxRecDepth 100000 in
set_option maxHeartbeats 2000000 in
theorem specSecPut_yes (v : Value) (kept : List ByteArray) (wait : List (Int × ByteArray)) (a : Int) (s : ByteArray) (w : World) (hr : DiskR w v kept wait) (hss : s.size ≤ 9223372036854775807) (hok : okB kept wait = true) :
    Calls Tryd.prog 99 #[v, .int .i64 a, .string s] w fun e w' => ∃ v', e = .returned (.tuple #[v', .bool (putB kept wait a s)]) ∧ DiskO w' (fun k => w.heap.size ≤ k) v' (putK kept wait) (putW kept wait a s) ∧ Below w.heap.size w w' := by
  obtain ⟨hp1, hp2, hp3, hp4⟩ := okB_parts hok
  have Hr := hide hr
  obtain ⟨ak, aw, rfl, ⟨ao, ca, rfl, -⟩, ⟨bo, cb, rfl, -⟩⟩ := hr
  have hal : Below w.heap.size w ((w.alloc (.cells #[.slice ao kept.length ca, .slice bo wait.length cb] 31)).alloc (.cells #[.slice none 0 0, .slice none 0 0] 31)) := ((Below.refl _ _).alloc (Nat.le_refl _) _).alloc (by simp) _
  have H0 := hide (al2_0 w (.cells #[.slice ao kept.length ca, .slice bo wait.length cb] 31) (.cells #[.slice none 0 0, .slice none 0 0] 31))
  have H1 := hide (al2_1 w (.cells #[.slice ao kept.length ca, .slice bo wait.length cb] 31) (.cells #[.slice none 0 0, .slice none 0 0] 31))
  have P3 := hide hp3
  have P4 := hide hp4
  clear hp3 hp4
  have HK : Hid (putK kept wait = kept) := by show _ = _; simp [putK, hok]
  obtain ⟨i1, gi, gz0, gz1, gz2⟩ := info_parts infoWr
  go_enter Tryd.func99, Tryd.ntmps99
  go_wp2_with fail
  refine (specSecOk_any _ kept wait _ (Hr.out.keep hal) (fun s hs => by have := P3.out s hs; omega) (fun s hs => by have := (P4.out s hs).2.2; omega)).mono ?_
  rintro e w1 ⟨rfl, b1⟩
  rw [hok]
  have HOK := hide hok
  clear hok
  have z1 : w.heap.size + 1 + 1 ≤ w1.heap.size := by have := b1.size; simpa only [World.size_alloc] using this
  have c1 := bAll hal b1
  replace H0 := hide (bKeeps b1 H0.out)
  replace H1 := hide (bKeeps b1 H1.out)
  obtain ⟨p0, p1, pl⟩ := box2 H0.out
  go_wp2_with fail
  refine (l1CopyA_any kept wait _ _ (Hr.out.keep c1) (by omega) (by omega)).mono ?_
  rintro e w2 ⟨v2, rfl, ⟨vk, vw, rfl, r2, s2⟩, b2⟩
  obtain ⟨no, cn, rfl⟩ := r2.shape
  obtain ⟨mo, cm, rfl⟩ := s2.shape
  have z2 := b2.size
  have al2 : Below w2.heap.size w2 (w2.alloc (.cells #[.slice no kept.length cn, .slice mo wait.length cm] 31)) := (Below.refl _ _).alloc (Nat.le_refl _) _
  have H2 := hide (al1_0 w2 (.cells #[.slice no kept.length cn, .slice mo wait.length cm] 31))
  replace H0 := hide (bKeeps al2 (bKeeps b2 H0.out))
  replace H1 := hide (bKeeps al2 (bKeeps b2 H1.out))
  clear p0 p1 pl
  obtain ⟨p0, p1, pl⟩ := box2 H0.out
  go_wp2_with fail
  refine (l1WriteOk_any kept.length a s _ (by omega) hss).mono ?_
  rintro e w' ⟨rfl, rfl⟩
  clear p0 p1 pl
  obtain ⟨w', hW⟩ : ∃ W, W = w2.alloc (.cells #[.slice no kept.length cn, .slice mo wait.length cm] 31) := ⟨_, rfl⟩
  have ZW : Hid (w'.heap.size = w2.heap.size + 1) := by show _ = _; rw [hW]; simp
  rw [← hW] at al2 H2 H0 H1 ⊢
  clear hW
  have cW : Below w.heap.size w w' := bAll (bAll c1 b2) al2
  replace r2 := r2.keepB al2
  replace s2 := s2.keepB al2
  obtain ⟨p0, p1, pl⟩ := box2 H0.out
  obtain ⟨q0, q1, ql⟩ := box2 H1.out
  obtain ⟨q2, q3⟩ := box2f H1.out
  obtain ⟨t0, t1, tl⟩ := box2 H2.out
  obtain ⟨t2, t3⟩ := box2f H2.out
  have hu := upd_set2 w' (w.heap.size + 1) 0 1 (.slice no kept.length cn) (.slice mo wait.length cm)
  have D2 : DiskO ((w'.setCell ⟨w.heap.size + 1, 0, none⟩ (.slice no kept.length cn)).setCell ⟨w.heap.size + 1, 1, none⟩ (.slice mo wait.length cm)) (fun k => w.heap.size ≤ k) (.agg #[.slice no kept.length cn, .slice mo wait.length cm]) kept wait :=
    ⟨_, _, rfl, (r2.keep hu (fun k hk => by omega)).mono (fun k _ hk => by omega), ((s2.row (by omega)).keep hu (fun k hk => by omega)).mono (fun k _ hk => by omega)⟩
  cases hB : writeOkB kept.length (a, s)
  · have HX : Hid (putB kept wait a s = false ∧ putW kept wait a s = wait) := by
      have h1 : putB kept wait a s = false := by simp [putB, hB]
      exact ⟨h1, by simp [putW, h1, HOK.out]⟩
    clear hB
    go_wp2
    refine bodyPost_ret (v := .tuple #[.agg #[.slice no kept.length cn, .slice mo wait.length cm], .bool false]) (by simp [results, Tryd.results99, go_sem, q0, q1]) rfl ⟨.agg #[.slice no kept.length cn, .slice mo wait.length cm], ?_, ?_, ?_⟩
    · rw [HX.out.1]
    · rw [HX.out.2, HK.out]
      exact D2
    · exact cW.trans (hu.below (by have := unhide ZW; omega) (by intro k hk; omega))
  · by_cases hlen : (wait.length : Int) ≥ 600
    · have HX : Hid (putB kept wait a s = false ∧ putW kept wait a s = wait) := by
        have h1 : putB kept wait a s = false := by simp [putB, show ¬ wait.length < 600 by omega]
        exact ⟨h1, by simp [putW, h1, HOK.out]⟩
      clear hB
      go_wp2
      refine bodyPost_ret (v := .tuple #[.agg #[.slice no kept.length cn, .slice mo wait.length cm], .bool false]) (by simp [results, Tryd.results99, go_sem, q0, q1]) rfl ⟨.agg #[.slice no kept.length cn, .slice mo wait.length cm], ?_, ?_, ?_⟩
      · rw [HX.out.1]
      · rw [HX.out.2, HK.out]
        exact D2
      · exact cW.trans (hu.below (by have := unhide ZW; omega) (by intro k hk; omega))
    · have HX : Hid (putB kept wait a s = true ∧ putW kept wait a s = wait ++ [(a, s)]) := by
        have h1 : putB kept wait a s = true := by simp [putB, hB, HOK.out, show wait.length < 600 by omega]
        exact ⟨h1, by simp [putW, h1, HOK.out]⟩
      clear hB D2 hu
      have al3 : Below w'.heap.size w' (w'.alloc (.cells #[.int .i64 a, .string s] 63)) := (Below.refl _ _).alloc (Nat.le_refl _) _
      have s3 := s2.keepB al3
      have r3 := (r2.keepB al3).typed
      have N3 := hide (new_cells w' a s 63)
      replace H0 := hide (bKeeps al3 H0.out)
      replace H1 := hide (bKeeps al3 H1.out)
      replace H2 := hide (bKeeps al3 H2.out)
      go_wp2_with (at_builtin; refine wpList_appendA _ rfl _ _ 29 rfl w1.heap.size 63 i1 (.agg #[.int .i64 0, .string ⟨#[]⟩]) 2 24 Tryd.underlying29 gi gz0 gz1 gz2 rfl (by decide) _ wait.length (wcells wait) rfl s3 ⟨w'.heap.size, 0, none⟩ 1 1 [.int .i64 a, .string s] rfl rfl N3.out (new_one a s) (by decide) ?q63 ?qby ?qbase ?_)
      case q63 => unfold maxLen; omega
      case qby => omega
      case qbase => have := unhide ZW; simp; omega
      intro v4 w4 hown u4
      have zW := unhide ZW
      have z4 := u4.size
      simp only [World.size_alloc] at z4
      have r4 := r3.keep u4 (fun k => typed_apart (by decide) k)
      have s4 := (Row.ofOwns hown (by omega)).typed
      obtain ⟨mo', cm', rfl⟩ := s4.shape
      have H1' := u4.keeps H1.out (typed_box H1.out (by decide) rfl)
      have H2' := u4.keeps H2.out (typed_box H2.out (by decide) rfl)
      clear p0 p1 pl q0 q1 ql q2 q3 t0 t1 tl t2 t3
      obtain ⟨q0, q1, ql⟩ := box2 H1'
      obtain ⟨q2, q3⟩ := box2f H1'
      obtain ⟨t0, t1, tl⟩ := box2 H2'
      obtain ⟨t2, t3⟩ := box2f H2'
      have G1 := hide H1'
      have G2 := hide H2'
      clear hown H1' H2'
      have hne : ¬ w.heap.size + 1 = w2.heap.size := by omega
      have hne' : ¬ w2.heap.size = w.heap.size + 1 := by omega
      go_wp2
      have hu := (Upd.setCell (S := fun k => k = w2.heap.size ∨ k = w.heap.size + 1) w4 w2.heap.size 1 (.slice mo' (wait.length + 1) cm') (.inl rfl)).trans ((upd_set2 _ (w.heap.size + 1) 0 1 (.slice no kept.length cn) (.slice mo' (wait.length + 1) cm')).mono (fun k h => .inr h))
      refine bodyPost_ret (v := .tuple #[.agg #[.slice no kept.length cn, .slice mo' (wait.length + 1) cm'], .bool true]) (by simp [results, Tryd.results99, go_sem, q0, q1]) rfl ⟨.agg #[.slice no kept.length cn, .slice mo' (wait.length + 1) cm'], ?_, ?_, ?_⟩
      · rw [HX.out.1]
      · rw [HX.out.2, HK.out]
        refine ⟨_, _, rfl, ?_, ?_⟩
        · exact (r4.keep hu (by rintro k ht (rfl | rfl); exact typed_box H2.out (by decide) rfl ht; exact typed_box H1.out (by decide) rfl ht)).mono (fun k _ h => by have := h.1; omega)
        · rw [wcells_snoc, List.length_append]
          exact (s4.keep hu (by rintro k ht (rfl | rfl); exact typed_box G2.out (by decide) rfl ht; exact typed_box G1.out (by decide) rfl ht)).mono (fun k _ h => by have := h.1; omega)
      · exact ((cW.trans (al3.mono (by omega))).trans (u4.below (by simp; omega) (fun k h => by have := h.1; omega))).trans (hu.below (by omega) (by intro k hk; omega))

set_option maxHeartbeats 400000 in
theorem specSecPut_no (v : Value) (kept : List ByteArray) (wait : List (Int × ByteArray)) (a : Int) (s : ByteArray) (w : World) (hr : DiskR w v kept wait) (hs : ∀ s ∈ kept, s.size ≤ 9223372036854775807) (hs' : ∀ s ∈ wait, s.2.size ≤ 9223372036854775807) (hok : okB kept wait = false) :
    Calls Tryd.prog 99 #[v, .int .i64 a, .string s] w fun e w' => ∃ v', e = .returned (.tuple #[v', .bool (putB kept wait a s)]) ∧ DiskO w' (fun k => w.heap.size ≤ k) v' (putK kept wait) (putW kept wait a s) ∧ Below w.heap.size w w' := by
  have Hr := hide hr
  obtain ⟨ak, aw, rfl, ⟨ao, ca, rfl, -⟩, ⟨bo, cb, rfl, -⟩⟩ := hr
  have hal : Below w.heap.size w ((w.alloc (.cells #[.slice ao kept.length ca, .slice bo wait.length cb] 31)).alloc (.cells #[.slice none 0 0, .slice none 0 0] 31)) := ((Below.refl _ _).alloc (Nat.le_refl _) _).alloc (by simp) _
  have H1 := hide (al2_1 w (.cells #[.slice ao kept.length ca, .slice bo wait.length cb] 31) (.cells #[.slice none 0 0, .slice none 0 0] 31))
  have Hs := hide hs
  have Hs' := hide hs'
  clear hs hs'
  have HX : Hid (putB kept wait a s = false ∧ putK kept wait = [] ∧ putW kept wait a s = []) := ⟨by simp [putB, hok], by simp [putK, hok], by simp [putW, hok]⟩
  go_enter Tryd.func99, Tryd.ntmps99
  go_wp2_with fail
  refine (specSecOk_any _ kept wait _ (Hr.out.keep hal) Hs.out Hs'.out).mono ?_
  rintro e w1 ⟨rfl, b1⟩
  rw [hok]
  have B1 := bKeeps b1 H1.out
  obtain ⟨q0, q1, ql⟩ := box2 B1
  obtain ⟨q2, q3⟩ := box2f B1
  clear B1
  go_wp2
  have hu : Upd (fun k => k = w.heap.size + 1) w1 ((w1.setCell ⟨w.heap.size + 1, 0, none⟩ (.slice none 0 0)).setCell ⟨w.heap.size + 1, 1, none⟩ (.slice none 0 0)) :=
    upd_set2 _ _ _ _ _ _
  refine bodyPost_ret (v := .tuple #[.agg #[.slice none 0 0, .slice none 0 0], .bool false]) (by simp [results, Tryd.results99, go_sem, q0, q1]) rfl ⟨.agg #[.slice none 0 0, .slice none 0 0], ?_, ?_, (bAll hal b1).trans (hu.below (by have := b1.size; simp only [World.size_alloc] at this; omega) (by intro k hk; omega))⟩
  · rw [HX.out.1]
  · rw [HX.out.2.1, HX.out.2.2]
    exact ⟨_, _, rfl, Row.nil _ _ _ _, Row.nil _ _ _ _⟩

theorem specSecPut_any (v : Value) (kept : List ByteArray) (wait : List (Int × ByteArray)) (a : Int) (s : ByteArray) (w : World) (hr : DiskR w v kept wait) (hs : ∀ s ∈ kept, s.size ≤ 9223372036854775807) (hs' : ∀ s ∈ wait, s.2.size ≤ 9223372036854775807) (hss : s.size ≤ 9223372036854775807) :
    Calls Tryd.prog 99 #[v, .int .i64 a, .string s] w fun e w' => ∃ v', e = .returned (.tuple #[v', .bool (putB kept wait a s)]) ∧ DiskO w' (fun k => w.heap.size ≤ k) v' (putK kept wait) (putW kept wait a s) ∧ Below w.heap.size w w' := by
  cases hok : okB kept wait
  · exact specSecPut_no v kept wait a s w hr hs hs' hok
  · exact specSecPut_yes v kept wait a s w hr hss hok

end Go.Proofs.YtapflnabiobonaaDoor
