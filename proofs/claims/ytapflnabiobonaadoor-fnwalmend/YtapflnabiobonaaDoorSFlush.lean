/- What SecFlush of the specification does: a contract; no statement of the seat is proved here. -/
import Derived.Test.YtapflnabiobonaaDoorSOk
import Derived.Test.YtapflnabiobonaaDoorAp
namespace Go.Proofs.YtapflnabiobonaaDoor
open Go.RowKit

/-- The sectors behind writes. -/
def flushL (kept : List ByteArray) (wait : List (Int × ByteArray)) : List ByteArray := wait.foldl (fun k x => k.set x.1.toNat x.2) kept

theorem flushL_len (kept : List ByteArray) (wait : List (Int × ByteArray)) : (flushL kept wait).length = kept.length := by
  unfold flushL
  induction wait generalizing kept with
  | nil => rfl
  | cons x xs ih => simp [ih]

theorem flushL_snoc (kept : List ByteArray) (wait : List (Int × ByteArray)) (x : Int × ByteArray) : flushL kept (wait ++ [x]) = (flushL kept wait).set x.1.toNat x.2 := by simp [flushL]

theorem okB_parts {kept : List ByteArray} {wait : List (Int × ByteArray)} (h : okB kept wait = true) : kept.length ≤ 512 ∧ wait.length ≤ 600 ∧ (∀ s ∈ kept, s.size ≤ 16) ∧ ∀ x ∈ wait, 0 ≤ x.1 ∧ x.1 < kept.length ∧ x.2.size ≤ 16 := by
  simp only [okB, Bool.and_eq_true, decide_eq_true_eq, List.all_eq_true, writeOkB, inB] at h
  obtain ⟨⟨⟨h1, h2⟩, h3⟩, h4⟩ := h
  exact ⟨h1, h2, h3, fun x hx => by have := h4 x hx; omega⟩

set_option maxRecDepth 100000 in
set_option maxHeartbeats 2000000 in
theorem specSecFlush_yes (v : Value) (kept : List ByteArray) (wait : List (Int × ByteArray)) (w : World) (hr : DiskR w v kept wait) (hok : okB kept wait = true) :
    Calls Tryd.prog 34 #[v] w fun e w' => ∃ v', e = .returned v' ∧ DiskO w' (fun k => w.heap.size ≤ k) v' (flushL kept wait) [] ∧ Below w.heap.size w w' := by
  obtain ⟨hp1, hp2, hp3, hp4⟩ := okB_parts hok
  have Hr := hide hr
  obtain ⟨ak, aw, rfl, a1, a2⟩ := hr
  obtain ⟨ao, ca, rfl⟩ : ∃ ao ca, ak = .slice ao kept.length ca := by obtain ⟨ao, ca, h, -⟩ := a1; exact ⟨ao, ca, h⟩
  obtain ⟨bo, cb, rfl⟩ : ∃ ao ca, aw = .slice ao wait.length ca := by obtain ⟨ao, ca, h, -⟩ := a2; exact ⟨ao, ca, h⟩
  have hal : Below w.heap.size w ((w.alloc (.cells #[.slice ao kept.length ca, .slice bo wait.length cb] 31)).alloc (.cells #[.slice none 0 0, .slice none 0 0] 31)) := ((Below.refl _ _).alloc (Nat.le_refl _) _).alloc (by simp) _
  have H0 := hide (al2_0 w (.cells #[.slice ao kept.length ca, .slice bo wait.length cb] 31) (.cells #[.slice none 0 0, .slice none 0 0] 31))
  have H1 := hide (al2_1 w (.cells #[.slice ao kept.length ca, .slice bo wait.length cb] 31) (.cells #[.slice none 0 0, .slice none 0 0] 31))
  have P3 := hide hp3
  have P4 := hide hp4
  clear hp3 hp4
  obtain ⟨i0, hi, hz0, hz1, hz2⟩ := info_parts infoStr
  go_enter Tryd.func34, Tryd.ntmps34
  go_wp2_with fail
  refine (specSecOk_any _ kept wait _ (Hr.out.keep hal) (fun s hs => by have := P3.out s hs; omega) (fun s hs => by have := (P4.out s hs).2.2; omega)).mono ?_
  rintro e w1 ⟨rfl, b1⟩
  rw [hok]
  have B0 := bKeeps b1 H0.out
  have B1 := bKeeps b1 H1.out
  clear H0 H1
  obtain ⟨p0, p1, pl⟩ := box2 B0
  have H0 := hide B0
  have H1 := hide B1
  clear B0 B1
  have k1 := a1.keep (bAll hal b1)
  have k2 := a2.keep (bAll hal b1)
  clear a1 a2
  go_wp2_with (at_builtin; refine wpList_append_row _ rfl _ _ 22 rfl w1.heap.size 9 i0 (.string ⟨#[]⟩) 1 16 Tryd.underlying22 hi hz0 hz1 hz2 rfl (by decide) _ 0 [] rfl ?qown _ kept.length (kept.map Value.string) rfl ?qrow (strs_one _) ?q63 ?qby ?qbase ?_)
  case qown => exact World.ownsRow_lit w1 #[] 0 (Nat.le_refl _) (by unfold maxLen; omega) rfl
  case qrow => exact k1.keep ((Below.refl _ _).alloc (Nat.le_refl _) _)
  case q63 => unfold maxLen; omega
  case qby => omega
  case qbase => simp
  intro v' w2 hown hgr
  try simp only [Nat.zero_add, List.nil_append] at hown
  have r2 := (Row.ofOwns hown (by omega)).mono (T := fun k => w1.heap.size ≤ k ∧ k < w2.heap.size) (fun k hk h => ⟨h, hk⟩)
  have b2 : Below w1.heap.size w1 w2 := ((Below.refl _ _).alloc (Nat.le_refl _) (.cells #[] 9)).grown hgr (by simp) (fun k e => by simp [Value.ownBlock] at e; omega)
  obtain ⟨no, cn, rfl⟩ := r2.shape
  clear hown hgr
  have B0 := bKeeps b2 H0.out
  have B1 := bKeeps b2 H1.out
  clear p0 p1 pl H0 H1
  obtain ⟨p0, p1, pl⟩ := box2 B0
  have H0 := hide B0
  have H1 := hide B1
  clear B0 B1
  have hbw2 : Below w.heap.size w w2 := (bAll hal b1).trans (b2.mono (by have := b1.size; simp only [World.size_alloc] at this; omega))
  have z1 : w.heap.size + 1 + 1 ≤ w1.heap.size := by have := b1.size; simpa only [World.size_alloc] using this
  have z2 := b2.size
  have al2 : Below w2.heap.size w2 (w2.alloc (.cells #[.slice no kept.length cn, .slice none 0 0] 31)) := (Below.refl _ _).alloc (Nat.le_refl _) _
  have HB2 := hide (al1_0 w2 (.cells #[.slice no kept.length cn, .slice none 0 0] 31))
  have HA2 : Hid (RowR w 2 (.slice bo wait.length cb) wait.length (wcells wait)) := by
    obtain ⟨_, _, e, -, h⟩ := Hr.out
    simp only [Value.agg.injEq, Array.mk.injEq, List.cons.injEq, and_true] at e
    rw [e.2]; exact h
  clear k1 k2
  go_wp2
  go_loopw [4] (fun i wr => ∃ k : Nat, k ≤ wait.length ∧ i = .int .i64 k ∧ Row wr 9 1 (fun k => w1.heap.size ≤ k ∧ k < w2.heap.size) (.slice no kept.length cn) kept.length ((flushL kept (wait.take k)).map Value.string) ∧
      wr.heap[w.heap.size]? = some (.cells #[.slice ao kept.length ca, .slice bo wait.length cb] 31 (0, 0)) ∧ wr.heap[w.heap.size + 1]? = some (.cells #[.slice none 0 0, .slice none 0 0] 31 (0, 0)) ∧
      wr.heap[w2.heap.size]? = some (.cells #[.slice no kept.length cn, .slice none 0 0] 31 (0, 0)) ∧ Below w.heap.size w wr) (fun i _ => wait.length - (intOf i).toNat)
  case atStart => exact ⟨0, Nat.zero_le _, rfl, r2.keepB al2, bKeeps al2 H0.out, bKeeps al2 H1.out, HB2.out, hbw2.trans (al2.mono (by omega))⟩
  case round =>
    obtain ⟨k, hk, rfl, hrow, B0, B1, B2, hbel⟩ := hrel
    clear p0 p1 pl
    obtain ⟨p0, p1, pl⟩ := box2 B0
    obtain ⟨q0, q1, ql⟩ := box2 B1
    obtain ⟨q2, q3⟩ := box2f B1
    obtain ⟨t0, t1, tl⟩ := box2 B2
    have G0 := hide B0
    have G1 := hide B1
    have G2 := hide B2
    clear B0 B1 B2
    by_cases hlt : k < wait.length
    · obtain ⟨⟨a, s⟩, hsk⟩ := getAt wait k hlt
      obtain ⟨ha0, ha1, -⟩ := P4.out (a, s) (List.mem_of_getElem? hsk)
      simp only at ha0 ha1
      have Hsk := hide hsk
      obtain ⟨bo', cb', e2, -, -, hc0⟩ := HA2.out
      simp only [Value.slice.injEq, true_and] at e2
      obtain ⟨rfl, rfl⟩ := e2
      obtain ⟨b, off, rfl, hc⟩ := hc0 (by omega)
      clear hc0
      obtain ⟨e0, e1⟩ := wcells_at wait k (a, s) hsk
      have g1 := hc _ _ e0
      have g2 := hc _ _ e1
      have l1 : b < w.heap.size := World.block_lt_of_cell? w _ g1
      have f1 : wr.cell? ⟨b, off + k * 2, none⟩ = some (.int .i64 a) := by rw [Nat.mul_comm k 2]; exact (hbel.cell (p := ⟨b, off + 2 * k, none⟩) l1).trans g1
      have f2 : wr.cell? ⟨b, off + k * 2 + 1, none⟩ = some (.string s) := by rw [Nat.mul_comm k 2]; exact (hbel.cell (p := ⟨b, off + (2 * k + 1), none⟩) l1).trans g2
      have hi' : (k : Int) < (wait.length : Int) := by omega
      clear hc g1 g2 e0 e1 hsk
      obtain ⟨n, rfl⟩ := Int.eq_ofNat_of_zero_le ha0
      have hn' : n < kept.length := by omega
      obtain ⟨g, cap, u, ev, hS, hgl, hcu, -, hfu, hset⟩ := hrow.at n hn'
      simp only [Value.slice.injEq, true_and] at ev
      obtain ⟨rfl, rfl⟩ := ev
      have Hset := hide hset
      clear hset ha0
      have hne1 : ¬ g = w2.heap.size := by omega
      go_wp2
      go_region
      all_goals
        go_wp2
        go_roundw
        case rel =>
          have hup : Upd (fun k => k = g) wr (wr.setCell ⟨g, n, none⟩ (.string s)).drew := ⟨rfl, rfl, rfl, by simp, (Upd.setCell (S := fun k => k = g) wr g n (.string s) rfl).block⟩
          refine ⟨k + 1, by omega, by go_num, ?_, hup.keeps G0.out (by omega), hup.keeps G1.out (by omega), hup.keeps G2.out (by omega), hbel.trans (hup.below (by have := hbel.size; omega) (by intro k hk; omega))⟩
          have h1 := (Hset.out (.string s)).keepB ((Below.refl _ _).drew)
          have h2 : flushL kept (wait.take (k + 1)) = (flushL kept (wait.take k)).set n s := by
            rw [List.take_add_one, Hsk.out, Option.toList_some, flushL_snoc]
            simp
          rw [h2, List.map_set]
          exact h1
        case measure => simp [intOf]; omega
    · obtain rfl : k = wait.length := by omega
      rw [List.take_of_length_le (Nat.le_refl _)] at hrow
      go_wp2
      have hu : Upd (fun k => k = w.heap.size + 1) wr ((wr.setCell ⟨w.heap.size + 1, 0, none⟩ (.slice no kept.length cn)).setCell ⟨w.heap.size + 1, 1, none⟩ (.slice none 0 0)) :=
        upd_set2 _ _ _ _ _ _
      refine bodyPost_ret (v := .agg #[.slice no kept.length cn, .slice none 0 0]) (by simp [results, Tryd.results34, go_sem, q0, q1]) rfl ⟨_, rfl, ⟨_, _, rfl, ?_, Row.nil _ _ _ _⟩, ?_⟩
      · rw [flushL_len]
        exact (hrow.keep hu (by intro k hk; omega)).mono (fun k _ hk => by omega)
      · exact hbel.trans (hu.below (by have := hbel.size; omega) (by intro k hk; omega))

set_option maxHeartbeats 400000 in
theorem specSecFlush_no (v : Value) (kept : List ByteArray) (wait : List (Int × ByteArray)) (w : World) (hr : DiskR w v kept wait) (hs : ∀ s ∈ kept, s.size ≤ 9223372036854775807) (hs' : ∀ s ∈ wait, s.2.size ≤ 9223372036854775807) (hok : okB kept wait = false) :
    Calls Tryd.prog 34 #[v] w fun e w' => ∃ v', e = .returned v' ∧ DiskO w' (fun k => w.heap.size ≤ k) v' [] [] ∧ Below w.heap.size w w' := by
  have Hr := hide hr
  obtain ⟨ak, aw, rfl, ⟨ao, ca, rfl, -⟩, ⟨bo, cb, rfl, -⟩⟩ := hr
  have hal : Below w.heap.size w ((w.alloc (.cells #[.slice ao kept.length ca, .slice bo wait.length cb] 31)).alloc (.cells #[.slice none 0 0, .slice none 0 0] 31)) := ((Below.refl _ _).alloc (Nat.le_refl _) _).alloc (by simp) _
  have H1 := hide (al2_1 w (.cells #[.slice ao kept.length ca, .slice bo wait.length cb] 31) (.cells #[.slice none 0 0, .slice none 0 0] 31))
  have Hs := hide hs
  have Hs' := hide hs'
  clear hs hs'
  go_enter Tryd.func34, Tryd.ntmps34
  go_wp2_with fail
  refine (specSecOk_any _ kept wait _ (Hr.out.keep hal) Hs.out Hs'.out).mono ?_
  rintro e w1 ⟨rfl, b1⟩
  rw [hok]
  have B1 := bKeeps b1 H1.out
  obtain ⟨q0, q1, ql⟩ := box2 B1
  obtain ⟨q2, q3⟩ := box2f B1
  clear B1
  go_wp2
  have hu : Upd (fun k => k = w.heap.size + 1) w1 ((w1.setCell ⟨w.heap.size + 1, 0, none⟩ (.slice none 0 0)).setCell ⟨w.heap.size + 1, 1, none⟩ (.slice none 0 0)) :=
    upd_set2 _ _ _ _ _ _
  exact bodyPost_ret (v := .agg #[.slice none 0 0, .slice none 0 0]) (by simp [results, Tryd.results34, go_sem, q0, q1]) rfl ⟨_, rfl, ⟨_, _, rfl, Row.nil _ _ _ _, Row.nil _ _ _ _⟩, (bAll hal b1).trans (hu.below (by have := b1.size; simp only [World.size_alloc] at this; omega) (by intro k hk; omega))⟩

/-- What is kept behind a flush. -/
def flushK (kept : List ByteArray) (wait : List (Int × ByteArray)) : List ByteArray := if okB kept wait = true then flushL kept wait else []

theorem specSecFlush_any (v : Value) (kept : List ByteArray) (wait : List (Int × ByteArray)) (w : World) (hr : DiskR w v kept wait) (hs : ∀ s ∈ kept, s.size ≤ 9223372036854775807) (hs' : ∀ s ∈ wait, s.2.size ≤ 9223372036854775807) :
    Calls Tryd.prog 34 #[v] w fun e w' => ∃ v', e = .returned v' ∧ DiskO w' (fun k => w.heap.size ≤ k) v' (flushK kept wait) [] ∧ Below w.heap.size w w' := by
  unfold flushK
  split
  · exact specSecFlush_yes v kept wait w hr ‹_›
  · exact specSecFlush_no v kept wait w hr hs hs' (by simpa using ‹¬ okB kept wait = true›)

end Go.Proofs.YtapflnabiobonaaDoor
