/- WalMend of the program and of the specification: contracts; no statement of the seat is proved here. -/
import Derived.Test.YtapflnabiobonaaDoorWBld
import Derived.Test.YtapflnabiobonaaDoorWRead
namespace Go.Proofs.YtapflnabiobonaaDoor
open Go.RowKit

/-- The steps of mending. -/
def mendL (kept : List ByteArray) (wait : List (Int × ByteArray)) : List Stp :=
  if readB kept wait = true ∧ (sign0 (flushK kept wait)).size ≠ 0 then applyL (logL (sign0 (flushK kept wait)) (flushK kept wait)) else []

theorem mendL_no {kept : List ByteArray} {wait : List (Int × ByteArray)} (h : readB kept wait = false) : mendL kept wait = [] := by simp [mendL, h]
theorem mendL_of {kept : List ByteArray} {wait : List (Int × ByteArray)} {F : List ByteArray} {s : ByteArray} (hr : readB kept wait = true) (hF : flushK kept wait = F) (h0 : F[0]? = some s) : mendL kept wait = if s.size ≠ 0 then applyL (logL s F) else [] := by
  simp only [mendL, hr, hF, sign0_of h0, true_and]
theorem empty_size {s : ByteArray} (h : s.toList.isEmpty = true) : s.size = 0 := by
  have e := toList_len s
  rw [List.isEmpty_iff.1 h] at e
  simpa using e.symm

theorem applyL_len (L : List (Int × ByteArray)) : (applyL L).length = L.length + 3 := by simp [applyL]

set_option maxRecDepth 100000 in
set_option maxHeartbeats 2000000 in
theorem implWalMend_any (v : Value) (kept : List ByteArray) (wait : List (Int × ByteArray)) (w : World) (hg : ErrVar w) (hr : DiskR w v kept wait) (hs : ∀ s ∈ kept, s.size ≤ 9223372036854775807) (hs' : ∀ s ∈ wait, s.2.size ≤ 9223372036854775807) :
    Calls Tryd.prog 19 #[v] w fun e w' => ∃ v', e = .returned (.tuple #[v', .bool (readB kept wait)]) ∧ Row w' 50 3 (fun k => w.heap.size ≤ k) v' (mendL kept wait).length (scells (mendL kept wait)) ∧ Below w.heap.size w w' := by
  have Hr := hide hr
  obtain ⟨ak, aw, rfl, ⟨ao, ca, rfl, -⟩, ⟨bo, cb, rfl, -⟩⟩ := hr
  have hal : Below w.heap.size w (w.alloc (.cells #[.slice ao kept.length ca, .slice bo wait.length cb] 31)) := (Below.refl _ _).alloc (Nat.le_refl _) _
  have Hg := hide (errVar_keep hg hal)
  clear hg
  go_enter Tryd.func19, Tryd.ntmps19
  go_wp2_with fail
  refine (walOpen_any _ kept wait _ Hg.out (Hr.out.keep hal) hs hs').mono ?_
  rintro e w1 ⟨⟨hrb, F, s, L, g, gc, no, nc, hF, hFl, h0, hL, hlb, hFz, rfl, hgc, kF, kL⟩ | ⟨hrb, rfl⟩, b1⟩
  · have c1 := bAll hal b1
    have z1 := c1.size
    have hLb : ∀ x ∈ L, 0 ≤ x.1 ∧ x.1 < 250 := by rw [← hL]; exact logL_bound hlb
    have hLn : L.length ≤ 512 := by rw [← hL]; have := logL_len s F; omega
    have HRB := hide hrb
    have HM := hide (mendL_of hrb hF h0)
    rw [hL] at HM
    obtain ⟨W, hW⟩ : ∃ W, W = (w1.alloc (.cells #[.slice (some ⟨g, 0, none⟩) F.length gc, .slice no L.length nc] 69)).alloc (.cells #[.slice none 0 0] 78) := ⟨_, rfl⟩
    have al2 : Below w1.heap.size w1 W := by rw [hW]; exact ((Below.refl _ _).alloc (Nat.le_refl _) _).alloc (by simp) _
    have hzW : W.heap.size = w1.heap.size + 2 := by rw [hW]; simp
    have X0 := hide (show W.heap[w1.heap.size]? = some (.cells #[.slice (some ⟨g, 0, none⟩) F.length gc, .slice no L.length nc] 69 (0, 0)) by rw [hW]; exact al2_0 w1 _ _)
    have X1 := hide (show W.heap[w1.heap.size + 1]? = some (.cells #[.slice none 0 0] 78 (0, 0)) by rw [hW]; exact al2_1 w1 _ _)
    have HS := hide (signed_any _ no gc L.length nc F s W (kF.keep al2) h0)
    have kL2 := hide (kL.keep al2)
    clear hrb hF hFl hL hlb hFz hgc kF kL h0
    go_wp2_with fail
    rw [← hW]
    clear hW
    refine (unhide HS).mono ?_
    rintro e w2 ⟨rfl, b2⟩
    have c2 := bAll (bAll c1 al2) b2
    have z2 := b2.size
    replace X0 := hide (bKeeps b2 X0.out)
    replace X1 := hide (bKeeps b2 X1.out)
    obtain ⟨p0, p1, pl⟩ := box2 X0.out
    obtain ⟨q0, q1, ql⟩ := box1 X1.out
    clear HS
    cases he : s.toList.isEmpty
    · have hsz : s.size ≠ 0 := by have := size_pos he; omega
      have HM2 : Hid (mendL kept wait = applyL L) := by show _ = _; rw [HM.out, if_pos hsz]
      have HA := hide (bapply_any (w1.heap.size + 1) W.heap.size [] no nc L w2 ⟨by omega, by omega, none, 0, X1.out, .inl (World.ownsRow_nil _ _ _ _)⟩ (by simp) (kL2.out.keep b2) hLb hLn)
      clear hsz he HM
      go_wp2_with fail
      refine (unhide HA).mono ?_
      rintro e w3 ⟨rfl, ⟨hb1, hb2, so, sc, hbx, hrow⟩, u3⟩
      have r3 := (hrow.row (by rw [List.nil_append, applyL_len]; omega)).mono (T := fun k => w.heap.size ≤ k) (fun k _ h => by omega)
      rw [List.nil_append] at r3 hbx
      have R3 := hide r3
      obtain ⟨t0, t1, tl⟩ := box1 hbx
      have c3 : Below w.heap.size w w3 := c2.trans (u3.below (by have := c2.size; omega) (fun k h => by omega))
      clear p0 p1 pl q0 q1 ql HA hbx hrow r3
      go_wp2
      go_ret2
      rw [HRB.out, HM2.out]
      exact ⟨_, rfl, R3.out, c3⟩
    · have hsz : s.size = 0 := empty_size he
      have HM2 : Hid (mendL kept wait = []) := by show _ = _; rw [HM.out, if_neg (by simpa using hsz)]
      clear hsz HM
      go_wp2
      go_ret2
      rw [HRB.out, HM2.out]
      exact ⟨_, rfl, Row.nil _ _ _ _, c2⟩
  · have HX : Hid (readB kept wait = false ∧ mendL kept wait = []) := ⟨hrb, mendL_no hrb⟩
    have c1 := bAll hal b1
    clear hrb
    go_wp2
    go_ret2
    rw [HX.out.1, HX.out.2]
    exact ⟨_, rfl, Row.nil _ _ _ _, c1.alloc c1.size _⟩

theorem l2Put_any (a : Int) (s : ByteArray) (w : World) :
    Calls Tryd.prog 48 #[.int .i64 a, .string s] w fun e w' => e = .returned (.agg #[.bool false, .int .i64 a, .string s]) ∧ Below w.heap.size w w' := by
  go_enter Tryd.func48, Tryd.ntmps48
  go_wp2
  exact bodyPost_ret (v := .agg #[.bool false, .int .i64 a, .string s]) (by simp [results, Tryd.results48, go_sem]) rfl ⟨rfl, by repeat (first | exact Below.refl _ _ | refine Below.alloc ?_ (Nat.le_refl _) _)⟩

end Go.Proofs.YtapflnabiobonaaDoor
