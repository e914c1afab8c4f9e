/- What the law FnExactSecOk does: its walk; the statement itself is proved elsewhere. -/
import Derived.Test.YtpgkiacpadglbaaIOk
namespace Go.Proofs.Ytpgkiacpadglbaa
open Go.RowKit

/-- What a disk that came in is known by: it reads so, and its texts have a length. -/
structure DiskIn (w : World) (v : Value) (kept : List ByteArray) (wait : List (Int × ByteArray)) : Prop where
  reads : DiskR w v kept wait
  kept : ∀ s ∈ kept, s.size ≤ 9223372036854775807
  wait : ∀ s ∈ wait, s.2.size ≤ 9223372036854775807

theorem DiskR.shape {w : World} {v : Value} {kept : List ByteArray} {wait : List (Int × ByteArray)} (h : DiskR w v kept wait) : ∃ ao ca ao' ca', v = .agg #[.slice ao kept.length ca, .slice ao' wait.length ca'] := by
  obtain ⟨vk, vw, rfl, ⟨ao, ca, rfl, -⟩, ⟨ao', ca', rfl, -⟩⟩ := h
  exact ⟨ao, ca, ao', ca', rfl⟩

set_option maxHeartbeats 1000000 in
theorem secOk_walk (v : Value) (kept : List ByteArray) (wait : List (Int × ByteArray)) (w : World) (hv : DiskIn w v kept wait) :
    Calls Try.prog 7 #[v] w fun e w' => e = .returned (.bool true) ∧ Below w.heap.size w w' := by
  obtain ⟨ao, ca, ao', ca', rfl⟩ := hv.reads.shape
  have hal : Below w.heap.size w (w.alloc (.cells #[.slice ao kept.length ca, .slice ao' wait.length ca'] 46)) := (Below.refl _ _).alloc (Nat.le_refl _) _
  have B0 := al1_0 w (.cells #[.slice ao kept.length ca, .slice ao' wait.length ca'] 46)
  have H0 := hide B0
  clear B0
  have Hv := hide hv
  have hd := hv.reads.keep hal
  clear hv
  go_enter Try.func7, Try.ntmps7
  go_wp2_with fail
  refine (szSecDisk_any _ kept wait _ hd Hv.out.kept Hv.out.wait).mono ?_
  rintro e w1 ⟨r, rfl, hz, b1⟩
  rcases hz with hneg | ⟨hr, hr0⟩
  · go_wp2
    go_ret
    exact ⟨rfl, bAll hal b1⟩
  · have hl1 : kept.length ≤ 1048576 := by omega
    have hl2 : wait.length ≤ 1048576 := by omega
    clear hr
    replace hd := hd.keep b1
    have B0 := bKeeps b1 H0.out
    obtain ⟨p0, p1, pl⟩ := box2 B0
    clear H0
    have H0 := hide B0
    clear B0
    go_wp2_with fail
    refine (toSecDisk_any _ kept wait _ hd hl1 hl2).mono ?_
    rintro e w2 ⟨v2, rfl, d2, b2⟩
    replace hd := hd.keep b2
    have B0 := bKeeps b2 H0.out
    clear p0 p1 pl H0
    obtain ⟨p0, p1, pl⟩ := box2 B0
    have H0 := hide B0
    clear B0
    obtain ⟨bo, cb, bo', cb', rfl⟩ := d2.reads.shape
    go_wp2_with fail
    refine (specSecOk_any _ kept wait _ d2.reads Hv.out.kept Hv.out.wait).mono ?_
    rintro e w3 ⟨rfl, b3⟩
    replace hd := hd.keep b3
    have B0 := bKeeps b3 H0.out
    clear p0 p1 pl H0
    obtain ⟨p0, p1, pl⟩ := box2 B0
    have H0 := hide B0
    clear B0
    obtain ⟨O, hO⟩ : ∃ O, okB kept wait = O := ⟨_, rfl⟩
    have HO := hide hO
    rw [hO]
    clear hO
    go_wp2_with fail
    refine (toSecDisk_any _ kept wait _ hd hl1 hl2).mono ?_
    rintro e w4 ⟨v4, rfl, d4, b4⟩
    replace hd := hd.keep b4
    have B0 := bKeeps b4 H0.out
    clear p0 p1 pl H0
    obtain ⟨p0, p1, pl⟩ := box2 B0
    have H0 := hide B0
    clear B0
    obtain ⟨co, cc, co', cc', rfl⟩ := d4.reads.shape
    go_wp2_with fail
    have al4 : Below w4.heap.size w4 (w4.alloc (.cells #[.slice co kept.length cc, .slice co' wait.length cc'] 26)) := (Below.refl _ _).alloc (Nat.le_refl _) _
    have B1 := al1_0 w4 (.cells #[.slice co kept.length cc, .slice co' wait.length cc'] 26)
    replace hd := hd.keep al4
    have hx := d4.reads.keep al4
    have B0 := bKeeps al4 H0.out
    clear p0 p1 pl H0
    refine (implSecOk_any kept wait _ _ hx Hv.out.kept Hv.out.wait).mono ?_
    rintro e w5 ⟨rfl, b5⟩
    rw [HO.out]
    replace hd := hd.keep b5
    replace hx := hx.keep b5
    replace B0 := bKeeps b5 B0
    replace B1 := bKeeps b5 B1
    obtain ⟨p0, p1, pl⟩ := box2 B0
    obtain ⟨q0, q1, ql⟩ := box2 B1
    have H0 := hide B0
    have H1 := hide B1
    clear B0 B1
    go_wp2_with fail
    have hdd : DiskR w5.drew _ kept wait := hd.keep ((Below.refl _ _).drew)
    have hxd : DiskR w5.drew _ kept wait := hx.keep ((Below.refl _ _).drew)
    have Hto := hide (toSecDisk_any _ kept wait _ hdd hl1 hl2)
    go_region_with (first | (go_at_call 27; refine (unhide Hto).mono ?_; rintro e w6 ⟨v6, rfl, d6, b6⟩; obtain ⟨eo, ce, eo', ce', rfl⟩ := d6.reads.shape; have s0 : w6.cell? ⟨w4.heap.size, 0, none⟩ = some (.slice co kept.length cc) := (b6.cell (p := ⟨w4.heap.size, 0, none⟩) ql).trans q0; have s1 : w6.cell? ⟨w4.heap.size, 1, none⟩ = some (.slice co' wait.length cc') := (b6.cell (p := ⟨w4.heap.size, 1, none⟩) ql).trans q1) | (go_at_call 28; refine (eqSecDisk_true _ _ kept wait _ (hxd.keep b6) d6.reads).mono ?_; rintro e w7 ⟨rfl, b7⟩))
    all_goals
      go_wp2
      go_ret
      exact ⟨rfl, bAll (bAll (bAll (bAll (bAll (bAll (bAll hal b1) b2) b3) b4) al4) b5) (bAll (bUndrew b6) b7)⟩

end Go.Proofs.Ytpgkiacpadglbaa
