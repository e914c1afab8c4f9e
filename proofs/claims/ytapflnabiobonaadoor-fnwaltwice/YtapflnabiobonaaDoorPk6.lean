/- Contracts and plain facts that the claims of this seat lean on (texts Put); no statement of the seat is proved here. -/
import Derived.Test.YtapflnabiobonaaDoorPk2

/- What SecPut of the program does: contracts; no statement of the seat is proved here. -/
namespace Go.Proofs.YtapflnabiobonaaDoor
open Go.RowKit

def putO (kept : List ByteArray) (wait : List (Int × ByteArray)) (a : Int) (s : ByteArray) : Bool := writeOkB kept.length (a, s) && decide (wait.length < 600)
def putX (kept : List ByteArray) (wait : List (Int × ByteArray)) (a : Int) (s : ByteArray) : List (Int × ByteArray) := if putO kept wait a s = true then wait ++ [(a, s)] else wait

theorem upd_append {w W w' : World} {base : Nat} {e : TypeId} (h1 : Below w.heap.size w W) (h2 : Upd (typed W (fun k => base ≤ k) e) W w') : Upd (typed w (fun k => base ≤ k) e) w w' := by
  refine ⟨h2.os.trans h1.os, h2.tape.trans h1.tape, h2.output.trans h1.output, Nat.le_trans h1.size h2.size, fun k hk hT => ?_⟩
  refine (h2.block k (Nat.lt_of_lt_of_le hk h1.size) (fun ht => hT ?_)).trans (h1.block k hk)
  obtain ⟨hb, cur, hc⟩ := ht
  exact ⟨hb, cur, (h1.block k hk) ▸ hc⟩

set_option maxRecDepth 100000 in
set_option maxHeartbeats 2000000 in
theorem put_any (kept : List ByteArray) (wait : List (Int × ByteArray)) (a : Int) (s : ByteArray) (base B : Nat) (no mo : Option Addr) (cn cm : Nat) (w : World)
    (hbox : w.heap[B]? = some (.cells #[.slice no kept.length cn, .slice mo wait.length cm] 94 (0, 0)))
    (hwait : RowA w base 63 2 (.slice mo wait.length cm) wait.length (wcells wait)) (hbase : base ≤ w.heap.size) (hk : kept.length ≤ 512) (hl : wait.length ≤ 600) (hss : s.size ≤ 9223372036854775807) :
    Calls Tryd.prog 83 #[.pointer (some ⟨B, 0, none⟩), .agg #[.int .i64 a, .string s]] w fun e w' => e = .returned (.bool (putO kept wait a s)) ∧
      ∃ mo' cm', w'.heap[B]? = some (.cells #[.slice no kept.length cn, .slice mo' (putX kept wait a s).length cm'] 94 (0, 0)) ∧ Row w' 63 2 (fun k => base ≤ k) (.slice mo' (putX kept wait a s).length cm') (putX kept wait a s).length (wcells (putX kept wait a s)) ∧
        Upd (fun k => k = B ∨ typed w (fun k => base ≤ k) 63 k) w w' := by
  have al1 : Below w.heap.size w (w.alloc (.cells #[.int .i64 a, .string s] 63)) := (Below.refl _ _).alloc (Nat.le_refl _) _
  obtain ⟨W, hW⟩ : ∃ W, W = w.alloc (.cells #[.int .i64 a, .string s] 63) := ⟨_, rfl⟩
  have ZW : Hid (W.heap.size = w.heap.size + 1) := by show _ = _; rw [hW]; simp
  have hX : W.heap[w.heap.size]? = some (.cells #[.int .i64 a, .string s] 63 (0, 0)) := by rw [hW]; exact al1_0 w _
  rw [← hW] at al1
  have HB := hide (bKeeps al1 hbox)
  have hBl : B < w.heap.size := heap_lt hbox
  have hw1 := hwait.keepB al1
  obtain ⟨p0, p1, pl⟩ := box2 HB.out
  obtain ⟨p2, p3⟩ := box2f HB.out
  obtain ⟨x0, x1, xl⟩ := box2 hX
  have HX := hide hX
  clear hbox hX hwait
  obtain ⟨i1, gi, gz0, gz1, gz2⟩ := info_parts infoWr
  by_cases hlen : (wait.length : Int) ≥ 600
  · have HO : Hid (putO kept wait a s = false ∧ putX kept wait a s = wait) := by
      have h1 : putO kept wait a s = false := by simp [putO, show ¬ wait.length < 600 by omega]
      exact ⟨h1, by simp [putX, h1]⟩
    go_enter Tryd.func83, Tryd.ntmps83
    go_wp2
    rw [← hW]
    clear hW
    go_quiet (fail)
    go_wp2
    go_ret
    rw [HO.out.1, HO.out.2]
    exact ⟨rfl, mo, cm, HB.out, (hw1.row (by omega)), ⟨al1.os, al1.tape, al1.output, al1.size, fun k hk _ => al1.block k hk⟩⟩
  · have hlen' : (wait.length : Int) < 600 := by omega
    have hd : decide ((600 : Int) ≤ (wait.length : Int)) = false := by simpa using hlen'
    clear hlen
    have Hf := hide (fits_any no kept.length cn a s W.drew (by omega) hss)
    cases hB : writeOkB kept.length (a, s)
    · have HO : Hid (putO kept wait a s = false ∧ putX kept wait a s = wait) := by
        have h1 : putO kept wait a s = false := by simp [putO, hB]
        exact ⟨h1, by simp [putX, h1]⟩
      rw [hB] at Hf
      clear hB
      go_enter Tryd.func83, Tryd.ntmps83
      go_wp2
      rw [← hW]
      clear hW
      go_region_with (go_at_call 86; refine (unhide Hf).mono ?_; rintro e w1 ⟨rfl, b1⟩)
      all_goals
        go_wp2
        go_ret
        rw [HO.out.1, HO.out.2]
        have b1' : Below W.heap.size W w1 := bUndrew b1
        exact ⟨rfl, mo, cm, bKeeps b1' HB.out, (hw1.keepB b1').row (by omega), Upd.ofBelow (bAll al1 b1')⟩
    · have HO : Hid (putO kept wait a s = true ∧ putX kept wait a s = wait ++ [(a, s)]) := by
        have h1 : putO kept wait a s = true := by simp [putO, hB]; omega
        exact ⟨h1, by simp [putX, h1]⟩
      rw [hB] at Hf
      clear hB
      go_enter Tryd.func83, Tryd.ntmps83
      go_wp2
      rw [← hW]
      clear hW
      go_region_with (go_at_call 86; refine (unhide Hf).mono ?_; rintro e w1 ⟨rfl, b1⟩)
      all_goals
        have b1' : Below W.heap.size W w1 := bUndrew b1
        clear b1 p0 p1 p2 p3 pl x0 x1 xl
        have HB1 := hide (bKeeps b1' HB.out)
        obtain ⟨p0, p1, pl⟩ := box2 HB1.out
        obtain ⟨p2, p3⟩ := box2f HB1.out
        obtain ⟨x0, x1, xl⟩ := box2 (bKeeps b1' HX.out)
        have al2 : Below w1.heap.size w1 (w1.drew.alloc (.cells #[.int .i64 a, .string s] 63)) := ((Below.refl _ _).drew).alloc (Nat.le_refl _) _
        have N3 := hide (new_cells w1.drew a s 63)
        have s3 := (hw1.keepB b1').keepB al2
        have hbs : base ≤ (w1.drew.alloc (.cells #[.int .i64 a, .string s] 63)).heap.size := by have := al2.size; have := b1'.size; have := unhide ZW; omega
        go_wp2
        go_region_law (refine step_appendA rfl _ _ 29 rfl base 63 i1 (.agg #[.int .i64 0, .string ⟨#[]⟩]) 2 24 Tryd.underlying29 gi gz0 gz1 gz2 rfl (by decide) _ wait.length (wcells wait) rfl s3 ⟨w1.heap.size, 0, none⟩ 1 1 [.int .i64 a, .string s] rfl rfl N3.out (new_one a s) (by decide) (by unfold maxLen; omega) (by omega) hbs ?_; intro v4 w4 hown u4; obtain ⟨mo', cm', rfl⟩ := (Row.ofOwns hown (by omega)).shape; obtain ⟨t0, t1, tl⟩ := box2 (u4.keeps (bKeeps al2 HB1.out) (typed_box (bKeeps al2 HB1.out) (by decide) rfl)); obtain ⟨t2, t3⟩ := box2f (u4.keeps (bKeeps al2 HB1.out) (typed_box (bKeeps al2 HB1.out) (by decide) rfl)))
        all_goals
          have ZW' := unhide ZW
          have z1 := b1'.size
          have s4 := (Row.ofOwns hown (by omega)).typed
          have hbx := u4.keeps (bKeeps al2 HB1.out) (typed_box (bKeeps al2 HB1.out) (by decide) rfl)
          have hu4 := upd_append (bAll (bAll al1 b1') al2) u4
          have hu := Upd.setCell (S := fun k => k = B) w4 B 1 (.slice mo' (wait.length + 1) cm') rfl
          go_wp2
          go_ret
          rw [HO.out.1, HO.out.2, wcells_snoc, List.length_append]
          exact ⟨rfl, mo', cm', row_set _ hbx, (s4.keep hu (by rintro k ht rfl; exact typed_box hbx (by decide) rfl ht)).mono (fun k _ h => h.1), (hu4.mono (fun k h => .inr h)).trans (hu.mono (fun k h => .inl h))⟩

end Go.Proofs.YtapflnabiobonaaDoor
