/- What the laws' own helpers do with disks: contracts; no statement of the seat is proved here. -/
import Derived.Test.YtapflnabiobonaaDoorH2
namespace Go.Proofs.YtapflnabiobonaaDoor
open Go.RowKit

/-- A disk as it reads. -/
def DiskR (w : World) (v : Value) (kept : List ByteArray) (wait : List (Int × ByteArray)) : Prop :=
  ∃ vk vw, v = .agg #[vk, vw] ∧ RowR w 1 vk kept.length (kept.map Value.string) ∧ RowR w 2 vw wait.length (wcells wait)

/-- A disk in rows of its own, in blocks of S. -/
def DiskO (w : World) (S : Nat → Prop) (v : Value) (kept : List ByteArray) (wait : List (Int × ByteArray)) : Prop :=
  ∃ vk vw, v = .agg #[vk, vw] ∧ Row w 9 1 S vk kept.length (kept.map Value.string) ∧ Row w 63 2 S vw wait.length (wcells wait)

theorem DiskO.reads {w : World} {S : Nat → Prop} {v : Value} {kept : List ByteArray} {wait : List (Int × ByteArray)} (h : DiskO w S v kept wait) : DiskR w v kept wait := by
  obtain ⟨vk, vw, rfl, h1, h2⟩ := h
  exact ⟨vk, vw, rfl, h1.reads, h2.reads⟩

theorem DiskR.keep {w w' : World} {v : Value} {kept : List ByteArray} {wait : List (Int × ByteArray)} (h : DiskR w v kept wait) (hb : Below w.heap.size w w') : DiskR w' v kept wait := by
  obtain ⟨vk, vw, rfl, h1, h2⟩ := h
  exact ⟨vk, vw, rfl, h1.keep hb, h2.keep hb⟩

theorem DiskO.keep {w w' : World} {S T : Nat → Prop} {v : Value} {kept : List ByteArray} {wait : List (Int × ByteArray)} (h : DiskO w S v kept wait) (hb : Upd T w w') (hST : ∀ k, S k → ¬ T k) : DiskO w' S v kept wait := by
  obtain ⟨vk, vw, rfl, h1, h2⟩ := h
  exact ⟨vk, vw, rfl, h1.keep hb hST, h2.keep hb hST⟩

theorem DiskO.keepB {w w' : World} {S : Nat → Prop} {v : Value} {kept : List ByteArray} {wait : List (Int × ByteArray)} (h : DiskO w S v kept wait) (hb : Below w.heap.size w w') : DiskO w' S v kept wait := by
  obtain ⟨vk, vw, rfl, h1, h2⟩ := h
  exact ⟨vk, vw, rfl, h1.keepB hb, h2.keepB hb⟩

theorem DiskO.mono {w : World} {S T : Nat → Prop} {v : Value} {kept : List ByteArray} {wait : List (Int × ByteArray)} (h : DiskO w S v kept wait) (hST : ∀ k, k < w.heap.size → S k → T k) : DiskO w T v kept wait := by
  obtain ⟨vk, vw, rfl, h1, h2⟩ := h
  exact ⟨vk, vw, rfl, h1.mono hST, h2.mono hST⟩

/-- The blocks of S that are rows of a type. -/
def typed (w : World) (S : Nat → Prop) (e : TypeId) : Nat → Prop := fun k => S k ∧ ∃ cur, w.heap[k]? = some (.cells cur e (0, 0))

theorem typed_apart {w : World} {S T : Nat → Prop} {e f : TypeId} (h : e ≠ f) (k : Nat) (h1 : typed w S e k) : ¬ typed w T f k := by
  obtain ⟨_, c, hc⟩ := h1
  rintro ⟨_, c', hc'⟩
  rw [hc] at hc'
  simp at hc'
  exact h hc'.2

theorem Row.typed {w : World} {e : TypeId} {size : Nat} {S : Nat → Prop} {v : Value} {n : Nat} {cs : List Value} (h : Row w e size S v n cs) : Row w e size (typed w S e) v n cs := by
  obtain ⟨ao, cap, rfl, hn, hl, h⟩ := h
  refine ⟨ao, cap, rfl, hn, hl, fun h0 => ?_⟩
  obtain ⟨g, cur, rfl, hS, hg, ht⟩ := h h0
  exact ⟨g, cur, rfl, ⟨hS, cur, hg⟩, hg, ht⟩

set_option maxHeartbeats 400000 in
theorem eqSecDisk_true (va vb : Value) (kept : List ByteArray) (wait : List (Int × ByteArray)) (w : World) (ha : DiskR w va kept wait) (hb : DiskR w vb kept wait) :
    Calls Tryd.prog 14 #[va, vb] w fun e w' => e = .returned (.bool true) ∧ Below w.heap.size w w' := by
  obtain ⟨ak, aw, rfl, a1, a2⟩ := ha
  obtain ⟨bk, bw, rfl, b1, b2⟩ := hb
  have hal : Below w.heap.size w ((w.alloc (.cells #[ak, aw] 31)).alloc (.cells #[bk, bw] 31)) := ((Below.refl _ _).alloc (Nat.le_refl _) _).alloc (by simp) _
  have ka1 := a1.keep hal
  have ka2 := a2.keep hal
  have kb1 := b1.keep hal
  have kb2 := b2.keep hal
  obtain ⟨ao, ca, rfl, -⟩ := a1
  obtain ⟨ao2, ca2, rfl, -⟩ := a2
  obtain ⟨bo, cb, rfl, -⟩ := b1
  obtain ⟨bo2, cb2, rfl, -⟩ := b2
  go_enter Tryd.func14, Tryd.ntmps14
  go_wp2_with fail
  refine (eqStringS_true _ _ _ kept _ ka1 kb1).mono ?_
  rintro e w1 ⟨rfl, hb1⟩
  have ka2' := ka2.keep hb1
  have kb2' := kb2.keep hb1
  obtain ⟨hc, hf⟩ := bCells hb1
  have hz := hb1.size
  simp only [World.size_alloc] at hz
  go_wp2_with fail
  refine (eqSecWriteS_true _ _ _ wait _ ka2' kb2').mono ?_
  rintro e w2 ⟨rfl, hb2⟩
  go_wp2
  go_ret
  exact ⟨rfl, bAll (bAll hal hb1) hb2⟩

set_option maxHeartbeats 400000 in
theorem markSecDisk_any (S : Nat → Prop) (v : Value) (kept : List ByteArray) (wait : List (Int × ByteArray)) (k0 : Nat) (w : World) (h : DiskO w S v kept wait) (h1 : 1 ≤ k0) (h2 : k0 + kept.length + 2 * wait.length ≤ 1099511627776) :
    Calls Tryd.prog 15 #[v, .int .i64 k0] w fun e w' => e = .returned (.int .i64 (k0 + kept.length + 2 * wait.length : Nat)) ∧
      DiskO w' S v (mkS k0 kept.length) (mkW (k0 + kept.length) wait.length) ∧ Upd S w w' := by
  obtain ⟨ak, aw, rfl, a1, a2⟩ := h
  have hal : Below w.heap.size w (w.alloc (.cells #[ak, aw] 31)) := (Below.refl _ _).alloc (Nat.le_refl _) _
  have k1 := (a1.keepB hal).typed
  have k2 := (a2.keepB hal).typed
  have hbox : (w.alloc (.cells #[ak, aw] 31)).heap[w.heap.size]? = some (.cells #[ak, aw] 31 (0, 0)) := heap_alloc_new w _
  obtain ⟨ao, ca, rfl, -⟩ := a1
  obtain ⟨ao2, ca2, rfl, -⟩ := a2
  go_enter Tryd.func15, Tryd.ntmps15
  go_wp2_with fail
  refine (markStringS_any _ _ _ _ k0 _ k1 h1 (by omega)).mono ?_
  rintro e w1 ⟨rfl, r1, u1⟩
  have hbox1 := u1.keeps hbox (by rintro ⟨_, c, hc⟩; rw [hbox] at hc; simp at hc)
  have hc1 : w1.cell? ⟨w.heap.size, 1, none⟩ = some (.slice ao2 wait.length ca2) := (cell_of_row w1 _ 1 _ _ (0, 0) hbox1).trans rfl
  have q2 := ((k2.keep u1 (fun k => typed_apart (by decide) k)).mono (fun _ _ h => h.1)).typed
  have q1 := (r1.mono (T := S) (fun _ _ h => h.1)).typed
  clear hbox hbox1
  go_wp2_with fail
  refine (markSecWriteS_any _ _ _ _ (k0 + kept.length) _ q2 (by omega) (by omega)).mono ?_
  rintro e w2 ⟨rfl, r2, u2⟩
  go_wp2
  go_ret
  refine ⟨rfl, ⟨_, _, rfl, ?_, ?_⟩, ?_⟩
  · rw [mkS_len]
    exact (q1.keep u2 (fun k => typed_apart (by decide) k)).mono (fun _ _ h => h.1)
  · rw [mkW_len]
    exact r2.mono (fun _ _ h => h.1)
  · exact ((Upd.ofBelow hal).trans (u1.mono fun _ h => h.1)).trans (u2.mono fun _ h => h.1)

end Go.Proofs.YtapflnabiobonaaDoor
