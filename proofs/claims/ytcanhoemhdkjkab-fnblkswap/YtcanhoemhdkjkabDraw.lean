/- Disks that are drawn: contracts; no statement of the seat is proved here. -/
import Derived.Test.YtcanhoemhdkjkabSpecA
namespace Go.Proofs.Ytcanhoemhdkjkab
open Go.RowKit

/-- Short enough for every walk. -/
structure Small (d : Nat) (kept : List ByteArray) (wait : List (Int × ByteArray)) : Prop where
  kl : kept.length ≤ 512 + d
  ks : ∀ s ∈ kept, s.size ≤ 1000
  wl : wait.length ≤ 600 + d
  ws : ∀ x ∈ wait, x.2.size ≤ 1000

theorem Small.put {d : Nat} {kept : List ByteArray} {wait : List (Int × ByteArray)} (h : Small d kept wait) (a : Int) (s : ByteArray) (hs : s.size ≤ 1000) : Small d (putK kept wait) (putW kept wait a s) := by
  unfold putK putW
  by_cases hok : okB kept wait = true
  · rw [if_pos hok, if_pos hok]
    refine ⟨h.kl, h.ks, ?_, ?_⟩
    · split
      · rename_i hp
        simp only [putB, Bool.and_eq_true, decide_eq_true_eq] at hp
        simp
        omega
      · exact h.wl
    · split
      · intro x hx
        rcases List.mem_append.1 hx with hx | hx
        · exact h.ws x hx
        · rw [List.mem_singleton] at hx
          subst hx
          exact hs
      · exact h.ws
  · rw [if_neg hok, if_neg hok]
    exact ⟨by simp, by simp, by simp, by simp⟩

theorem flushL_small {kept : List ByteArray} {wait : List (Int × ByteArray)} (h1 : ∀ s ∈ kept, s.size ≤ 1000) (h2 : ∀ x ∈ wait, x.2.size ≤ 1000) : ∀ s ∈ flushL kept wait, s.size ≤ 1000 := by
  unfold flushL
  induction wait generalizing kept with
  | nil => exact h1
  | cons x xs ih =>
    simp only [List.foldl_cons]
    refine ih (fun s hs => ?_) (fun y hy => h2 y (List.mem_cons_of_mem _ hy))
    rcases List.mem_or_eq_of_mem_set hs with hs | rfl
    · exact h1 s hs
    · exact h2 x List.mem_cons_self

theorem Small.flush {d : Nat} {kept : List ByteArray} {wait : List (Int × ByteArray)} (h : Small d kept wait) : Small d (flushK kept wait) [] := by
  unfold flushK
  split
  · exact ⟨by rw [flushL_len]; exact h.kl, flushL_small h.ks h.ws, by simp, by simp⟩
  · exact ⟨by simp, by simp, by simp, by simp⟩

theorem small_new (n : Nat) : Small 0 (newKept (n : Int)) [] := by
  refine ⟨?_, ?_, by simp, by simp⟩
  · have := newKept_len (n : Int)
    omega
  · intro s hs
    unfold newKept at hs
    split at hs
    · rw [List.mem_replicate] at hs
      rw [hs.2]
      show (0 : Nat) ≤ 1000
      omega
    · simp at hs

theorem Upd.transN {S T : Nat → Prop} {a b c : World} (h : Upd S a b) (k : Upd T b c) (hT : ∀ i, T i → a.heap.size ≤ i) : Upd S a c :=
  ⟨k.os.trans h.os, k.tape.trans h.tape, k.output.trans h.output, Nat.le_trans h.size k.size,
    fun i hi hS => (k.block i (Nat.lt_of_lt_of_le hi h.size) (fun ht => by have := hT i ht; omega)).trans (h.block i hi hS)⟩

theorem Rd.lt {w0 w : World} {R p : Nat} (h : Rd w0 w R p) : R < w.heap.size ∧ w0.heap.size ≤ R ∧ w0.heap.size ≤ w.heap.size := by
  obtain ⟨_, _, _, _, _, _, _, h1, h2, h3⟩ := h
  exact ⟨heap_lt h1, h2, h3.size⟩

theorem Rd.apart {w0 w : World} {R p : Nat} (h : Rd w0 w R p) {S : Nat → Prop} {e : TypeId} (he : 67 ≠ e) : ¬ typed w S e R := by
  obtain ⟨_, _, _, _, _, _, _, h1, h2, h3⟩ := h
  exact typed_box h1 he rfl

end Go.Proofs.Ytcanhoemhdkjkab
