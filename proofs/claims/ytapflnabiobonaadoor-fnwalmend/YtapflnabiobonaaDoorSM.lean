/- Plain facts on disks as lists: what a flush, a loss of power and a write leave; no statement of the seat is proved here. -/
import Derived.Test.YtapflnabiobonaaDoorSCut
import Derived.Test.YtapflnabiobonaaDoorLook
namespace Go.Proofs.YtapflnabiobonaaDoor

theorem flushL_at (kept : List ByteArray) (wait : List (Int × ByteArray)) (i : Nat) : (flushL kept wait)[i]? = kept[i]? ∨ ∃ x ∈ wait, x.1.toNat = i ∧ (flushL kept wait)[i]? = some x.2 := by
  unfold flushL
  induction wait generalizing kept with
  | nil => exact .inl rfl
  | cons x xs ih =>
    simp only [List.foldl_cons]
    rcases ih (kept.set x.1.toNat x.2) with h | ⟨y, hy, h1, h2⟩
    · by_cases e : x.1.toNat = i
      · by_cases hl : i < kept.length
        · exact .inr ⟨x, List.mem_cons_self, e, by rw [h, e, List.getElem?_set_self hl]⟩
        · refine .inl ?_
          rw [h, List.getElem?_eq_none (by simp; omega), List.getElem?_eq_none (by omega)]
      · exact .inl (by rw [h, List.getElem?_set_ne e])
    · exact .inr ⟨y, List.mem_cons_of_mem _ hy, h1, h2⟩

theorem flushL_all {kept : List ByteArray} {wait : List (Int × ByteArray)} {P : ByteArray → Prop} (h1 : ∀ s ∈ kept, P s) (h2 : ∀ x ∈ wait, P x.2) : ∀ s ∈ flushL kept wait, P s := by
  intro s hs
  obtain ⟨i, hi⟩ := List.getElem?_of_mem hs
  rcases flushL_at kept wait i with h | ⟨x, hx, -, h⟩
  · rw [hi] at h
    exact h1 s (List.mem_of_getElem? h.symm)
  · rw [hi] at h
    rw [Option.some.inj h]
    exact h2 x hx

theorem okB_mk {kept : List ByteArray} {wait : List (Int × ByteArray)} (h1 : kept.length ≤ 512) (h2 : wait.length ≤ 600) (h3 : ∀ s ∈ kept, s.size ≤ 16) (h4 : ∀ x ∈ wait, 0 ≤ x.1 ∧ x.1 < kept.length ∧ x.2.size ≤ 16) : okB kept wait = true := by
  simp only [okB, Bool.and_eq_true, decide_eq_true_eq, List.all_eq_true, writeOkB, inB]
  exact ⟨⟨⟨h1, h2⟩, h3⟩, fun x hx => by have := h4 x hx; omega⟩

theorem ok_flush {kept : List ByteArray} {wait : List (Int × ByteArray)} (h : okB kept wait = true) : okB (flushL kept wait) [] = true := by
  obtain ⟨h1, h2, h3, h4⟩ := okB_parts h
  exact okB_mk (by rw [flushL_len]; exact h1) (by simp) (flushL_all h3 (fun x hx => (h4 x hx).2.2)) (by simp)

theorem okB_nil : okB [] [] = true := by decide

theorem ok_flushK (kept : List ByteArray) (wait : List (Int × ByteArray)) : okB (flushK kept wait) [] = true := by
  unfold flushK
  split
  · exact ok_flush ‹_›
  · exact okB_nil

theorem cutK_nil {kept : List ByteArray} (ks : List Int) (h : okB kept [] = true) : cutK kept [] ks = kept := by simp [cutK, h, cutL, selL, flushL]

theorem lookB_flush {kept : List ByteArray} {wait : List (Int × ByteArray)} (h : okB kept wait = true) (a : Int) : lookB (flushL kept wait) [] a = lookB kept wait a := by
  have e : flushL (flushL kept wait) [] = flushL kept wait := rfl
  simp only [lookB, h, ok_flush h, flushL_len, e]

theorem cutK_at {kept : List ByteArray} {wait : List (Int × ByteArray)} (ks : List Int) (h : okB kept wait = true) (i : Nat) (s : ByteArray) (hs : (cutK kept wait ks)[i]? = some s) : kept[i]? = some s ∨ (((i : Nat) : Int), s) ∈ wait := by
  obtain ⟨h1, h2, h3, h4⟩ := okB_parts h
  simp only [cutK, h, if_true, cutL] at hs
  rcases flushL_at kept (selL wait ks (List.range wait.length)) i with e | ⟨x, hx, hi, e⟩
  · exact .inl (by rw [← e]; exact hs)
  · have hm := selL_mem (Nat.le_refl _) hx
    have := h4 x hm
    rw [hs] at e
    rw [Option.some.inj e, show ((i : Nat) : Int) = x.1 by omega]
    exact .inr hm

theorem ok_cutK (kept : List ByteArray) (wait : List (Int × ByteArray)) (ks : List Int) : okB (cutK kept wait ks) [] = true := by
  unfold cutK
  split
  · rename_i h
    obtain ⟨h1, h2, h3, h4⟩ := okB_parts h
    exact okB_mk (by rw [cutL, flushL_len]; exact h1) (by simp) (flushL_all h3 (fun x hx => (h4 x (selL_mem (Nat.le_refl _) hx)).2.2)) (by simp)
  · exact okB_nil

theorem put_true {kept : List ByteArray} {wait : List (Int × ByteArray)} {a : Int} {s : ByteArray} (h : putB kept wait a s = true) :
    okB kept wait = true ∧ 0 ≤ a ∧ a < kept.length ∧ s.size ≤ 16 ∧ putK kept wait = kept ∧ putW kept wait a s = wait ++ [(a, s)] ∧ okB kept (wait ++ [(a, s)]) = true := by
  have h0 := h
  simp only [putB, Bool.and_eq_true, decide_eq_true_eq, writeOkB, inB] at h0
  obtain ⟨hok, ⟨⟨ha, hb⟩, hc⟩, hd⟩ := h0
  obtain ⟨h1, h2, h3, h4⟩ := okB_parts hok
  refine ⟨hok, ha, by omega, hc, by simp [putK, hok], by simp [putW, hok, h], okB_mk h1 (by simp; omega) h3 (fun x hx => ?_)⟩
  rcases List.mem_append.1 hx with hx | hx
  · exact h4 x hx
  · rw [List.mem_singleton] at hx
    subst hx
    exact ⟨ha, by simp only; omega, hc⟩

theorem put_false {kept : List ByteArray} {wait : List (Int × ByteArray)} {a : Int} {s : ByteArray} (h : putB kept wait a s = false) :
    (okB kept wait = false ∧ putK kept wait = [] ∧ putW kept wait a s = []) ∨ (okB kept wait = true ∧ putK kept wait = kept ∧ putW kept wait a s = wait) := by
  cases hok : okB kept wait
  · exact .inl ⟨rfl, by simp [putK, hok], by simp [putW, hok]⟩
  · exact .inr ⟨rfl, by simp [putK, hok], by simp [putW, hok, h]⟩

theorem lookB_put {kept : List ByteArray} {wait : List (Int × ByteArray)} {a : Int} {s : ByteArray} (h : putB kept wait a s = true) (i : Nat) (hi : i < kept.length) :
    lookB kept (wait ++ [(a, s)]) (i : Int) = if (i : Int) = a then s else lookB kept wait (i : Int) := by
  obtain ⟨hok, ha, hb, hc, -, -, hok2⟩ := put_true h
  have hin : inB (i : Int) 0 ((kept.length : Int) - 1) = true := by simp [inB]; omega
  simp only [lookB, hok, hok2, hin, and_self, if_true, flushL_snoc, Int.toNat_natCast]
  by_cases e : (i : Int) = a
  · rw [if_pos e, show a.toNat = i by omega, List.getElem?_set_self (by rw [flushL_len]; exact hi)]
    rfl
  · rw [if_neg e, List.getElem?_set_ne (by omega)]

theorem flushK_swap {kept : List ByteArray} {wait : List (Int × ByteArray)} {a b : Int} {s t : ByteArray} (hab : a ≠ b) (ha : 0 ≤ a) (hb : 0 ≤ b) (h1 : okB kept ((wait ++ [(a, s)]) ++ [(b, t)]) = true) (h2 : okB kept ((wait ++ [(b, t)]) ++ [(a, s)]) = true) :
    flushK kept ((wait ++ [(a, s)]) ++ [(b, t)]) = flushK kept ((wait ++ [(b, t)]) ++ [(a, s)]) := by
  simp only [flushK, h1, h2, if_true, flushL_snoc]
  exact List.set_comm _ _ (by omega)

end Go.Proofs.YtapflnabiobonaaDoor
