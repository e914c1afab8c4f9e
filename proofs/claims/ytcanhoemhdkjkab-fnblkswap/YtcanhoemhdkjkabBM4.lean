/- Plain facts behind the promises on pieces and last calls; no statement of the seat is proved here. -/
import Derived.Test.YtcanhoemhdkjkabBM2
import Derived.Test.YtcanhoemhdkjkabBM3
namespace Go.Proofs.Ytcanhoemhdkjkab

theorem get_filter (d b e : Int) : ∀ (ys : List Pc) (o : Int), ys.foldl (getF d b e) o = (ys.filter (hitP d b e)).foldl (fun _ y => y.2.2.2) o
  | [], o => rfl
  | y :: ys, o => by
    rw [List.foldl_cons, List.filter_cons]
    by_cases h : hitP d b e y = true
    · rw [if_pos h, List.foldl_cons, getF, if_pos h]
      exact get_filter d b e ys _
    · rw [if_neg h, getF, if_neg h]
      exact get_filter d b e ys _

theorem hit_iff {d b e : Int} {y : Pc} : hitP d b e y = true ↔ y.1 = d ∧ y.2.1 = b ∧ y.2.2.1 ≤ e := by simp [hitP]

/-- Ascending lists with the same pieces that say something say the same. -/
theorem get_same {xs ys : List Pc} {d b e : Int} (hx : Asc ordP xs) (hy : Asc ordP ys) (h : ∀ z : Pc, z.1 = d → z.2.1 = b → z.2.2.1 ≤ e → (z ∈ xs ↔ z ∈ ys)) : getL d b e xs = getL d b e ys := by
  rw [getL, getL, get_filter, get_filter]
  have : xs.filter (hitP d b e) = ys.filter (hitP d b e) := by
    refine asc_ext ordOkP (hx.sublist List.filter_sublist) (hy.sublist List.filter_sublist) (fun z => ?_)
    rw [List.mem_filter, List.mem_filter]
    constructor
    · rintro ⟨h1, h2⟩
      obtain ⟨a1, a2, a3⟩ := hit_iff.1 h2
      exact ⟨(h z a1 a2 a3).1 h1, h2⟩
    · rintro ⟨h1, h2⟩
      obtain ⟨a1, a2, a3⟩ := hit_iff.1 h2
      exact ⟨(h z a1 a2 a3).2 h1, h2⟩
  rw [this]

theorem fold_last (f : List Pc) (y : Pc) (o : Int) (hm : y ∈ f) (hs : Asc ordP f) (h : ∀ z ∈ f, ordP z y ≤ 0) : f.foldl (fun _ y => y.2.2.2) o = y.2.2.2 := by
  induction f generalizing o with
  | nil => simp at hm
  | cons x f ih =>
    rw [List.foldl_cons]
    have p := List.pairwise_cons.1 hs
    rcases List.mem_cons.1 hm with e | hm'
    · subst e
      have : f = [] := by
        cases f with
        | nil => rfl
        | cons z f =>
          have h1 := p.1 z (by simp)
          have h2 := h z (by simp)
          have h3 := (ordOkP.flip y z).2 h1
          omega
      subst this
      rfl
    · exact ih _ hm' p.2 (fun z hz => h z (List.mem_cons_of_mem _ hz))

/-- The piece itself is said where it lies. -/
theorem get_self {xs : List Pc} {y : Pc} (hs : Asc ordP xs) (hy : y ∈ xs) : getL y.1 y.2.1 y.2.2.1 xs = y.2.2.2 := by
  rw [getL, get_filter]
  refine fold_last _ y 0 (List.mem_filter.2 ⟨hy, by rw [hit_iff]; omega⟩) (hs.sublist List.filter_sublist) (fun z hz => ?_)
  have := hit_iff.1 (List.mem_filter.1 hz).2
  have hp := @ordP_pos z y
  omega

theorem get_no {xs : List Pc} {d b e : Int} (h : ∀ z ∈ xs, z.1 ≠ d) : getL d b e xs = 0 := by
  rw [getL, get_filter]
  have : xs.filter (hitP d b e) = [] := List.filter_eq_nil_iff.2 (fun z hz hh => h z hz (hit_iff.1 hh).1)
  rw [this]
  rfl

/-- What a write that was done gives. -/
theorem put_yes {xs : List Pc} {x : Pc} (h : (putR xs x).2 = true) : okP xs = true ∧ (putR xs x).1 = insL ordP xs x ∧ okP (insL ordP xs x) = true := by
  unfold putR at h ⊢
  by_cases h1 : okP xs = true
  · rw [if_pos h1] at h ⊢
    by_cases h2 : okP (insL ordP xs x) = true
    · rw [if_pos h2]
      exact ⟨h1, rfl, h2⟩
    · rw [if_neg h2] at h
      cases h
  · rw [if_neg h1] at h
    cases h
theorem put_no {xs : List Pc} {x : Pc} (h : (putR xs x).2 = false) : (okP xs = false ∧ (putR xs x).1 = []) ∨ (okP xs = true ∧ (putR xs x).1 = xs) := by
  unfold putR at h ⊢
  by_cases h1 : okP xs = true
  · rw [if_pos h1] at h ⊢
    by_cases h2 : okP (insL ordP xs x) = true
    · rw [if_pos h2] at h
      cases h
    · rw [if_neg h2]
      exact .inr ⟨h1, rfl⟩
  · rw [if_neg h1]
    exact .inl ⟨by simpa using h1, rfl⟩

theorem get_ok {xs : List Pc} {d b e : Int} (h : okP xs = true) : getR xs d b e = getL d b e xs := by rw [getR, if_pos h]

/-- P9: what was written is read, what lies in other blocks is not touched. -/
theorem put_reads {xs : List Pc} {x : Pc} (h : okP xs = true) (h2 : okP (insL ordP xs x) = true) : getR (insL ordP xs x) x.1 x.2.1 x.2.2.1 = x.2.2.2 := by
  rw [get_ok h2]
  exact get_self (ins_asc ordOkP (ok_asc ordOkP h)) (ins_mem.2 (.inl rfl))
theorem put_other {xs : List Pc} {x : Pc} {d b e : Int} (h : okP xs = true) (h2 : okP (insL ordP xs x) = true) (hd : d ≠ x.1 ∨ b ≠ x.2.1 ∨ e < x.2.2.1) : getR (insL ordP xs x) d b e = getR xs d b e := by
  rw [get_ok h2, get_ok h]
  refine get_same (ins_asc ordOkP (ok_asc ordOkP h)) (ok_asc ordOkP h) (fun z h1 h2 h3 => ?_)
  have hz : ordP z x ≠ 0 := by rw [Ne, ordP_zero]; omega
  rw [ins_mem]
  constructor
  · rintro (rfl | ⟨a, _⟩)
    · exact absurd (ordOkP.refl z) hz
    · exact a
  · exact fun a => .inr ⟨a, hz⟩

/-- P11: behind a drop. -/
theorem off_ok {xs : List Pc} {d : Int} (h : okP xs = true) : okP (offP d xs) = true := by
  obtain ⟨h1, h2, h3⟩ := (ok_iff ordOkP).1 h
  refine (ok_iff ordOkP).2 ⟨Nat.le_trans (List.length_filter_le _ _) h1, fun x hx => h2 x (List.mem_filter.1 hx).1, h3.sublist List.filter_sublist⟩
theorem off_ne {xs : List Pc} {d : Int} : ∀ z ∈ offP d xs, z.1 ≠ d := fun z hz => by simpa using (List.mem_filter.1 hz).2
theorem off_get {xs : List Pc} {d : Int} {y : Pc} (h : okP xs = true) (hy : y ∈ xs) : getR (offP d xs) y.1 y.2.1 y.2.2.1 = if y.1 = d then 0 else y.2.2.2 := by
  rw [get_ok (off_ok h)]
  by_cases e : y.1 = d
  · rw [if_pos e, e]
    exact get_no off_ne
  · rw [if_neg e]
    exact get_self ((ok_asc ordOkP h).sublist List.filter_sublist) (List.mem_filter.2 ⟨hy, by simpa using e⟩)

/-- P13, P14. -/
theorem ins_swap {xs : List Pc} {x y : Pc} (hs : Asc ordP xs) (h : ordP x y ≠ 0) : insL ordP (insL ordP xs x) y = insL ordP (insL ordP xs y) x := by
  have h' : ordP y x ≠ 0 := fun e => h (ordOkP.symm e)
  refine asc_ext ordOkP (ins_asc ordOkP (ins_asc ordOkP hs)) (ins_asc ordOkP (ins_asc ordOkP hs)) (fun z => ?_)
  simp only [ins_mem]
  constructor
  · rintro (rfl | ⟨rfl | ⟨a, b⟩, c⟩)
    · exact .inr ⟨.inl rfl, h'⟩
    · exact .inl rfl
    · exact .inr ⟨.inr ⟨a, c⟩, b⟩
  · rintro (rfl | ⟨rfl | ⟨a, b⟩, c⟩)
    · exact .inr ⟨.inl rfl, h⟩
    · exact .inl rfl
    · exact .inr ⟨.inr ⟨a, c⟩, b⟩
theorem ins_twice {xs : List Pc} {x : Pc} (hs : Asc ordP xs) : insL ordP (insL ordP xs x) x = insL ordP xs x := by
  refine asc_ext ordOkP (ins_asc ordOkP (ins_asc ordOkP hs)) (ins_asc ordOkP hs) (fun z => ?_)
  simp only [ins_mem]
  constructor
  · rintro (rfl | ⟨rfl | ⟨a, b⟩, c⟩)
    · exact .inl rfl
    · exact .inl rfl
    · exact .inr ⟨a, c⟩
  · rintro (rfl | ⟨a, b⟩)
    · exact .inl rfl
    · exact .inr ⟨.inr ⟨a, b⟩, b⟩
theorem put_twice {xs : List Pc} {x : Pc} (h : (putR xs x).2 = true) : putR (putR xs x).1 x = ((putR xs x).1, true) := by
  obtain ⟨h1, h2, h3⟩ := put_yes h
  rw [h2, putR, if_pos h3, ins_twice (ok_asc ordOkP h1), if_pos h3]
theorem put_swap {xs : List Pc} {x y : Pc} (h : ordP x y ≠ 0) (h1 : (putR xs x).2 = true) (h2 : (putR (putR xs x).1 y).2 = true) (h3 : (putR xs y).2 = true) (h4 : (putR (putR xs y).1 x).2 = true) : (putR (putR xs x).1 y).1 = (putR (putR xs y).1 x).1 := by
  obtain ⟨a1, a2, _⟩ := put_yes h1
  obtain ⟨_, b2, _⟩ := put_yes h2
  obtain ⟨_, c2, _⟩ := put_yes h3
  obtain ⟨_, d2, _⟩ := put_yes h4
  rw [b2, d2, a2, c2]
  exact ins_swap (ok_asc ordOkP a1) h

/-- P12: what the last calls are behind a mark. -/
theorem mark_call {xs : List Lc} {c l k : Int} (hc : inI c 0 3 = true) (hl : inI l 1 99999 = true) (hlt : callL xs c < l) (h : okC xs = true) : callR (markR xs c l) k = if k = c then l else callR xs k := by
  have e : markR xs c l = insL ordL xs (c, l) := by rw [markR, if_pos h, if_pos (by simp [hc, hl, hlt])]
  have ho : okC (insL ordL xs (c, l)) = true := by rw [mark_ok h, hc, hl]; rfl
  have hs := ok_asc ordOkL h
  have hs' := ins_asc ordOkL (x := (c, l)) hs
  rw [e, callR, if_pos ho, callR, if_pos h]
  by_cases hk : k = c
  · rw [if_pos hk, hk]
    exact call_mem hs' (y := (c, l)) (ins_mem.2 (.inl rfl))
  · rw [if_neg hk]
    by_cases h0 : callL xs k = 0
    · rw [h0]
      refine call_none (fun y hy e => ?_)
      rcases ins_mem.1 hy with rfl | ⟨hy, _⟩
      · exact hk e.symm
      · have h1 := call_mem hs hy
        rw [e, h0] at h1
        have := fitL_iff.1 (ok_fit h y hy)
        omega
    · exact call_mem hs' (y := (k, callL xs k)) (ins_mem.2 (.inr ⟨call_some h0, by rw [Ne, ordL_zero]; exact hk⟩))

/-- Nothing is lost, nothing else is touched, and the mark stands where there is any. -/
theorem mark_law {xs : List Lc} {c l k : Int} (hl9 : l ≤ 99999) (hk : 0 ≤ k ∧ k ≤ 3) :
    (callR xs k ≤ callR (markR xs c l) k) ∧ (k ≠ c → callR (markR xs c l) k = callR xs k) ∧ (k = c → 0 < (markR xs c l).length → 0 < l → l ≤ callR (markR xs c l) k) := by
  by_cases h : okC xs = true
  · by_cases hin : (inI c 0 3 && (inI l 1 99999 && decide (callL xs c < l))) = true
    · have hin' := hin
      rw [Bool.and_eq_true, Bool.and_eq_true, decide_eq_true_eq] at hin'
      obtain ⟨hc, hl, hlt⟩ := hin'
      rw [mark_call hc hl hlt h]
      refine ⟨?_, fun e => if_neg e, fun e _ _ => by rw [if_pos e]; omega⟩
      by_cases e : k = c
      · rw [if_pos e, callR, if_pos h, e]; omega
      · rw [if_neg e]; omega
    · have e : markR xs c l = xs := by rw [markR, if_pos h, if_neg hin]
      rw [e]
      refine ⟨by omega, fun _ => rfl, fun ek _ hl0 => ?_⟩
      subst ek
      have hc : inI k 0 3 = true := inI_iff.2 hk
      have hl : inI l 1 99999 = true := inI_iff.2 ⟨by omega, hl9⟩
      rw [hc, hl, Bool.true_and, Bool.true_and, decide_eq_true_eq] at hin
      rw [callR, if_pos h]
      omega
  · have e : markR xs c l = [] := by rw [markR, if_neg h]
    have e2 : ∀ k, callR xs k = 0 := fun k => by rw [callR, if_neg h]
    have e3 : callR [] k = 0 := by
      rw [callR]
      split <;> rfl
    rw [e, e2, e3]
    exact ⟨by omega, fun _ => rfl, fun _ h0 => by simp at h0⟩

end Go.Proofs.Ytcanhoemhdkjkab
