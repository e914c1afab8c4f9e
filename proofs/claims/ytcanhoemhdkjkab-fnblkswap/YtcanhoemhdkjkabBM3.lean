/- What a look at last calls and a mark give, and plain facts on them; no statement of the seat is proved here. -/
import Derived.Test.YtcanhoemhdkjkabBM
namespace Go.Proofs.Ytcanhoemhdkjkab

/-- The last call of a client. -/
def callL (xs : List Lc) (c : Int) : Int :=
  match xs.find? (fun y => decide (y.1 = c)) with
  | some y => y.2
  | none => 0
def callR (xs : List Lc) (c : Int) : Int := if okC xs = true then callL xs c else 0
def markR (xs : List Lc) (c l : Int) : List Lc := if okC xs = true then (if (inI c 0 3 && (inI l 1 99999 && decide (callL xs c < l))) = true then insL ordL xs (c, l) else xs) else []

theorem ordL_neg {x y : Lc} : ordL x y < 0 ↔ x.1 < y.1 := cmpI_neg
theorem ordL_zero {x y : Lc} : ordL x y = 0 ↔ x.1 = y.1 := cmpI_zero
theorem ordL_pos {x y : Lc} : 0 < ordL x y ↔ y.1 < x.1 := cmpI_pos

theorem asc_unique {α : Type} {ord : α → α → Int} (ho : OrdOk ord) : ∀ {xs : List α}, Asc ord xs → ∀ y ∈ xs, ∀ z ∈ xs, ord y z = 0 → y = z
  | [], _, y, hy, _, _, _ => by simp at hy
  | x :: xs, h, y, hy, z, hz, e => by
    have p := List.pairwise_cons.1 h
    rcases List.mem_cons.1 hy with e1 | hy'
    · rcases List.mem_cons.1 hz with e2 | hz'
      · rw [e1, e2]
      · have := p.1 z hz'
        rw [e1] at e
        omega
    · rcases List.mem_cons.1 hz with e2 | hz'
      · have h1 := p.1 y hy'
        rw [e2] at e
        have h2 := (ho.flip x y).2 h1
        omega
      · exact asc_unique ho p.2 y hy' z hz' e

theorem call_mem {xs : List Lc} (hs : Asc ordL xs) {y : Lc} (hy : y ∈ xs) : callL xs y.1 = y.2 := by
  rcases hf : xs.find? (fun z => decide (z.1 = y.1)) with _ | z
  · have := List.find?_eq_none.1 hf y hy
    simp at this
  · have h1 := List.find?_some hf
    have h2 := List.mem_of_find?_eq_some hf
    simp at h1
    have := asc_unique ordOkL hs z h2 y hy (ordL_zero.2 h1)
    subst this
    simp only [callL, hf]
theorem call_none {xs : List Lc} {c : Int} (h : ∀ y ∈ xs, y.1 ≠ c) : callL xs c = 0 := by
  have hf : xs.find? (fun y => decide (y.1 = c)) = none := List.find?_eq_none.2 (fun y hy => by simpa using h y hy)
  simp only [callL, hf]
theorem call_some {xs : List Lc} {c : Int} (h : callL xs c ≠ 0) : (c, callL xs c) ∈ xs := by
  rcases hf : xs.find? (fun y => decide (y.1 = c)) with _ | z
  · simp only [callL, hf] at h
    exact absurd rfl h
  · have h1 := List.find?_some hf
    have h2 := List.mem_of_find?_eq_some hf
    simp at h1
    have e : callL xs c = z.2 := by simp only [callL, hf]
    rw [e, ← h1]
    exact h2

theorem dropC_above {xs : List Lc} {x : Lc} {p : Nat} (hs : Asc ordL xs) (h : IsAt ordL xs x p false) : ∀ y ∈ xs.drop p, 0 < ordL y x := by
  have hd : Asc ordL (xs.drop p) := hs.sublist (List.drop_sublist p xs)
  rcases hl : xs.drop p with _ | ⟨y, r⟩
  · intro y hy; simp at hy
  · rw [hl] at hd
    have hy : xs[p]? = some y := by
      have := List.getElem?_drop (xs := xs) (i := p) (j := 0)
      rw [hl] at this
      simpa using this.symm
    have hy0 : 0 ≤ ordL y x := h.hi y (by rw [hl]; simp)
    have hne : ordL y x ≠ 0 := fun e => by have := h.th.2 ⟨y, hy, e⟩; cases this
    intro z hz
    rcases List.mem_cons.1 hz with rfl | hz
    · omega
    · exact asc_tail_above ordOkL hd hy0 z hz

theorem call_off {xs : List Lc} {c : Int} {p : Nat} (hs : Asc ordL xs) (h : IsAt ordL xs (c, 0) p false) : callL xs c = 0 := by
  refine call_none (fun y hy e => ?_)
  rw [← List.take_append_drop p xs] at hy
  rcases List.mem_append.1 hy with hy | hy
  · have := h.lo y hy
    rw [ordL_neg] at this
    simp only at this
    omega
  · have := dropC_above hs h y hy
    rw [ordL_pos] at this
    simp only at this
    omega
theorem call_here {xs : List Lc} {c : Int} {p : Nat} {y : Lc} (hs : Asc ordL xs) (h : IsAt ordL xs (c, 0) p true) (hy : xs[p]? = some y) : callL xs c = y.2 := by
  obtain ⟨y', hy', h0⟩ := h.th.1 rfl
  rw [hy] at hy'
  obtain rfl := Option.some.inj hy'
  rw [ordL_zero] at h0
  simp only at h0
  rw [← h0]
  exact call_mem hs (List.mem_of_getElem? hy)

theorem inI_iff {n lo hi : Int} : inI n lo hi = true ↔ lo ≤ n ∧ n ≤ hi := by simp [inI]
theorem fitL_iff {x : Lc} : fitL x = true ↔ (0 ≤ x.1 ∧ x.1 ≤ 3) ∧ 1 ≤ x.2 ∧ x.2 ≤ 99999 := by simp [fitL, inI]

theorem asc_few : ∀ (ys : List Lc) (lo hi : Int), Asc ordL ys → (∀ y ∈ ys, lo ≤ y.1 ∧ y.1 < hi) → (ys.length : Int) ≤ hi - lo ∨ ys = []
  | [], _, _, _, _ => .inr rfl
  | y :: ys, lo, hi, h, hb => by
    left
    have p := List.pairwise_cons.1 h
    have hy := hb y (by simp)
    rcases asc_few ys (y.1 + 1) hi p.2 (fun z hz => ⟨by have := ordL_neg.1 (p.1 z hz); omega, (hb z (by simp [hz])).2⟩) with h1 | h1
    · simp only [List.length_cons]; omega
    · subst h1; simp; omega

theorem mark_ok {xs : List Lc} {c l : Int} (hok : okC xs = true) : okC (insL ordL xs (c, l)) = (inI c 0 3 && inI l 1 99999) := by
  rw [Bool.eq_iff_iff, Bool.and_eq_true, inI_iff, inI_iff]
  constructor
  · intro h
    have := ok_fit h (c, l) (by rw [ins_mem]; exact .inl rfl)
    rw [fitL_iff] at this
    exact this
  · intro h
    have hf : ∀ x ∈ insL ordL xs (c, l), fitL x = true := by
      intro x hx
      rcases ins_mem.1 hx with rfl | ⟨hx, _⟩
      · rw [fitL_iff]; exact h
      · exact ok_fit hok x hx
    have ha : Asc ordL (insL ordL xs (c, l)) := ins_asc ordOkL (ok_asc ordOkL hok)
    refine ok_mk ?_ hf ha
    rcases asc_few _ 0 4 ha (fun y hy => by have := fitL_iff.1 (hf y hy); omega) with h1 | h1
    · omega
    · rw [h1]; simp

theorem markR_prog (xs : List Lc) (c l : Int) (hok : okC xs = true) : markR xs c l = if l ≤ callL xs c then xs else if okC (insL ordL xs (c, l)) = true then insL ordL xs (c, l) else xs := by
  rw [markR, if_pos hok, mark_ok hok]
  by_cases h : l ≤ callL xs c
  · rw [if_pos h, if_neg (by simp; omega)]
  · rw [if_neg h]
    have e : decide (callL xs c < l) = true := by simp; omega
    rw [e, Bool.and_true]
theorem callR_zero (xs : List Lc) (c : Int) : 0 ≤ callR xs c := by
  unfold callR
  split
  · rename_i h
    by_cases h0 : callL xs c = 0
    · omega
    · have := fitL_iff.1 (ok_fit h _ (call_some h0))
      simp only at this
      omega
  · omega

theorem markR_len (xs : List Lc) (c l : Int) : (markR xs c l).length ≤ 60 := by
  unfold markR
  split
  · rename_i h
    have h1 : xs.length ≤ 4 := ok_len h
    split
    · have := ins_len (ord := ordL) xs (c, l); omega
    · omega
  · simp

/-- What the specification's loop of a mark builds. -/
def nOf (xs : List Lc) (c l : Int) (k : Int) : Int := if k = c then l else callL xs k
def bldL (xs : List Lc) (c l : Int) : Nat → List Lc
  | 0 => []
  | k + 1 => bldL xs c l k ++ (if 0 < nOf xs c l k then [((k : Int), nOf xs c l k)] else [])

theorem bld_mem (xs : List Lc) (c l : Int) : ∀ (k : Nat) (z : Lc), z ∈ bldL xs c l k ↔ 0 ≤ z.1 ∧ z.1 < k ∧ 0 < z.2 ∧ z.2 = nOf xs c l z.1
  | 0, z => by simp [bldL]; omega
  | k + 1, z => by
    rw [bldL, List.mem_append, bld_mem xs c l k z]
    obtain ⟨a, b⟩ := z
    simp only
    constructor
    · rintro (⟨h1, h2, h3, h4⟩ | h)
      · exact ⟨h1, by omega, h3, h4⟩
      · split at h
        · rename_i hp
          simp only [List.mem_singleton, Prod.mk.injEq] at h
          obtain ⟨rfl, rfl⟩ := h
          exact ⟨by omega, by omega, hp, rfl⟩
        · simp at h
    · rintro ⟨h1, h2, h3, h4⟩
      by_cases hk : a < (k : Int)
      · exact .inl ⟨h1, hk, h3, h4⟩
      · obtain rfl : a = (k : Int) := by omega
        right
        rw [← h4, if_pos h3]
        simp
theorem bld_asc (xs : List Lc) (c l : Int) : ∀ k : Nat, Asc ordL (bldL xs c l k)
  | 0 => List.Pairwise.nil
  | k + 1 => by
    rw [bldL, Asc, List.pairwise_append]
    refine ⟨bld_asc xs c l k, ?_, fun y hy z hz => ?_⟩
    · split <;> simp
    · have h1 := (bld_mem xs c l k y).1 hy
      split at hz
      · simp only [List.mem_singleton] at hz
        subst hz
        rw [ordL_neg]
        exact h1.2.1
      · simp at hz
theorem bld_ins {xs : List Lc} {c l : Int} (hok : okC xs = true) (hc : 0 ≤ c ∧ c ≤ 3) (hl : 1 ≤ l) : bldL xs c l 4 = insL ordL xs (c, l) := by
  have hs := ok_asc ordOkL hok
  refine asc_ext ordOkL (bld_asc xs c l 4) (ins_asc ordOkL hs) (fun z => ?_)
  rw [bld_mem, ins_mem]
  obtain ⟨a, b⟩ := z
  simp only [Prod.mk.injEq, ne_eq, ordL_zero]
  constructor
  · rintro ⟨h1, h2, h3, h4⟩
    rw [nOf] at h4
    by_cases e : a = c
    · rw [if_pos e] at h4
      exact .inl ⟨e, h4⟩
    · rw [if_neg e] at h4
      have := call_some (xs := xs) (c := a) (by omega)
      rw [← h4] at this
      exact .inr ⟨this, e⟩
  · rintro (⟨rfl, rfl⟩ | ⟨h1, h2⟩)
    · exact ⟨by omega, by omega, by omega, by rw [nOf, if_pos rfl]⟩
    · have hf := fitL_iff.1 (ok_fit hok _ h1)
      simp only at hf
      have := call_mem hs h1
      simp only at this
      exact ⟨by omega, by omega, by omega, by rw [nOf, if_neg h2, this]⟩
theorem bld_len (xs : List Lc) (c l : Int) : ∀ k : Nat, (bldL xs c l k).length ≤ k
  | 0 => by simp [bldL]
  | k + 1 => by
    have := bld_len xs c l k
    rw [bldL, List.length_append]
    split <;> simp <;> omega
theorem okC_nonneg {xs : List Lc} (h : okC xs = true) (c : Int) : 0 ≤ callL xs c := by
  have := callR_zero xs c
  rwa [callR, if_pos h] at this

end Go.Proofs.Ytcanhoemhdkjkab
