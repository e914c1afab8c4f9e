/- Plain facts on ascending lists, places in them and what is put into them; no statement of the seat is proved here. -/
import Derived.Test.YtcanhoemhdkjkabBHL
namespace Go.Proofs.Ytcanhoemhdkjkab

/-- How two numbers compare. -/
def cmpI (a b : Int) : Int := if a < b then -1 else if b < a then 1 else 0
theorem cmpI_neg {a b : Int} : cmpI a b < 0 ↔ a < b := by unfold cmpI; split <;> (try split) <;> omega
theorem cmpI_zero {a b : Int} : cmpI a b = 0 ↔ a = b := by unfold cmpI; split <;> (try split) <;> omega
theorem cmpI_pos {a b : Int} : 0 < cmpI a b ↔ b < a := by unfold cmpI; split <;> (try split) <;> omega
theorem cmpI_le (a b : Int) : -1 ≤ cmpI a b ∧ cmpI a b ≤ 1 := by unfold cmpI; split <;> (try split) <;> omega

def ordP (x y : Pc) : Int := if cmpI x.1 y.1 ≠ 0 then cmpI x.1 y.1 else if cmpI x.2.1 y.2.1 ≠ 0 then cmpI x.2.1 y.2.1 else cmpI x.2.2.1 y.2.2.1
def ordL (x y : Lc) : Int := cmpI x.1 y.1

theorem ordP_neg {x y : Pc} : ordP x y < 0 ↔ (x.1 < y.1 ∨ x.1 = y.1 ∧ (x.2.1 < y.2.1 ∨ x.2.1 = y.2.1 ∧ x.2.2.1 < y.2.2.1)) := by
  have h1 := @cmpI_zero x.1 y.1
  have h2 := @cmpI_neg x.1 y.1
  have h3 := @cmpI_zero x.2.1 y.2.1
  have h4 := @cmpI_neg x.2.1 y.2.1
  have h5 := @cmpI_neg x.2.2.1 y.2.2.1
  unfold ordP
  split
  · omega
  · split <;> omega
theorem ordP_zero {x y : Pc} : ordP x y = 0 ↔ x.1 = y.1 ∧ x.2.1 = y.2.1 ∧ x.2.2.1 = y.2.2.1 := by
  have h1 := @cmpI_zero x.1 y.1
  have h3 := @cmpI_zero x.2.1 y.2.1
  have h5 := @cmpI_zero x.2.2.1 y.2.2.1
  unfold ordP
  split
  · omega
  · split <;> omega
theorem ordP_pos {x y : Pc} : 0 < ordP x y ↔ (y.1 < x.1 ∨ x.1 = y.1 ∧ (y.2.1 < x.2.1 ∨ x.2.1 = y.2.1 ∧ y.2.2.1 < x.2.2.1)) := by
  have h1 := @ordP_neg x y
  have h2 := @ordP_zero x y
  omega

/-- What an order keeps to. -/
structure OrdOk {α : Type} (ord : α → α → Int) : Prop where
  trans : ∀ a b c, ord a b < 0 → ord b c < 0 → ord a c < 0
  eqL : ∀ a b c, ord a b = 0 → ord b c < 0 → ord a c < 0
  flip : ∀ a b, 0 < ord b a ↔ ord a b < 0
  refl : ∀ a, ord a a = 0

theorem ordOkP : OrdOk ordP where
  trans a b c h1 h2 := by rw [ordP_neg] at *; omega
  eqL a b c h1 h2 := by rw [ordP_zero] at h1; rw [ordP_neg] at *; omega
  flip a b := by rw [ordP_neg, ordP_pos]; omega
  refl a := by rw [ordP_zero]; exact ⟨rfl, rfl, rfl⟩
theorem ordOkL : OrdOk ordL where
  trans a b c h1 h2 := by simp only [ordL, cmpI_neg] at *; omega
  eqL a b c h1 h2 := by simp only [ordL, cmpI_neg, cmpI_zero] at *; omega
  flip a b := by simp only [ordL, cmpI_neg, cmpI_pos]
  refl a := by simp only [ordL, cmpI_zero]

section
variable {α : Type} {ord : α → α → Int}

theorem OrdOk.symm (h : OrdOk ord) {a b : α} (e : ord a b = 0) : ord b a = 0 := by
  have h1 := h.flip a b
  have h2 := h.flip b a
  omega
/-- Behind one that is not below, what is above it is above. -/
theorem OrdOk.above (h : OrdOk ord) {x a b : α} (h1 : 0 ≤ ord a x) (h2 : ord a b < 0) : 0 < ord b x := by
  rw [h.flip x b]
  rcases (by omega : ord a x = 0 ∨ 0 < ord a x) with e | e
  · exact h.eqL x a b (h.symm e) h2
  · exact h.trans x a b ((h.flip x a).1 e) h2

/-- Each is above the one ahead of it. -/
def Asc (ord : α → α → Int) (xs : List α) : Prop := xs.Pairwise (fun a b => ord a b < 0)

/-- Whether the element at a place fits, and is above the one ahead of it. -/
def goodAt (fit : α → Bool) (ord : α → α → Int) (xs : List α) (i : Nat) : Bool :=
  match xs[i]? with
  | some x => fit x && (match i with
    | 0 => true
    | j + 1 => match xs[j]? with
      | some y => decide (ord y x < 0)
      | none => true)
  | none => true
/-- Whether a list is in form. -/
def okL (m : Nat) (fit : α → Bool) (ord : α → α → Int) (xs : List α) : Bool := decide (xs.length ≤ m) && (List.range xs.length).all (goodAt fit ord xs)

theorem okL_iff {m : Nat} {fit : α → Bool} {xs : List α} : okL m fit ord xs = true ↔ xs.length ≤ m ∧ ∀ i, i < xs.length → goodAt fit ord xs i = true := by
  simp [okL]
theorem okL_no {m : Nat} {fit : α → Bool} {xs : List α} (i : Nat) (hi : i < xs.length) (h : goodAt fit ord xs i = false) : okL m fit ord xs = false := by
  rw [← Bool.not_eq_true, okL_iff]
  intro hh
  rw [hh.2 i hi] at h
  exact absurd h (by simp)
theorem okL_long {m : Nat} {fit : α → Bool} {xs : List α} (h : m < xs.length) : okL m fit ord xs = false := by
  rw [← Bool.not_eq_true, okL_iff]
  omega

theorem goodAt_zero {fit : α → Bool} {xs : List α} {x : α} (h : xs[0]? = some x) : goodAt fit ord xs 0 = fit x := by simp [goodAt, h]
theorem goodAt_succ {fit : α → Bool} {xs : List α} {x y : α} {j : Nat} (h : xs[j + 1]? = some x) (hy : xs[j]? = some y) : goodAt fit ord xs (j + 1) = (fit x && decide (ord y x < 0)) := by simp [goodAt, h, hy]

theorem ok_len {m : Nat} {fit : α → Bool} {xs : List α} (h : okL m fit ord xs = true) : xs.length ≤ m := (okL_iff.1 h).1
theorem ok_fit {m : Nat} {fit : α → Bool} {xs : List α} (h : okL m fit ord xs = true) : ∀ x ∈ xs, fit x = true := by
  intro x hx
  obtain ⟨i, hi, rfl⟩ := List.mem_iff_getElem.1 hx
  have hg := (okL_iff.1 h).2 i hi
  cases i with
  | zero => rwa [goodAt_zero (List.getElem?_eq_getElem hi)] at hg
  | succ j =>
    rw [goodAt_succ (List.getElem?_eq_getElem hi) (List.getElem?_eq_getElem (by omega)), Bool.and_eq_true] at hg
    exact hg.1

theorem asc_of_next (ho : OrdOk ord) {xs : List α} (h : ∀ j y z, xs[j]? = some y → xs[j + 1]? = some z → ord y z < 0) : Asc ord xs := by
  rw [Asc, List.pairwise_iff_getElem]
  intro i j hi hj hij
  obtain ⟨d, rfl⟩ : ∃ d, j = i + 1 + d := ⟨j - (i + 1), by omega⟩
  induction d with
  | zero => exact h i _ _ (List.getElem?_eq_getElem hi) (List.getElem?_eq_getElem hj)
  | succ d ih => exact ho.trans _ _ _ (ih (by omega) (by omega)) (h (i + 1 + d) _ _ (List.getElem?_eq_getElem (by omega)) (List.getElem?_eq_getElem hj))

theorem ok_asc (ho : OrdOk ord) {m : Nat} {fit : α → Bool} {xs : List α} (h : okL m fit ord xs = true) : Asc ord xs := by
  refine asc_of_next ho (fun j y z hy hz => ?_)
  have hg := (okL_iff.1 h).2 (j + 1) (List.getElem?_eq_some_iff.1 hz).1
  rw [goodAt_succ hz hy, Bool.and_eq_true, decide_eq_true_eq] at hg
  exact hg.2

/-- In form is: not too long, all fit, ascending. -/
theorem ok_mk {m : Nat} {fit : α → Bool} {xs : List α} (h1 : xs.length ≤ m) (h2 : ∀ x ∈ xs, fit x = true) (h3 : Asc ord xs) : okL m fit ord xs = true := by
  refine okL_iff.2 ⟨h1, fun i hi => ?_⟩
  cases i with
  | zero => rw [goodAt_zero (List.getElem?_eq_getElem hi)]; exact h2 _ (List.getElem_mem hi)
  | succ j =>
    rw [goodAt_succ (List.getElem?_eq_getElem hi) (List.getElem?_eq_getElem (show j < xs.length by omega)), Bool.and_eq_true, decide_eq_true_eq]
    exact ⟨h2 _ (List.getElem_mem hi), List.pairwise_iff_getElem.1 h3 j (j + 1) (by omega) hi (by omega)⟩

theorem ok_iff (ho : OrdOk ord) {m : Nat} {fit : α → Bool} {xs : List α} : okL m fit ord xs = true ↔ xs.length ≤ m ∧ (∀ x ∈ xs, fit x = true) ∧ Asc ord xs :=
  ⟨fun h => ⟨ok_len h, ok_fit h, ok_asc ho h⟩, fun h => ok_mk h.1 h.2.1 h.2.2⟩

/-- Where an element stands, or would stand. -/
structure IsAt (ord : α → α → Int) (xs : List α) (x : α) (p : Nat) (there : Bool) : Prop where
  le : p ≤ xs.length
  lo : ∀ y ∈ xs.take p, ord y x < 0
  hi : ∀ y ∈ xs.drop p, 0 ≤ ord y x
  th : there = true ↔ ∃ y, xs[p]? = some y ∧ ord y x = 0

theorem isAt_of {xs : List α} {x : α} {p : Nat} {there : Bool} (le : p ≤ xs.length) (lo : ∀ i y, i < p → xs[i]? = some y → ord y x < 0) (hi : ∀ i y, p ≤ i → xs[i]? = some y → 0 ≤ ord y x) (th : there = true ↔ ∃ y, xs[p]? = some y ∧ ord y x = 0) : IsAt ord xs x p there := by
  refine ⟨le, fun y hy => ?_, fun y hy => ?_, th⟩
  · obtain ⟨i, hi', rfl⟩ := List.mem_iff_getElem.1 hy
    rw [List.length_take] at hi'
    exact lo i _ (by omega) (by rw [List.getElem_take]; exact List.getElem?_eq_getElem (by omega))
  · obtain ⟨i, hi', rfl⟩ := List.mem_iff_getElem.1 hy
    rw [List.length_drop] at hi'
    exact hi (p + i) _ (by omega) (by rw [List.getElem_drop]; exact List.getElem?_eq_getElem (by omega))

/-- An element put into its place. -/
def insL (ord : α → α → Int) (xs : List α) (x : α) : List α := xs.filter (fun y => decide (ord y x < 0)) ++ x :: xs.filter (fun y => decide (0 < ord y x))

theorem filter_lo {xs : List α} {x : α} (h : ∀ y ∈ xs, ord y x < 0) : xs.filter (fun y => decide (ord y x < 0)) = xs ∧ xs.filter (fun y => decide (0 < ord y x)) = [] := by
  refine ⟨List.filter_eq_self.2 (fun y hy => by simpa using h y hy), List.filter_eq_nil_iff.2 (fun y hy => ?_)⟩
  have := h y hy
  simp
  omega
theorem filter_hi {xs : List α} {x : α} (h : ∀ y ∈ xs, 0 < ord y x) : xs.filter (fun y => decide (ord y x < 0)) = [] ∧ xs.filter (fun y => decide (0 < ord y x)) = xs := by
  refine ⟨List.filter_eq_nil_iff.2 (fun y hy => ?_), List.filter_eq_self.2 (fun y hy => by simpa using h y hy)⟩
  have := h y hy
  simp
  omega

theorem asc_tail_above (ho : OrdOk ord) {y x : α} {r : List α} (h : Asc ord (y :: r)) (hy : 0 ≤ ord y x) : ∀ z ∈ r, 0 < ord z x := by
  intro z hz
  exact ho.above hy ((List.pairwise_cons.1 h).1 z hz)

theorem ins_at (ho : OrdOk ord) {xs : List α} {x : α} {p : Nat} {there : Bool} (hs : Asc ord xs) (h : IsAt ord xs x p there) :
    xs.take p ++ x :: xs.drop (if there = true then p + 1 else p) = insL ord xs x := by
  have hx : insL ord xs x = insL ord (xs.take p ++ xs.drop p) x := by rw [List.take_append_drop]
  have hd : Asc ord (xs.drop p) := hs.sublist (List.drop_sublist p xs)
  rw [hx, insL, List.filter_append, List.filter_append, (filter_lo h.lo).1, (filter_lo h.lo).2, List.nil_append]
  have hth := h.th
  rcases hl : xs.drop p with _ | ⟨y, r⟩
  · have hn : xs[p]? = none := by
      have : xs.length ≤ p := by have := congrArg List.length hl; rw [List.length_drop] at this; simp at this; omega
      exact List.getElem?_eq_none this
    have hf : there = false := by
      cases there
      · rfl
      · obtain ⟨y, hy, _⟩ := hth.1 rfl
        rw [hn] at hy
        cases hy
    simp [hf, hl]
  · have hy : xs[p]? = some y := by
      have := List.getElem?_drop (xs := xs) (i := p) (j := 0)
      rw [hl] at this
      simpa using this.symm
    have hdr : xs.drop (p + 1) = r := by rw [← List.drop_drop, hl]; rfl
    rw [hl] at hd
    have hy0 : 0 ≤ ord y x := h.hi y (by rw [hl]; simp)
    have hr := filter_hi (asc_tail_above ho hd hy0)
    by_cases e : ord y x = 0
    · have ht : there = true := hth.2 ⟨y, hy, e⟩
      rw [if_pos ht, hdr, List.filter_cons_of_neg (by simp; omega), List.filter_cons_of_neg (by simp; omega), hr.1, hr.2]
      simp
    · have ht : ¬ there = true := by
        intro ht
        obtain ⟨z, hz, hz0⟩ := hth.1 ht
        rw [hy] at hz
        obtain rfl := Option.some.inj hz
        exact e hz0
      rw [if_neg ht, hl, List.filter_cons_of_neg (by simp; omega), List.filter_cons_of_pos (by simp; omega), hr.1, hr.2]
      simp

theorem ins_len (xs : List α) (x : α) : (insL ord xs x).length ≤ xs.length + 1 := by
  have : ∀ ys : List α, (ys.filter (fun y => decide (ord y x < 0))).length + (ys.filter (fun y => decide (0 < ord y x))).length ≤ ys.length := by
    intro ys
    induction ys with
    | nil => simp
    | cons y ys ih =>
      simp only [List.filter_cons, List.length_cons]
      by_cases h1 : ord y x < 0
      · simp [h1, show ¬ 0 < ord y x by omega]; omega
      · by_cases h2 : 0 < ord y x
        · simp [h1, h2]; omega
        · simp [h1, h2]; omega
  have := this xs
  simp only [insL, List.length_append, List.length_cons]
  omega

theorem ins_asc (ho : OrdOk ord) {xs : List α} {x : α} (hs : Asc ord xs) : Asc ord (insL ord xs x) := by
  rw [Asc, insL, List.pairwise_append, List.pairwise_cons]
  refine ⟨hs.sublist List.filter_sublist, ⟨fun z hz => ?_, hs.sublist List.filter_sublist⟩, fun y hy z hz => ?_⟩
  · have := (List.mem_filter.1 hz).2
    simp at this
    exact (ho.flip x z).1 this
  · have h1 := (List.mem_filter.1 hy).2
    simp at h1
    rcases List.mem_cons.1 hz with rfl | hz
    · exact h1
    · have h2 := (List.mem_filter.1 hz).2
      simp at h2
      exact ho.trans _ _ _ h1 ((ho.flip x z).1 h2)

theorem ins_mem {xs : List α} {x y : α} : y ∈ insL ord xs x ↔ y = x ∨ (y ∈ xs ∧ ord y x ≠ 0) := by
  simp only [insL, List.mem_append, List.mem_cons, List.mem_filter, decide_eq_true_eq]
  constructor
  · rintro (⟨h, h1⟩ | rfl | ⟨h, h1⟩)
    · exact .inr ⟨h, by omega⟩
    · exact .inl rfl
    · exact .inr ⟨h, by omega⟩
  · rintro (rfl | ⟨h, h1⟩)
    · exact .inr (.inl rfl)
    · rcases (by omega : ord y x < 0 ∨ 0 < ord y x) with h2 | h2
      · exact .inl ⟨h, h2⟩
      · exact .inr (.inr ⟨h, h2⟩)

/-- Two ascending lists of the same elements are the same. -/
theorem asc_ext (ho : OrdOk ord) : ∀ {xs ys : List α}, Asc ord xs → Asc ord ys → (∀ z, z ∈ xs ↔ z ∈ ys) → xs = ys
  | [], [], _, _, _ => rfl
  | [], y :: ys, _, _, h => by have := (h y).2 (by simp); simp at this
  | x :: xs, [], _, _, h => by have := (h x).1 (by simp); simp at this
  | x :: xs, y :: ys, h1, h2, h => by
    have p1 := List.pairwise_cons.1 h1
    have p2 := List.pairwise_cons.1 h2
    have irr : ∀ z, ¬ ord z z < 0 := fun z hz => by have := ho.refl z; omega
    have e : x = y := by
      rcases List.mem_cons.1 ((h x).1 (by simp)) with e | e
      · exact e
      · rcases List.mem_cons.1 ((h y).2 (by simp)) with e' | e'
        · exact e'.symm
        · exact absurd (ho.trans _ _ _ (p1.1 y e') (p2.1 x e)) (irr x)
    subst e
    congr 1
    refine asc_ext ho p1.2 p2.2 (fun z => ⟨fun hz => ?_, fun hz => ?_⟩)
    · rcases List.mem_cons.1 ((h z).1 (List.mem_cons_of_mem _ hz)) with rfl | e
      · exact absurd (p1.1 _ hz) (irr _)
      · exact e
    · rcases List.mem_cons.1 ((h z).2 (List.mem_cons_of_mem _ hz)) with rfl | e
      · exact absurd (p2.1 _ hz) (irr _)
      · exact e
end

/-- Whether a number is within bounds. -/
def inI (n lo hi : Int) : Bool := decide (lo ≤ n) && decide (n ≤ hi)
def fitP (x : Pc) : Bool := inI x.1 1 99999 && (inI x.2.1 0 99999 && (inI x.2.2.1 1 99999 && inI x.2.2.2 0 99999))
def fitL (x : Lc) : Bool := inI x.1 0 3 && inI x.2 1 99999
def okP (xs : List Pc) : Bool := okL 60 fitP ordP xs
def okC (xs : List Lc) : Bool := okL 4 fitL ordL xs

end Go.Proofs.Ytcanhoemhdkjkab
