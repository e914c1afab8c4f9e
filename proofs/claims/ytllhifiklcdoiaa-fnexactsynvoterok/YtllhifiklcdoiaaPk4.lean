/- Contracts and plain facts that the claims of this seat lean on (texts BM, XM, XH, XI); no statement of the seat is proved here. -/
import Derived.Test.YtllhifiklcdoiaaPk3
import Derived.Deep.RegionHeld3
import Derived.Deep.RegionHeldLaw
import Derived.Deep.RegionLawGrows

/- Plain facts on ascending lists, places in them and what is put into them; no statement of the seat is proved here. -/
namespace Go.Proofs.Ytllhifiklcdoiaa

/-- How two numbers compare. -/
def cmpI (a b : Int) : Int := if a < b then -1 else if b < a then 1 else 0
theorem cmpI_neg {a b : Int} : cmpI a b < 0 ↔ a < b := by unfold cmpI; split <;> (try split) <;> omega
theorem cmpI_zero {a b : Int} : cmpI a b = 0 ↔ a = b := by unfold cmpI; split <;> (try split) <;> omega
theorem cmpI_pos {a b : Int} : 0 < cmpI a b ↔ b < a := by unfold cmpI; split <;> (try split) <;> omega
theorem cmpI_le (a b : Int) : -1 ≤ cmpI a b ∧ cmpI a b ≤ 1 := by unfold cmpI; split <;> (try split) <;> omega

def ordP (x y : Pc) : Int := if cmpI x.1 y.1 ≠ 0 then cmpI x.1 y.1 else if cmpI x.2.1 y.2.1 ≠ 0 then cmpI x.2.1 y.2.1 else cmpI x.2.2.1 y.2.2.1
def ordL (x y : Lc) : Int := cmpI x.1 y.1

theorem ordP_neg {x y : Pc} : ordP x y < 0 ↔ (x.1 < y.1 ∨ x.1 = y.1 ∧ (x.2.1 < y.2.1 ∨ x.2.1 = y.2.1 ∧ x.2.2.1 < y.2.2.1)) := by
  have h1 := @cmpI_zero x.1 y.1
  have h2 := @cmpI_neg x.1 y.1
  have h3 := @cmpI_zero x.2.1 y.2.1
  have h4 := @cmpI_neg x.2.1 y.2.1
  have h5 := @cmpI_neg x.2.2.1 y.2.2.1
  unfold ordP
  split
  · omega
  · split <;> omega
theorem ordP_zero {x y : Pc} : ordP x y = 0 ↔ x.1 = y.1 ∧ x.2.1 = y.2.1 ∧ x.2.2.1 = y.2.2.1 := by
  have h1 := @cmpI_zero x.1 y.1
  have h3 := @cmpI_zero x.2.1 y.2.1
  have h5 := @cmpI_zero x.2.2.1 y.2.2.1
  unfold ordP
  split
  · omega
  · split <;> omega
theorem ordP_pos {x y : Pc} : 0 < ordP x y ↔ (y.1 < x.1 ∨ x.1 = y.1 ∧ (y.2.1 < x.2.1 ∨ x.2.1 = y.2.1 ∧ y.2.2.1 < x.2.2.1)) := by
  have h1 := @ordP_neg x y
  have h2 := @ordP_zero x y
  omega

/-- What an order keeps to. -/
structure OrdOk {α : Type} (ord : α → α → Int) : Prop where
  trans : ∀ a b c, ord a b < 0 → ord b c < 0 → ord a c < 0
  eqL : ∀ a b c, ord a b = 0 → ord b c < 0 → ord a c < 0
  flip : ∀ a b, 0 < ord b a ↔ ord a b < 0
  refl : ∀ a, ord a a = 0

theorem ordOkP : OrdOk ordP where
  trans a b c h1 h2 := by rw [ordP_neg] at *; omega
  eqL a b c h1 h2 := by rw [ordP_zero] at h1; rw [ordP_neg] at *; omega
  flip a b := by rw [ordP_neg, ordP_pos]; omega
  refl a := by rw [ordP_zero]; exact ⟨rfl, rfl, rfl⟩
theorem ordOkL : OrdOk ordL where
  trans a b c h1 h2 := by simp only [ordL, cmpI_neg] at *; omega
  eqL a b c h1 h2 := by simp only [ordL, cmpI_neg, cmpI_zero] at *; omega
  flip a b := by simp only [ordL, cmpI_neg, cmpI_pos]
  refl a := by simp only [ordL, cmpI_zero]

section
variable {α : Type} {ord : α → α → Int}

theorem OrdOk.symm (h : OrdOk ord) {a b : α} (e : ord a b = 0) : ord b a = 0 := by
  have h1 := h.flip a b
  have h2 := h.flip b a
  omega
/-- Behind one that is not below, what is above it is above. -/
theorem OrdOk.above (h : OrdOk ord) {x a b : α} (h1 : 0 ≤ ord a x) (h2 : ord a b < 0) : 0 < ord b x := by
  rw [h.flip x b]
  rcases (by omega : ord a x = 0 ∨ 0 < ord a x) with e | e
  · exact h.eqL x a b (h.symm e) h2
  · exact h.trans x a b ((h.flip x a).1 e) h2

/-- Each is above the one ahead of it. -/
def Asc (ord : α → α → Int) (xs : List α) : Prop := xs.Pairwise (fun a b => ord a b < 0)

/-- Whether the element at a place fits, and is above the one ahead of it. -/
def goodAt (fit : α → Bool) (ord : α → α → Int) (xs : List α) (i : Nat) : Bool :=
  match xs[i]? with
  | some x => fit x && (match i with
    | 0 => true
    | j + 1 => match xs[j]? with
      | some y => decide (ord y x < 0)
      | none => true)
  | none => true
/-- Whether a list is in form. -/
def okL (m : Nat) (fit : α → Bool) (ord : α → α → Int) (xs : List α) : Bool := decide (xs.length ≤ m) && (List.range xs.length).all (goodAt fit ord xs)

theorem okL_iff {m : Nat} {fit : α → Bool} {xs : List α} : okL m fit ord xs = true ↔ xs.length ≤ m ∧ ∀ i, i < xs.length → goodAt fit ord xs i = true := by
  simp [okL]
theorem okL_no {m : Nat} {fit : α → Bool} {xs : List α} (i : Nat) (hi : i < xs.length) (h : goodAt fit ord xs i = false) : okL m fit ord xs = false := by
  rw [← Bool.not_eq_true, okL_iff]
  intro hh
  rw [hh.2 i hi] at h
  exact absurd h (by simp)
theorem okL_long {m : Nat} {fit : α → Bool} {xs : List α} (h : m < xs.length) : okL m fit ord xs = false := by
  rw [← Bool.not_eq_true, okL_iff]
  omega

theorem goodAt_zero {fit : α → Bool} {xs : List α} {x : α} (h : xs[0]? = some x) : goodAt fit ord xs 0 = fit x := by simp [goodAt, h]
theorem goodAt_succ {fit : α → Bool} {xs : List α} {x y : α} {j : Nat} (h : xs[j + 1]? = some x) (hy : xs[j]? = some y) : goodAt fit ord xs (j + 1) = (fit x && decide (ord y x < 0)) := by simp [goodAt, h, hy]

theorem ok_len {m : Nat} {fit : α → Bool} {xs : List α} (h : okL m fit ord xs = true) : xs.length ≤ m := (okL_iff.1 h).1
theorem ok_fit {m : Nat} {fit : α → Bool} {xs : List α} (h : okL m fit ord xs = true) : ∀ x ∈ xs, fit x = true := by
  intro x hx
  obtain ⟨i, hi, rfl⟩ := List.mem_iff_getElem.1 hx
  have hg := (okL_iff.1 h).2 i hi
  cases i with
  | zero => rwa [goodAt_zero (List.getElem?_eq_getElem hi)] at hg
  | succ j =>
    rw [goodAt_succ (List.getElem?_eq_getElem hi) (List.getElem?_eq_getElem (by omega)), Bool.and_eq_true] at hg
    exact hg.1

theorem asc_of_next (ho : OrdOk ord) {xs : List α} (h : ∀ j y z, xs[j]? = some y → xs[j + 1]? = some z → ord y z < 0) : Asc ord xs := by
  rw [Asc, List.pairwise_iff_getElem]
  intro i j hi hj hij
  obtain ⟨d, rfl⟩ : ∃ d, j = i + 1 + d := ⟨j - (i + 1), by omega⟩
  induction d with
  | zero => exact h i _ _ (List.getElem?_eq_getElem hi) (List.getElem?_eq_getElem hj)
  | succ d ih => exact ho.trans _ _ _ (ih (by omega) (by omega)) (h (i + 1 + d) _ _ (List.getElem?_eq_getElem (by omega)) (List.getElem?_eq_getElem hj))

theorem ok_asc (ho : OrdOk ord) {m : Nat} {fit : α → Bool} {xs : List α} (h : okL m fit ord xs = true) : Asc ord xs := by
  refine asc_of_next ho (fun j y z hy hz => ?_)
  have hg := (okL_iff.1 h).2 (j + 1) (List.getElem?_eq_some_iff.1 hz).1
  rw [goodAt_succ hz hy, Bool.and_eq_true, decide_eq_true_eq] at hg
  exact hg.2

/-- In form is: not too long, all fit, ascending. -/
theorem ok_mk {m : Nat} {fit : α → Bool} {xs : List α} (h1 : xs.length ≤ m) (h2 : ∀ x ∈ xs, fit x = true) (h3 : Asc ord xs) : okL m fit ord xs = true := by
  refine okL_iff.2 ⟨h1, fun i hi => ?_⟩
  cases i with
  | zero => rw [goodAt_zero (List.getElem?_eq_getElem hi)]; exact h2 _ (List.getElem_mem hi)
  | succ j =>
    rw [goodAt_succ (List.getElem?_eq_getElem hi) (List.getElem?_eq_getElem (show j < xs.length by omega)), Bool.and_eq_true, decide_eq_true_eq]
    exact ⟨h2 _ (List.getElem_mem hi), List.pairwise_iff_getElem.1 h3 j (j + 1) (by omega) hi (by omega)⟩

theorem ok_iff (ho : OrdOk ord) {m : Nat} {fit : α → Bool} {xs : List α} : okL m fit ord xs = true ↔ xs.length ≤ m ∧ (∀ x ∈ xs, fit x = true) ∧ Asc ord xs :=
  ⟨fun h => ⟨ok_len h, ok_fit h, ok_asc ho h⟩, fun h => ok_mk h.1 h.2.1 h.2.2⟩

/-- Where an element stands, or would stand. -/
structure IsAt (ord : α → α → Int) (xs : List α) (x : α) (p : Nat) (there : Bool) : Prop where
  le : p ≤ xs.length
  lo : ∀ y ∈ xs.take p, ord y x < 0
  hi : ∀ y ∈ xs.drop p, 0 ≤ ord y x
  th : there = true ↔ ∃ y, xs[p]? = some y ∧ ord y x = 0

theorem isAt_of {xs : List α} {x : α} {p : Nat} {there : Bool} (le : p ≤ xs.length) (lo : ∀ i y, i < p → xs[i]? = some y → ord y x < 0) (hi : ∀ i y, p ≤ i → xs[i]? = some y → 0 ≤ ord y x) (th : there = true ↔ ∃ y, xs[p]? = some y ∧ ord y x = 0) : IsAt ord xs x p there := by
  refine ⟨le, fun y hy => ?_, fun y hy => ?_, th⟩
  · obtain ⟨i, hi', rfl⟩ := List.mem_iff_getElem.1 hy
    rw [List.length_take] at hi'
    exact lo i _ (by omega) (by rw [List.getElem_take]; exact List.getElem?_eq_getElem (by omega))
  · obtain ⟨i, hi', rfl⟩ := List.mem_iff_getElem.1 hy
    rw [List.length_drop] at hi'
    exact hi (p + i) _ (by omega) (by rw [List.getElem_drop]; exact List.getElem?_eq_getElem (by omega))

/-- An element put into its place. -/
def insL (ord : α → α → Int) (xs : List α) (x : α) : List α := xs.filter (fun y => decide (ord y x < 0)) ++ x :: xs.filter (fun y => decide (0 < ord y x))

theorem filter_lo {xs : List α} {x : α} (h : ∀ y ∈ xs, ord y x < 0) : xs.filter (fun y => decide (ord y x < 0)) = xs ∧ xs.filter (fun y => decide (0 < ord y x)) = [] := by
  refine ⟨List.filter_eq_self.2 (fun y hy => by simpa using h y hy), List.filter_eq_nil_iff.2 (fun y hy => ?_)⟩
  have := h y hy
  simp
  omega
theorem filter_hi {xs : List α} {x : α} (h : ∀ y ∈ xs, 0 < ord y x) : xs.filter (fun y => decide (ord y x < 0)) = [] ∧ xs.filter (fun y => decide (0 < ord y x)) = xs := by
  refine ⟨List.filter_eq_nil_iff.2 (fun y hy => ?_), List.filter_eq_self.2 (fun y hy => by simpa using h y hy)⟩
  have := h y hy
  simp
  omega

theorem asc_tail_above (ho : OrdOk ord) {y x : α} {r : List α} (h : Asc ord (y :: r)) (hy : 0 ≤ ord y x) : ∀ z ∈ r, 0 < ord z x := by
  intro z hz
  exact ho.above hy ((List.pairwise_cons.1 h).1 z hz)

theorem ins_at (ho : OrdOk ord) {xs : List α} {x : α} {p : Nat} {there : Bool} (hs : Asc ord xs) (h : IsAt ord xs x p there) :
    xs.take p ++ x :: xs.drop (if there = true then p + 1 else p) = insL ord xs x := by
  have hx : insL ord xs x = insL ord (xs.take p ++ xs.drop p) x := by rw [List.take_append_drop]
  have hd : Asc ord (xs.drop p) := hs.sublist (List.drop_sublist p xs)
  rw [hx, insL, List.filter_append, List.filter_append, (filter_lo h.lo).1, (filter_lo h.lo).2, List.nil_append]
  have hth := h.th
  rcases hl : xs.drop p with _ | ⟨y, r⟩
  · have hn : xs[p]? = none := by
      have : xs.length ≤ p := by have := congrArg List.length hl; rw [List.length_drop] at this; simp at this; omega
      exact List.getElem?_eq_none this
    have hf : there = false := by
      cases there
      · rfl
      · obtain ⟨y, hy, _⟩ := hth.1 rfl
        rw [hn] at hy
        cases hy
    simp [hf, hl]
  · have hy : xs[p]? = some y := by
      have := List.getElem?_drop (xs := xs) (i := p) (j := 0)
      rw [hl] at this
      simpa using this.symm
    have hdr : xs.drop (p + 1) = r := by rw [← List.drop_drop, hl]; rfl
    rw [hl] at hd
    have hy0 : 0 ≤ ord y x := h.hi y (by rw [hl]; simp)
    have hr := filter_hi (asc_tail_above ho hd hy0)
    by_cases e : ord y x = 0
    · have ht : there = true := hth.2 ⟨y, hy, e⟩
      rw [if_pos ht, hdr, List.filter_cons_of_neg (by simp; omega), List.filter_cons_of_neg (by simp; omega), hr.1, hr.2]
      simp
    · have ht : ¬ there = true := by
        intro ht
        obtain ⟨z, hz, hz0⟩ := hth.1 ht
        rw [hy] at hz
        obtain rfl := Option.some.inj hz
        exact e hz0
      rw [if_neg ht, hl, List.filter_cons_of_neg (by simp; omega), List.filter_cons_of_pos (by simp; omega), hr.1, hr.2]
      simp

theorem ins_len (xs : List α) (x : α) : (insL ord xs x).length ≤ xs.length + 1 := by
  have : ∀ ys : List α, (ys.filter (fun y => decide (ord y x < 0))).length + (ys.filter (fun y => decide (0 < ord y x))).length ≤ ys.length := by
    intro ys
    induction ys with
    | nil => simp
    | cons y ys ih =>
      simp only [List.filter_cons, List.length_cons]
      by_cases h1 : ord y x < 0
      · simp [h1, show ¬ 0 < ord y x by omega]; omega
      · by_cases h2 : 0 < ord y x
        · simp [h1, h2]; omega
        · simp [h1, h2]; omega
  have := this xs
  simp only [insL, List.length_append, List.length_cons]
  omega

theorem ins_asc (ho : OrdOk ord) {xs : List α} {x : α} (hs : Asc ord xs) : Asc ord (insL ord xs x) := by
  rw [Asc, insL, List.pairwise_append, List.pairwise_cons]
  refine ⟨hs.sublist List.filter_sublist, ⟨fun z hz => ?_, hs.sublist List.filter_sublist⟩, fun y hy z hz => ?_⟩
  · have := (List.mem_filter.1 hz).2
    simp at this
    exact (ho.flip x z).1 this
  · have h1 := (List.mem_filter.1 hy).2
    simp at h1
    rcases List.mem_cons.1 hz with rfl | hz
    · exact h1
    · have h2 := (List.mem_filter.1 hz).2
      simp at h2
      exact ho.trans _ _ _ h1 ((ho.flip x z).1 h2)

theorem ins_mem {xs : List α} {x y : α} : y ∈ insL ord xs x ↔ y = x ∨ (y ∈ xs ∧ ord y x ≠ 0) := by
  simp only [insL, List.mem_append, List.mem_cons, List.mem_filter, decide_eq_true_eq]
  constructor
  · rintro (⟨h, h1⟩ | rfl | ⟨h, h1⟩)
    · exact .inr ⟨h, by omega⟩
    · exact .inl rfl
    · exact .inr ⟨h, by omega⟩
  · rintro (rfl | ⟨h, h1⟩)
    · exact .inr (.inl rfl)
    · rcases (by omega : ord y x < 0 ∨ 0 < ord y x) with h2 | h2
      · exact .inl ⟨h, h2⟩
      · exact .inr (.inr ⟨h, h2⟩)

/-- Two ascending lists of the same elements are the same. -/
theorem asc_ext (ho : OrdOk ord) : ∀ {xs ys : List α}, Asc ord xs → Asc ord ys → (∀ z, z ∈ xs ↔ z ∈ ys) → xs = ys
  | [], [], _, _, _ => rfl
  | [], y :: ys, _, _, h => by have := (h y).2 (by simp); simp at this
  | x :: xs, [], _, _, h => by have := (h x).1 (by simp); simp at this
  | x :: xs, y :: ys, h1, h2, h => by
    have p1 := List.pairwise_cons.1 h1
    have p2 := List.pairwise_cons.1 h2
    have irr : ∀ z, ¬ ord z z < 0 := fun z hz => by have := ho.refl z; omega
    have e : x = y := by
      rcases List.mem_cons.1 ((h x).1 (by simp)) with e | e
      · exact e
      · rcases List.mem_cons.1 ((h y).2 (by simp)) with e' | e'
        · exact e'.symm
        · exact absurd (ho.trans _ _ _ (p1.1 y e') (p2.1 x e)) (irr x)
    subst e
    congr 1
    refine asc_ext ho p1.2 p2.2 (fun z => ⟨fun hz => ?_, fun hz => ?_⟩)
    · rcases List.mem_cons.1 ((h z).1 (List.mem_cons_of_mem _ hz)) with rfl | e
      · exact absurd (p1.1 _ hz) (irr _)
      · exact e
    · rcases List.mem_cons.1 ((h z).2 (List.mem_cons_of_mem _ hz)) with rfl | e
      · exact absurd (p2.1 _ hz) (irr _)
      · exact e
end

/-- Whether a number is within bounds. -/
def inI (n lo hi : Int) : Bool := decide (lo ≤ n) && decide (n ≤ hi)
def fitP (x : Pc) : Bool := inI x.1 1 99999 && (inI x.2.1 0 99999 && (inI x.2.2.1 1 99999 && inI x.2.2.2 0 99999))
def fitL (x : Lc) : Bool := inI x.1 0 3 && inI x.2 1 99999
def okP (xs : List Pc) : Bool := okL 60 fitP ordP xs
def okC (xs : List Lc) : Bool := okL 4 fitL ordL xs

end Go.Proofs.Ytllhifiklcdoiaa

/- Words as plain values: which are ok, and their bytes; no statement of the seat is proved here. -/
namespace Go.Proofs.Ytllhifiklcdoiaa

/-- A word: its 24 numbers in the order of their bytes, its pieces, its last calls. -/
structure Wd where
  a0 : Int
  a1 : Int
  a2 : Int
  a3 : Int
  a4 : Int
  a5 : Int
  c0 : Int
  c1 : Int
  c2 : Int
  c3 : Int
  c4 : Int
  c5 : Int
  c6 : Int
  c7 : Int
  c8 : Int
  c9 : Int
  b0 : Int
  b1 : Int
  b2 : Int
  b3 : Int
  b4 : Int
  b5 : Int
  b6 : Int
  b7 : Int
  ps : List Pc
  ls : List Lc

def Wd.nums (x : Wd) : List Int := [x.a0, x.a1, x.a2, x.a3, x.a4, x.a5, x.c0, x.c1, x.c2, x.c3, x.c4, x.c5, x.c6, x.c7, x.c8, x.c9, x.b0, x.b1, x.b2, x.b3, x.b4, x.b5, x.b6, x.b7]
def zeroW : Wd := ⟨0, 0, 0, 0, 0, 0, 0, 0, 0, 0, 0, 0, 0, 0, 0, 0, 0, 0, 0, 0, 0, 0, 0, 0, [], []⟩

def numI (n : Int) : Bool := inI n (-1) 99999
def placeI (n : Int) : Bool := inI n 0 4 || inI n 100 103
def cmdI (x : Wd) : Bool := inI x.c0 0 7 && (numI x.c1 && (numI x.c2 && (numI x.c3 && (numI x.c4 && (numI x.c5 && (numI x.c6 && (numI x.c7 && (numI x.c8 && numI x.c9))))))))
def okW (x : Wd) : Bool := x.nums.all numI && (inI x.a0 1 15 && (placeI x.a1 && (placeI x.a2 && (cmdI x && (okP x.ps && okC x.ls)))))

theorem okW_nums {x : Wd} (h : okW x = true) : ∀ a ∈ x.nums, -1 ≤ a ∧ a ≤ 99999 := by
  unfold okW at h
  rw [Bool.and_eq_true] at h
  intro a ha
  have := List.all_eq_true.1 h.1 a ha
  simpa [numI, inI] using this

theorem okW_ps {x : Wd} (h : okW x = true) : okP x.ps = true := by
  simp only [okW, Bool.and_eq_true] at h
  exact h.2.2.2.2.2.1
theorem okW_ls {x : Wd} (h : okW x = true) : okC x.ls = true := by
  simp only [okW, Bool.and_eq_true] at h
  exact h.2.2.2.2.2.2

/-- The bytes of a number, one more than what they stand for. -/
def encN (n : Nat) : List Nat := if n < 128 then [n] else (128 + n % 128) :: encN (n / 128)
  termination_by n
  decreasing_by omega

theorem encN_lt {n : Nat} (h : n < 128) : encN n = [n] := by rw [encN, if_pos h]
theorem encN_ge {n : Nat} (h : 128 ≤ n) : encN n = (128 + n % 128) :: encN (n / 128) := by rw [encN, if_neg (by omega)]

theorem encN_byte (n : Nat) : ∀ b ∈ encN n, b < 256 := by
  induction n using Nat.strongRecOn with
  | _ n ih =>
    intro b hb
    by_cases h : n < 128
    · rw [encN_lt h] at hb
      simp at hb
      omega
    · rw [encN_ge (by omega)] at hb
      rcases List.mem_cons.1 hb with rfl | hb
      · omega
      · exact ih (n / 128) (by omega) b hb

theorem encN_len (n : Nat) (h : n ≤ 100000) : 1 ≤ (encN n).length ∧ (encN n).length ≤ 3 := by
  by_cases h1 : n < 128
  · rw [encN_lt h1]; simp
  · rw [encN_ge (by omega)]
    by_cases h2 : n / 128 < 128
    · rw [encN_lt h2]; simp
    · rw [encN_ge (by omega), encN_lt (by omega)]; simp

def encI (a : Int) : List Nat := encN (a + 1).toNat
def enc (xs : List Int) : List Nat := xs.flatMap encI
theorem enc_cons (a : Int) (xs : List Int) : enc (a :: xs) = encI a ++ enc xs := rfl
theorem enc_append (xs ys : List Int) : enc (xs ++ ys) = enc xs ++ enc ys := by simp [enc]
theorem enc_byte (xs : List Int) : ∀ b ∈ enc xs, b < 256 := by
  intro b hb
  obtain ⟨a, _, h⟩ := List.mem_flatMap.1 hb
  exact encN_byte _ b h
theorem enc_len (xs : List Int) (h : ∀ a ∈ xs, a ≤ 99999) : xs.length ≤ (enc xs).length ∧ (enc xs).length ≤ 3 * xs.length := by
  induction xs with
  | nil => simp [enc]
  | cons a xs ih =>
    have h1 := ih (fun b hb => h b (by simp [hb]))
    have h2 := h a (by simp)
    have h3 := encN_len (a + 1).toNat (by omega)
    rw [enc_cons, List.length_append, List.length_cons]
    unfold encI
    omega

abbrev pnum (p : Pc) : List Int := [p.1, p.2.1, p.2.2.1, p.2.2.2]
abbrev lnum (l : Lc) : List Int := [l.1, l.2]
def allP (ps : List Pc) : List Int := (ps.length : Int) :: ps.flatMap pnum
def allL (ls : List Lc) : List Int := (ls.length : Int) :: ls.flatMap lnum
def allW (x : Wd) : List Int := x.nums ++ (allP x.ps ++ allL x.ls)
def packW (x : Wd) : List Nat := if okW x then enc (allW x) else []

theorem okL_mem {α : Type} {m : Nat} {fit : α → Bool} {ord : α → α → Int} {xs : List α} (h : okL m fit ord xs = true) : xs.length ≤ m ∧ ∀ x ∈ xs, fit x = true := by
  unfold okL at h
  rw [Bool.and_eq_true] at h
  refine ⟨of_decide_eq_true h.1, fun x hx => ?_⟩
  obtain ⟨i, hi, e⟩ := List.getElem_of_mem hx
  have g := List.all_eq_true.1 h.2 i (List.mem_range.2 hi)
  have hx' : xs[i]? = some x := by rw [List.getElem?_eq_getElem hi, e]
  cases i with
  | zero => rw [goodAt_zero hx'] at g; exact g
  | succ j =>
    have hy : xs[j]? = some (xs[j]'(by omega)) := List.getElem?_eq_getElem (by omega)
    rw [goodAt_succ hx' hy, Bool.and_eq_true] at g
    exact g.1

theorem allW_num {x : Wd} (h : okW x = true) : ∀ a ∈ allW x, -1 ≤ a ∧ a ≤ 99999 := by
  intro a ha
  obtain ⟨l1, f1⟩ := okL_mem (okW_ps h)
  obtain ⟨l2, f2⟩ := okL_mem (okW_ls h)
  simp only [allW, allP, allL, List.mem_append, List.mem_cons, List.mem_flatMap] at ha
  rcases ha with ha | (rfl | ⟨p, hp, ha⟩) | (rfl | ⟨l, hl, ha⟩)
  · exact okW_nums h a ha
  · omega
  · have := f1 p hp
    simp only [fitP, inI, Bool.and_eq_true, decide_eq_true_eq] at this
    simp only [List.not_mem_nil, or_false] at ha
    rcases ha with rfl | rfl | rfl | rfl <;> omega
  · omega
  · have := f2 l hl
    simp only [fitL, inI, Bool.and_eq_true, decide_eq_true_eq] at this
    simp only [List.not_mem_nil, or_false] at ha
    rcases ha with rfl | rfl <;> omega

theorem allW_len (x : Wd) : (allW x).length = 26 + 4 * x.ps.length + 2 * x.ls.length := by
  have e1 : (x.ps.flatMap pnum).length = 4 * x.ps.length := by
    generalize x.ps = ps
    induction ps with
    | nil => rfl
    | cons p ps ih => rw [List.flatMap_cons, List.length_append, ih, List.length_cons]; simp; omega
  have e2 : (x.ls.flatMap lnum).length = 2 * x.ls.length := by
    generalize x.ls = ls
    induction ls with
    | nil => rfl
    | cons p ps ih => rw [List.flatMap_cons, List.length_append, ih, List.length_cons]; simp; omega
  simp only [allW, allP, allL, List.length_append, List.length_cons, e1, e2, Wd.nums, List.length_nil]
  omega

theorem packW_len (x : Wd) : (packW x).length ≤ 3 * (26 + 4 * x.ps.length + 2 * x.ls.length) ∧ (packW x).length ≤ 822 := by
  unfold packW
  split
  · rename_i h
    have h1 := (enc_len (allW x) (fun a ha => (allW_num h a ha).2)).2
    rw [allW_len] at h1
    have h2 := (okL_mem (okW_ps h)).1
    have h3 := (okL_mem (okW_ls h)).1
    exact ⟨h1, by omega⟩
  · simp
theorem packW_byte (x : Wd) : ∀ b ∈ packW x, b < 256 := by
  unfold packW
  split
  · exact enc_byte _
  · simp

theorem packW_pos {x : Wd} (h : okW x = true) : 26 ≤ (packW x).length := by
  unfold packW
  rw [if_pos h]
  have h1 := (enc_len (allW x) (fun a ha => (allW_num h a ha).2)).1
  rw [allW_len] at h1
  omega

end Go.Proofs.Ytllhifiklcdoiaa

/- What the laws' own helpers do with words: contracts; no statement of the seat is proved here. -/
namespace Go.Proofs.Ytllhifiklcdoiaa
open Go.RowKit

set_option maxHeartbeats 2000000 in
theorem szWord_any (x : Wd) (po lo : Option Addr) (pn pc ln lc : Nat) (w : World) (hp : pn ≤ 9223372036854775807) (hl : ln ≤ 9223372036854775807) :
    Calls Try.prog 11 #[ .agg #[.int .i64 x.a0, .int .i64 x.a1, .int .i64 x.a2, .int .i64 x.a3, .int .i64 x.a4, .int .i64 x.a5, .int .i64 x.c0, .int .i64 x.c1, .int .i64 x.c2, .int .i64 x.c3, .int .i64 x.c4, .int .i64 x.c5, .int .i64 x.c6, .int .i64 x.c7, .int .i64 x.c8, .int .i64 x.c9, .int .i64 x.b0, .int .i64 x.b1, .int .i64 x.b2, .int .i64 x.b3, .int .i64 x.b4, .int .i64 x.b5, .int .i64 x.b6, .int .i64 x.b7, .slice po pn pc, .slice lo ln lc], .int .i64 1048576] w fun e w' => ∃ r, e = .returned (.int .i64 r) ∧ (r < 0 ∨ (0 ≤ r ∧ pn ≤ 1048576 ∧ ln ≤ 1048576)) ∧ Below w.heap.size w w' := by
  have hal : Below w.heap.size w (w.alloc (.cells (#[.int .i64 x.a0, .int .i64 x.a1, .int .i64 x.a2, .int .i64 x.a3, .int .i64 x.a4, .int .i64 x.a5, .int .i64 x.c0, .int .i64 x.c1, .int .i64 x.c2, .int .i64 x.c3, .int .i64 x.c4, .int .i64 x.c5, .int .i64 x.c6, .int .i64 x.c7, .int .i64 x.c8, .int .i64 x.c9, .int .i64 x.b0, .int .i64 x.b1, .int .i64 x.b2, .int .i64 x.b3, .int .i64 x.b4, .int .i64 x.b5, .int .i64 x.b6, .int .i64 x.b7, .slice po pn pc, .slice lo ln lc] : Array Value) 38)) := (Below.refl _ _).alloc (Nat.le_refl _) _
  go_enter Try.func11, Try.ntmps11
  go_wp2_with fail
  refine (szBlkPieceS_any _ _ _ 1048576 _ hp (by omega) (by omega)).mono ?_
  rintro e w1 ⟨r, rfl, hz, b1⟩
  rcases hz with hneg | ⟨hr1, hr2⟩
  · go_wp2
    go_ret
    exact ⟨_, rfl, .inl (by omega), bAll hal b1⟩
  · have hc1 : w1.cell? ⟨w.heap.size, 25, none⟩ = some (.slice lo ln lc) := (b1.cell (p := ⟨w.heap.size, 25, none⟩) (by simp)).trans (by simp)
    have Hr1 := hide hr1
    have hr3 : r ≤ 1048576 := by omega
    clear hr1
    go_wp2_with fail
    refine (szBlkLastS_any _ _ _ _ _ hl hr2 hr3).mono ?_
    rintro e w2 ⟨r2, rfl, hz2, b2⟩
    rcases hz2 with hneg | ⟨hr4, hr5⟩
    · go_wp2
      go_ret
      exact ⟨_, rfl, .inl (by omega), bAll (bAll hal b1) b2⟩
    · have Hr4 := hide hr4
      clear hr4
      go_wp2
      go_ret
      exact ⟨_, rfl, .inr ⟨hr5, by have := Hr4.out; have := Hr1.out; omega, by have := Hr4.out; have := Hr1.out; omega⟩, bAll (bAll hal b1) b2⟩

set_option maxHeartbeats 2000000 in
theorem toCmd_any (x : Wd) (w : World) :
    Calls Try.prog 37 #[ .agg #[.int .i64 x.c0, .int .i64 x.c1, .int .i64 x.c2, .int .i64 x.c3, .int .i64 x.c4, .int .i64 x.c5, .int .i64 x.c6, .int .i64 x.c7, .int .i64 x.c8, .int .i64 x.c9] ] w fun e w' => e = .returned (.agg #[.int .i64 x.c0, .int .i64 x.c1, .int .i64 x.c2, .int .i64 x.c3, .int .i64 x.c4, .int .i64 x.c5, .int .i64 x.c6, .int .i64 x.c7, .int .i64 x.c8, .int .i64 x.c9]) ∧ w' = ((w.alloc (.cells #[.int .i64 x.c0, .int .i64 x.c1, .int .i64 x.c2, .int .i64 x.c3, .int .i64 x.c4, .int .i64 x.c5, .int .i64 x.c6, .int .i64 x.c7, .int .i64 x.c8, .int .i64 x.c9] 34)).alloc (.cells #[.int .i64 x.c0, .int .i64 x.c1, .int .i64 x.c2, .int .i64 x.c3, .int .i64 x.c4, .int .i64 x.c5, .int .i64 x.c6, .int .i64 x.c7, .int .i64 x.c8, .int .i64 x.c9] 40)).alloc (.cells #[.int .i64 x.c0, .int .i64 x.c1, .int .i64 x.c2, .int .i64 x.c3, .int .i64 x.c4, .int .i64 x.c5, .int .i64 x.c6, .int .i64 x.c7, .int .i64 x.c8, .int .i64 x.c9] 40) := by
  go_enter Try.func37, Try.ntmps37
  go_wp2
  exact bodyPost_ret (v := .agg #[.int .i64 x.c0, .int .i64 x.c1, .int .i64 x.c2, .int .i64 x.c3, .int .i64 x.c4, .int .i64 x.c5, .int .i64 x.c6, .int .i64 x.c7, .int .i64 x.c8, .int .i64 x.c9]) (by simp [results, Try.results37, go_sem]) rfl ⟨rfl, rfl⟩

/-- A word that lies so: its value, and its lists in memory. -/
def WdR (w : World) (v : Value) (x : Wd) : Prop :=
  ∃ po pc lo lc, v = .agg #[.int .i64 x.a0, .int .i64 x.a1, .int .i64 x.a2, .int .i64 x.a3, .int .i64 x.a4, .int .i64 x.a5, .int .i64 x.c0, .int .i64 x.c1, .int .i64 x.c2, .int .i64 x.c3, .int .i64 x.c4, .int .i64 x.c5, .int .i64 x.c6, .int .i64 x.c7, .int .i64 x.c8, .int .i64 x.c9, .int .i64 x.b0, .int .i64 x.b1, .int .i64 x.b2, .int .i64 x.b3, .int .i64 x.b4, .int .i64 x.b5, .int .i64 x.b6, .int .i64 x.b7, .slice po x.ps.length pc, .slice lo x.ls.length lc] ∧ RowR w 4 (.slice po x.ps.length pc) x.ps.length (pcells x.ps) ∧ RowR w 2 (.slice lo x.ls.length lc) x.ls.length (lcells x.ls)
def WdO (w : World) (S : Nat → Prop) (v : Value) (x : Wd) : Prop :=
  ∃ po pc lo lc, v = .agg #[.int .i64 x.a0, .int .i64 x.a1, .int .i64 x.a2, .int .i64 x.a3, .int .i64 x.a4, .int .i64 x.a5, .int .i64 x.c0, .int .i64 x.c1, .int .i64 x.c2, .int .i64 x.c3, .int .i64 x.c4, .int .i64 x.c5, .int .i64 x.c6, .int .i64 x.c7, .int .i64 x.c8, .int .i64 x.c9, .int .i64 x.b0, .int .i64 x.b1, .int .i64 x.b2, .int .i64 x.b3, .int .i64 x.b4, .int .i64 x.b5, .int .i64 x.b6, .int .i64 x.b7, .slice po x.ps.length pc, .slice lo x.ls.length lc] ∧ Row w 100 4 S (.slice po x.ps.length pc) x.ps.length (pcells x.ps) ∧ Row w 104 2 S (.slice lo x.ls.length lc) x.ls.length (lcells x.ls)

theorem WdO.reads {w : World} {S : Nat → Prop} {v : Value} {x : Wd} (h : WdO w S v x) : WdR w v x := by
  obtain ⟨po, pc, lo, lc, e, h1, h2⟩ := h
  exact ⟨po, pc, lo, lc, e, h1.reads, h2.reads⟩
theorem WdR.keep {w w' : World} {v : Value} {x : Wd} (h : WdR w v x) (hb : Below w.heap.size w w') : WdR w' v x := by
  obtain ⟨po, pc, lo, lc, e, h1, h2⟩ := h
  exact ⟨po, pc, lo, lc, e, h1.keep hb, h2.keep hb⟩
theorem WdO.keep {w w' : World} {S T : Nat → Prop} {v : Value} {x : Wd} (h : WdO w S v x) (hb : Upd T w w') (hST : ∀ k, S k → ¬ T k) : WdO w' S v x := by
  obtain ⟨po, pc, lo, lc, e, h1, h2⟩ := h
  exact ⟨po, pc, lo, lc, e, h1.keep hb hST, h2.keep hb hST⟩
theorem WdO.keepB {w w' : World} {S : Nat → Prop} {v : Value} {x : Wd} (h : WdO w S v x) (hb : Below w.heap.size w w') : WdO w' S v x := by
  obtain ⟨po, pc, lo, lc, e, h1, h2⟩ := h
  exact ⟨po, pc, lo, lc, e, h1.keepB hb, h2.keepB hb⟩
theorem WdO.mono {w : World} {S T : Nat → Prop} {v : Value} {x : Wd} (h : WdO w S v x) (hST : ∀ k, k < w.heap.size → S k → T k) : WdO w T v x := by
  obtain ⟨po, pc, lo, lc, e, h1, h2⟩ := h
  exact ⟨po, pc, lo, lc, e, h1.mono hST, h2.mono hST⟩

theorem heap_up {w : World} {g : Nat} {o : Obj} (a : Obj) (h : w.heap[g]? = some o) : (w.alloc a).heap[g]? = some o := (Below.heap_alloc _ _ _ (heap_lt h)).trans h
theorem bal {W w : World} (h : Below W.heap.size W w) (o : Obj) : Below W.heap.size W (w.alloc o) := h.alloc h.size o
theorem boxAt {w : World} {g : Nat} {cur : Array Value} {e : TypeId} (h : w.heap[g]? = some (.cells cur e (0, 0))) : ∀ j, w.cell? ⟨g, j, none⟩ = cur[j]? := fun j => cell_of_row w g j cur e (0, 0) h
theorem boxFz {w : World} {g : Nat} {cur : Array Value} {e : TypeId} (h : w.heap[g]? = some (.cells cur e (0, 0))) : ∀ j, w.frozen? ⟨g, j, none⟩ = false := fun j => frozen_of_row w g j cur e h

/-- A whole block is read, or written, at once. -/
theorem load_box {P : Program} {w : World} {g : Nat} {cur : Array Value} {e : TypeId} (h : w.heap[g]? = some (.cells cur e (0, 0))) (n : Nat) (hn : cur.size = n) :
    (loadCellsFrom ⟨g, 0, none⟩ 0 n #[]).run P w = .ok cur w := by
  subst hn
  have := run_loadCells_list (P := P) w ⟨g, 0, none⟩ cur.toList (fun j v hv => by
    have hadd : (⟨g, 0, none⟩ : Addr).add j = ⟨g, j, none⟩ := by unfold Addr.add; split <;> simp_all
    rw [hadd, cell_of_row _ _ j cur e (0, 0) h]
    simpa using hv)
  simpa [loadCells] using this
theorem store_box {P : Program} {w : World} {g : Nat} {cur : Array Value} {e : TypeId} (h : w.heap[g]? = some (.cells cur e (0, 0))) (vs : List Value) (hn : vs.length = cur.size) (h1 : ∀ v ∈ vs, v.oneCell' = true) :
    (storeCells ⟨g, 0, none⟩ vs 0).run P w = .ok () (w.setRow g vs.toArray) := by
  have := run_storeCells_from (P := P) g e vs 0 cur w h (by omega) h1
  simpa using this
theorem wd_one (x : Wd) (po lo : Option Addr) (pn pc ln lc : Nat) : ∀ v ∈ (#[.int .i64 x.a0, .int .i64 x.a1, .int .i64 x.a2, .int .i64 x.a3, .int .i64 x.a4, .int .i64 x.a5, .int .i64 x.c0, .int .i64 x.c1, .int .i64 x.c2, .int .i64 x.c3, .int .i64 x.c4, .int .i64 x.c5, .int .i64 x.c6, .int .i64 x.c7, .int .i64 x.c8, .int .i64 x.c9, .int .i64 x.b0, .int .i64 x.b1, .int .i64 x.b2, .int .i64 x.b3, .int .i64 x.b4, .int .i64 x.b5, .int .i64 x.b6, .int .i64 x.b7, .slice po pn pc, .slice lo ln lc] : Array Value).toList, v.oneCell' = true := by
  have : (#[.int .i64 x.a0, .int .i64 x.a1, .int .i64 x.a2, .int .i64 x.a3, .int .i64 x.a4, .int .i64 x.a5, .int .i64 x.c0, .int .i64 x.c1, .int .i64 x.c2, .int .i64 x.c3, .int .i64 x.c4, .int .i64 x.c5, .int .i64 x.c6, .int .i64 x.c7, .int .i64 x.c8, .int .i64 x.c9, .int .i64 x.b0, .int .i64 x.b1, .int .i64 x.b2, .int .i64 x.b3, .int .i64 x.b4, .int .i64 x.b5, .int .i64 x.b6, .int .i64 x.b7, .slice po pn pc, .slice lo ln lc] : Array Value).toList.all (·.oneCell') = true := rfl
  exact List.all_eq_true.1 this
theorem infoWd : (Try.prog.info? 44).map (·.size) = some 26 := by kernel_rfl

end Go.Proofs.Ytllhifiklcdoiaa

/- Where the numbers of a word stand, in the program: contracts; no statement of the seat is proved here. -/
namespace Go.Proofs.Ytllhifiklcdoiaa
open Go.RowKit

theorem bDrewB {B : Nat} {w w' : World} (h : Below B w w') : Below B w w'.drew := ⟨h.os, h.tape, h.output, h.size, h.block⟩

/-- A row of n pointers to the cells of block b from o on. -/
def Ptrs (ps : Array Value) (b o n : Nat) : Prop := ps.size = n ∧ ∀ k, k < n → ps[k]? = some (.pointer (some ⟨b, o + k, none⟩))
theorem Ptrs.one {ps : Array Value} {b o n : Nat} (h : Ptrs ps b o n) : ps.all (·.oneCell') = true := by
  refine Array.all_eq_true_iff_forall_mem.2 (fun v hv => ?_)
  obtain ⟨i, hi, e⟩ := Array.getElem_of_mem hv
  have := h.2 i (by rw [← h.1]; exact hi)
  rw [Array.getElem?_eq_getElem hi, e] at this
  rw [Option.some.inj this]
  rfl
theorem all_of_list {cs : Array Value} (h : cs.toList.all (·.oneCell') = true) : cs.all (·.oneCell') = true :=
  Array.all_eq_true_iff_forall_mem.2 (fun v hv => List.all_eq_true.1 h v (by simpa using hv))
theorem info10 : (Try.prog.info? 128).map (·.size) = some 10 := by kernel_rfl
theorem info24 : (Try.prog.info? 173).map (·.size) = some 24 := by kernel_rfl

theorem index10 (ps : Array Value) (k : Nat) (u : Value) (hk : k < 10) (h : ps[k]? = some u) (w : World) : (Instr.index 128 (.agg ps) (.int .i64 k)).run Try.prog w = .ok u w := by
  have h0 : (0 : Int) ≤ k ∧ (k : Int) < 10 := by omega
  have hs : (sizeOf 127).run Try.prog w = .ok 1 w := by kernel_rfl
  simp [Instr.index, run_underlying Try.underlying128, asIntOf, h0, hs, part, h]
  omega

set_option maxRecDepth 100000 in
set_option maxHeartbeats 4000000 in
theorem cmdNumbers_any (b o : Nat) (w : World) :
    Calls Try.prog 89 #[.pointer (some ⟨b, o, none⟩)] w fun e w' => ∃ ps, e = .returned (.agg ps) ∧ Ptrs ps b o 10 ∧ Below w.heap.size w w' := by
  go_enter Try.func89, Try.ntmps89
  go_wp2
  refine wp_region_noPanic ?_
  refine wp_region_held_drew (S := (fun _ => True)) (by kernel_rfl) ?_ (fun hHeld => ?_)
  · trivial
  refine wpAnyH_take (i := 0) (v := ?v1) rfl (by kernel_rfl) (by kernel_rfl) (by kernel_rfl) (fun _ _ _ h => h) (Or.inl ⟨by rfl, ?hy1⟩) (by assumption) ?rest1
  case hy1 => ((intro w hSw; (try dsimp only at hSw); (try simp only [List.getElem_toArray, List.getElem_cons_zero]); go_simp; first | done | (with_reducible rfl)))
  simp only [Act.put, List.getElem_toArray, List.getElem_cons_zero, List.setIfInBounds_toArray, List.set_cons_zero, List.set_cons_succ]
  refine wpAnyH_take (i := 1) (v := ?v2) rfl (by kernel_rfl) (by kernel_rfl) (by kernel_rfl) (fun _ _ _ h => h) (Or.inl ⟨by rfl, ?hy2⟩) (by assumption) ?rest2
  case hy2 => ((intro w hSw; (try dsimp only at hSw); (try simp only [List.getElem_toArray, List.getElem_cons_zero, List.getElem_cons_succ]); go_simp; first | done | (with_reducible rfl)))
  simp only [Act.put, List.getElem_toArray, List.getElem_cons_zero, List.getElem_cons_succ, List.setIfInBounds_toArray, List.set_cons_zero, List.set_cons_succ]
  refine wpAnyH_take (i := 2) (v := ?v3) rfl (by kernel_rfl) (by kernel_rfl) (by kernel_rfl) (fun _ _ _ h => h) (Or.inl ⟨by rfl, ?hy3⟩) (by assumption) ?rest3
  case hy3 => ((intro w hSw; (try dsimp only at hSw); (try simp only [List.getElem_toArray, List.getElem_cons_zero, List.getElem_cons_succ]); go_simp; first | done | (with_reducible rfl)))
  simp only [Act.put, List.getElem_toArray, List.getElem_cons_zero, List.getElem_cons_succ, List.setIfInBounds_toArray, List.set_cons_zero, List.set_cons_succ]
  refine wpAnyH_take (i := 3) (v := ?v4) rfl (by kernel_rfl) (by kernel_rfl) (by kernel_rfl) (fun _ _ _ h => h) (Or.inl ⟨by rfl, ?hy4⟩) (by assumption) ?rest4
  case hy4 => ((intro w hSw; (try dsimp only at hSw); (try simp only [List.getElem_toArray, List.getElem_cons_zero, List.getElem_cons_succ]); go_simp; first | done | (with_reducible rfl)))
  simp only [Act.put, List.getElem_toArray, List.getElem_cons_zero, List.getElem_cons_succ, List.setIfInBounds_toArray, List.set_cons_zero, List.set_cons_succ]
  refine wpAnyH_take (i := 4) (v := ?v5) rfl (by kernel_rfl) (by kernel_rfl) (by kernel_rfl) (fun _ _ _ h => h) (Or.inl ⟨by rfl, ?hy5⟩) (by assumption) ?rest5
  case hy5 => ((intro w hSw; (try dsimp only at hSw); (try simp only [List.getElem_toArray, List.getElem_cons_zero, List.getElem_cons_succ]); go_simp; first | done | (with_reducible rfl)))
  simp only [Act.put, List.getElem_toArray, List.getElem_cons_zero, List.getElem_cons_succ, List.setIfInBounds_toArray, List.set_cons_zero, List.set_cons_succ]
  refine wpAnyH_take (i := 5) (v := ?v6) rfl (by kernel_rfl) (by kernel_rfl) (by kernel_rfl) (fun _ _ _ h => h) (Or.inl ⟨by rfl, ?hy6⟩) (by assumption) ?rest6
  case hy6 => ((intro w hSw; (try dsimp only at hSw); (try simp only [List.getElem_toArray, List.getElem_cons_zero, List.getElem_cons_succ]); go_simp; first | done | (with_reducible rfl)))
  simp only [Act.put, List.getElem_toArray, List.getElem_cons_zero, List.getElem_cons_succ, List.setIfInBounds_toArray, List.set_cons_zero, List.set_cons_succ]
  refine wpAnyH_take (i := 6) (v := ?v7) rfl (by kernel_rfl) (by kernel_rfl) (by kernel_rfl) (fun _ _ _ h => h) (Or.inl ⟨by rfl, ?hy7⟩) (by assumption) ?rest7
  case hy7 => ((intro w hSw; (try dsimp only at hSw); (try simp only [List.getElem_toArray, List.getElem_cons_zero, List.getElem_cons_succ]); go_simp; first | done | (with_reducible rfl)))
  simp only [Act.put, List.getElem_toArray, List.getElem_cons_zero, List.getElem_cons_succ, List.setIfInBounds_toArray, List.set_cons_zero, List.set_cons_succ]
  refine wpAnyH_take (i := 7) (v := ?v8) rfl (by kernel_rfl) (by kernel_rfl) (by kernel_rfl) (fun _ _ _ h => h) (Or.inl ⟨by rfl, ?hy8⟩) (by assumption) ?rest8
  case hy8 => ((intro w hSw; (try dsimp only at hSw); (try simp only [List.getElem_toArray, List.getElem_cons_zero, List.getElem_cons_succ]); go_simp; first | done | (with_reducible rfl)))
  simp only [Act.put, List.getElem_toArray, List.getElem_cons_zero, List.getElem_cons_succ, List.setIfInBounds_toArray, List.set_cons_zero, List.set_cons_succ]
  refine wpAnyH_take (i := 8) (v := ?v9) rfl (by kernel_rfl) (by kernel_rfl) (by kernel_rfl) (fun _ _ _ h => h) (Or.inl ⟨by rfl, ?hy9⟩) (by assumption) ?rest9
  case hy9 => ((intro w hSw; (try dsimp only at hSw); (try simp only [List.getElem_toArray, List.getElem_cons_zero, List.getElem_cons_succ]); go_simp; first | done | (with_reducible rfl)))
  simp only [Act.put, List.getElem_toArray, List.getElem_cons_zero, List.getElem_cons_succ, List.setIfInBounds_toArray, List.set_cons_zero, List.set_cons_succ]
  refine wpAnyH_take (i := 9) (v := ?v10) rfl (by kernel_rfl) (by kernel_rfl) (by kernel_rfl) (fun _ _ _ h => h) (Or.inl ⟨by rfl, ?hy10⟩) (by assumption) ?rest10
  case hy10 => ((intro w hSw; (try dsimp only at hSw); (try simp only [List.getElem_toArray, List.getElem_cons_zero, List.getElem_cons_succ]); go_simp; first | done | (with_reducible rfl)))
  simp only [Act.put, List.getElem_toArray, List.getElem_cons_zero, List.getElem_cons_succ, List.setIfInBounds_toArray, List.set_cons_zero, List.set_cons_succ]
  refine wpAnyH_take (i := 10) (v := ?v11) rfl (by kernel_rfl) (by kernel_rfl) (by kernel_rfl) (fun _ _ _ h => h) (Or.inl ⟨by rfl, ?hy11⟩) (by assumption) ?rest11
  case hy11 => ((intro w hSw; (try dsimp only at hSw); (try simp only [List.getElem_toArray, List.getElem_cons_zero, List.getElem_cons_succ]); go_simp; first | done | (with_reducible rfl)))
  simp only [Act.put, List.getElem_toArray, List.getElem_cons_zero, List.getElem_cons_succ, List.setIfInBounds_toArray, List.set_cons_zero, List.set_cons_succ]
  refine wpAnyH_take (i := 11) (v := ?v12) rfl (by kernel_rfl) (by kernel_rfl) (by kernel_rfl) (fun _ _ _ h => h) (Or.inl ⟨by rfl, ?hy12⟩) (by assumption) ?rest12
  case hy12 => ((intro w hSw; (try dsimp only at hSw); (try simp only [List.getElem_toArray, List.getElem_cons_zero, List.getElem_cons_succ]); go_simp; first | done | (with_reducible rfl)))
  simp only [Act.put, List.getElem_toArray, List.getElem_cons_zero, List.getElem_cons_succ, List.setIfInBounds_toArray, List.set_cons_zero, List.set_cons_succ]
  refine wpAnyH_take (i := 12) (v := ?v13) rfl (by kernel_rfl) (by kernel_rfl) (by kernel_rfl) (fun _ _ _ h => h) (Or.inl ⟨by rfl, ?hy13⟩) (by assumption) ?rest13
  case hy13 => ((intro w hSw; (try dsimp only at hSw); (try simp only [List.getElem_toArray, List.getElem_cons_zero, List.getElem_cons_succ]); go_simp; first | done | (with_reducible rfl)))
  simp only [Act.put, List.getElem_toArray, List.getElem_cons_zero, List.getElem_cons_succ, List.setIfInBounds_toArray, List.set_cons_zero, List.set_cons_succ]
  refine wpAnyH_take (i := 13) (v := ?v14) rfl (by kernel_rfl) (by kernel_rfl) (by kernel_rfl) (fun _ _ _ h => h) (Or.inl ⟨by rfl, ?hy14⟩) (by assumption) ?rest14
  case hy14 => ((intro w hSw; (try dsimp only at hSw); (try simp only [List.getElem_toArray, List.getElem_cons_zero, List.getElem_cons_succ]); go_simp; first | done | (with_reducible rfl)))
  simp only [Act.put, List.getElem_toArray, List.getElem_cons_zero, List.getElem_cons_succ, List.setIfInBounds_toArray, List.set_cons_zero, List.set_cons_succ]
  refine wpAnyH_take (i := 14) (v := ?v15) rfl (by kernel_rfl) (by kernel_rfl) (by kernel_rfl) (fun _ _ _ h => h) (Or.inl ⟨by rfl, ?hy15⟩) (by assumption) ?rest15
  case hy15 => ((intro w hSw; (try dsimp only at hSw); (try simp only [List.getElem_toArray, List.getElem_cons_zero, List.getElem_cons_succ]); go_simp; first | done | (with_reducible rfl)))
  simp only [Act.put, List.getElem_toArray, List.getElem_cons_zero, List.getElem_cons_succ, List.setIfInBounds_toArray, List.set_cons_zero, List.set_cons_succ]
  refine wpAnyH_take (i := 15) (v := ?v16) rfl (by kernel_rfl) (by kernel_rfl) (by kernel_rfl) (fun _ _ _ h => h) (Or.inl ⟨by rfl, ?hy16⟩) (by assumption) ?rest16
  case hy16 => ((intro w hSw; (try dsimp only at hSw); (try simp only [List.getElem_toArray, List.getElem_cons_zero, List.getElem_cons_succ]); go_simp; first | done | (with_reducible rfl)))
  simp only [Act.put, List.getElem_toArray, List.getElem_cons_zero, List.getElem_cons_succ, List.setIfInBounds_toArray, List.set_cons_zero, List.set_cons_succ]
  refine wpAnyH_take (i := 16) (v := ?v17) rfl (by kernel_rfl) (by kernel_rfl) (by kernel_rfl) (fun _ _ _ h => h) (Or.inl ⟨by rfl, ?hy17⟩) (by assumption) ?rest17
  case hy17 => ((intro w hSw; (try dsimp only at hSw); (try simp only [List.getElem_toArray, List.getElem_cons_zero, List.getElem_cons_succ]); go_simp; first | done | (with_reducible rfl)))
  simp only [Act.put, List.getElem_toArray, List.getElem_cons_zero, List.getElem_cons_succ, List.setIfInBounds_toArray, List.set_cons_zero, List.set_cons_succ]
  refine wpAnyH_take (i := 17) (v := ?v18) rfl (by kernel_rfl) (by kernel_rfl) (by kernel_rfl) (fun _ _ _ h => h) (Or.inl ⟨by rfl, ?hy18⟩) (by assumption) ?rest18
  case hy18 => ((intro w hSw; (try dsimp only at hSw); (try simp only [List.getElem_toArray, List.getElem_cons_zero, List.getElem_cons_succ]); go_simp; first | done | (with_reducible rfl)))
  simp only [Act.put, List.getElem_toArray, List.getElem_cons_zero, List.getElem_cons_succ, List.setIfInBounds_toArray, List.set_cons_zero, List.set_cons_succ]
  refine wpAnyH_take (i := 18) (v := ?v19) rfl (by kernel_rfl) (by kernel_rfl) (by kernel_rfl) (fun _ _ _ h => h) (Or.inl ⟨by rfl, ?hy19⟩) (by assumption) ?rest19
  case hy19 => ((intro w hSw; (try dsimp only at hSw); (try simp only [List.getElem_toArray, List.getElem_cons_zero, List.getElem_cons_succ]); go_simp; first | done | (with_reducible rfl)))
  simp only [Act.put, List.getElem_toArray, List.getElem_cons_zero, List.getElem_cons_succ, List.setIfInBounds_toArray, List.set_cons_zero, List.set_cons_succ]
  refine wpAnyH_take (i := 19) (v := ?v20) rfl (by kernel_rfl) (by kernel_rfl) (by kernel_rfl) (fun _ _ _ h => h) (Or.inl ⟨by rfl, ?hy20⟩) (by assumption) ?rest20
  case hy20 => ((intro w hSw; (try dsimp only at hSw); (try simp only [List.getElem_toArray, List.getElem_cons_zero, List.getElem_cons_succ]); go_simp; first | done | (with_reducible rfl)))
  simp only [Act.put, List.getElem_toArray, List.getElem_cons_zero, List.getElem_cons_succ, List.setIfInBounds_toArray, List.set_cons_zero, List.set_cons_succ]
  refine wpAnyH_take (i := 20) (v := ?v21) rfl (by kernel_rfl) (by kernel_rfl) (by kernel_rfl) (fun _ _ _ h => h) (Or.inl ⟨by rfl, ?hy21⟩) (by assumption) ?rest21
  case hy21 => ((intro w hSw; (try dsimp only at hSw); (try simp only [List.getElem_toArray, List.getElem_cons_zero, List.getElem_cons_succ]); go_simp; first | done | (with_reducible rfl)))
  simp only [Act.put, List.getElem_toArray, List.getElem_cons_zero, List.getElem_cons_succ, List.setIfInBounds_toArray, List.set_cons_zero, List.set_cons_succ]
  refine wpAnyH_take (i := 21) (v := ?v22) rfl (by kernel_rfl) (by kernel_rfl) (by kernel_rfl) (fun _ _ _ h => h) (Or.inl ⟨by rfl, ?hy22⟩) (by assumption) ?rest22
  case hy22 => ((intro w hSw; (try dsimp only at hSw); (try simp only [List.getElem_toArray, List.getElem_cons_zero, List.getElem_cons_succ]); go_simp; first | done | (with_reducible rfl)))
  simp only [Act.put, List.getElem_toArray, List.getElem_cons_zero, List.getElem_cons_succ, List.setIfInBounds_toArray, List.set_cons_zero, List.set_cons_succ]
  refine wpAnyH_take (i := 22) (v := ?v23) rfl (by kernel_rfl) (by kernel_rfl) (by kernel_rfl) (fun _ _ _ h => h) (Or.inl ⟨by rfl, ?hy23⟩) (by assumption) ?rest23
  case hy23 => ((intro w hSw; (try dsimp only at hSw); (try simp only [List.getElem_toArray, List.getElem_cons_zero, List.getElem_cons_succ]); go_simp; first | done | (with_reducible rfl)))
  simp only [Act.put, List.getElem_toArray, List.getElem_cons_zero, List.getElem_cons_succ, List.setIfInBounds_toArray, List.set_cons_zero, List.set_cons_succ]
  refine wpAnyH_take (i := 23) (v := ?v24) rfl (by kernel_rfl) (by kernel_rfl) (by kernel_rfl) (fun _ _ _ h => h) (Or.inl ⟨by rfl, ?hy24⟩) (by assumption) ?rest24
  case hy24 => ((intro w hSw; (try dsimp only at hSw); (try simp only [List.getElem_toArray, List.getElem_cons_zero, List.getElem_cons_succ]); go_simp; first | done | (with_reducible rfl)))
  simp only [Act.put, List.getElem_toArray, List.getElem_cons_zero, List.getElem_cons_succ, List.setIfInBounds_toArray, List.set_cons_zero, List.set_cons_succ]
  refine wpAnyH_take (i := 24) (v := ?v25) rfl (by kernel_rfl) (by kernel_rfl) (by kernel_rfl) (fun _ _ _ h => h) (Or.inl ⟨by rfl, ?hy25⟩) (by assumption) ?rest25
  case hy25 => ((intro w hSw; (try dsimp only at hSw); (try simp only [List.getElem_toArray, List.getElem_cons_zero, List.getElem_cons_succ]); go_simp; first | done | (with_reducible rfl)))
  simp only [Act.put, List.getElem_toArray, List.getElem_cons_zero, List.getElem_cons_succ, List.setIfInBounds_toArray, List.set_cons_zero, List.set_cons_succ]
  refine wpAnyH_take (i := 25) (v := ?v26) rfl (by kernel_rfl) (by kernel_rfl) (by kernel_rfl) (fun _ _ _ h => h) (Or.inl ⟨by rfl, ?hy26⟩) (by assumption) ?rest26
  case hy26 => ((intro w hSw; (try dsimp only at hSw); (try simp only [List.getElem_toArray, List.getElem_cons_zero, List.getElem_cons_succ]); go_simp; first | done | (with_reducible rfl)))
  simp only [Act.put, List.getElem_toArray, List.getElem_cons_zero, List.getElem_cons_succ, List.setIfInBounds_toArray, List.set_cons_zero, List.set_cons_succ]
  refine wpAnyH_take (i := 26) (v := ?v27) rfl (by kernel_rfl) (by kernel_rfl) (by kernel_rfl) (fun _ _ _ h => h) (Or.inl ⟨by rfl, ?hy27⟩) (by assumption) ?rest27
  case hy27 => ((intro w hSw; (try dsimp only at hSw); (try simp only [List.getElem_toArray, List.getElem_cons_zero, List.getElem_cons_succ]); go_simp; first | done | (with_reducible rfl)))
  simp only [Act.put, List.getElem_toArray, List.getElem_cons_zero, List.getElem_cons_succ, List.setIfInBounds_toArray, List.set_cons_zero, List.set_cons_succ]
  refine wpAnyH_take (i := 27) (v := ?v28) rfl (by kernel_rfl) (by kernel_rfl) (by kernel_rfl) (fun _ _ _ h => h) (Or.inl ⟨by rfl, ?hy28⟩) (by assumption) ?rest28
  case hy28 => ((intro w hSw; (try dsimp only at hSw); (try simp only [List.getElem_toArray, List.getElem_cons_zero, List.getElem_cons_succ]); go_simp; first | done | (with_reducible rfl)))
  simp only [Act.put, List.getElem_toArray, List.getElem_cons_zero, List.getElem_cons_succ, List.setIfInBounds_toArray, List.set_cons_zero, List.set_cons_succ]
  refine wpAnyH_take (i := 28) (v := ?v29) rfl (by kernel_rfl) (by kernel_rfl) (by kernel_rfl) (fun _ _ _ h => h) (Or.inl ⟨by rfl, ?hy29⟩) (by assumption) ?rest29
  case hy29 => ((intro w hSw; (try dsimp only at hSw); (try simp only [List.getElem_toArray, List.getElem_cons_zero, List.getElem_cons_succ]); go_simp; first | done | (with_reducible rfl)))
  simp only [Act.put, List.getElem_toArray, List.getElem_cons_zero, List.getElem_cons_succ, List.setIfInBounds_toArray, List.set_cons_zero, List.set_cons_succ]
  refine wpAnyH_take (i := 29) (v := ?v30) rfl (by kernel_rfl) (by kernel_rfl) (by kernel_rfl) (fun _ _ _ h => h) (Or.inl ⟨by rfl, ?hy30⟩) (by assumption) ?rest30
  case hy30 => ((intro w hSw; (try dsimp only at hSw); (try simp only [List.getElem_toArray, List.getElem_cons_zero, List.getElem_cons_succ]); go_simp; first | done | (with_reducible rfl)))
  simp only [Act.put, List.getElem_toArray, List.getElem_cons_zero, List.getElem_cons_succ, List.setIfInBounds_toArray, List.set_cons_zero, List.set_cons_succ]
  refine wpAnyH_take (i := 30) (v := ?v31) rfl (by kernel_rfl) (by kernel_rfl) (by kernel_rfl) (fun _ _ _ h => h) (Or.inl ⟨by rfl, ?hy31⟩) (by assumption) ?rest31
  case hy31 => ((intro w hSw; (try dsimp only at hSw); (try simp only [List.getElem_toArray, List.getElem_cons_zero, List.getElem_cons_succ]); go_simp; first | done | (with_reducible rfl)))
  simp only [Act.put, List.getElem_toArray, List.getElem_cons_zero, List.getElem_cons_succ, List.setIfInBounds_toArray, List.set_cons_zero, List.set_cons_succ]
  refine wpAnyH_ready (rs := [31]) (by kernel_rfl) (by simp) ?_
  refine AllReadyH.cons rfl (fun K hK => ?_) AllReadyH.nil
  go_simp
  (skip)
  refine hK.out _ _ ?_ (fun hHeld => ?_)
  · trivial
  clear hK K
  refine wpAnyH_done (by kernel_rfl) ?_ _
  refine NoPanic.normal ?_
  go_wp2
  refine bodyPost_ret (v := .agg (#[.pointer (some ⟨b, o, none⟩), .pointer (some ⟨b, o + 1, none⟩), .pointer (some ⟨b, o + 2, none⟩), .pointer (some ⟨b, o + 3, none⟩), .pointer (some ⟨b, o + 4, none⟩), .pointer (some ⟨b, o + 5, none⟩), .pointer (some ⟨b, o + 6, none⟩), .pointer (some ⟨b, o + 7, none⟩), .pointer (some ⟨b, o + 8, none⟩), .pointer (some ⟨b, o + 9, none⟩)] : Array Value)) (results_cell_row Try.results89 _ _ w.heap.size _ _ (0, 0) _ rfl (heap_alloc_new w _) Try.underlying128 rfl info10) rfl ?_
  refine ⟨_, rfl, ⟨rfl, fun k hk => ?_⟩, bDrewB (bal (Below.refl _ _) _)⟩
  rcases (by omega : k = 0 ∨ k = 1 ∨ k = 2 ∨ k = 3 ∨ k = 4 ∨ k = 5 ∨ k = 6 ∨ k = 7 ∨ k = 8 ∨ k = 9) with rfl | rfl | rfl | rfl | rfl | rfl | rfl | rfl | rfl | rfl <;> rfl

set_option maxRecDepth 100000 in
set_option maxHeartbeats 8000000 in
theorem wordNumbers_any (b : Nat) (w : World) :
    Calls Try.prog 111 #[.pointer (some ⟨b, 0, none⟩)] w fun e w' => ∃ ps, e = .returned (.agg ps) ∧ Ptrs ps b 0 24 ∧ Below w.heap.size w w' := by
  go_enter Try.func111, Try.ntmps111
  go_wp2
  refine wp_region_noPanic ?_
  refine wp_region_held_drew (S := (fun _ => True)) (by kernel_rfl) ?_ (fun hHeld => ?_)
  · trivial
  refine wpAnyH_take (i := 0) (v := ?v32) rfl (by kernel_rfl) (by kernel_rfl) (by kernel_rfl) (fun _ _ _ h => h) (Or.inl ⟨by rfl, ?hy32⟩) (by assumption) ?rest32
  case hy32 => ((intro w hSw; (try dsimp only at hSw); (try simp only [List.getElem_toArray, List.getElem_cons_zero]); go_simp; first | done | (with_reducible rfl)))
  simp only [Act.put, List.getElem_toArray, List.getElem_cons_zero, List.setIfInBounds_toArray, List.set_cons_zero, List.set_cons_succ]
  refine wpAnyH_take (i := 1) (v := ?v33) rfl (by kernel_rfl) (by kernel_rfl) (by kernel_rfl) (fun _ _ _ h => h) (Or.inl ⟨by rfl, ?hy33⟩) (by assumption) ?rest33
  case hy33 => ((intro w hSw; (try dsimp only at hSw); (try simp only [List.getElem_toArray, List.getElem_cons_zero, List.getElem_cons_succ]); go_simp; first | done | (with_reducible rfl)))
  simp only [Act.put, List.getElem_toArray, List.getElem_cons_zero, List.getElem_cons_succ, List.setIfInBounds_toArray, List.set_cons_zero, List.set_cons_succ]
  refine wpAnyH_take (i := 2) (v := ?v34) rfl (by kernel_rfl) (by kernel_rfl) (by kernel_rfl) (fun _ _ _ h => h) (Or.inl ⟨by rfl, ?hy34⟩) (by assumption) ?rest34
  case hy34 => ((intro w hSw; (try dsimp only at hSw); (try simp only [List.getElem_toArray, List.getElem_cons_zero, List.getElem_cons_succ]); go_simp; first | done | (with_reducible rfl)))
  simp only [Act.put, List.getElem_toArray, List.getElem_cons_zero, List.getElem_cons_succ, List.setIfInBounds_toArray, List.set_cons_zero, List.set_cons_succ]
  refine wpAnyH_take (i := 3) (v := ?v35) rfl (by kernel_rfl) (by kernel_rfl) (by kernel_rfl) (fun _ _ _ h => h) (Or.inl ⟨by rfl, ?hy35⟩) (by assumption) ?rest35
  case hy35 => ((intro w hSw; (try dsimp only at hSw); (try simp only [List.getElem_toArray, List.getElem_cons_zero, List.getElem_cons_succ]); go_simp; first | done | (with_reducible rfl)))
  simp only [Act.put, List.getElem_toArray, List.getElem_cons_zero, List.getElem_cons_succ, List.setIfInBounds_toArray, List.set_cons_zero, List.set_cons_succ]
  refine wpAnyH_take (i := 4) (v := ?v36) rfl (by kernel_rfl) (by kernel_rfl) (by kernel_rfl) (fun _ _ _ h => h) (Or.inl ⟨by rfl, ?hy36⟩) (by assumption) ?rest36
  case hy36 => ((intro w hSw; (try dsimp only at hSw); (try simp only [List.getElem_toArray, List.getElem_cons_zero, List.getElem_cons_succ]); go_simp; first | done | (with_reducible rfl)))
  simp only [Act.put, List.getElem_toArray, List.getElem_cons_zero, List.getElem_cons_succ, List.setIfInBounds_toArray, List.set_cons_zero, List.set_cons_succ]
  refine wpAnyH_take (i := 5) (v := ?v37) rfl (by kernel_rfl) (by kernel_rfl) (by kernel_rfl) (fun _ _ _ h => h) (Or.inl ⟨by rfl, ?hy37⟩) (by assumption) ?rest37
  case hy37 => ((intro w hSw; (try dsimp only at hSw); (try simp only [List.getElem_toArray, List.getElem_cons_zero, List.getElem_cons_succ]); go_simp; first | done | (with_reducible rfl)))
  simp only [Act.put, List.getElem_toArray, List.getElem_cons_zero, List.getElem_cons_succ, List.setIfInBounds_toArray, List.set_cons_zero, List.set_cons_succ]
  refine wpAnyH_take (i := 6) (v := ?v38) rfl (by kernel_rfl) (by kernel_rfl) (by kernel_rfl) (fun _ _ _ h => h) (Or.inl ⟨by rfl, ?hy38⟩) (by assumption) ?rest38
  case hy38 => ((intro w hSw; (try dsimp only at hSw); (try simp only [List.getElem_toArray, List.getElem_cons_zero, List.getElem_cons_succ]); go_simp; first | done | (with_reducible rfl)))
  simp only [Act.put, List.getElem_toArray, List.getElem_cons_zero, List.getElem_cons_succ, List.setIfInBounds_toArray, List.set_cons_zero, List.set_cons_succ]
  refine wpAnyH_take (i := 7) (v := ?v39) rfl (by kernel_rfl) (by kernel_rfl) (by kernel_rfl) (fun _ _ _ h => h) (Or.inl ⟨by rfl, ?hy39⟩) (by assumption) ?rest39
  case hy39 => ((intro w hSw; (try dsimp only at hSw); (try simp only [List.getElem_toArray, List.getElem_cons_zero, List.getElem_cons_succ]); go_simp; first | done | (with_reducible rfl)))
  simp only [Act.put, List.getElem_toArray, List.getElem_cons_zero, List.getElem_cons_succ, List.setIfInBounds_toArray, List.set_cons_zero, List.set_cons_succ]
  refine wpAnyH_take (i := 8) (v := ?v40) rfl (by kernel_rfl) (by kernel_rfl) (by kernel_rfl) (fun _ _ _ h => h) (Or.inl ⟨by rfl, ?hy40⟩) (by assumption) ?rest40
  case hy40 => ((intro w hSw; (try dsimp only at hSw); (try simp only [List.getElem_toArray, List.getElem_cons_zero, List.getElem_cons_succ]); go_simp; first | done | (with_reducible rfl)))
  simp only [Act.put, List.getElem_toArray, List.getElem_cons_zero, List.getElem_cons_succ, List.setIfInBounds_toArray, List.set_cons_zero, List.set_cons_succ]
  refine wpAnyH_take (i := 9) (v := ?v41) rfl (by kernel_rfl) (by kernel_rfl) (by kernel_rfl) (fun _ _ _ h => h) (Or.inl ⟨by rfl, ?hy41⟩) (by assumption) ?rest41
  case hy41 => ((intro w hSw; (try dsimp only at hSw); (try simp only [List.getElem_toArray, List.getElem_cons_zero, List.getElem_cons_succ]); go_simp; first | done | (with_reducible rfl)))
  simp only [Act.put, List.getElem_toArray, List.getElem_cons_zero, List.getElem_cons_succ, List.setIfInBounds_toArray, List.set_cons_zero, List.set_cons_succ]
  refine wpAnyH_take (i := 10) (v := ?v42) rfl (by kernel_rfl) (by kernel_rfl) (by kernel_rfl) (fun _ _ _ h => h) (Or.inl ⟨by rfl, ?hy42⟩) (by assumption) ?rest42
  case hy42 => ((intro w hSw; (try dsimp only at hSw); (try simp only [List.getElem_toArray, List.getElem_cons_zero, List.getElem_cons_succ]); go_simp; first | done | (with_reducible rfl)))
  simp only [Act.put, List.getElem_toArray, List.getElem_cons_zero, List.getElem_cons_succ, List.setIfInBounds_toArray, List.set_cons_zero, List.set_cons_succ]
  refine wpAnyH_take (i := 11) (v := ?v43) rfl (by kernel_rfl) (by kernel_rfl) (by kernel_rfl) (fun _ _ _ h => h) (Or.inl ⟨by rfl, ?hy43⟩) (by assumption) ?rest43
  case hy43 => ((intro w hSw; (try dsimp only at hSw); (try simp only [List.getElem_toArray, List.getElem_cons_zero, List.getElem_cons_succ]); go_simp; first | done | (with_reducible rfl)))
  simp only [Act.put, List.getElem_toArray, List.getElem_cons_zero, List.getElem_cons_succ, List.setIfInBounds_toArray, List.set_cons_zero, List.set_cons_succ]
  refine wpAnyH_take (i := 12) (v := ?v44) rfl (by kernel_rfl) (by kernel_rfl) (by kernel_rfl) (fun _ _ _ h => h) (Or.inl ⟨by rfl, ?hy44⟩) (by assumption) ?rest44
  case hy44 => ((intro w hSw; (try dsimp only at hSw); (try simp only [List.getElem_toArray, List.getElem_cons_zero, List.getElem_cons_succ]); go_simp; first | done | (with_reducible rfl)))
  simp only [Act.put, List.getElem_toArray, List.getElem_cons_zero, List.getElem_cons_succ, List.setIfInBounds_toArray, List.set_cons_zero, List.set_cons_succ]
  refine wpAnyH_take (i := 13) (v := ?v45) rfl (by kernel_rfl) (by kernel_rfl) (by kernel_rfl) (fun _ _ _ h => h) (Or.inl ⟨by rfl, ?hy45⟩) (by assumption) ?rest45
  case hy45 => ((intro w hSw; (try dsimp only at hSw); (try simp only [List.getElem_toArray, List.getElem_cons_zero, List.getElem_cons_succ]); go_simp; first | done | (with_reducible rfl)))
  simp only [Act.put, List.getElem_toArray, List.getElem_cons_zero, List.getElem_cons_succ, List.setIfInBounds_toArray, List.set_cons_zero, List.set_cons_succ]
  refine wpAnyH_take (i := 14) (v := ?v46) rfl (by kernel_rfl) (by kernel_rfl) (by kernel_rfl) (fun _ _ _ h => h) (Or.inl ⟨by rfl, ?hy46⟩) (by assumption) ?rest46
  case hy46 => ((intro w hSw; (try dsimp only at hSw); (try simp only [List.getElem_toArray, List.getElem_cons_zero, List.getElem_cons_succ]); go_simp; first | done | (with_reducible rfl)))
  simp only [Act.put, List.getElem_toArray, List.getElem_cons_zero, List.getElem_cons_succ, List.setIfInBounds_toArray, List.set_cons_zero, List.set_cons_succ]
  refine wpAnyH_take (i := 15) (v := ?v47) rfl (by kernel_rfl) (by kernel_rfl) (by kernel_rfl) (fun _ _ _ h => h) (Or.inl ⟨by rfl, ?hy47⟩) (by assumption) ?rest47
  case hy47 => ((intro w hSw; (try dsimp only at hSw); (try simp only [List.getElem_toArray, List.getElem_cons_zero, List.getElem_cons_succ]); go_simp; first | done | (with_reducible rfl)))
  simp only [Act.put, List.getElem_toArray, List.getElem_cons_zero, List.getElem_cons_succ, List.setIfInBounds_toArray, List.set_cons_zero, List.set_cons_succ]
  refine wpAnyH_take (i := 16) (v := ?v48) rfl (by kernel_rfl) (by kernel_rfl) (by kernel_rfl) (fun _ _ _ h => h) (Or.inl ⟨by rfl, ?hy48⟩) (by assumption) ?rest48
  case hy48 => ((intro w hSw; (try dsimp only at hSw); (try simp only [List.getElem_toArray, List.getElem_cons_zero, List.getElem_cons_succ]); go_simp; first | done | (with_reducible rfl)))
  simp only [Act.put, List.getElem_toArray, List.getElem_cons_zero, List.getElem_cons_succ, List.setIfInBounds_toArray, List.set_cons_zero, List.set_cons_succ]
  refine wpAnyH_take (i := 17) (v := ?v49) rfl (by kernel_rfl) (by kernel_rfl) (by kernel_rfl) (fun _ _ _ h => h) (Or.inl ⟨by rfl, ?hy49⟩) (by assumption) ?rest49
  case hy49 => ((intro w hSw; (try dsimp only at hSw); (try simp only [List.getElem_toArray, List.getElem_cons_zero, List.getElem_cons_succ]); go_simp; first | done | (with_reducible rfl)))
  simp only [Act.put, List.getElem_toArray, List.getElem_cons_zero, List.getElem_cons_succ, List.setIfInBounds_toArray, List.set_cons_zero, List.set_cons_succ]
  refine wpAnyH_take (i := 18) (v := ?v50) rfl (by kernel_rfl) (by kernel_rfl) (by kernel_rfl) (fun _ _ _ h => h) (Or.inl ⟨by rfl, ?hy50⟩) (by assumption) ?rest50
  case hy50 => ((intro w hSw; (try dsimp only at hSw); (try simp only [List.getElem_toArray, List.getElem_cons_zero, List.getElem_cons_succ]); go_simp; first | done | (with_reducible rfl)))
  simp only [Act.put, List.getElem_toArray, List.getElem_cons_zero, List.getElem_cons_succ, List.setIfInBounds_toArray, List.set_cons_zero, List.set_cons_succ]
  refine wpAnyH_take (i := 19) (v := ?v51) rfl (by kernel_rfl) (by kernel_rfl) (by kernel_rfl) (fun _ _ _ h => h) (Or.inl ⟨by rfl, ?hy51⟩) (by assumption) ?rest51
  case hy51 => ((intro w hSw; (try dsimp only at hSw); (try simp only [List.getElem_toArray, List.getElem_cons_zero, List.getElem_cons_succ]); go_simp; first | done | (with_reducible rfl)))
  simp only [Act.put, List.getElem_toArray, List.getElem_cons_zero, List.getElem_cons_succ, List.setIfInBounds_toArray, List.set_cons_zero, List.set_cons_succ]
  refine wpAnyH_take (i := 20) (v := ?v52) rfl (by kernel_rfl) (by kernel_rfl) (by kernel_rfl) (fun _ _ _ h => h) (Or.inl ⟨by rfl, ?hy52⟩) (by assumption) ?rest52
  case hy52 => ((intro w hSw; (try dsimp only at hSw); (try simp only [List.getElem_toArray, List.getElem_cons_zero, List.getElem_cons_succ]); go_simp; first | done | (with_reducible rfl)))
  simp only [Act.put, List.getElem_toArray, List.getElem_cons_zero, List.getElem_cons_succ, List.setIfInBounds_toArray, List.set_cons_zero, List.set_cons_succ]
  refine wpAnyH_take (i := 21) (v := ?v53) rfl (by kernel_rfl) (by kernel_rfl) (by kernel_rfl) (fun _ _ _ h => h) (Or.inl ⟨by rfl, ?hy53⟩) (by assumption) ?rest53
  case hy53 => ((intro w hSw; (try dsimp only at hSw); (try simp only [List.getElem_toArray, List.getElem_cons_zero, List.getElem_cons_succ]); go_simp; first | done | (with_reducible rfl)))
  simp only [Act.put, List.getElem_toArray, List.getElem_cons_zero, List.getElem_cons_succ, List.setIfInBounds_toArray, List.set_cons_zero, List.set_cons_succ]
  refine wpAnyH_take (i := 22) (v := ?v54) rfl (by kernel_rfl) (by kernel_rfl) (by kernel_rfl) (fun _ _ _ h => h) (Or.inl ⟨by rfl, ?hy54⟩) (by assumption) ?rest54
  case hy54 => ((intro w hSw; (try dsimp only at hSw); (try simp only [List.getElem_toArray, List.getElem_cons_zero, List.getElem_cons_succ]); go_simp; first | done | (with_reducible rfl)))
  simp only [Act.put, List.getElem_toArray, List.getElem_cons_zero, List.getElem_cons_succ, List.setIfInBounds_toArray, List.set_cons_zero, List.set_cons_succ]
  refine wpAnyH_take (i := 23) (v := ?v55) rfl (by kernel_rfl) (by kernel_rfl) (by kernel_rfl) (fun _ _ _ h => h) (Or.inl ⟨by rfl, ?hy55⟩) (by assumption) ?rest55
  case hy55 => ((intro w hSw; (try dsimp only at hSw); (try simp only [List.getElem_toArray, List.getElem_cons_zero, List.getElem_cons_succ]); go_simp; first | done | (with_reducible rfl)))
  simp only [Act.put, List.getElem_toArray, List.getElem_cons_zero, List.getElem_cons_succ, List.setIfInBounds_toArray, List.set_cons_zero, List.set_cons_succ]
  refine wpAnyH_take (i := 24) (v := ?v56) rfl (by kernel_rfl) (by kernel_rfl) (by kernel_rfl) (fun _ _ _ h => h) (Or.inl ⟨by rfl, ?hy56⟩) (by assumption) ?rest56
  case hy56 => ((intro w hSw; (try dsimp only at hSw); (try simp only [List.getElem_toArray, List.getElem_cons_zero, List.getElem_cons_succ]); go_simp; first | done | (with_reducible rfl)))
  simp only [Act.put, List.getElem_toArray, List.getElem_cons_zero, List.getElem_cons_succ, List.setIfInBounds_toArray, List.set_cons_zero, List.set_cons_succ]
  refine wpAnyH_take (i := 25) (v := ?v57) rfl (by kernel_rfl) (by kernel_rfl) (by kernel_rfl) (fun _ _ _ h => h) (Or.inl ⟨by rfl, ?hy57⟩) (by assumption) ?rest57
  case hy57 => ((intro w hSw; (try dsimp only at hSw); (try simp only [List.getElem_toArray, List.getElem_cons_zero, List.getElem_cons_succ]); go_simp; first | done | (with_reducible rfl)))
  simp only [Act.put, List.getElem_toArray, List.getElem_cons_zero, List.getElem_cons_succ, List.setIfInBounds_toArray, List.set_cons_zero, List.set_cons_succ]
  refine wpAnyH_take (i := 26) (v := ?v58) rfl (by kernel_rfl) (by kernel_rfl) (by kernel_rfl) (fun _ _ _ h => h) (Or.inl ⟨by rfl, ?hy58⟩) (by assumption) ?rest58
  case hy58 => ((intro w hSw; (try dsimp only at hSw); (try simp only [List.getElem_toArray, List.getElem_cons_zero, List.getElem_cons_succ]); go_simp; first | done | (with_reducible rfl)))
  simp only [Act.put, List.getElem_toArray, List.getElem_cons_zero, List.getElem_cons_succ, List.setIfInBounds_toArray, List.set_cons_zero, List.set_cons_succ]
  refine wpAnyH_take (i := 27) (v := ?v59) rfl (by kernel_rfl) (by kernel_rfl) (by kernel_rfl) (fun _ _ _ h => h) (Or.inl ⟨by rfl, ?hy59⟩) (by assumption) ?rest59
  case hy59 => ((intro w hSw; (try dsimp only at hSw); (try simp only [List.getElem_toArray, List.getElem_cons_zero, List.getElem_cons_succ]); go_simp; first | done | (with_reducible rfl)))
  simp only [Act.put, List.getElem_toArray, List.getElem_cons_zero, List.getElem_cons_succ, List.setIfInBounds_toArray, List.set_cons_zero, List.set_cons_succ]
  refine wpAnyH_take (i := 28) (v := ?v60) rfl (by kernel_rfl) (by kernel_rfl) (by kernel_rfl) (fun _ _ _ h => h) (Or.inl ⟨by rfl, ?hy60⟩) (by assumption) ?rest60
  case hy60 => ((intro w hSw; (try dsimp only at hSw); (try simp only [List.getElem_toArray, List.getElem_cons_zero, List.getElem_cons_succ]); go_simp; first | done | (with_reducible rfl)))
  simp only [Act.put, List.getElem_toArray, List.getElem_cons_zero, List.getElem_cons_succ, List.setIfInBounds_toArray, List.set_cons_zero, List.set_cons_succ]
  refine wpAnyH_take (i := 29) (v := ?v61) rfl (by kernel_rfl) (by kernel_rfl) (by kernel_rfl) (fun _ _ _ h => h) (Or.inl ⟨by rfl, ?hy61⟩) (by assumption) ?rest61
  case hy61 => ((intro w hSw; (try dsimp only at hSw); (try simp only [List.getElem_toArray, List.getElem_cons_zero, List.getElem_cons_succ]); go_simp; first | done | (with_reducible rfl)))
  simp only [Act.put, List.getElem_toArray, List.getElem_cons_zero, List.getElem_cons_succ, List.setIfInBounds_toArray, List.set_cons_zero, List.set_cons_succ]
  refine wpAnyH_take (i := 30) (v := ?v62) rfl (by kernel_rfl) (by kernel_rfl) (by kernel_rfl) (fun _ _ _ h => h) (Or.inl ⟨by rfl, ?hy62⟩) (by assumption) ?rest62
  case hy62 => ((intro w hSw; (try dsimp only at hSw); (try simp only [List.getElem_toArray, List.getElem_cons_zero, List.getElem_cons_succ]); go_simp; first | done | (with_reducible rfl)))
  simp only [Act.put, List.getElem_toArray, List.getElem_cons_zero, List.getElem_cons_succ, List.setIfInBounds_toArray, List.set_cons_zero, List.set_cons_succ]
  refine wpAnyH_take (i := 31) (v := ?v63) rfl (by kernel_rfl) (by kernel_rfl) (by kernel_rfl) (fun _ _ _ h => h) (Or.inl ⟨by rfl, ?hy63⟩) (by assumption) ?rest63
  case hy63 => ((intro w hSw; (try dsimp only at hSw); (try simp only [List.getElem_toArray, List.getElem_cons_zero, List.getElem_cons_succ]); go_simp; first | done | (with_reducible rfl)))
  simp only [Act.put, List.getElem_toArray, List.getElem_cons_zero, List.getElem_cons_succ, List.setIfInBounds_toArray, List.set_cons_zero, List.set_cons_succ]
  refine wpAnyH_take (i := 32) (v := ?v64) rfl (by kernel_rfl) (by kernel_rfl) (by kernel_rfl) (fun _ _ _ h => h) (Or.inl ⟨by rfl, ?hy64⟩) (by assumption) ?rest64
  case hy64 => ((intro w hSw; (try dsimp only at hSw); (try simp only [List.getElem_toArray, List.getElem_cons_zero, List.getElem_cons_succ]); go_simp; first | done | (with_reducible rfl)))
  simp only [Act.put, List.getElem_toArray, List.getElem_cons_zero, List.getElem_cons_succ, List.setIfInBounds_toArray, List.set_cons_zero, List.set_cons_succ]
  refine wpAnyH_take (i := 33) (v := ?v65) rfl (by kernel_rfl) (by kernel_rfl) (by kernel_rfl) (fun _ _ _ h => h) (Or.inl ⟨by rfl, ?hy65⟩) (by assumption) ?rest65
  case hy65 => ((intro w hSw; (try dsimp only at hSw); (try simp only [List.getElem_toArray, List.getElem_cons_zero, List.getElem_cons_succ]); go_simp; first | done | (with_reducible rfl)))
  simp only [Act.put, List.getElem_toArray, List.getElem_cons_zero, List.getElem_cons_succ, List.setIfInBounds_toArray, List.set_cons_zero, List.set_cons_succ]
  refine wpAnyH_take (i := 34) (v := ?v66) rfl (by kernel_rfl) (by kernel_rfl) (by kernel_rfl) (fun _ _ _ h => h) (Or.inl ⟨by rfl, ?hy66⟩) (by assumption) ?rest66
  case hy66 => ((intro w hSw; (try dsimp only at hSw); (try simp only [List.getElem_toArray, List.getElem_cons_zero, List.getElem_cons_succ]); go_simp; first | done | (with_reducible rfl)))
  simp only [Act.put, List.getElem_toArray, List.getElem_cons_zero, List.getElem_cons_succ, List.setIfInBounds_toArray, List.set_cons_zero, List.set_cons_succ]
  refine wpAnyH_take (i := 35) (v := ?v67) rfl (by kernel_rfl) (by kernel_rfl) (by kernel_rfl) (fun _ _ _ h => h) (Or.inl ⟨by rfl, ?hy67⟩) (by assumption) ?rest67
  case hy67 => ((intro w hSw; (try dsimp only at hSw); (try simp only [List.getElem_toArray, List.getElem_cons_zero, List.getElem_cons_succ]); go_simp; first | done | (with_reducible rfl)))
  simp only [Act.put, List.getElem_toArray, List.getElem_cons_zero, List.getElem_cons_succ, List.setIfInBounds_toArray, List.set_cons_zero, List.set_cons_succ]
  refine wpAnyH_take (i := 36) (v := ?v68) rfl (by kernel_rfl) (by kernel_rfl) (by kernel_rfl) (fun _ _ _ h => h) (Or.inl ⟨by rfl, ?hy68⟩) (by assumption) ?rest68
  case hy68 => ((intro w hSw; (try dsimp only at hSw); (try simp only [List.getElem_toArray, List.getElem_cons_zero, List.getElem_cons_succ]); go_simp; first | done | (with_reducible rfl)))
  simp only [Act.put, List.getElem_toArray, List.getElem_cons_zero, List.getElem_cons_succ, List.setIfInBounds_toArray, List.set_cons_zero, List.set_cons_succ]
  refine wpAnyH_take (i := 37) (v := ?v69) rfl (by kernel_rfl) (by kernel_rfl) (by kernel_rfl) (fun _ _ _ h => h) (Or.inl ⟨by rfl, ?hy69⟩) (by assumption) ?rest69
  case hy69 => ((intro w hSw; (try dsimp only at hSw); (try simp only [List.getElem_toArray, List.getElem_cons_zero, List.getElem_cons_succ]); go_simp; first | done | (with_reducible rfl)))
  simp only [Act.put, List.getElem_toArray, List.getElem_cons_zero, List.getElem_cons_succ, List.setIfInBounds_toArray, List.set_cons_zero, List.set_cons_succ]
  refine wpAnyH_take (i := 38) (v := ?v70) rfl (by kernel_rfl) (by kernel_rfl) (by kernel_rfl) (fun _ _ _ h => h) (Or.inl ⟨by rfl, ?hy70⟩) (by assumption) ?rest70
  case hy70 => ((intro w hSw; (try dsimp only at hSw); (try simp only [List.getElem_toArray, List.getElem_cons_zero, List.getElem_cons_succ]); go_simp; first | done | (with_reducible rfl)))
  simp only [Act.put, List.getElem_toArray, List.getElem_cons_zero, List.getElem_cons_succ, List.setIfInBounds_toArray, List.set_cons_zero, List.set_cons_succ]
  refine wpAnyH_take (i := 39) (v := ?v71) rfl (by kernel_rfl) (by kernel_rfl) (by kernel_rfl) (fun _ _ _ h => h) (Or.inl ⟨by rfl, ?hy71⟩) (by assumption) ?rest71
  case hy71 => ((intro w hSw; (try dsimp only at hSw); (try simp only [List.getElem_toArray, List.getElem_cons_zero, List.getElem_cons_succ]); go_simp; first | done | (with_reducible rfl)))
  simp only [Act.put, List.getElem_toArray, List.getElem_cons_zero, List.getElem_cons_succ, List.setIfInBounds_toArray, List.set_cons_zero, List.set_cons_succ]
  refine wpAnyH_take (i := 40) (v := ?v72) rfl (by kernel_rfl) (by kernel_rfl) (by kernel_rfl) (fun _ _ _ h => h) (Or.inl ⟨by rfl, ?hy72⟩) (by assumption) ?rest72
  case hy72 => ((intro w hSw; (try dsimp only at hSw); (try simp only [List.getElem_toArray, List.getElem_cons_zero, List.getElem_cons_succ]); go_simp; first | done | (with_reducible rfl)))
  simp only [Act.put, List.getElem_toArray, List.getElem_cons_zero, List.getElem_cons_succ, List.setIfInBounds_toArray, List.set_cons_zero, List.set_cons_succ]
  refine wpAnyH_take (i := 41) (v := ?v73) rfl (by kernel_rfl) (by kernel_rfl) (by kernel_rfl) (fun _ _ _ h => h) (Or.inl ⟨by rfl, ?hy73⟩) (by assumption) ?rest73
  case hy73 => ((intro w hSw; (try dsimp only at hSw); (try simp only [List.getElem_toArray, List.getElem_cons_zero, List.getElem_cons_succ]); go_simp; first | done | (with_reducible rfl)))
  simp only [Act.put, List.getElem_toArray, List.getElem_cons_zero, List.getElem_cons_succ, List.setIfInBounds_toArray, List.set_cons_zero, List.set_cons_succ]
  refine wpAnyH_take (i := 42) (v := ?v74) rfl (by kernel_rfl) (by kernel_rfl) (by kernel_rfl) (fun _ _ _ h => h) (Or.inl ⟨by rfl, ?hy74⟩) (by assumption) ?rest74
  case hy74 => ((intro w hSw; (try dsimp only at hSw); (try simp only [List.getElem_toArray, List.getElem_cons_zero, List.getElem_cons_succ]); go_simp; first | done | (with_reducible rfl)))
  simp only [Act.put, List.getElem_toArray, List.getElem_cons_zero, List.getElem_cons_succ, List.setIfInBounds_toArray, List.set_cons_zero, List.set_cons_succ]
  refine wpAnyH_ready (rs := [43]) (by kernel_rfl) (by simp) ?_
  refine AllReadyH.cons rfl (fun K hK => ?_) AllReadyH.nil
  go_simp
  (skip)
  refine hK.out _ _ ?_ (fun hHeld => ?_)
  · trivial
  clear hK K
  refine wpAnyH_ready (rs := [44]) (by kernel_rfl) (by simp) ?_
  refine AllReadyH.cons rfl (fun K hK => ?_) AllReadyH.nil
  (refine wp_store_row 173 (.tmp 3) (.tmp 48) rfl (w.heap.size + 1) _ rfl rfl _ _ (al2_1 w _ _) info24 rfl (all_of_list rfl) ?_)
  refine hK.out _ _ ?_ (fun hHeld => ?_)
  · trivial
  clear hK K
  refine wpAnyH_done (by kernel_rfl) ?_ _
  refine NoPanic.normal ?_
  generalize hV : World.setRow _ _ _ = V
  have G0 : ∃ z : Array Value, z.size = 24 ∧ V.heap[w.heap.size]? = some (.cells z 173 (0, 0)) := by
    rw [← hV]
    exact ⟨_, rfl, (setRow_other _ _ _ _ (by omega)).trans (al2_0 w _ _)⟩
  have G1 : ∃ cur : Array Value, cur.size = 24 ∧ (∀ j, j < 24 → (j < 6 ∨ 16 ≤ j) → cur[j]? = some (.pointer (some ⟨b, j, none⟩))) ∧ V.heap[w.heap.size + 1]? = some (.cells cur 173 (0, 0)) := by
    rw [← hV]
    refine ⟨#[.pointer (some ⟨b, 0, none⟩), .pointer (some ⟨b, 1, none⟩), .pointer (some ⟨b, 2, none⟩), .pointer (some ⟨b, 3, none⟩), .pointer (some ⟨b, 4, none⟩), .pointer (some ⟨b, 5, none⟩), .pointer none, .pointer none, .pointer none, .pointer none, .pointer none, .pointer none, .pointer none, .pointer none, .pointer none, .pointer none, .pointer (some ⟨b, 16, none⟩), .pointer (some ⟨b, 17, none⟩), .pointer (some ⟨b, 18, none⟩), .pointer (some ⟨b, 19, none⟩), .pointer (some ⟨b, 20, none⟩), .pointer (some ⟨b, 21, none⟩), .pointer (some ⟨b, 22, none⟩), .pointer (some ⟨b, 23, none⟩)], rfl, fun j h1 h2 => ?_, setRow_heap _ _ _ _ _ _ (al2_1 w _ _)⟩
    rcases (by omega : j = 0 ∨ j = 1 ∨ j = 2 ∨ j = 3 ∨ j = 4 ∨ j = 5 ∨ j = 16 ∨ j = 17 ∨ j = 18 ∨ j = 19 ∨ j = 20 ∨ j = 21 ∨ j = 22 ∨ j = 23) with rfl | rfl | rfl | rfl | rfl | rfl | rfl | rfl | rfl | rfl | rfl | rfl | rfl | rfl <;> rfl
  have hal : Below w.heap.size w V := by
    have u4 : Upd (fun j => j = w.heap.size + 1) (((w.alloc (.cells #[.pointer none, .pointer none, .pointer none, .pointer none, .pointer none, .pointer none, .pointer none, .pointer none, .pointer none, .pointer none, .pointer none, .pointer none, .pointer none, .pointer none, .pointer none, .pointer none, .pointer none, .pointer none, .pointer none, .pointer none, .pointer none, .pointer none, .pointer none, .pointer none] 173)).alloc (.cells #[.pointer none, .pointer none, .pointer none, .pointer none, .pointer none, .pointer none, .pointer none, .pointer none, .pointer none, .pointer none, .pointer none, .pointer none, .pointer none, .pointer none, .pointer none, .pointer none, .pointer none, .pointer none, .pointer none, .pointer none, .pointer none, .pointer none, .pointer none, .pointer none] 173)).drew) V := by
      rw [← hV]
      exact ⟨rfl, rfl, rfl, by simp, fun k _ h => setRow_other _ _ _ _ h⟩
    exact (bDrewB (bal (bal (Below.refl w.heap.size w) _) _)).trans (u4.below (by simp; omega) (fun k h => by omega))
  clear hV
  obtain ⟨z, hz, G0⟩ := G0
  obtain ⟨cur, hs, hcur, G1⟩ := G1
  go_wp2_with fail
  refine (cmdNumbers_any b 6 _).mono ?_
  rintro e w1 ⟨ps, rfl, hps, b1⟩
  have I0 := bKeeps b1 G0
  have I1 := bKeeps b1 G1
  have hal1 := bAll hal b1
  have HP := hide hps
  have HC := hide hcur
  clear hps hcur G0 G1 hal b1
  go_wp2_with fail
  go_loopw [53] (fun i wr => ∃ (k : Nat) (cur' : Array Value), k ≤ 10 ∧ i = .int .i64 k ∧ cur'.size = 24 ∧ (∀ j, j < 24 → (j < 6 + k ∨ 16 ≤ j) → cur'[j]? = some (.pointer (some ⟨b, j, none⟩))) ∧ wr.heap[w.heap.size + 1]? = some (.cells cur' 173 (0, 0)) ∧ wr.heap[w.heap.size]? = some (.cells z 173 (0, 0)) ∧ Below w.heap.size w wr) (fun i _ => 10 - (intOf i).toNat)
  case atStart => exact ⟨0, cur, Nat.zero_le _, rfl, hs, HC.out, I1, I0, hal1⟩
  case round =>
    obtain ⟨k, cur', hk, rfl, hs', hc', J1, J0, hb⟩ := hrel
    have HC' := hide hc'
    have HS' := hide hs'
    clear HC hc' hs' hs I0 I1
    by_cases hlt : k < 10
    · have hi : (k : Int) < 10 := by omega
      have hp := fun w => index10 ps k _ hlt (HP.out.2 k hlt) w
      obtain ⟨u, hu⟩ : ∃ u, cur'[6 + k]? = some u := ⟨cur'[6 + k]'(by have := HS'.out; omega), Array.getElem?_eq_getElem _⟩
      have hcw : wr.cell? ⟨w.heap.size + 1, 6 + k, none⟩ = some u := (boxAt J1 _).trans hu
      have hfw : wr.frozen? ⟨w.heap.size + 1, 6 + k, none⟩ = false := boxFz J1 _
      have H1 := hide J1
      have H0 := hide J0
      clear J1 J0 hu
      go_wp2
      go_roundw
      case rel =>
        refine ⟨k + 1, _, by omega, by go_num, by simpa using HS'.out, fun j hj h => ?_, row_set _ H1.out, (Upd.setCell (S := fun j => j = w.heap.size + 1) _ _ _ _ rfl).keeps H0.out (by omega), hb.setCell (p := ⟨w.heap.size + 1, 6 + k, none⟩) (by show _ ≤ w.heap.size + 1; omega) _⟩
        by_cases hjk : j = 6 + k
        · subst hjk
          exact Array.getElem?_setIfInBounds_self_of_lt (by have := HS'.out; omega)
        · exact (Array.getElem?_setIfInBounds_ne (by omega)).trans (HC'.out j hj (by omega))
      case measure => simp [intOf]; omega
    · have hge : ¬ (k : Int) < 10 := by omega
      have hP : Ptrs cur' b 0 24 := ⟨HS'.out, fun j hj => by rw [Nat.zero_add]; exact HC'.out j hj (by omega)⟩
      have h24 : (Try.prog.info? 173).map (·.size) = some cur'.size := by rw [hP.1]; exact info24
      have hzc : z.size = cur'.size := by rw [hP.1, hz]
      have h1c := hP.one
      have H1 := hide J1
      have H0 := hide J0
      have HPP := hide hP
      have H24 := hide h24
      have HZ := hide hzc
      have H1C := hide h1c
      clear J1 J0 hP h24 hzc h1c HP HC' HS' hz
      go_wp2_with (first
        | (refine wpList_load_row rfl 173 (.tmp 3) rfl (w.heap.size + 1) rfl _ cur' (0, 0) _ H1.out Try.underlying173 rfl H24.out ?_)
        | (refine wpList_store_row rfl 173 (.tmp 2) (.tmp 62) rfl w.heap.size cur' rfl rfl _ _ H0.out H24.out HZ.out H1C.out ?_))
      refine bodyPost_ret (v := .agg cur') (results_cell_row Try.results111 _ _ w.heap.size _ _ (0, 0) _ rfl (setRow_heap _ _ _ _ _ _ H0.out) Try.underlying173 rfl H24.out) rfl ?_
      have u4 : Upd (fun j => j = w.heap.size) wr (wr.setRow w.heap.size cur') := ⟨rfl, rfl, rfl, by simp, fun k _ h => setRow_other _ _ _ _ h⟩
      exact ⟨_, rfl, HPP.out, hb.trans (u4.below hb.size (fun k h => by omega))⟩

end Go.Proofs.Ytllhifiklcdoiaa
