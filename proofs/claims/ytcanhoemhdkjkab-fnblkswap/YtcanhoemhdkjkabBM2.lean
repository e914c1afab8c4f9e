/- What a write, a look and a drop of pieces give, and plain facts on them; no statement of the seat is proved here. -/
import Derived.Test.YtcanhoemhdkjkabBM
namespace Go.Proofs.Ytcanhoemhdkjkab

/-- Pieces behind a write, and whether it was done. -/
def putR (xs : List Pc) (x : Pc) : List Pc × Bool := if okP xs = true then (if okP (insL ordP xs x) = true then (insL ordP xs x, true) else (xs, false)) else ([], false)
/-- Whether a piece says what a block says in an epoch. -/
def hitP (d b e : Int) (y : Pc) : Bool := decide (y.1 = d) && (decide (y.2.1 = b) && decide (y.2.2.1 ≤ e))
def getF (d b e : Int) (o : Int) (y : Pc) : Int := if hitP d b e y = true then y.2.2.2 else o
def getL (d b e : Int) (ys : List Pc) : Int := ys.foldl (getF d b e) 0
def getR (xs : List Pc) (d b e : Int) : Int := if okP xs = true then getL d b e xs else 0
def offP (d : Int) (xs : List Pc) : List Pc := xs.filter (fun y => decide (y.1 ≠ d))
def dropR (xs : List Pc) (d : Int) : List Pc := if okP xs = true then offP d xs else []

theorem putR_len (xs : List Pc) (x : Pc) : (putR xs x).1.length ≤ 60 := by
  unfold putR
  split
  · rename_i h
    split
    · rename_i h'
      exact ok_len h'
    · exact ok_len h
  · simp
theorem dropR_len (xs : List Pc) (d : Int) : (dropR xs d).length ≤ 60 := by
  unfold dropR
  split
  · rename_i h
    exact Nat.le_trans (List.length_filter_le _ _) (ok_len h)
  · simp

theorem hitP_iff {d b e : Int} {y : Pc} : hitP d b e y = true ↔ y.1 = d ∧ y.2.1 = b ∧ y.2.2.1 ≤ e := by simp [hitP]
theorem hit_ord {d b e : Int} {y : Pc} : hitP d b e y = true → ordP y (d, b, e, 0) ≤ 0 := by
  intro h
  rw [hitP_iff] at h
  have := @ordP_pos y (d, b, e, 0)
  simp only at this
  omega
theorem getF_none (d b e : Int) : ∀ (ys : List Pc) (o : Int), (∀ y ∈ ys, ¬ hitP d b e y = true) → ys.foldl (getF d b e) o = o
  | [], _, _ => rfl
  | y :: ys, o, h => by
    rw [List.foldl_cons, getF, if_neg (h y (by simp))]
    exact getF_none d b e ys o (fun z hz => h z (List.mem_cons_of_mem _ hz))
theorem getL_snoc (d b e : Int) (ys : List Pc) (y : Pc) : getL d b e (ys ++ [y]) = if hitP d b e y = true then y.2.2.2 else getL d b e ys := by
  simp only [getL, List.foldl_append, List.foldl_cons, List.foldl_nil, getF]

theorem drop_above {xs : List Pc} {x : Pc} {p : Nat} (hs : Asc ordP xs) (h : IsAt ordP xs x p false) : ∀ y ∈ xs.drop p, 0 < ordP y x := by
  have hd : Asc ordP (xs.drop p) := hs.sublist (List.drop_sublist p xs)
  rcases hl : xs.drop p with _ | ⟨y, r⟩
  · intro y hy; simp at hy
  · rw [hl] at hd
    have hy : xs[p]? = some y := by
      have := List.getElem?_drop (xs := xs) (i := p) (j := 0)
      rw [hl] at this
      simpa using this.symm
    have hy0 : 0 ≤ ordP y x := h.hi y (by rw [hl]; simp)
    have hne : ordP y x ≠ 0 := fun e => by have := h.th.2 ⟨y, hy, e⟩; cases this
    intro z hz
    rcases List.mem_cons.1 hz with rfl | hz
    · omega
    · exact asc_tail_above ordOkP hd hy0 z hz

theorem get_here {xs : List Pc} {d b e : Int} {p : Nat} {y : Pc} (hs : Asc ordP xs) (h : IsAt ordP xs (d, b, e, 0) p true) (hy : xs[p]? = some y) : getL d b e xs = y.2.2.2 := by
  have hd : Asc ordP (xs.drop p) := hs.sublist (List.drop_sublist p xs)
  obtain ⟨y', hy', h0⟩ := h.th.1 rfl
  rw [hy] at hy'
  obtain rfl := Option.some.inj hy'
  have hp := (List.getElem?_eq_some_iff.1 hy).1
  have hl : xs.drop p = y :: xs.drop (p + 1) := by
    rw [List.drop_eq_getElem_cons hp]
    rw [List.getElem?_eq_getElem hp] at hy
    rw [Option.some.inj hy]
  have e1 : getL d b e xs = getL d b e (xs.take p ++ (y :: xs.drop (p + 1))) := by rw [← hl, List.take_append_drop]
  rw [hl] at hd
  have hit : hitP d b e y = true := by rw [hitP_iff]; rw [ordP_zero] at h0; simp only at h0; omega
  rw [e1, getL, List.foldl_append, List.foldl_cons, getF, if_pos hit]
  refine getF_none _ _ _ _ _ (fun z hz hh => ?_)
  have := asc_tail_above ordOkP hd (x := (d, b, e, 0)) (by omega) z hz
  have := hit_ord hh
  omega

theorem get_off {xs : List Pc} {d b e : Int} {p : Nat} (hs : Asc ordP xs) (h : IsAt ordP xs (d, b, e, 0) p false) : getL d b e xs = getL d b e (xs.take p) := by
  have e1 : getL d b e xs = getL d b e (xs.take p ++ xs.drop p) := by rw [List.take_append_drop]
  rw [e1, getL, List.foldl_append]
  refine getF_none _ _ _ _ _ (fun z hz hh => ?_)
  have := drop_above hs h z hz
  have := hit_ord hh
  omega
theorem get_first {xs : List Pc} {d b e : Int} (hs : Asc ordP xs) (h : IsAt ordP xs (d, b, e, 0) 0 false) : getL d b e xs = 0 := by
  rw [get_off hs h, List.take_zero]
  rfl
theorem get_ahead {xs : List Pc} {d b e : Int} {m : Nat} {y : Pc} (hs : Asc ordP xs) (h : IsAt ordP xs (d, b, e, 0) (m + 1) false) (hy : xs[m]? = some y) : getL d b e xs = if y.1 = d ∧ y.2.1 = b then y.2.2.2 else 0 := by
  have hm := (List.getElem?_eq_some_iff.1 hy).1
  have ht : xs.take (m + 1) = xs.take m ++ [y] := by
    rw [List.take_succ_eq_append_getElem hm]
    rw [List.getElem?_eq_getElem hm] at hy
    rw [Option.some.inj hy]
  have hyx : ordP y (d, b, e, 0) < 0 := h.lo y (by rw [ht]; simp)
  rw [get_off hs h, ht, getL_snoc]
  rw [ordP_neg] at hyx
  simp only at hyx
  by_cases hyd : y.1 = d ∧ y.2.1 = b
  · rw [if_pos hyd, if_pos (by rw [hitP_iff]; omega)]
  · rw [if_neg hyd, if_neg (by rw [hitP_iff]; omega)]
    refine getF_none _ _ _ _ _ (fun z hz hh => ?_)
    rw [hitP_iff] at hh
    have ha : Asc ordP (xs.take m ++ [y]) := by rw [← ht]; exact hs.sublist (List.take_sublist _ _)
    have hzy : ordP z y < 0 := (List.pairwise_append.1 ha).2.2 z hz y (by simp)
    rw [ordP_neg] at hzy
    omega

theorem offP_snoc (d : Int) (ys : List Pc) (y : Pc) : offP d (ys ++ [y]) = if y.1 = d then offP d ys else offP d ys ++ [y] := by
  by_cases h : y.1 = d <;> simp [offP, h]

/-- What the specification's loop of a write has behind some pieces. -/
inductive PutAt (x : Pc) (ys out : List Pc) : Bool → Prop
  | before (h : ∀ y ∈ ys, ordP y x < 0) (e : out = ys) : PutAt x ys out false
  | behind (h : ∃ y ∈ ys, 0 ≤ ordP y x) (e : out = insL ordP ys x) : PutAt x ys out true

theorem put_start (x : Pc) : PutAt x [] [] false := .before (by simp) rfl
theorem ins_snoc {ys : List Pc} {x y : Pc} (h : 0 < ordP y x) : insL ordP (ys ++ [y]) x = insL ordP ys x ++ [y] := by
  have h1 : ¬ ordP y x < 0 := by omega
  simp [insL, h, h1]
theorem put_step {x y : Pc} {ys out : List Pc} {done : Bool} (hs : Asc ordP (ys ++ [y])) (h : PutAt x ys out done) :
    PutAt x (ys ++ [y]) ((if done = false ∧ ¬ ordP y x < 0 then out ++ [x] else out) ++ (if ordP y x = 0 then [] else [y])) (done || decide (¬ ordP y x < 0)) := by
  cases h with
  | before h e =>
    subst e
    by_cases hy : ordP y x < 0
    · rw [if_neg (by simp [hy]), if_neg (by omega)]
      have e1 : (false || decide (¬ ordP y x < 0)) = false := by simp [hy]
      rw [e1]
      refine .before (fun z hz => ?_) rfl
      rcases List.mem_append.1 hz with hz | hz
      · exact h z hz
      · obtain rfl : z = y := by simpa using hz
        exact hy
    · rw [if_pos ⟨rfl, hy⟩]
      have e1 : (false || decide (¬ ordP y x < 0)) = true := by simp; omega
      rw [e1]
      refine .behind ⟨y, by simp, by omega⟩ ?_
      rw [insL, List.filter_append, List.filter_append, (filter_lo h).1, (filter_lo h).2]
      by_cases h0 : ordP y x = 0
      · simp [h0]
      · have h2 : 0 < ordP y x := by omega
        simp [h0, hy, h2]
  | behind h e =>
    subst e
    obtain ⟨z, hz, hz0⟩ := h
    have hyx : 0 < ordP y x := ordOkP.above hz0 ((List.pairwise_append.1 hs).2.2 z hz y (by simp))
    rw [if_neg (by simp), if_neg (by omega), Bool.true_or, ← ins_snoc hyx]
    exact .behind ⟨z, by simp [hz], hz0⟩ rfl
theorem put_end {x : Pc} {ys out : List Pc} {done : Bool} (h : PutAt x ys out done) : (if done = false then out ++ [x] else out) = insL ordP ys x := by
  cases h with
  | before h e => subst e; rw [if_pos rfl, insL, (filter_lo h).1, (filter_lo h).2]
  | behind h e => subst e; rw [if_neg (by simp)]
theorem put_len {x : Pc} {ys out : List Pc} {done : Bool} (h : PutAt x ys out done) : out.length ≤ ys.length + 1 := by
  cases h with
  | before h e => subst e; omega
  | behind h e => subst e; exact ins_len _ _

end Go.Proofs.Ytcanhoemhdkjkab
