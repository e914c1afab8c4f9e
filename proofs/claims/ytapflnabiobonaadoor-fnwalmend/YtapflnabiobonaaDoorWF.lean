/- Plain facts on transactions as lists: what their steps do, what is read behind them; no statement of the seat is proved here. -/
import Derived.Test.YtapflnabiobonaaDoorWStep2
import Derived.Test.YtapflnabiobonaaDoorDoM
namespace Go.Proofs.YtapflnabiobonaaDoor

theorem doL_app (s : List ByteArray × List (Int × ByteArray)) (xs ys : List Stp) : doL s (xs ++ ys) = doL (doL s xs) ys := by simp [doL]
theorem doR_all {kept : List ByteArray} {wait : List (Int × ByteArray)} {xs : List Stp} (h : okB kept wait = true) (hx : xs.length ≤ 600) (a : Int) (ks : List Int) : doR kept wait xs false a ks = doL (kept, wait) xs := by
  have e : doEnd false a xs.length = xs.length := by simp [doEnd]
  simp [doR, h, hx, e]

theorem okB_put {kept : List ByteArray} {wait : List (Int × ByteArray)} {x : Int × ByteArray} (h : okB kept wait = true) (hx : writeOkB kept.length x = true) (hl : wait.length < 600) : okB kept (wait ++ [x]) = true := by
  simp only [okB, Bool.and_eq_true, decide_eq_true_eq, List.all_append, List.length_append, List.length_cons, List.length_nil, List.all_cons, List.all_nil, and_true] at h ⊢
  obtain ⟨⟨⟨h1, h2⟩, h3⟩, h4⟩ := h
  exact ⟨⟨⟨h1, by omega⟩, h3⟩, h4, hx⟩

theorem stepL_put {kept : List ByteArray} {wait : List (Int × ByteArray)} {x : Int × ByteArray} (h : okB kept wait = true) (hx : writeOkB kept.length x = true) (hl : wait.length < 600) : stepL (kept, wait) (putS x) = (kept, wait ++ [x]) := by
  obtain ⟨a, s⟩ := x
  have hp : putB kept wait a s = true := by simp [putB, h, hx, hl]
  simp [stepL, putS, putK, putW, h, hp]

theorem doL_puts : ∀ (xs : List (Int × ByteArray)) {kept : List ByteArray} {wait : List (Int × ByteArray)}, okB kept wait = true → (∀ x ∈ xs, writeOkB kept.length x = true) → wait.length + xs.length ≤ 600 → doL (kept, wait) (xs.map putS) = (kept, wait ++ xs) ∧ okB kept (wait ++ xs) = true
  | [], kept, wait, h, _, _ => by simpa [doL] using h
  | x :: xs, kept, wait, h, hx, hl => by
    simp only [List.length_cons] at hl
    have h1 := okB_put h (hx x List.mem_cons_self) (by omega)
    have h2 := doL_puts xs h1 (fun y hy => hx y (List.mem_cons_of_mem _ hy)) (by simp; omega)
    have e : doL (kept, wait) ((x :: xs).map putS) = doL (stepL (kept, wait) (putS x)) (xs.map putS) := rfl
    rw [e, stepL_put h (hx x List.mem_cons_self) (by omega), h2.1, List.append_assoc]
    have h3 := h2.2
    rw [List.append_assoc] at h3
    exact ⟨rfl, h3⟩

theorem stepL_flush {kept : List ByteArray} {wait : List (Int × ByteArray)} (h : okB kept wait = true) : stepL (kept, wait) flushS = (flushL kept wait, []) := by simp [stepL, flushS, flushK, h]

/-- Puts, a flush, the sign, a flush. -/
theorem doL_phase {kept : List ByteArray} {wait : List (Int × ByteArray)} {xs : List (Int × ByteArray)} {b : ByteArray} (h : okB kept wait = true) (hx : ∀ x ∈ xs, writeOkB kept.length x = true) (hl : wait.length + xs.length ≤ 600) (h0 : 0 < kept.length) (hb : b.size ≤ 16) :
    doL (kept, wait) (xs.map putS ++ [flushS, (false, 0, b), flushS]) = ((flushL kept (wait ++ xs)).set 0 b, []) ∧ okB ((flushL kept (wait ++ xs)).set 0 b) [] = true := by
  obtain ⟨h1, h2⟩ := doL_puts xs h hx hl
  have h3 := ok_flush h2
  have hw : writeOkB (flushL kept (wait ++ xs)).length (0, b) = true := by simp [writeOkB, inB, flushL_len]; omega
  have h4 := okB_put (wait := []) h3 hw (by simp)
  have e1 : doL (kept, wait) (xs.map putS ++ [flushS, (false, 0, b), flushS]) = stepL (stepL (stepL (doL (kept, wait) (xs.map putS)) flushS) (putS (0, b))) flushS := by rw [doL_app]; rfl
  rw [e1, h1, stepL_flush h2, stepL_put h3 hw (by simp), stepL_flush h4]
  have e2 : flushL (flushL kept (wait ++ xs)) ([] ++ [(0, b)]) = (flushL kept (wait ++ xs)).set 0 b := by simp [flushL]
  refine ⟨by rw [e2], ?_⟩
  have := ok_flush h4
  rw [e2] at this
  exact this

theorem flushL_app (kept : List ByteArray) (xs ys : List (Int × ByteArray)) : flushL kept (xs ++ ys) = flushL (flushL kept xs) ys := by simp [flushL]

theorem drop_set_low {K : List ByteArray} {i n : Nat} {b : ByteArray} (h : i < n) : (K.set i b).drop n = K.drop n := by
  apply List.ext_getElem?
  intro j
  rw [List.getElem?_drop, List.getElem?_drop, List.getElem?_set_ne (by omega)]
theorem drop_set_high {K : List ByteArray} {i n : Nat} {b : ByteArray} : (K.set (n + i) b).drop n = (K.drop n).set i b := by
  apply List.ext_getElem?
  intro j
  rw [List.getElem?_drop]
  by_cases hj : i = j
  · subst hj
    by_cases hl : n + i < K.length
    · rw [List.getElem?_set_self hl, List.getElem?_set_self (by rw [List.length_drop]; omega)]
    · rw [List.getElem?_eq_none (by simp; omega), List.getElem?_eq_none (by simp; omega)]
  · rw [List.getElem?_set_ne (by omega), List.getElem?_set_ne hj, List.getElem?_drop]

theorem flushL_low : ∀ (xs : List (Int × ByteArray)) (K : List ByteArray), (∀ x ∈ xs, 0 ≤ x.1 ∧ x.1 < 251) → (flushL K xs).drop 251 = K.drop 251
  | [], _, _ => rfl
  | x :: xs, K, h => by
    have e : flushL K (x :: xs) = flushL (K.set x.1.toNat x.2) xs := rfl
    have hx := h x List.mem_cons_self
    rw [e, flushL_low xs _ (fun y hy => h y (List.mem_cons_of_mem _ hy)), drop_set_low (by omega)]
theorem flushL_high : ∀ (L : List (Int × ByteArray)) (K : List ByteArray), (∀ x ∈ L, 0 ≤ x.1) → (flushL K (L.map appW)).drop 251 = flushL (K.drop 251) L
  | [], _, _ => rfl
  | x :: xs, K, h => by
    have e : flushL K ((x :: xs).map appW) = flushL (K.set (251 + x.1).toNat x.2) (xs.map appW) := rfl
    have e2 : flushL (K.drop 251) (x :: xs) = flushL ((K.drop 251).set x.1.toNat x.2) xs := rfl
    have hx := h x List.mem_cons_self
    rw [e, e2, flushL_high xs _ (fun y hy => h y (List.mem_cons_of_mem _ hy)), show (251 + x.1).toNat = 251 + x.1.toNat by omega, drop_set_high]

theorem logW_mem : ∀ (i : Nat) (L : List (Int × ByteArray)) (x : Int × ByteArray), x ∈ logW i L → ∃ y ∈ L, 1 ≤ x.1 ∧ x.1 < 1 + (i + L.length : Nat) ∧ x.2 = byteS y.1 ++ y.2
  | i, y :: r, x, h => by
    simp only [logW, List.mem_cons] at h
    rcases h with rfl | h
    · exact ⟨y, List.mem_cons_self, by show (1 : Int) ≤ ((1 + i : Nat) : Int); omega, by show ((1 + i : Nat) : Int) < _; simp only [List.length_cons]; omega, rfl⟩
    · obtain ⟨z, hz, h1, h2, h3⟩ := logW_mem (i + 1) r x h
      exact ⟨z, List.mem_cons_of_mem _ hz, h1, by simp only [List.length_cons]; omega, h3⟩

/-- A disk whose sign is empty reads as its homes. -/
theorem read_clean {kept : List ByteArray} {wait : List (Int × ByteArray)} (hok : okB kept wait = true) (h5 : kept.length = 501) (h0 : (sign0 (flushL kept wait)).size = 0) : readB kept wait = true ∧ readH kept wait = (flushL kept wait).drop 251 ∧ formB kept wait = true := by
  have hf : formB kept wait = true := by simp [formB, hok, h5]
  have hfk : flushK kept wait = flushL kept wait := by simp [flushK, hok]
  obtain ⟨s, hs⟩ : ∃ s, sign0 (flushL kept wait) = s := ⟨_, rfl⟩
  rw [hs] at h0
  have hc : comN s = 0 := by simp [comN, h0]
  have hsg : signB s = true := by simp only [signB, decide_eq_true_eq]; exact .inl h0
  have hl : logB s (flushL kept wait) = true ∧ logL s (flushL kept wait) = [] := by
    constructor
    · simp [logB, hsg, logS, hc]
    · simp [logL, logS, hc]
  have hr : readB kept wait = true := by simp only [readB, hf, hfk, hs, hl.1, Bool.and_self]
  refine ⟨hr, ?_, hf⟩
  simp only [readH, hr, if_true, hfk, homesL, hs, hl.2]
  rfl

theorem form_parts {kept : List ByteArray} {wait : List (Int × ByteArray)} (hf : formB kept wait = true) : okB kept wait = true ∧ kept.length = 501 ∧ flushK kept wait = flushL kept wait := by
  have hok : okB kept wait = true := by simp only [formB, Bool.and_eq_true] at hf; exact hf.1
  exact ⟨hok, by simp only [formB, Bool.and_eq_true, decide_eq_true_eq] at hf; exact hf.2, by simp [flushK, hok]⟩
theorem read_form {kept : List ByteArray} {wait : List (Int × ByteArray)} (h : readB kept wait = true) : formB kept wait = true := by simp only [readB, Bool.and_eq_true] at h; exact h.1

theorem chg_at (now hs : List ByteArray) (k : Nat) (hn : now.length = 250) (hh : hs.length = 250) (hk : k ≤ 250) : ∀ i : Nat, (flushL now (chgK now hs k))[i]? = if i < k then hs[i]? else now[i]? := by
  induction k with
  | zero => intro i; simp [chgK, flushL]
  | succ k ih =>
    intro i
    obtain ⟨s, hs1⟩ := getAt hs k (by omega)
    obtain ⟨t, ht1⟩ := getAt now k (by omega)
    cases hq : (s.toList == t.toList)
    · rw [chgK_no hs1 ht1 hq, flushL_snoc]
      simp only [Int.toNat_natCast]
      by_cases hik : k = i
      · subst hik
        rw [List.getElem?_set_self (by rw [flushL_len]; omega), if_pos (by omega), hs1]
      · rw [List.getElem?_set_ne hik, ih (by omega) i]
        by_cases hlt : i < k
        · rw [if_pos hlt, if_pos (by omega)]
        · rw [if_neg hlt, if_neg (by omega)]
    · have hst : s = t := by
        have h1 : s.toList = t.toList := by simpa using hq
        cases s with | mk a =>
        cases t with | mk b =>
        rw [ByteArray.toList_eq, ByteArray.toList_eq] at h1
        have h2 : a = b := Array.ext' h1
        rw [h2]
      rw [chgK_yes hs1 ht1 hq, ih (by omega) i]
      by_cases hlt : i < k
      · rw [if_pos hlt, if_pos (by omega)]
      · rw [if_neg hlt]
        by_cases hik : i = k
        · subst hik
          rw [if_pos (by omega), hs1, ht1, hst]
        · rw [if_neg (by omega)]
theorem chg_all {now hs : List ByteArray} (hn : now.length = 250) (hh : hs.length = 250) : flushL now (chgK now hs 250) = hs := by
  apply List.ext_getElem?
  intro i
  rw [chg_at now hs 250 hn hh (Nat.le_refl _) i]
  by_cases h : i < 250
  · rw [if_pos h]
  · rw [if_neg h, List.getElem?_eq_none (by omega), List.getElem?_eq_none (by omega)]

end Go.Proofs.YtapflnabiobonaaDoor
