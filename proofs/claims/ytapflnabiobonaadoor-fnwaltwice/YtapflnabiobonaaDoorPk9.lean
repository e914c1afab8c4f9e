/- Contracts and plain facts that the claims of this seat lean on (texts DoM, WF, WF2, Draw, Draw2, Draw4); no statement of the seat is proved here. -/
import Derived.Test.YtapflnabiobonaaDoorPk4
import Derived.Test.YtapflnabiobonaaDoorPk5
import Derived.Test.YtapflnabiobonaaDoorPk6
import Derived.Test.YtapflnabiobonaaDoorPk8
import Derived.Test.YtapflnabiobonaaDoorPk2
import Derived.Test.YtapflnabiobonaaDoorPk3

/- Plain facts on steps as lists; no statement of the seat is proved here. -/
namespace Go.Proofs.YtapflnabiobonaaDoor

/-- A disk behind a step. -/
def stepL (s : List ByteArray × List (Int × ByteArray)) (x : Stp) : List ByteArray × List (Int × ByteArray) :=
  if x.1 = true then (flushK s.1 s.2, []) else (putK s.1 s.2, putW s.1 s.2 x.2.1 x.2.2)
/-- A disk behind steps. -/
def doL (s : List ByteArray × List (Int × ByteArray)) (xs : List Stp) : List ByteArray × List (Int × ByteArray) := xs.foldl stepL s
theorem doL_snoc (s : List ByteArray × List (Int × ByteArray)) (xs : List Stp) (x : Stp) : doL s (xs ++ [x]) = stepL (doL s xs) x := by simp [doL]
theorem doL_take (s : List ByteArray × List (Int × ByteArray)) (xs : List Stp) (k : Nat) (x : Stp) (h : xs[k]? = some x) : doL s (xs.take (k + 1)) = stepL (doL s (xs.take k)) x := by
  rw [List.take_add_one, h, Option.toList_some, doL_snoc]

theorem putW_ok {kept : List ByteArray} {wait : List (Int × ByteArray)} (a : Int) (s : ByteArray) (h : okB kept wait = true) : putK kept wait = kept ∧ okB kept (putW kept wait a s) = true := by
  cases hp : putB kept wait a s
  · rcases put_false hp with ⟨h1, -⟩ | ⟨-, h2, h3⟩
    · rw [h] at h1; cases h1
    · exact ⟨h2, by rw [h3]; exact h⟩
  · obtain ⟨-, -, -, -, h2, h3, h4⟩ := put_true hp
    exact ⟨h2, by rw [h3]; exact h4⟩

theorem stepL_ok {s : List ByteArray × List (Int × ByteArray)} (x : Stp) (h : okB s.1 s.2 = true) : okB (stepL s x).1 (stepL s x).2 = true ∧ (stepL s x).1.length = s.1.length := by
  unfold stepL
  split
  · exact ⟨ok_flushK _ _, by simp [flushK, h, flushL_len]⟩
  · obtain ⟨h1, h2⟩ := putW_ok x.2.1 x.2.2 h
    exact ⟨by simp only [h1]; exact h2, by simp only [h1]⟩

theorem doL_ok {s : List ByteArray × List (Int × ByteArray)} (xs : List Stp) (h : okB s.1 s.2 = true) : okB (doL s xs).1 (doL s xs).2 = true ∧ (doL s xs).1.length = s.1.length := by
  unfold doL
  induction xs generalizing s with
  | nil => exact ⟨h, rfl⟩
  | cons x xs ih =>
    obtain ⟨h1, h2⟩ := stepL_ok x h
    obtain ⟨h3, h4⟩ := ih h1
    exact ⟨h3, h4.trans h2⟩

/-- Behind how many steps it ends. -/
def doEnd (cut : Bool) (after : Int) (n : Nat) : Nat := if cut = true then (min after (n : Int)).toNat else n
theorem doEnd_le (cut : Bool) (after : Int) (n : Nat) : doEnd cut after n ≤ n := by
  unfold doEnd
  split <;> omega
/-- What is kept, and what waits, behind steps that may be cut. -/
def doR (kept : List ByteArray) (wait : List (Int × ByteArray)) (xs : List Stp) (cut : Bool) (after : Int) (ks : List Int) : List ByteArray × List (Int × ByteArray) :=
  if okB kept wait = true ∧ xs.length ≤ 600 then
    (if cut = true then (cutK (doL (kept, wait) (xs.take (doEnd cut after xs.length))).1 (doL (kept, wait) (xs.take (doEnd cut after xs.length))).2 ks, []) else doL (kept, wait) (xs.take (doEnd cut after xs.length)))
  else ([], [])
theorem doR_len (kept : List ByteArray) (wait : List (Int × ByteArray)) (xs : List Stp) (cut : Bool) (after : Int) (ks : List Int) : (doR kept wait xs cut after ks).1.length ≤ 512 ∧ (doR kept wait xs cut after ks).2.length ≤ 600 := by
  unfold doR
  split
  · rename_i h
    obtain ⟨h1, -⟩ := doL_ok (s := (kept, wait)) (xs.take (doEnd cut after xs.length)) h.1
    split
    · exact ⟨(okB_parts (ok_cutK _ _ ks)).1, by simp⟩
    · exact ⟨(okB_parts h1).1, (okB_parts h1).2.1⟩
  · simp

end Go.Proofs.YtapflnabiobonaaDoor

/- Plain facts on transactions as lists: what their steps do, what is read behind them; no statement of the seat is proved here. -/
namespace Go.Proofs.YtapflnabiobonaaDoor

theorem doL_app (s : List ByteArray × List (Int × ByteArray)) (xs ys : List Stp) : doL s (xs ++ ys) = doL (doL s xs) ys := by simp [doL]
theorem doR_all {kept : List ByteArray} {wait : List (Int × ByteArray)} {xs : List Stp} (h : okB kept wait = true) (hx : xs.length ≤ 600) (a : Int) (ks : List Int) : doR kept wait xs false a ks = doL (kept, wait) xs := by
  have e : doEnd false a xs.length = xs.length := by simp [doEnd]
  simp [doR, h, hx, e]

theorem okB_put {kept : List ByteArray} {wait : List (Int × ByteArray)} {x : Int × ByteArray} (h : okB kept wait = true) (hx : writeOkB kept.length x = true) (hl : wait.length < 600) : okB kept (wait ++ [x]) = true := by
  simp only [okB, Bool.and_eq_true, decide_eq_true_eq, List.all_append, List.length_append, List.length_cons, List.length_nil, List.all_cons, List.all_nil, and_true] at h ⊢
  obtain ⟨⟨⟨h1, h2⟩, h3⟩, h4⟩ := h
  exact ⟨⟨⟨h1, by omega⟩, h3⟩, h4, hx⟩

theorem stepL_put {kept : List ByteArray} {wait : List (Int × ByteArray)} {x : Int × ByteArray} (h : okB kept wait = true) (hx : writeOkB kept.length x = true) (hl : wait.length < 600) : stepL (kept, wait) (putS x) = (kept, wait ++ [x]) := by
  obtain ⟨a, s⟩ := x
  have hp : putB kept wait a s = true := by simp [putB, h, hx, hl]
  simp [stepL, putS, putK, putW, h, hp]

theorem doL_puts : ∀ (xs : List (Int × ByteArray)) {kept : List ByteArray} {wait : List (Int × ByteArray)}, okB kept wait = true → (∀ x ∈ xs, writeOkB kept.length x = true) → wait.length + xs.length ≤ 600 → doL (kept, wait) (xs.map putS) = (kept, wait ++ xs) ∧ okB kept (wait ++ xs) = true
  | [], kept, wait, h, _, _ => by simpa [doL] using h
  | x :: xs, kept, wait, h, hx, hl => by
    simp only [List.length_cons] at hl
    have h1 := okB_put h (hx x List.mem_cons_self) (by omega)
    have h2 := doL_puts xs h1 (fun y hy => hx y (List.mem_cons_of_mem _ hy)) (by simp; omega)
    have e : doL (kept, wait) ((x :: xs).map putS) = doL (stepL (kept, wait) (putS x)) (xs.map putS) := rfl
    rw [e, stepL_put h (hx x List.mem_cons_self) (by omega), h2.1, List.append_assoc]
    have h3 := h2.2
    rw [List.append_assoc] at h3
    exact ⟨rfl, h3⟩

theorem stepL_flush {kept : List ByteArray} {wait : List (Int × ByteArray)} (h : okB kept wait = true) : stepL (kept, wait) flushS = (flushL kept wait, []) := by simp [stepL, flushS, flushK, h]

/-- Puts, a flush, the sign, a flush. -/
theorem doL_phase {kept : List ByteArray} {wait : List (Int × ByteArray)} {xs : List (Int × ByteArray)} {b : ByteArray} (h : okB kept wait = true) (hx : ∀ x ∈ xs, writeOkB kept.length x = true) (hl : wait.length + xs.length ≤ 600) (h0 : 0 < kept.length) (hb : b.size ≤ 16) :
    doL (kept, wait) (xs.map putS ++ [flushS, (false, 0, b), flushS]) = ((flushL kept (wait ++ xs)).set 0 b, []) ∧ okB ((flushL kept (wait ++ xs)).set 0 b) [] = true := by
  obtain ⟨h1, h2⟩ := doL_puts xs h hx hl
  have h3 := ok_flush h2
  have hw : writeOkB (flushL kept (wait ++ xs)).length (0, b) = true := by simp [writeOkB, inB, flushL_len]; omega
  have h4 := okB_put (wait := []) h3 hw (by simp)
  have e1 : doL (kept, wait) (xs.map putS ++ [flushS, (false, 0, b), flushS]) = stepL (stepL (stepL (doL (kept, wait) (xs.map putS)) flushS) (putS (0, b))) flushS := by rw [doL_app]; rfl
  rw [e1, h1, stepL_flush h2, stepL_put h3 hw (by simp), stepL_flush h4]
  have e2 : flushL (flushL kept (wait ++ xs)) ([] ++ [(0, b)]) = (flushL kept (wait ++ xs)).set 0 b := by simp [flushL]
  refine ⟨by rw [e2], ?_⟩
  have := ok_flush h4
  rw [e2] at this
  exact this

theorem flushL_app (kept : List ByteArray) (xs ys : List (Int × ByteArray)) : flushL kept (xs ++ ys) = flushL (flushL kept xs) ys := by simp [flushL]

theorem drop_set_low {K : List ByteArray} {i n : Nat} {b : ByteArray} (h : i < n) : (K.set i b).drop n = K.drop n := by
  apply List.ext_getElem?
  intro j
  rw [List.getElem?_drop, List.getElem?_drop, List.getElem?_set_ne (by omega)]
theorem drop_set_high {K : List ByteArray} {i n : Nat} {b : ByteArray} : (K.set (n + i) b).drop n = (K.drop n).set i b := by
  apply List.ext_getElem?
  intro j
  rw [List.getElem?_drop]
  by_cases hj : i = j
  · subst hj
    by_cases hl : n + i < K.length
    · rw [List.getElem?_set_self hl, List.getElem?_set_self (by rw [List.length_drop]; omega)]
    · rw [List.getElem?_eq_none (by simp; omega), List.getElem?_eq_none (by simp; omega)]
  · rw [List.getElem?_set_ne (by omega), List.getElem?_set_ne hj, List.getElem?_drop]

theorem flushL_low : ∀ (xs : List (Int × ByteArray)) (K : List ByteArray), (∀ x ∈ xs, 0 ≤ x.1 ∧ x.1 < 251) → (flushL K xs).drop 251 = K.drop 251
  | [], _, _ => rfl
  | x :: xs, K, h => by
    have e : flushL K (x :: xs) = flushL (K.set x.1.toNat x.2) xs := rfl
    have hx := h x List.mem_cons_self
    rw [e, flushL_low xs _ (fun y hy => h y (List.mem_cons_of_mem _ hy)), drop_set_low (by omega)]
theorem flushL_high : ∀ (L : List (Int × ByteArray)) (K : List ByteArray), (∀ x ∈ L, 0 ≤ x.1) → (flushL K (L.map appW)).drop 251 = flushL (K.drop 251) L
  | [], _, _ => rfl
  | x :: xs, K, h => by
    have e : flushL K ((x :: xs).map appW) = flushL (K.set (251 + x.1).toNat x.2) (xs.map appW) := rfl
    have e2 : flushL (K.drop 251) (x :: xs) = flushL ((K.drop 251).set x.1.toNat x.2) xs := rfl
    have hx := h x List.mem_cons_self
    rw [e, e2, flushL_high xs _ (fun y hy => h y (List.mem_cons_of_mem _ hy)), show (251 + x.1).toNat = 251 + x.1.toNat by omega, drop_set_high]

theorem logW_mem : ∀ (i : Nat) (L : List (Int × ByteArray)) (x : Int × ByteArray), x ∈ logW i L → ∃ y ∈ L, 1 ≤ x.1 ∧ x.1 < 1 + (i + L.length : Nat) ∧ x.2 = byteS y.1 ++ y.2
  | i, y :: r, x, h => by
    simp only [logW, List.mem_cons] at h
    rcases h with rfl | h
    · exact ⟨y, List.mem_cons_self, by show (1 : Int) ≤ ((1 + i : Nat) : Int); omega, by show ((1 + i : Nat) : Int) < _; simp only [List.length_cons]; omega, rfl⟩
    · obtain ⟨z, hz, h1, h2, h3⟩ := logW_mem (i + 1) r x h
      exact ⟨z, List.mem_cons_of_mem _ hz, h1, by simp only [List.length_cons]; omega, h3⟩

/-- A disk whose sign is empty reads as its homes. -/
theorem read_clean {kept : List ByteArray} {wait : List (Int × ByteArray)} (hok : okB kept wait = true) (h5 : kept.length = 501) (h0 : (sign0 (flushL kept wait)).size = 0) : readB kept wait = true ∧ readH kept wait = (flushL kept wait).drop 251 ∧ formB kept wait = true := by
  have hf : formB kept wait = true := by simp [formB, hok, h5]
  have hfk : flushK kept wait = flushL kept wait := by simp [flushK, hok]
  obtain ⟨s, hs⟩ : ∃ s, sign0 (flushL kept wait) = s := ⟨_, rfl⟩
  rw [hs] at h0
  have hc : comN s = 0 := by simp [comN, h0]
  have hsg : signB s = true := by simp only [signB, decide_eq_true_eq]; exact .inl h0
  have hl : logB s (flushL kept wait) = true ∧ logL s (flushL kept wait) = [] := by
    constructor
    · simp [logB, hsg, logS, hc]
    · simp [logL, logS, hc]
  have hr : readB kept wait = true := by simp only [readB, hf, hfk, hs, hl.1, Bool.and_self]
  refine ⟨hr, ?_, hf⟩
  simp only [readH, hr, if_true, hfk, homesL, hs, hl.2]
  rfl

theorem form_parts {kept : List ByteArray} {wait : List (Int × ByteArray)} (hf : formB kept wait = true) : okB kept wait = true ∧ kept.length = 501 ∧ flushK kept wait = flushL kept wait := by
  have hok : okB kept wait = true := by simp only [formB, Bool.and_eq_true] at hf; exact hf.1
  exact ⟨hok, by simp only [formB, Bool.and_eq_true, decide_eq_true_eq] at hf; exact hf.2, by simp [flushK, hok]⟩
theorem read_form {kept : List ByteArray} {wait : List (Int × ByteArray)} (h : readB kept wait = true) : formB kept wait = true := by simp only [readB, Bool.and_eq_true] at h; exact h.1

theorem chg_at (now hs : List ByteArray) (k : Nat) (hn : now.length = 250) (hh : hs.length = 250) (hk : k ≤ 250) : ∀ i : Nat, (flushL now (chgK now hs k))[i]? = if i < k then hs[i]? else now[i]? := by
  induction k with
  | zero => intro i; simp [chgK, flushL]
  | succ k ih =>
    intro i
    obtain ⟨s, hs1⟩ := getAt hs k (by omega)
    obtain ⟨t, ht1⟩ := getAt now k (by omega)
    cases hq : (s.toList == t.toList)
    · rw [chgK_no hs1 ht1 hq, flushL_snoc]
      simp only [Int.toNat_natCast]
      by_cases hik : k = i
      · subst hik
        rw [List.getElem?_set_self (by rw [flushL_len]; omega), if_pos (by omega), hs1]
      · rw [List.getElem?_set_ne hik, ih (by omega) i]
        by_cases hlt : i < k
        · rw [if_pos hlt, if_pos (by omega)]
        · rw [if_neg hlt, if_neg (by omega)]
    · have hst : s = t := by
        have h1 : s.toList = t.toList := by simpa using hq
        cases s with | mk a =>
        cases t with | mk b =>
        rw [ByteArray.toList_eq, ByteArray.toList_eq] at h1
        have h2 : a = b := Array.ext' h1
        rw [h2]
      rw [chgK_yes hs1 ht1 hq, ih (by omega) i]
      by_cases hlt : i < k
      · rw [if_pos hlt, if_pos (by omega)]
      · rw [if_neg hlt]
        by_cases hik : i = k
        · subst hik
          rw [if_pos (by omega), hs1, ht1, hst]
        · rw [if_neg (by omega)]
theorem chg_all {now hs : List ByteArray} (hn : now.length = 250) (hh : hs.length = 250) : flushL now (chgK now hs 250) = hs := by
  apply List.ext_getElem?
  intro i
  rw [chg_at now hs 250 hn hh (Nat.le_refl _) i]
  by_cases h : i < 250
  · rw [if_pos h]
  · rw [if_neg h, List.getElem?_eq_none (by omega), List.getElem?_eq_none (by omega)]

end Go.Proofs.YtapflnabiobonaaDoor

/- Plain facts on transactions: P6, P7 and P8 over lists; what a drawn disk is like; no statement of the seat is proved here. -/
namespace Go.Proofs.YtapflnabiobonaaDoor

/-- A disk with transactions with room for one more. -/
def WInv (kept : List ByteArray) (wait : List (Int × ByteArray)) : Prop := okB kept wait = true ∧ kept.length = 501 ∧ wait.length ≤ 300

theorem byteS_size (n : Int) : (byteS n).size = 1 := rfl

theorem stepsB_parts {kept : List ByteArray} {wait : List (Int × ByteArray)} {hs : List ByteArray} (h : stepsB kept wait hs = true) : readB kept wait = true ∧ (sign0 (flushK kept wait)).size = 0 ∧ fitB hs = true := by
  simp only [stepsB, Bool.and_eq_true, decide_eq_true_eq] at h
  exact ⟨h.1, h.2.1, h.2.2⟩

theorem sign0_set {K : List ByteArray} {b : ByteArray} (h : 0 < K.length) : sign0 (K.set 0 b) = b := by simp [sign0, List.getElem?_set_self h]

theorem chgK_fit {now hs : List ByteArray} (h : fitB hs = true) : ∀ x ∈ chgK now hs 250, 0 ≤ x.1 ∧ x.1 < 250 ∧ x.2.size ≤ 15 := by
  intro x hx
  obtain ⟨h1, h2, i, rfl⟩ := chgK_mem hx
  refine ⟨h1, h2, ?_⟩
  show (tAt hs i).size ≤ 15
  unfold tAt
  cases hi : hs[i]? with
  | none => show (0 : Nat) ≤ _; omega
  | some t => exact (fitB_parts h).2 t (List.mem_of_getElem? hi)

theorem commit_do {kept : List ByteArray} {wait C : List (Int × ByteArray)} (h : okB kept wait = true) (h5 : kept.length = 501) (hl : wait.length ≤ 350) (hC : ∀ x ∈ C, 0 ≤ x.1 ∧ x.1 < 250 ∧ x.2.size ≤ 15) (hn : C.length ≤ 250) :
    doL (kept, wait) (commitL C) = ((flushL kept (wait ++ logW 0 C)).set 0 (byteS C.length), []) ∧ okB ((flushL kept (wait ++ logW 0 C)).set 0 (byteS C.length)) [] = true := by
  refine doL_phase h (fun x hx => ?_) (by rw [logW_len]; omega) (by omega) (by rw [byteS_size]; omega)
  obtain ⟨y, hy, h1, h2, h3⟩ := logW_mem 0 C x hx
  have hys := (hC y hy).2.2
  have hz : x.2.size = 1 + y.2.size := by rw [h3, ByteArray.size_append, byteS_size]
  simp only [writeOkB, inB, Bool.and_eq_true, decide_eq_true_eq]
  omega

theorem apply_do {kept : List ByteArray} {wait L : List (Int × ByteArray)} (h : okB kept wait = true) (h5 : kept.length = 501) (hl : wait.length ≤ 350) (hL : ∀ x ∈ L, 0 ≤ x.1 ∧ x.1 < 250 ∧ x.2.size ≤ 16) (hn : L.length ≤ 250) :
    doL (kept, wait) (applyL L) = ((flushL kept (wait ++ L.map appW)).set 0 ⟨#[]⟩, []) ∧ okB ((flushL kept (wait ++ L.map appW)).set 0 ⟨#[]⟩) [] = true := by
  refine doL_phase h (fun x hx => ?_) (by simp; omega) (by omega) (by show (0 : Nat) ≤ 16; omega)
  obtain ⟨y, hy, rfl⟩ := List.mem_map.1 hx
  have := hL y hy
  show writeOkB kept.length (251 + y.1, y.2) = true
  simp only [writeOkB, inB, Bool.and_eq_true, decide_eq_true_eq]
  omega

/-- Behind all steps of a transaction. -/
theorem done_fact {kept : List ByteArray} {wait : List (Int × ByteArray)} {hs : List ByteArray} (hi : WInv kept wait) (h : stepsB kept wait hs = true) :
    let r := doR kept wait (stepsL kept wait hs) false 0 []
    WInv r.1 r.2 ∧ readB r.1 r.2 = true ∧ readH r.1 r.2 = hs ∧ (sign0 (flushK r.1 r.2)).size = 0 ∧ (stepsL kept wait hs ≠ [] → r.2 = []) := by
  obtain ⟨hok, h5, hw⟩ := hi
  obtain ⟨hr, hs0, hf⟩ := stepsB_parts h
  have hh := (fitB_parts hf).1
  have hfk : flushK kept wait = flushL kept wait := by simp [flushK, hok]
  rw [hfk] at hs0
  obtain ⟨-, hnow, -⟩ := read_clean hok h5 hs0
  have hFl : (flushL kept wait).length = 501 := by rw [flushL_len, h5]
  have hCl := chgK_len (readH kept wait) hs 250
  have hCf := chgK_fit (now := readH kept wait) hf
  have hnl : (readH kept wait).length = 250 := by rw [hnow, List.length_drop, hFl]
  have hall := chg_all hnl hh
  have hsl := stepsOf_len (chgK (readH kept wait) hs 250)
  have hst := stepsL_yes h
  have hdo : doR kept wait (stepsL kept wait hs) false 0 [] = doL (kept, wait) (stepsL kept wait hs) := doR_all hok (by rw [hst]; omega) 0 []
  obtain ⟨C, hC⟩ : ∃ C, chgK (readH kept wait) hs 250 = C := ⟨_, rfl⟩
  rw [hC] at hCl hCf hall hsl hst
  by_cases hc0 : C.length = 0
  · have he : stepsL kept wait hs = [] := by rw [hst]; simp [stepsOf, hc0]
    have hcn : C = [] := List.eq_nil_of_length_eq_zero hc0
    rw [hcn] at hall
    have e0 : doR kept wait (stepsL kept wait hs) false 0 [] = (kept, wait) := by rw [hdo, he]; rfl
    simp only [e0]
    refine ⟨⟨hok, h5, hw⟩, hr, hall, by rw [hfk]; exact hs0, fun hne => absurd he hne⟩
  · have he : stepsL kept wait hs = commitL C ++ applyL C := by rw [hst]; simp [stepsOf, hc0]
    obtain ⟨k1, k2⟩ := commit_do hok h5 (by omega) hCf hCl
    have hl1 : ((flushL kept (wait ++ logW 0 C)).set 0 (byteS C.length)).length = 501 := by rw [List.length_set, flushL_len, h5]
    obtain ⟨a1, a2⟩ := apply_do k2 hl1 (by simp) (fun x hx => by have := hCf x hx; omega) hCl
    have e0 : doR kept wait (stepsL kept wait hs) false 0 [] = ((flushL ((flushL kept (wait ++ logW 0 C)).set 0 (byteS C.length)) ([] ++ C.map appW)).set 0 ⟨#[]⟩, []) := by rw [hdo, he, doL_app, k1, a1]
    simp only [e0]
    obtain ⟨K, hK⟩ : ∃ K, (flushL ((flushL kept (wait ++ logW 0 C)).set 0 (byteS C.length)) ([] ++ C.map appW)).set 0 ⟨#[]⟩ = K := ⟨_, rfl⟩
    rw [hK] at a2 ⊢
    have hKl : K.length = 501 := by rw [← hK, List.length_set, flushL_len, hl1]
    have hsg : sign0 K = ⟨#[]⟩ := by rw [← hK]; exact sign0_set (by rw [flushL_len, hl1]; omega)
    have hfl : flushL K [] = K := rfl
    obtain ⟨r1, r2, -⟩ := read_clean a2 hKl (by rw [hfl, hsg]; rfl)
    refine ⟨⟨a2, hKl, by simp⟩, r1, ?_, by rw [flushK, if_pos a2, hfl, hsg]; rfl, fun _ => trivial⟩
    rw [r2, hfl, ← hK, drop_set_low (by omega), List.nil_append, flushL_high C _ (fun x hx => (hCf x hx).1), drop_set_low (by omega), flushL_app, flushL_low _ _ (fun x hx => ?_), ← hnow]
    · exact hall
    · obtain ⟨y, hy, h1, h2, h3⟩ := logW_mem 0 C x hx
      omega

theorem rest1_size (t : ByteArray) : (rest1 t).size ≤ t.size := by
  simp only [rest1, ByteArray.size_extract]
  omega

/-- Behind mending. -/
theorem mend_fact {kept : List ByteArray} {wait : List (Int × ByteArray)} (hi : WInv kept wait) (h : readB kept wait = true) :
    let r := doR kept wait (mendL kept wait) false 0 []
    WInv r.1 r.2 ∧ readB r.1 r.2 = true ∧ readH r.1 r.2 = readH kept wait ∧ mendL r.1 r.2 = [] := by
  obtain ⟨hok, h5, hw⟩ := hi
  have hfk : flushK kept wait = flushL kept wait := by simp [flushK, hok]
  by_cases hs0 : (sign0 (flushL kept wait)).size = 0
  · have he : mendL kept wait = [] := by simp only [mendL, hfk]; rw [if_neg (fun hh => hh.2 hs0)]
    have e0 : doR kept wait (mendL kept wait) false 0 [] = (kept, wait) := by rw [doR_all hok (by rw [he]; simp) 0 [], he]; rfl
    simp only [e0]
    exact ⟨⟨hok, h5, hw⟩, h, trivial, he⟩
  · obtain ⟨s, hs⟩ : ∃ s, sign0 (flushL kept wait) = s := ⟨_, rfl⟩
    have hlb : logB s (flushL kept wait) = true := by
      have := h
      simp only [readB, Bool.and_eq_true, hfk, hs] at this
      exact this.2
    have hrh : readH kept wait = flushL ((flushL kept wait).drop 251) (logL s (flushL kept wait)) := by simp only [readH, h, if_true, hfk, homesL, hs]
    obtain ⟨hp1, hp2, hp3, hp4⟩ := okB_parts hok
    have hFz : ∀ t ∈ flushL kept wait, t.size ≤ 16 := flushL_all hp3 (fun x hx => (hp4 x hx).2.2)
    have hLl : (logL s (flushL kept wait)).length ≤ 250 := by
      have := comN_le s
      simp only [logL, logS, List.length_map, List.length_take]
      omega
    have hLb : ∀ x ∈ logL s (flushL kept wait), 0 ≤ x.1 ∧ x.1 < 250 ∧ x.2.size ≤ 16 := by
      intro x hx
      obtain ⟨b1, b2⟩ := logL_bound hlb x hx
      obtain ⟨t, ht, rfl⟩ := List.mem_map.1 hx
      have ht2 : t ∈ flushL kept wait := List.mem_of_mem_drop (List.mem_of_mem_take ht)
      have := hFz t ht2
      have := rest1_size t
      refine ⟨b1, b2, ?_⟩
      show (rest1 t).size ≤ 16
      omega
    have he : mendL kept wait = applyL (logL s (flushL kept wait)) := by
      simp only [mendL, hfk, hs]
      rw [if_pos ⟨h, by rw [← hs]; exact hs0⟩]
    obtain ⟨L, hL⟩ : ∃ L, logL s (flushL kept wait) = L := ⟨_, rfl⟩
    rw [hL] at hrh hLl hLb he
    obtain ⟨a1, a2⟩ := apply_do hok h5 (by omega) hLb hLl
    have e0 : doR kept wait (mendL kept wait) false 0 [] = ((flushL kept (wait ++ L.map appW)).set 0 ⟨#[]⟩, []) := by rw [doR_all hok (by rw [he, applyL_len]; omega) 0 [], he, a1]
    simp only [e0]
    obtain ⟨K, hK⟩ : ∃ K, (flushL kept (wait ++ L.map appW)).set 0 ⟨#[]⟩ = K := ⟨_, rfl⟩
    rw [hK] at a2 ⊢
    have hKl : K.length = 501 := by rw [← hK, List.length_set, flushL_len, h5]
    have hsg : sign0 K = ⟨#[]⟩ := by rw [← hK]; exact sign0_set (by rw [flushL_len, h5]; omega)
    have hfl : flushL K [] = K := rfl
    obtain ⟨r1, r2, -⟩ := read_clean a2 hKl (by rw [hfl, hsg]; rfl)
    refine ⟨⟨a2, hKl, by simp⟩, r1, ?_, ?_⟩
    · rw [r2, hfl, ← hK, drop_set_low (by omega), flushL_app, flushL_high L _ (fun x hx => (hLb x hx).1), hrh]
    · have : flushK K [] = K := by rw [flushK, if_pos a2, hfl]
      simp only [mendL, this, hsg]
      rw [if_neg (fun hh => hh.2 rfl)]

/-- What is said already is not written again. -/
theorem again_fact {kept : List ByteArray} {wait : List (Int × ByteArray)} (h : readB kept wait = true) (h0 : (sign0 (flushK kept wait)).size = 0) (hf : fitB (readH kept wait) = true) :
    stepsB kept wait (readH kept wait) = true ∧ stepsL kept wait (readH kept wait) = [] := by
  have hb : stepsB kept wait (readH kept wait) = true := by simp [stepsB, h, h0, hf]
  refine ⟨hb, ?_⟩
  rw [stepsL_yes hb]
  have : ∀ k, chgK (readH kept wait) (readH kept wait) k = [] := by
    intro k
    induction k with
    | zero => rfl
    | succ k ih =>
      rw [chgK, List.range_succ, List.filterMap_append]
      have e : chgF (readH kept wait) (readH kept wait) k = none := by simp [chgF]
      simp only [List.filterMap_cons, e, List.filterMap_nil, List.append_nil]
      exact ih
  rw [this]
  rfl

end Go.Proofs.YtapflnabiobonaaDoor

/- Disks that are drawn: contracts; no statement of the seat is proved here. -/
namespace Go.Proofs.YtapflnabiobonaaDoor
open Go.RowKit

/-- Short enough for every walk. -/
structure Small (d : Nat) (kept : List ByteArray) (wait : List (Int × ByteArray)) : Prop where
  kl : kept.length ≤ 512 + d
  ks : ∀ s ∈ kept, s.size ≤ 1000
  wl : wait.length ≤ 600 + d
  ws : ∀ x ∈ wait, x.2.size ≤ 1000

theorem Small.put {d : Nat} {kept : List ByteArray} {wait : List (Int × ByteArray)} (h : Small d kept wait) (a : Int) (s : ByteArray) (hs : s.size ≤ 1000) : Small d (putK kept wait) (putW kept wait a s) := by
  unfold putK putW
  by_cases hok : okB kept wait = true
  · rw [if_pos hok, if_pos hok]
    refine ⟨h.kl, h.ks, ?_, ?_⟩
    · split
      · rename_i hp
        simp only [putB, Bool.and_eq_true, decide_eq_true_eq] at hp
        simp
        omega
      · exact h.wl
    · split
      · intro x hx
        rcases List.mem_append.1 hx with hx | hx
        · exact h.ws x hx
        · rw [List.mem_singleton] at hx
          subst hx
          exact hs
      · exact h.ws
  · rw [if_neg hok, if_neg hok]
    exact ⟨by simp, by simp, by simp, by simp⟩

theorem flushL_small {kept : List ByteArray} {wait : List (Int × ByteArray)} (h1 : ∀ s ∈ kept, s.size ≤ 1000) (h2 : ∀ x ∈ wait, x.2.size ≤ 1000) : ∀ s ∈ flushL kept wait, s.size ≤ 1000 := by
  unfold flushL
  induction wait generalizing kept with
  | nil => exact h1
  | cons x xs ih =>
    simp only [List.foldl_cons]
    refine ih (fun s hs => ?_) (fun y hy => h2 y (List.mem_cons_of_mem _ hy))
    rcases List.mem_or_eq_of_mem_set hs with hs | rfl
    · exact h1 s hs
    · exact h2 x List.mem_cons_self

theorem Small.flush {d : Nat} {kept : List ByteArray} {wait : List (Int × ByteArray)} (h : Small d kept wait) : Small d (flushK kept wait) [] := by
  unfold flushK
  split
  · exact ⟨by rw [flushL_len]; exact h.kl, flushL_small h.ks h.ws, by simp, by simp⟩
  · exact ⟨by simp, by simp, by simp, by simp⟩

theorem small_new (n : Nat) : Small 0 (newKept (n : Int)) [] := by
  refine ⟨?_, ?_, by simp, by simp⟩
  · have := newKept_len (n : Int)
    omega
  · intro s hs
    unfold newKept at hs
    split at hs
    · rw [List.mem_replicate] at hs
      rw [hs.2]
      show (0 : Nat) ≤ 1000
      omega
    · simp at hs

theorem newDiskA (W : World) (base n : Nat) (hb : base ≤ W.heap.size) (hn : n ≤ 512) :
    DiskAA (W.alloc (.cells (madeCells #[.string ⟨#[]⟩] n) 9)) base (.agg #[.slice (some ⟨W.heap.size, 0, none⟩) n n, .slice none 0 0]) (List.replicate n ⟨#[]⟩) [] := by
  refine ⟨_, _, rfl, ?_, .inl (World.ownsRow_nil _ _ _ _)⟩
  have h := World.ownsRow_lit (base := base) (e := 9) (size := 1) W (madeCells #[.string ⟨#[]⟩] n) n hb (by unfold maxLen; omega) (by rw [size_madeCells]; simp)
  rw [toList_madeCells_one] at h
  simp only [List.length_replicate, List.map_replicate]
  exact Or.inl h

set_option maxHeartbeats 400000 in
theorem specSecNewA_any (a : Int) (w : World) :
    Calls Tryd.prog 98 #[.int .i64 a] w fun e w' => ∃ v, e = .returned v ∧ DiskAA w' w.heap.size v (newKept a) [] ∧ Below w.heap.size w w' := by
  by_cases h : inB a 0 512 = true
  · have hk : newKept a = List.replicate a.toNat ⟨#[]⟩ := by simp [newKept, h]
    rw [hk]
    clear hk
    have hb : 0 ≤ a ∧ a ≤ 512 := by simpa [inB] using h
    obtain ⟨n, rfl⟩ := Int.eq_ofNat_of_zero_le hb.1
    have hn : n ≤ 512 := by omega
    rw [Int.toNat_natCast]
    clear hb
    have hmk := run_make_row' (P := Tryd.prog) 22 9 (.string ⟨#[]⟩) 16 Tryd.underlying22 infoStr rfl .i64 .i64 n (by omega) (by omega)
    go_enter Tryd.func98, Tryd.ntmps98
    go_wp2_with (go_at_call 76; refine (l6In_any _ _ _ _).mono ?_; rintro e w' ⟨rfl, rfl⟩)
    refine bodyPost_ret (v := .agg #[.slice (some ⟨w.heap.size + 1, 0, none⟩) n n, .slice none 0 0]) (by simp [results, Tryd.results98, go_sem]) rfl ⟨_, rfl, ?_, ((Below.refl _ _).alloc (Nat.le_refl _) _).alloc (by simp) _⟩
    have := newDiskA (w.alloc (.cells #[.slice (some ⟨w.heap.size + 1, 0, none⟩) n n, .slice none 0 0] 31)) w.heap.size n (by simp) hn
    rw [World.size_alloc] at this
    exact this
  · have h0 : inB a 0 512 = false := by simpa using h
    have hk : newKept a = [] := by simp [newKept, h0]
    rw [hk]
    clear hk h
    go_enter Tryd.func98, Tryd.ntmps98
    go_wp2_with (go_at_call 76; refine (l6In_any _ _ _ _).mono ?_; rintro e w' ⟨rfl, rfl⟩)
    exact bodyPost_ret (v := .agg #[.slice none 0 0, .slice none 0 0]) (by simp [results, Tryd.results98, go_sem]) rfl ⟨_, rfl, ⟨_, _, rfl, .inl (World.ownsRow_nil _ _ _ _), .inl (World.ownsRow_nil _ _ _ _)⟩, (Below.refl _ _).alloc (Nat.le_refl _) _⟩


theorem Upd.transN {S T : Nat → Prop} {a b c : World} (h : Upd S a b) (k : Upd T b c) (hT : ∀ i, T i → a.heap.size ≤ i) : Upd S a c :=
  ⟨k.os.trans h.os, k.tape.trans h.tape, k.output.trans h.output, Nat.le_trans h.size k.size,
    fun i hi hS => (k.block i (Nat.lt_of_lt_of_le hi h.size) (fun ht => by have := hT i ht; omega)).trans (h.block i hi hS)⟩

theorem Rd.lt {w0 w : World} {R p : Nat} (h : Rd w0 w R p) : R < w.heap.size ∧ w0.heap.size ≤ R ∧ w0.heap.size ≤ w.heap.size := by
  obtain ⟨_, _, _, _, _, _, _, h1, h2, h3⟩ := h
  exact ⟨heap_lt h1, h2, h3.size⟩

theorem Rd.apart {w0 w : World} {R p : Nat} (h : Rd w0 w R p) {S : Nat → Prop} {e : TypeId} (he : 120 ≠ e) : ¬ typed w S e R := by
  obtain ⟨_, _, _, _, _, _, _, h1, h2, h3⟩ := h
  exact typed_box h1 he rfl

set_option maxRecDepth 100000 in
set_option maxHeartbeats 4000000 in
theorem l72Sec_any (w0 w : World) (R p : Nat) (hr : Rd w0 w R p) (hp : p ≤ 900000) :
    Calls Tryd.prog 81 #[.pointer (some ⟨R, 0, none⟩)] w fun e w' => ∃ v kept wait p', e = .returned v ∧ DiskAA w' w.heap.size v kept wait ∧ Small 0 kept wait ∧ Rd w0 w' R p' ∧ p' ≤ p + 100 ∧ Upd (fun j => j = R) w w' := by
  obtain ⟨hRl, hR0, hw0⟩ := hr.lt
  have al0 : Below w.heap.size w (w.alloc (.cells #[.slice none 0 0, .slice none 0 0] 31)) := (Below.refl _ _).alloc (Nat.le_refl _) _
  have H0 := hide (al1_0 w (.cells #[.slice none 0 0, .slice none 0 0] 31))
  have hr0 := hr.keepB al0
  go_enter Tryd.func81, Tryd.ntmps81
  go_wp2_with fail
  refine (pick_any w0 _ R p 7 hr0 (by omega) (by omega) (by omega)).mono ?_
  rintro e w1 ⟨q, rfl, hq, hr1, hu1⟩
  have U1 : Upd (fun j => j = R) w w1 := (Upd.ofBelow al0).trans hu1
  have z1 := hu1.size
  simp only [World.size_alloc] at z1
  replace H0 := hide (hu1.keeps H0.out (by omega))
  go_wp2_with fail
  refine (specSecNewA_any q w1).mono ?_
  rintro e w2 ⟨v2, rfl, d2, b2⟩
  have sm2 := small_new q
  obtain ⟨K2, hK2⟩ : ∃ K2, newKept (q : Int) = K2 := ⟨_, rfl⟩
  rw [hK2] at d2 sm2
  clear hK2
  obtain ⟨ao, ca, ao', ca', rfl⟩ := d2.shape
  have al2 : Below w2.heap.size w2 (w2.alloc (.cells #[.slice ao K2.length ca, .slice ao' 0 ca'] 31)) := (Below.refl _ _).alloc (Nat.le_refl _) _
  have H2 := hide (al1_0 w2 (.cells #[.slice ao K2.length ca, .slice ao' 0 ca'] 31))
  have hr2 := (hr1.keepB b2).keepB al2
  have z2 := b2.size
  replace H0 := hide (bKeeps al2 (bKeeps b2 H0.out))
  have d2' := d2.keepB al2
  go_wp2_with fail
  refine (pick_any w0 _ R (p + 1) 8 hr2 (by omega) (by omega) (by omega)).mono ?_
  rintro e w3 ⟨q3, rfl, hq3, hr3, hu3⟩
  have U3 : Upd (fun j => j = R) w w3 := ((U1.trans (Upd.ofBelow b2)).trans (Upd.ofBelow al2)).trans hu3
  have z3 := hu3.size
  simp only [World.size_alloc] at z3
  replace H0 := hide (hu3.keeps H0.out (by omega))
  replace H2 := hide (hu3.keeps H2.out (by omega))
  have d3 := d2'.keepU hu3 (fun k ht e => by subst e; exact hr2.apart (by decide) ht) (fun k ht e => by subst e; exact hr2.apart (by decide) ht)
  clear d2 d2' hr0 hr1 hr2
  go_wp2
  go_loopw [4] (fun kv wr => ∃ (i : Nat) (kept : List ByteArray) (wait : List (Int × ByteArray)) (ao ao' : Option Addr) (ca ca' p' : Nat), kv = .int .i64 i ∧ i ≤ 7 ∧ p' + 5 * i ≤ p + 40 ∧
      wr.heap[w.heap.size]? = some (.cells #[.slice none 0 0, .slice none 0 0] 31 (0, 0)) ∧ wr.heap[w2.heap.size]? = some (.cells #[.slice ao kept.length ca, .slice ao' wait.length ca'] 31 (0, 0)) ∧
      DiskAA wr (w.heap.size + 1) (.agg #[.slice ao kept.length ca, .slice ao' wait.length ca']) kept wait ∧ Small 0 kept wait ∧ Rd w0 wr R p' ∧ Upd (fun j => j = R) w wr) (fun kv _ => (intOf kv).toNat)
  case atStart => exact ⟨q3, K2, [], ao, ao', ca, ca', p + 2, rfl, by omega, by omega, H0.out, H2.out, d3.mono (by omega), sm2, hr3, U3⟩
  case round =>
    clear H0 H2 d3 sm2 hr3 U3
    obtain ⟨i, kept, wait, ao, ao', ca, ca', p', rfl, hi, hpi, B0, B2, hd, hsm, hrd, hU⟩ := hrel
    have zr := heap_lt B2
    obtain ⟨t0, t1, tl⟩ := box2 B2
    obtain ⟨t2, t3⟩ := box2f B2
    obtain ⟨q0, q1, ql⟩ := box2 B0
    obtain ⟨q2, q3'⟩ := box2f B0
    have G0 := hide B0
    have G2 := hide B2
    clear B0 B2
    by_cases hlt : 0 < i
    · have hlt' : (0 : Int) < (i : Int) := by omega
      have hrdd : Rd w0 wr.drew R p' := hrd.keepB ((Below.refl _ _).drew)
      have Hp := hide (pick_any w0 wr.drew R p' 7 hrdd (by omega) (by omega) (by omega))
      have hkl := hsm.kl
      have hwl := hsm.wl
      clear q0 q1 ql q2 q3'
      go_wp2
      go_region_with (first
        | (go_at_call 55; refine (unhide Hp).mono ?_; rintro e w4 ⟨a4, rfl, ha4, hr4, hu4⟩; have s0 : w4.cell? ⟨w2.heap.size, 0, none⟩ = some (.slice ao kept.length ca) := (World.cell?_of_block (a := ⟨w2.heap.size, 0, none⟩) (hu4.block w2.heap.size zr (by omega))).trans t0; have s1 : w4.cell? ⟨w2.heap.size, 1, none⟩ = some (.slice ao' wait.length ca') := (World.cell?_of_block (a := ⟨w2.heap.size, 1, none⟩) (hu4.block w2.heap.size zr (by omega))).trans t1)
        | (go_at_call 82; refine (l72Text_any w0 w4 R (p' + 1) 16 hr4 (by omega) (by omega)).mono ?_; rintro e w5 ⟨s5, rfl, hs5, hr5, hu5⟩; have u45 : Upd (fun j => j = R) wr w5 := ⟨(hu4.trans hu5).os, (hu4.trans hu5).tape, (hu4.trans hu5).output, (hu4.trans hu5).size, (hu4.trans hu5).block⟩; have y0 : w5.cell? ⟨w2.heap.size, 0, none⟩ = some (.slice ao kept.length ca) := (World.cell?_of_block (a := ⟨w2.heap.size, 0, none⟩) (u45.block w2.heap.size zr (by omega))).trans t0; have y1 : w5.cell? ⟨w2.heap.size, 1, none⟩ = some (.slice ao' wait.length ca') := (World.cell?_of_block (a := ⟨w2.heap.size, 1, none⟩) (u45.block w2.heap.size zr (by omega))).trans t1; have d5 := hd.keepU u45 (fun k ht e => by subst e; exact hrd.apart (by decide) ht) (fun k ht e => by subst e; exact hrd.apart (by decide) ht))
        | (go_at_call 99; refine (specSecPutA_any _ kept wait a4 s5 w5 (d5.reads (by omega) (by omega)) (fun s hs => by have := hsm.ks s hs; omega) (fun x hx => by have := hsm.ws x hx; omega) (by omega)).mono ?_; rintro e w6 ⟨v6, rfl, d6, b6⟩; obtain ⟨jo, jc, jo', jc', rfl⟩ := d6.shape; have k2 := bKeeps b6 (u45.keeps G2.out (by omega)); obtain ⟨m0, m1, ml⟩ := box2 k2; obtain ⟨m2, m3⟩ := box2f k2))
      all_goals
        have sm6 := hsm.put a4 s5 hs5
        obtain ⟨K6, hK6⟩ : ∃ K6, putK kept wait = K6 := ⟨_, rfl⟩
        obtain ⟨X6, hX6⟩ : ∃ X6, putW kept wait (a4 : Int) s5 = X6 := ⟨_, rfl⟩
        rw [hK6, hX6] at d6 sm6 ⊢
        clear hK6 hX6
        obtain ⟨W6, hW6⟩ : ∃ W6, W6 = (w6.setCell ⟨w2.heap.size, 0, none⟩ (.slice jo K6.length jc)).setCell ⟨w2.heap.size, 1, none⟩ (.slice jo' X6.length jc') := ⟨_, rfl⟩
        have hs6 : Upd (fun j => j = w2.heap.size) w6 W6 := by rw [hW6]; exact upd_set2 _ _ _ _ _ _
        have B2' : W6.heap[w2.heap.size]? = some (.cells #[.slice jo K6.length jc, .slice jo' X6.length jc'] 31 (0, 0)) := by rw [hW6]; exact row_set _ (row_set _ k2)
        rw [← hW6]
        clear hW6 m0 m1 ml m2 m3 t0 t1 tl t2 t3 s0 s1 y0 y1
        have z6 := b6.size
        have z45 := u45.size
        have B0' := hs6.keeps (bKeeps b6 (u45.keeps G0.out (by omega))) (by omega)
        have d6' := d6.keepU hs6 (fun k ht e => by subst e; exact typed_box k2 (by decide) rfl ht) (fun k ht e => by subst e; exact typed_box k2 (by decide) rfl ht)
        have r6 := (hr5.keepB b6).keep hs6 (by omega) (fun k h => by omega)
        have U6 : Upd (fun j => j = R) w W6 := ((hU.trans u45).trans (Upd.ofBelow b6)).transN hs6 (fun k h => by omega)
        have zW6 := hs6.size
        clear hd hrd hrdd Hp hr4 hr5 d5 d6 k2 G0 G2 hsm
        obtain ⟨t0, t1, tl⟩ := box2 B2'
        obtain ⟨t2, t3⟩ := box2f B2'
        have G0 := hide B0'
        have G2 := hide B2'
        clear B0' B2'
        go_wp2_with fail
        refine (pick_any w0 W6 R (p' + 1 + 3) 4 r6 (by omega) (by omega) (by omega)).mono ?_
        rintro e w7 ⟨q7, rfl, hq7, r7, hu7⟩
        have U7 : Upd (fun j => j = R) w w7 := U6.trans hu7
        have d7 := d6'.keepU hu7 (fun k ht e => by subst e; exact r6.apart (by decide) ht) (fun k ht e => by subst e; exact r6.apart (by decide) ht)
        have B0' := hu7.keeps G0.out (by omega)
        have B2' := hu7.keeps G2.out (by omega)
        have z7 := hu7.size
        clear t0 t1 tl t2 t3 G0 G2 d6' r6
        obtain ⟨t0, t1, tl⟩ := box2 B2'
        obtain ⟨t2, t3⟩ := box2f B2'
        have G0 := hide B0'
        have G2 := hide B2'
        clear B0' B2'
        by_cases hq0 : q7 = 0
        · have hq0' : ((q7 : Int) == 0) = true := by simpa using hq0
          go_wp2_with fail
          refine (specSecFlushA_any _ K6 X6 w7 (d7.reads (by have := sm6.kl; omega) (by have := sm6.wl; omega)) (fun s hs => by have := sm6.ks s hs; omega) (fun x hx => by have := sm6.ws x hx; omega)).mono ?_
          rintro e w8 ⟨v8, rfl, d8, b8⟩
          have sm8 := sm6.flush
          obtain ⟨K8, hK8⟩ : ∃ K8, flushK K6 X6 = K8 := ⟨_, rfl⟩
          rw [hK8] at d8 sm8
          clear hK8
          obtain ⟨ko, kc, ko', kc', rfl⟩ := d8.shape
          have k8 := bKeeps b8 G2.out
          clear t0 t1 tl t2 t3
          obtain ⟨m0, m1, ml⟩ := box2 k8
          obtain ⟨m2, m3⟩ := box2f k8
          have K8h := hide k8
          clear k8
          go_wp2
          have hs8 : Upd (fun j => j = w2.heap.size) w8 ((w8.setCell ⟨w2.heap.size, 0, none⟩ (.slice ko K8.length kc)).setCell ⟨w2.heap.size, 1, none⟩ (.slice ko' 0 kc')) := upd_set2 _ _ _ _ _ _
          have z8 := b8.size
          go_roundw
          case rel => exact ⟨i - 1, K8, [], ko, ko', kc, kc', p' + 1 + 3 + 1, by go_num, by omega, by omega, hs8.keeps (bKeeps b8 G0.out) (by omega), row_set _ (row_set _ K8h.out), (d8.keepU hs8 (fun k ht e => by subst e; exact typed_box K8h.out (by decide) rfl ht) (fun k ht e => by subst e; exact typed_box K8h.out (by decide) rfl ht)).mono (by omega), sm8, (r7.keepB b8).keep hs8 (by omega) (fun k h => by omega), (U7.trans (Upd.ofBelow b8)).transN hs8 (fun k h => by omega)⟩
          case measure => simp [intOf]; omega
        · have hq0' : ((q7 : Int) == 0) = false := by simpa using hq0
          go_wp2
          go_roundw
          case rel => exact ⟨i - 1, K6, X6, jo, jo', jc, jc', p' + 1 + 3 + 1, by go_num, by omega, by omega, G0.out, G2.out, d7.mono (by omega), sm6, r7, U7⟩
          case measure => simp [intOf]; omega
    · go_wp2
      have hs6 : Upd (fun j => j = w.heap.size) wr ((wr.setCell ⟨w.heap.size, 0, none⟩ (.slice ao kept.length ca)).setCell ⟨w.heap.size, 1, none⟩ (.slice ao' wait.length ca')) := upd_set2 _ _ _ _ _ _
      refine bodyPost_ret (v := .agg #[.slice ao kept.length ca, .slice ao' wait.length ca']) (by simp [results, Tryd.results81, go_sem, q0, q1]) rfl ⟨_, kept, wait, p', rfl, ?_, hsm, hrd.keep hs6 (by omega) (fun k h => by omega), by omega, hU.transN hs6 (fun k h => by omega)⟩
      exact (hd.keepU hs6 (fun k ht e => by subst e; exact typed_box G0.out (by decide) rfl ht) (fun k ht e => by subst e; exact typed_box G0.out (by decide) rfl ht)).mono (by omega)

end Go.Proofs.YtapflnabiobonaaDoor

/- Disks that are drawn, also ones that are not ok: contracts; no statement of the seat is proved here. -/
namespace Go.Proofs.YtapflnabiobonaaDoor
open Go.RowKit

theorem Small.mono {d d' : Nat} {kept : List ByteArray} {wait : List (Int × ByteArray)} (h : Small d kept wait) (hd : d ≤ d') : Small d' kept wait := ⟨by have := h.kl; omega, h.ks, by have := h.wl; omega, h.ws⟩

theorem Small.snocW {d : Nat} {kept : List ByteArray} {wait : List (Int × ByteArray)} (h : Small d kept wait) (a : Int) (s : ByteArray) (hs : s.size ≤ 1000) : Small (d + 1) kept (wait ++ [(a, s)]) := by
  refine ⟨by have := h.kl; omega, h.ks, by have := h.wl; simp; omega, fun x hx => ?_⟩
  rcases List.mem_append.1 hx with hx | hx
  · exact h.ws x hx
  · rw [List.mem_singleton] at hx
    subst hx
    exact hs

theorem Small.snocK {d : Nat} {kept : List ByteArray} {wait : List (Int × ByteArray)} (h : Small d kept wait) (s : ByteArray) (hs : s.size ≤ 1000) : Small (d + 1) (kept ++ [s]) wait := by
  refine ⟨by have := h.kl; simp; omega, fun x hx => ?_, by have := h.wl; omega, h.ws⟩
  rcases List.mem_append.1 hx with hx | hx
  · exact h.ks x hx
  · rw [List.mem_singleton] at hx
    subst hx
    exact hs

theorem l6Many_at (s : ByteArray) (a : Int) (k B : Nat) (w : World) (ha : a = k) (hk : k ≤ 1000000) (hB : s.size * k ≤ B) (hB' : B ≤ 1000000) :
    Calls Tryd.prog 56 #[.string s, .int .i64 a] w fun e w' => ∃ t, e = .returned (.string t) ∧ t.size ≤ B ∧ w' = w := by
  subst ha
  exact l6Many_any s k B w hk hB hB'

theorem wrap16 (q : Nat) (h : q < 2) : IntKind.i64.wrap (16 + (q : Int)) = ((16 + q : Nat) : Int) := by
  rcases (by omega : q = 0 ∨ q = 1) with rfl | rfl <;> decide

theorem new_cell1 {W : World} {A : Nat} (s : ByteArray) (e : TypeId) (hA : A = W.heap.size) : ∀ j u, [Value.string s][j]? = some u → (W.alloc (.cells #[.string s] e)).cell? ((⟨A, 0, none⟩ : Addr).add j) = some u := by
  subst hA
  intro j u h
  rw [Addr.add_lit, Nat.zero_add, cell_of_row _ _ j _ _ (0, 0) (al1_0 W _)]
  simpa using h

theorem one_str (s : ByteArray) : ∀ u ∈ [Value.string s], u.oneCell' = true := by
  intro u hu
  rw [List.mem_singleton] at hu
  subst hu
  rfl

theorem two_cells (q : Nat) (hq : q < 2) (a b : Int) (t : TypeId) : ∃ x : Int, #[Value.int .i64 a, .int .i64 b][q]? = some (.int .i64 x) ∧ ∀ w : World, (w.alloc (.cells #[.int .i64 a, .int .i64 b] t)).cell? ⟨w.heap.size, q, none⟩ = some (.int .i64 x) := by
  rcases (by omega : q = 0 ∨ q = 1) with rfl | rfl
  · exact ⟨a, rfl, fun w => (cell_of_row _ _ 0 _ _ (0, 0) (al1_0 w _)).trans rfl⟩
  · exact ⟨b, rfl, fun w => (cell_of_row _ _ 1 _ _ (0, 0) (al1_0 w _)).trans rfl⟩

theorem two_kept {w3 w4 : World} {R q : Nat} {x a b : Int} {t : TypeId} (hu : Upd (fun j => j = R) (w3.alloc (.cells #[.int .i64 a, .int .i64 b] t)).drew w4) (hR : ¬ w3.heap.size = R)
    (hxw : ∀ w : World, (w.alloc (.cells #[.int .i64 a, .int .i64 b] t)).cell? ⟨w.heap.size, q, none⟩ = some (.int .i64 x)) : w4.cell? ⟨w3.heap.size, q, none⟩ = some (.int .i64 x) := by
  have h1 : w4.heap[w3.heap.size]? = (w3.alloc (.cells #[.int .i64 a, .int .i64 b] t)).heap[w3.heap.size]? := hu.block w3.heap.size (by show w3.heap.size < (w3.alloc (.cells #[.int .i64 a, .int .i64 b] t)).heap.size; simp) hR
  exact (World.cell?_of_block (a := ⟨w3.heap.size, q, none⟩) h1).trans (hxw w3)

theorem new_cells' {W : World} {A : Nat} (a : Int) (s : ByteArray) (e : TypeId) (hA : A = W.heap.size) : ∀ j u, [Value.int .i64 a, .string s][j]? = some u → (W.alloc (.cells #[.int .i64 a, .string s] e)).cell? ((⟨A, 0, none⟩ : Addr).add j) = some u := by
  subst hA
  exact new_cells W a s e

theorem bAlloc' {W w : World} (h : Below W.heap.size W w) (o : Obj) : Below W.heap.size W (w.alloc o) := h.alloc h.size o

end Go.Proofs.YtapflnabiobonaaDoor

/- What is kept of what waits, as it is drawn: contracts; no statement of the seat is proved here. -/
namespace Go.Proofs.YtapflnabiobonaaDoor
open Go.RowKit

theorem new_int (w : World) (a : Int) (e : TypeId) : ∀ j u, [Value.int .i64 a][j]? = some u → (w.alloc (.cells #[.int .i64 a] e)).cell? ((⟨w.heap.size, 0, none⟩ : Addr).add j) = some u := by
  intro j u h
  cases j with
  | zero =>
    rw [Addr.add_lit, cell_of_row _ _ _ _ _ (0, 0) (al1_0 w _)]
    simpa using h
  | succ j => simp at h
theorem int_one (a : Int) : ∀ u ∈ [Value.int .i64 a], u.oneCell' = true := by
  intro u hu
  rw [List.mem_singleton] at hu
  subst hu
  rfl

theorem five_cells (w : World) (a b c d e : Int) (t : TypeId) : ∀ j, j < 5 → ∃ z : Int, (w.alloc (.cells #[.int .i64 a, .int .i64 b, .int .i64 c, .int .i64 d, .int .i64 e] t)).cell? ⟨w.heap.size, j, none⟩ = some (.int .i64 z) := by
  intro j hj
  have h := fun j => cell_of_row _ w.heap.size j _ _ (0, 0) (al1_0 w (.cells #[.int .i64 a, .int .i64 b, .int .i64 c, .int .i64 d, .int .i64 e] t))
  rcases (by omega : j = 0 ∨ j = 1 ∨ j = 2 ∨ j = 3 ∨ j = 4) with rfl | rfl | rfl | rfl | rfl
  · exact ⟨a, (h 0).trans rfl⟩
  · exact ⟨b, (h 1).trans rfl⟩
  · exact ⟨c, (h 2).trans rfl⟩
  · exact ⟨d, (h 3).trans rfl⟩
  · exact ⟨e, (h 4).trans rfl⟩

set_option maxRecDepth 100000 in
set_option maxHeartbeats 2000000 in
theorem l72Bits_any (w0 w : World) (R p m : Nat) (hr : Rd w0 w R p) (hp : p ≤ 900000) (hm : m ≤ 100) :
    Calls Tryd.prog 97 #[.pointer (some ⟨R, 0, none⟩), .int .i64 m] w fun e w' => ∃ (ko : Option Addr) (kc : Nat) (ks : List Int) (p' : Nat), e = .returned (.slice ko ks.length kc) ∧
      RowA w' w.heap.size 3 1 (.slice ko ks.length kc) ks.length (ks.map (Value.int .i64)) ∧ ks.length ≤ m ∧ Rd w0 w' R p' ∧ p' ≤ p + 1 + m ∧ Upd (fun j => j = R) w w' := by
  obtain ⟨hRl, hR0, hw0⟩ := hr.lt
  obtain ⟨i1, gi, gz0, gz1, gz2⟩ := info_parts infoInt
  have al0 := fun o : Obj => (Below.refl w.heap.size w).alloc (Nat.le_refl _) o
  go_enter Tryd.func97, Tryd.ntmps97
  go_wp2_with fail
  have hk : ((m : Int) + 1) = ((m + 1 : Nat) : Int) := by simp
  rw [hk]
  clear hk
  refine (pick_any w0 _ R p (m + 1) (hr.keepB (al0 _)) (by omega) (by omega) (by omega)).mono ?_
  rintro e w1 ⟨q, rfl, hq, hr1, hu1⟩
  have U1 : Upd (fun j => j = R) w w1 := (Upd.ofBelow (al0 _)).trans hu1
  clear hu1 hr
  go_wp2
  go_loopw [5, 6] (fun ov kv wr => ∃ (i : Nat) (ks : List Int) (ao : Option Addr) (ca p' : Nat), kv = .int .i64 i ∧ ov = .slice ao ks.length ca ∧ ks.length + i ≤ m ∧ p' + i ≤ p + 1 + m ∧
      RowA wr w.heap.size 3 1 (.slice ao ks.length ca) ks.length (ks.map (Value.int .i64)) ∧ Rd w0 wr R p' ∧ Upd (fun j => j = R) w wr) (fun _ kv _ => (intOf kv).toNat)
  case atStart => exact ⟨q, [], _, 0, p + 1, rfl, rfl, by simp; omega, by omega, .inr ⟨rfl, rfl, _, rfl⟩, hr1, U1⟩
  case round =>
    clear hr1 U1
    obtain ⟨i, ks, ao, ca, p', rfl, rfl, hl, hpi, hrow, hrd, hU⟩ := hrel
    by_cases hlt : 0 < i
    · have al2 : Below wr.heap.size wr (wr.alloc (.cells #[.int .i64 0, .int .i64 1, .int .i64 0, .int .i64 1, .int .i64 (-7)] 3)) := (Below.refl _ _).alloc (Nat.le_refl _) _
      have H5 := hide (five_cells wr 0 1 0 1 (-7) 3)
      have zr := hU.size
      go_wp2_with fail
      refine (pick_any w0 _ R p' 5 (hrd.keepB al2) (by omega) (by omega) (by omega)).mono ?_
      rintro e w2 ⟨q2, rfl, hq2, hr2, hu2⟩
      obtain ⟨z, hz⟩ := H5.out q2 hq2
      have f1 : w2.cell? ⟨wr.heap.size, q2, none⟩ = some (.int .i64 z) := (World.cell?_of_block (a := ⟨wr.heap.size, q2, none⟩) (hu2.block wr.heap.size (by simp) (by have := hrd.lt.1; omega))).trans hz
      have hq2' : (q2 : Int) < 5 := by omega
      have row2 := ((hrow.keepB al2).keepT hu2 (fun k ht e => by subst e; exact (hrd.keepB al2).apart (by decide) ht))
      have al3 : Below w2.heap.size w2 (w2.alloc (.cells #[.int .i64 z] 3)) := (Below.refl _ _).alloc (Nat.le_refl _) _
      have row3 := row2.keepB al3
      have N3 := hide (new_int w2 z 3)
      have z2 := hu2.size
      simp only [World.size_alloc] at z2
      clear hz
      go_wp2_with (at_builtin; refine wpList_appendA _ rfl _ _ 90 rfl w.heap.size 3 i1 (.int .i64 0) 1 8 Tryd.underlying90 gi gz0 gz1 gz2 rfl (by decide) _ ks.length (ks.map (Value.int .i64)) rfl row3 ⟨w2.heap.size, 0, none⟩ 1 1 [.int .i64 z] rfl rfl N3.out (int_one z) (by decide) ?q63 ?qby ?qbase ?_)
      case q63 => unfold maxLen; omega
      case qby => omega
      case qbase => simp; omega
      intro v4 w4 hown u4
      obtain ⟨mo, cm, rfl⟩ := (Row.ofOwns hown (by omega)).shape
      go_wp2
      have hr4 := ((hr2.keepB al3).keep u4 ((hr2.keepB al3).apart (by decide)) (fun k h => by have := h.1; omega))
      go_roundw
      case rel =>
        refine ⟨i - 1, ks ++ [z], mo, cm, p' + 1, by go_num, by simp, by simp; omega, by omega, ?_, hr4, ?_⟩
        · simp only [List.length_append, List.length_cons, List.length_nil, List.map_append, List.map_cons, List.map_nil]
          exact .inl hown
        · exact (((hU.trans (Upd.ofBelow al2)).trans hu2).trans (Upd.ofBelow al3)).transN u4 (fun k h => h.1)
      case measure => simp [intOf]; omega
    · go_wp2
      go_ret
      exact ⟨ao, ca, ks, p', rfl, hrow, by omega, hrd, by omega, hU⟩

end Go.Proofs.YtapflnabiobonaaDoor
