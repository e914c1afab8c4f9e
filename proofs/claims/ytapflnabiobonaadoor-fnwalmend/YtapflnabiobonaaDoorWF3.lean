/- Plain facts on drawn disks with transactions; no statement of the seat is proved here. -/
import Derived.Test.YtapflnabiobonaaDoorWF2
namespace Go.Proofs.YtapflnabiobonaaDoor

/-- A disk on which nothing is committed, and nothing waits. -/
def Clean (kept : List ByteArray) : Prop := okB kept [] = true ∧ kept.length = 501 ∧ (sign0 kept).size = 0

theorem clean_rep (n : Nat) (h : n = 501) : Clean (List.replicate n ⟨#[]⟩) := by
  refine ⟨okB_mk (by rw [List.length_replicate]; omega) (Nat.zero_le _) (fun s hs => ?_) (fun x hx => by cases hx), by rw [List.length_replicate]; exact h, ?_⟩
  · rw [List.eq_of_mem_replicate hs]; show (0 : Nat) ≤ 16; omega
  · have : (List.replicate n (⟨#[]⟩ : ByteArray))[0]? = some ⟨#[]⟩ := by rw [List.getElem?_replicate, if_pos (by omega)]
    rw [sign0, this]
    rfl
theorem clean_new : Clean (newKept 501) := by
  rw [newKept, if_pos (by decide)]
  exact clean_rep _ rfl

theorem Clean.inv {kept : List ByteArray} (h : Clean kept) : WInv kept [] := ⟨h.1, h.2.1, by simp⟩
theorem Clean.read {kept : List ByteArray} (h : Clean kept) : readB kept [] = true ∧ (readH kept []).length = 250 := by
  obtain ⟨h1, h2, -⟩ := read_clean (wait := []) h.1 h.2.1 h.2.2
  refine ⟨h1, ?_⟩
  rw [h2, List.length_drop, flushL_len, h.2.1]

theorem stepsL_len (kept : List ByteArray) (wait : List (Int × ByteArray)) (hs : List ByteArray) : (stepsL kept wait hs).length ≤ 506 := by
  unfold stepsL
  split
  · have h1 := stepsOf_len (chgK (readH kept wait) hs 250)
    have h2 := chgK_len (readH kept wait) hs 250
    omega
  · simp

theorem stepsOf_small {C : List (Int × ByteArray)} (hC : ∀ x ∈ C, x.2.size ≤ 15) : ∀ x ∈ stepsOf C, x.2.2.size ≤ 16 := by
  intro x hx
  unfold stepsOf at hx
  split at hx
  · cases hx
  · rcases List.mem_append.1 hx with h | h
    · rcases List.mem_append.1 h with h | h
      · obtain ⟨y, hy, rfl⟩ := List.mem_map.1 h
        obtain ⟨z, hz, -, -, e⟩ := logW_mem 0 C y hy
        show y.2.size ≤ 16
        rw [e, ByteArray.size_append, byteS_size]
        have := hC z hz
        omega
      · simp only [List.mem_cons, List.not_mem_nil, or_false] at h
        rcases h with rfl | rfl | rfl
        · show (0 : Nat) ≤ 16; omega
        · show (byteS _).size ≤ 16; rw [byteS_size]; omega
        · show (0 : Nat) ≤ 16; omega
    · rcases List.mem_append.1 h with h | h
      · obtain ⟨y, hy, rfl⟩ := List.mem_map.1 h
        obtain ⟨z, hz, rfl⟩ := List.mem_map.1 hy
        have := hC z hz
        show z.2.size ≤ 16
        omega
      · simp only [List.mem_cons, List.not_mem_nil, or_false] at h
        rcases h with rfl | rfl | rfl <;> (show (0 : Nat) ≤ 16; omega)

theorem stepsL_small (kept : List ByteArray) (wait : List (Int × ByteArray)) (hs : List ByteArray) : ∀ x ∈ stepsL kept wait hs, x.2.2.size ≤ 16 := by
  cases h : stepsB kept wait hs
  · rw [stepsL_no h]; simp
  · rw [stepsL_yes h]
    exact stepsOf_small (fun x hx => (chgK_fit (stepsB_parts h).2.2 x hx).2.2)

theorem mendL_small {kept : List ByteArray} {wait : List (Int × ByteArray)} (hok : okB kept wait = true) : (mendL kept wait).length ≤ 253 ∧ ∀ x ∈ mendL kept wait, x.2.2.size ≤ 16 := by
  unfold mendL
  split
  · have hfk : flushK kept wait = flushL kept wait := by simp [flushK, hok]
    obtain ⟨hp1, hp2, hp3, hp4⟩ := okB_parts hok
    have hFz : ∀ t ∈ flushL kept wait, t.size ≤ 16 := flushL_all hp3 (fun x hx => (hp4 x hx).2.2)
    rw [hfk]
    constructor
    · rw [applyL_len]
      have := comN_le (sign0 (flushL kept wait))
      simp only [logL, logS, List.length_map, List.length_take]
      omega
    · intro x hx
      rcases List.mem_append.1 hx with h | h
      · obtain ⟨y, hy, rfl⟩ := List.mem_map.1 h
        obtain ⟨z, hz, rfl⟩ := List.mem_map.1 hy
        obtain ⟨t, ht, rfl⟩ := List.mem_map.1 hz
        have := hFz t (List.mem_of_mem_drop (List.mem_of_mem_take ht))
        have := rest1_size t
        show (rest1 t).size ≤ 16
        omega
      · simp only [List.mem_cons, List.not_mem_nil, or_false] at h
        rcases h with rfl | rfl | rfl <;> (show (0 : Nat) ≤ 16; omega)
  · simp

theorem doR_keeps {kept : List ByteArray} {wait : List (Int × ByteArray)} {xs : List Stp} (h : okB kept wait = true) (hx : xs.length ≤ 600) (cut : Bool) (a : Int) (ks : List Int) : okB (doR kept wait xs cut a ks).1 (doR kept wait xs cut a ks).2 = true ∧ (doR kept wait xs cut a ks).1.length = kept.length ∧ (cut = true → (doR kept wait xs cut a ks).2 = []) := by
  obtain ⟨h1, h2⟩ := doL_ok (s := (kept, wait)) (xs.take (doEnd cut a xs.length)) h
  unfold doR
  rw [if_pos ⟨h, hx⟩]
  split
  · refine ⟨ok_cutK _ _ ks, ?_, fun _ => rfl⟩
    rw [cutK, if_pos h1, cutL, flushL_len]
    exact h2
  · exact ⟨h1, h2, fun hc => absurd hc ‹_›⟩

theorem clean_step {kept : List ByteArray} (hc : Clean kept) (hs : List ByteArray) : (doR kept [] (stepsL kept [] hs) false 0 []).2 = [] ∧ Clean (doR kept [] (stepsL kept [] hs) false 0 []).1 := by
  have hnil : stepsL kept [] hs = [] → doR kept [] (stepsL kept [] hs) false 0 [] = (kept, []) := fun e => by rw [doR_all hc.1 (by rw [e]; simp) 0 [], e]; rfl
  cases h : stepsB kept [] hs
  · rw [hnil (stepsL_no h)]
    exact ⟨rfl, hc⟩
  · obtain ⟨f1, f2, f3, f4, f5⟩ := done_fact hc.inv h
    by_cases he : stepsL kept [] hs = []
    · rw [hnil he]
      exact ⟨rfl, hc⟩
    · have e := f5 he
      refine ⟨e, ?_⟩
      obtain ⟨g1, g2, -⟩ := f1
      rw [e] at g1 f4
      refine ⟨g1, g2, ?_⟩
      rw [flushK, if_pos g1] at f4
      exact f4

/-- The most that ever waits. -/
def mx : Nat → List Stp → Nat
  | w, [] => w
  | w, x :: xs => max w (mx (if x.1 = true then 0 else w + 1) xs)
theorem mx_ge : ∀ (w : Nat) (xs : List Stp), w ≤ mx w xs
  | _, [] => Nat.le_refl _
  | _, _ :: _ => Nat.le_max_left _ _
theorem mx_mono : ∀ (xs : List Stp) (w w' : Nat), w ≤ w' → mx w xs ≤ mx w' xs
  | [], _, _, h => h
  | x :: xs, w, w', h => by
    simp only [mx]
    have := mx_mono xs (if x.1 = true then 0 else w + 1) (if x.1 = true then 0 else w' + 1) (by split <;> omega)
    omega
theorem stepL_wait (s : List ByteArray × List (Int × ByteArray)) (x : Stp) : (stepL s x).2.length ≤ if x.1 = true then 0 else s.2.length + 1 := by
  unfold stepL
  split
  · simp
  · simp only [putW]
    split
    · split <;> simp
    · simp
theorem doL_mx : ∀ (xs : List Stp) (s : List ByteArray × List (Int × ByteArray)) (k : Nat), (doL s (xs.take k)).2.length ≤ mx s.2.length xs
  | [], s, k => by simp [doL, mx]
  | x :: xs, s, 0 => by simpa [doL] using mx_ge s.2.length (x :: xs)
  | x :: xs, s, k + 1 => by
    have e : doL s ((x :: xs).take (k + 1)) = doL (stepL s x) (xs.take k) := rfl
    rw [e]
    have h1 := doL_mx xs (stepL s x) k
    have h2 := mx_mono xs _ _ (stepL_wait s x)
    simp only [mx]
    omega
theorem mx_puts : ∀ (xs : List (Int × ByteArray)) (ys : List Stp) (w : Nat), mx w (xs.map putS ++ ys) = mx (w + xs.length) ys ∨ mx w (xs.map putS ++ ys) ≤ max (w + xs.length) (mx (w + xs.length) ys)
  | [], ys, w => .inl rfl
  | x :: xs, ys, w => by
    right
    have e : mx w ((x :: xs).map putS ++ ys) = max w (mx (w + 1) (xs.map putS ++ ys)) := rfl
    rw [e, List.length_cons]
    have hge := mx_ge (w + 1 + xs.length) ys
    rw [show w + (xs.length + 1) = w + 1 + xs.length by omega]
    rcases mx_puts xs ys (w + 1) with h | h
    · rw [h]; omega
    · omega
theorem mx_phase (xs : List (Int × ByteArray)) (b : ByteArray) (ys : List Stp) : mx 0 (xs.map putS ++ (flushS :: (false, 0, b) :: flushS :: ys)) ≤ max (xs.length + 1) (mx 0 ys) := by
  have e : ∀ w, mx w (flushS :: (false, 0, b) :: flushS :: ys) = max w (max 0 (max 1 (mx 0 ys))) := fun _ => rfl
  rcases mx_puts xs (flushS :: (false, 0, b) :: flushS :: ys) 0 with h | h
  · rw [h, e]; omega
  · rw [e] at h; omega
theorem mx_steps (kept : List ByteArray) (wait : List (Int × ByteArray)) (hs : List ByteArray) : mx 0 (stepsL kept wait hs) ≤ 251 := by
  unfold stepsL
  split
  · have hl := chgK_len (readH kept wait) hs 250
    unfold stepsOf
    split
    · simp [mx]
    · have e1 : ∀ C : List (Int × ByteArray), commitL C ++ applyL C = (logW 0 C).map putS ++ (flushS :: (false, 0, byteS C.length) :: flushS :: applyL C) := fun C => by simp [commitL]
      have e2 : ∀ C : List (Int × ByteArray), applyL C = (C.map appW).map putS ++ (flushS :: (false, 0, ⟨#[]⟩) :: flushS :: []) := fun C => rfl
      rw [e1]
      have h1 := mx_phase (logW 0 (chgK (readH kept wait) hs 250)) (byteS (chgK (readH kept wait) hs 250).length) (applyL (chgK (readH kept wait) hs 250))
      have h2 := mx_phase ((chgK (readH kept wait) hs 250).map appW) ⟨#[]⟩ []
      rw [← e2, List.length_map] at h2
      rw [logW_len] at h1
      have h3 : mx 0 ([] : List Stp) = 0 := rfl
      omega
  · simp [mx]

theorem inv_cut {kept : List ByteArray} (hc : Clean kept) (hs : List ByteArray) (a : Int) (ks : List Int) : WInv (doR kept [] (stepsL kept [] hs) true a ks).1 (doR kept [] (stepsL kept [] hs) true a ks).2 := by
  have hl := stepsL_len kept [] hs
  obtain ⟨h1, h2, h3⟩ := doR_keeps hc.1 (xs := stepsL kept [] hs) (by omega) true a ks
  exact ⟨h1, by rw [h2]; exact hc.2.1, by rw [h3 rfl]; simp⟩
theorem inv_part {kept : List ByteArray} (hc : Clean kept) (hs : List ByteArray) (k : Nat) : WInv (doR kept [] ((stepsL kept [] hs).take k) false 0 []).1 (doR kept [] ((stepsL kept [] hs).take k) false 0 []).2 := by
  have hl := stepsL_len kept [] hs
  have hl2 : ((stepsL kept [] hs).take k).length ≤ 600 := by rw [List.length_take]; omega
  obtain ⟨h1, h2, -⟩ := doR_keeps hc.1 hl2 false 0 []
  refine ⟨h1, by rw [h2]; exact hc.2.1, ?_⟩
  rw [doR_all hc.1 hl2]
  have := doL_mx (stepsL kept [] hs) (kept, []) k
  have := mx_steps kept [] hs
  simp only [List.length_nil] at *
  omega

end Go.Proofs.YtapflnabiobonaaDoor
