/- Plain facts on transactions: P6, P7 and P8 over lists; what a drawn disk is like; no statement of the seat is proved here. -/
import Derived.Test.YtapflnabiobonaaDoorWF
namespace Go.Proofs.YtapflnabiobonaaDoor

/-- A disk with transactions with room for one more. -/
def WInv (kept : List ByteArray) (wait : List (Int × ByteArray)) : Prop := okB kept wait = true ∧ kept.length = 501 ∧ wait.length ≤ 300

theorem byteS_size (n : Int) : (byteS n).size = 1 := rfl

theorem stepsB_parts {kept : List ByteArray} {wait : List (Int × ByteArray)} {hs : List ByteArray} (h : stepsB kept wait hs = true) : readB kept wait = true ∧ (sign0 (flushK kept wait)).size = 0 ∧ fitB hs = true := by
  simp only [stepsB, Bool.and_eq_true, decide_eq_true_eq] at h
  exact ⟨h.1, h.2.1, h.2.2⟩

theorem sign0_set {K : List ByteArray} {b : ByteArray} (h : 0 < K.length) : sign0 (K.set 0 b) = b := by simp [sign0, List.getElem?_set_self h]

theorem chgK_fit {now hs : List ByteArray} (h : fitB hs = true) : ∀ x ∈ chgK now hs 250, 0 ≤ x.1 ∧ x.1 < 250 ∧ x.2.size ≤ 15 := by
  intro x hx
  obtain ⟨h1, h2, i, rfl⟩ := chgK_mem hx
  refine ⟨h1, h2, ?_⟩
  show (tAt hs i).size ≤ 15
  unfold tAt
  cases hi : hs[i]? with
  | none => show (0 : Nat) ≤ _; omega
  | some t => exact (fitB_parts h).2 t (List.mem_of_getElem? hi)

theorem commit_do {kept : List ByteArray} {wait C : List (Int × ByteArray)} (h : okB kept wait = true) (h5 : kept.length = 501) (hl : wait.length ≤ 350) (hC : ∀ x ∈ C, 0 ≤ x.1 ∧ x.1 < 250 ∧ x.2.size ≤ 15) (hn : C.length ≤ 250) :
    doL (kept, wait) (commitL C) = ((flushL kept (wait ++ logW 0 C)).set 0 (byteS C.length), []) ∧ okB ((flushL kept (wait ++ logW 0 C)).set 0 (byteS C.length)) [] = true := by
  refine doL_phase h (fun x hx => ?_) (by rw [logW_len]; omega) (by omega) (by rw [byteS_size]; omega)
  obtain ⟨y, hy, h1, h2, h3⟩ := logW_mem 0 C x hx
  have hys := (hC y hy).2.2
  have hz : x.2.size = 1 + y.2.size := by rw [h3, ByteArray.size_append, byteS_size]
  simp only [writeOkB, inB, Bool.and_eq_true, decide_eq_true_eq]
  omega

theorem apply_do {kept : List ByteArray} {wait L : List (Int × ByteArray)} (h : okB kept wait = true) (h5 : kept.length = 501) (hl : wait.length ≤ 350) (hL : ∀ x ∈ L, 0 ≤ x.1 ∧ x.1 < 250 ∧ x.2.size ≤ 16) (hn : L.length ≤ 250) :
    doL (kept, wait) (applyL L) = ((flushL kept (wait ++ L.map appW)).set 0 ⟨#[]⟩, []) ∧ okB ((flushL kept (wait ++ L.map appW)).set 0 ⟨#[]⟩) [] = true := by
  refine doL_phase h (fun x hx => ?_) (by simp; omega) (by omega) (by show (0 : Nat) ≤ 16; omega)
  obtain ⟨y, hy, rfl⟩ := List.mem_map.1 hx
  have := hL y hy
  show writeOkB kept.length (251 + y.1, y.2) = true
  simp only [writeOkB, inB, Bool.and_eq_true, decide_eq_true_eq]
  omega

/-- Behind all steps of a transaction. -/
theorem done_fact {kept : List ByteArray} {wait : List (Int × ByteArray)} {hs : List ByteArray} (hi : WInv kept wait) (h : stepsB kept wait hs = true) :
    let r := doR kept wait (stepsL kept wait hs) false 0 []
    WInv r.1 r.2 ∧ readB r.1 r.2 = true ∧ readH r.1 r.2 = hs ∧ (sign0 (flushK r.1 r.2)).size = 0 ∧ (stepsL kept wait hs ≠ [] → r.2 = []) := by
  obtain ⟨hok, h5, hw⟩ := hi
  obtain ⟨hr, hs0, hf⟩ := stepsB_parts h
  have hh := (fitB_parts hf).1
  have hfk : flushK kept wait = flushL kept wait := by simp [flushK, hok]
  rw [hfk] at hs0
  obtain ⟨-, hnow, -⟩ := read_clean hok h5 hs0
  have hFl : (flushL kept wait).length = 501 := by rw [flushL_len, h5]
  have hCl := chgK_len (readH kept wait) hs 250
  have hCf := chgK_fit (now := readH kept wait) hf
  have hnl : (readH kept wait).length = 250 := by rw [hnow, List.length_drop, hFl]
  have hall := chg_all hnl hh
  have hsl := stepsOf_len (chgK (readH kept wait) hs 250)
  have hst := stepsL_yes h
  have hdo : doR kept wait (stepsL kept wait hs) false 0 [] = doL (kept, wait) (stepsL kept wait hs) := doR_all hok (by rw [hst]; omega) 0 []
  obtain ⟨C, hC⟩ : ∃ C, chgK (readH kept wait) hs 250 = C := ⟨_, rfl⟩
  rw [hC] at hCl hCf hall hsl hst
  by_cases hc0 : C.length = 0
  · have he : stepsL kept wait hs = [] := by rw [hst]; simp [stepsOf, hc0]
    have hcn : C = [] := List.eq_nil_of_length_eq_zero hc0
    rw [hcn] at hall
    have e0 : doR kept wait (stepsL kept wait hs) false 0 [] = (kept, wait) := by rw [hdo, he]; rfl
    simp only [e0]
    refine ⟨⟨hok, h5, hw⟩, hr, hall, by rw [hfk]; exact hs0, fun hne => absurd he hne⟩
  · have he : stepsL kept wait hs = commitL C ++ applyL C := by rw [hst]; simp [stepsOf, hc0]
    obtain ⟨k1, k2⟩ := commit_do hok h5 (by omega) hCf hCl
    have hl1 : ((flushL kept (wait ++ logW 0 C)).set 0 (byteS C.length)).length = 501 := by rw [List.length_set, flushL_len, h5]
    obtain ⟨a1, a2⟩ := apply_do k2 hl1 (by simp) (fun x hx => by have := hCf x hx; omega) hCl
    have e0 : doR kept wait (stepsL kept wait hs) false 0 [] = ((flushL ((flushL kept (wait ++ logW 0 C)).set 0 (byteS C.length)) ([] ++ C.map appW)).set 0 ⟨#[]⟩, []) := by rw [hdo, he, doL_app, k1, a1]
    simp only [e0]
    obtain ⟨K, hK⟩ : ∃ K, (flushL ((flushL kept (wait ++ logW 0 C)).set 0 (byteS C.length)) ([] ++ C.map appW)).set 0 ⟨#[]⟩ = K := ⟨_, rfl⟩
    rw [hK] at a2 ⊢
    have hKl : K.length = 501 := by rw [← hK, List.length_set, flushL_len, hl1]
    have hsg : sign0 K = ⟨#[]⟩ := by rw [← hK]; exact sign0_set (by rw [flushL_len, hl1]; omega)
    have hfl : flushL K [] = K := rfl
    obtain ⟨r1, r2, -⟩ := read_clean a2 hKl (by rw [hfl, hsg]; rfl)
    refine ⟨⟨a2, hKl, by simp⟩, r1, ?_, by rw [flushK, if_pos a2, hfl, hsg]; rfl, fun _ => trivial⟩
    rw [r2, hfl, ← hK, drop_set_low (by omega), List.nil_append, flushL_high C _ (fun x hx => (hCf x hx).1), drop_set_low (by omega), flushL_app, flushL_low _ _ (fun x hx => ?_), ← hnow]
    · exact hall
    · obtain ⟨y, hy, h1, h2, h3⟩ := logW_mem 0 C x hx
      omega

theorem rest1_size (t : ByteArray) : (rest1 t).size ≤ t.size := by
  simp only [rest1, ByteArray.size_extract]
  omega

/-- Behind mending. -/
theorem mend_fact {kept : List ByteArray} {wait : List (Int × ByteArray)} (hi : WInv kept wait) (h : readB kept wait = true) :
    let r := doR kept wait (mendL kept wait) false 0 []
    WInv r.1 r.2 ∧ readB r.1 r.2 = true ∧ readH r.1 r.2 = readH kept wait ∧ mendL r.1 r.2 = [] := by
  obtain ⟨hok, h5, hw⟩ := hi
  have hfk : flushK kept wait = flushL kept wait := by simp [flushK, hok]
  by_cases hs0 : (sign0 (flushL kept wait)).size = 0
  · have he : mendL kept wait = [] := by simp only [mendL, hfk]; rw [if_neg (fun hh => hh.2 hs0)]
    have e0 : doR kept wait (mendL kept wait) false 0 [] = (kept, wait) := by rw [doR_all hok (by rw [he]; simp) 0 [], he]; rfl
    simp only [e0]
    exact ⟨⟨hok, h5, hw⟩, h, trivial, he⟩
  · obtain ⟨s, hs⟩ : ∃ s, sign0 (flushL kept wait) = s := ⟨_, rfl⟩
    have hlb : logB s (flushL kept wait) = true := by
      have := h
      simp only [readB, Bool.and_eq_true, hfk, hs] at this
      exact this.2
    have hrh : readH kept wait = flushL ((flushL kept wait).drop 251) (logL s (flushL kept wait)) := by simp only [readH, h, if_true, hfk, homesL, hs]
    obtain ⟨hp1, hp2, hp3, hp4⟩ := okB_parts hok
    have hFz : ∀ t ∈ flushL kept wait, t.size ≤ 16 := flushL_all hp3 (fun x hx => (hp4 x hx).2.2)
    have hLl : (logL s (flushL kept wait)).length ≤ 250 := by
      have := comN_le s
      simp only [logL, logS, List.length_map, List.length_take]
      omega
    have hLb : ∀ x ∈ logL s (flushL kept wait), 0 ≤ x.1 ∧ x.1 < 250 ∧ x.2.size ≤ 16 := by
      intro x hx
      obtain ⟨b1, b2⟩ := logL_bound hlb x hx
      obtain ⟨t, ht, rfl⟩ := List.mem_map.1 hx
      have ht2 : t ∈ flushL kept wait := List.mem_of_mem_drop (List.mem_of_mem_take ht)
      have := hFz t ht2
      have := rest1_size t
      refine ⟨b1, b2, ?_⟩
      show (rest1 t).size ≤ 16
      omega
    have he : mendL kept wait = applyL (logL s (flushL kept wait)) := by
      simp only [mendL, hfk, hs]
      rw [if_pos ⟨h, by rw [← hs]; exact hs0⟩]
    obtain ⟨L, hL⟩ : ∃ L, logL s (flushL kept wait) = L := ⟨_, rfl⟩
    rw [hL] at hrh hLl hLb he
    obtain ⟨a1, a2⟩ := apply_do hok h5 (by omega) hLb hLl
    have e0 : doR kept wait (mendL kept wait) false 0 [] = ((flushL kept (wait ++ L.map appW)).set 0 ⟨#[]⟩, []) := by rw [doR_all hok (by rw [he, applyL_len]; omega) 0 [], he, a1]
    simp only [e0]
    obtain ⟨K, hK⟩ : ∃ K, (flushL kept (wait ++ L.map appW)).set 0 ⟨#[]⟩ = K := ⟨_, rfl⟩
    rw [hK] at a2 ⊢
    have hKl : K.length = 501 := by rw [← hK, List.length_set, flushL_len, h5]
    have hsg : sign0 K = ⟨#[]⟩ := by rw [← hK]; exact sign0_set (by rw [flushL_len, h5]; omega)
    have hfl : flushL K [] = K := rfl
    obtain ⟨r1, r2, -⟩ := read_clean a2 hKl (by rw [hfl, hsg]; rfl)
    refine ⟨⟨a2, hKl, by simp⟩, r1, ?_, ?_⟩
    · rw [r2, hfl, ← hK, drop_set_low (by omega), flushL_app, flushL_high L _ (fun x hx => (hLb x hx).1), hrh]
    · have : flushK K [] = K := by rw [flushK, if_pos a2, hfl]
      simp only [mendL, this, hsg]
      rw [if_neg (fun hh => hh.2 rfl)]

/-- What is said already is not written again. -/
theorem again_fact {kept : List ByteArray} {wait : List (Int × ByteArray)} (h : readB kept wait = true) (h0 : (sign0 (flushK kept wait)).size = 0) (hf : fitB (readH kept wait) = true) :
    stepsB kept wait (readH kept wait) = true ∧ stepsL kept wait (readH kept wait) = [] := by
  have hb : stepsB kept wait (readH kept wait) = true := by simp [stepsB, h, h0, hf]
  refine ⟨hb, ?_⟩
  rw [stepsL_yes hb]
  have : ∀ k, chgK (readH kept wait) (readH kept wait) k = [] := by
    intro k
    induction k with
    | zero => rfl
    | succ k ih =>
      rw [chgK, List.range_succ, List.filterMap_append]
      have e : chgF (readH kept wait) (readH kept wait) k = none := by simp [chgF]
      simp only [List.filterMap_cons, e, List.filterMap_nil, List.append_nil]
      exact ih
  rw [this]
  rfl

end Go.Proofs.YtapflnabiobonaaDoor
