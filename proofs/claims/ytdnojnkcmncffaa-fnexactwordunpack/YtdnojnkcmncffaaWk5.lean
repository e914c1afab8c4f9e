/- Contracts and plain facts that this claim leans on (texts XM, XH); no statement of the seat is proved here. -/
import Derived.Test.YtdnojnkcmncffaaWk4

/- Words as plain values: which are ok, and their bytes; no statement of the seat is proved here. -/
namespace Go.Proofs.Ytdnojnkcmncffaa

/-- A word: its 24 numbers in the order of their bytes, its pieces, its last calls. -/
structure Wd where
  a0 : Int
  a1 : Int
  a2 : Int
  a3 : Int
  a4 : Int
  a5 : Int
  c0 : Int
  c1 : Int
  c2 : Int
  c3 : Int
  c4 : Int
  c5 : Int
  c6 : Int
  c7 : Int
  c8 : Int
  c9 : Int
  b0 : Int
  b1 : Int
  b2 : Int
  b3 : Int
  b4 : Int
  b5 : Int
  b6 : Int
  b7 : Int
  ps : List Pc
  ls : List Lc

def Wd.nums (x : Wd) : List Int := [x.a0, x.a1, x.a2, x.a3, x.a4, x.a5, x.c0, x.c1, x.c2, x.c3, x.c4, x.c5, x.c6, x.c7, x.c8, x.c9, x.b0, x.b1, x.b2, x.b3, x.b4, x.b5, x.b6, x.b7]
def zeroW : Wd := ⟨0, 0, 0, 0, 0, 0, 0, 0, 0, 0, 0, 0, 0, 0, 0, 0, 0, 0, 0, 0, 0, 0, 0, 0, [], []⟩

def numI (n : Int) : Bool := inI n (-1) 99999
def placeI (n : Int) : Bool := inI n 0 4 || inI n 100 103
def cmdI (x : Wd) : Bool := inI x.c0 0 7 && (numI x.c1 && (numI x.c2 && (numI x.c3 && (numI x.c4 && (numI x.c5 && (numI x.c6 && (numI x.c7 && (numI x.c8 && numI x.c9))))))))
def okW (x : Wd) : Bool := x.nums.all numI && (inI x.a0 1 15 && (placeI x.a1 && (placeI x.a2 && (cmdI x && (okP x.ps && okC x.ls)))))

theorem okW_nums {x : Wd} (h : okW x = true) : ∀ a ∈ x.nums, -1 ≤ a ∧ a ≤ 99999 := by
  unfold okW at h
  rw [Bool.and_eq_true] at h
  intro a ha
  have := List.all_eq_true.1 h.1 a ha
  simpa [numI, inI] using this

theorem okW_ps {x : Wd} (h : okW x = true) : okP x.ps = true := by
  simp only [okW, Bool.and_eq_true] at h
  exact h.2.2.2.2.2.1
theorem okW_ls {x : Wd} (h : okW x = true) : okC x.ls = true := by
  simp only [okW, Bool.and_eq_true] at h
  exact h.2.2.2.2.2.2

/-- The bytes of a number, one more than what they stand for. -/
def encN (n : Nat) : List Nat := if n < 128 then [n] else (128 + n % 128) :: encN (n / 128)
  termination_by n
  decreasing_by omega

theorem encN_lt {n : Nat} (h : n < 128) : encN n = [n] := by rw [encN, if_pos h]
theorem encN_ge {n : Nat} (h : 128 ≤ n) : encN n = (128 + n % 128) :: encN (n / 128) := by rw [encN, if_neg (by omega)]

theorem encN_byte (n : Nat) : ∀ b ∈ encN n, b < 256 := by
  induction n using Nat.strongRecOn with
  | _ n ih =>
    intro b hb
    by_cases h : n < 128
    · rw [encN_lt h] at hb
      simp at hb
      omega
    · rw [encN_ge (by omega)] at hb
      rcases List.mem_cons.1 hb with rfl | hb
      · omega
      · exact ih (n / 128) (by omega) b hb

theorem encN_len (n : Nat) (h : n ≤ 100000) : 1 ≤ (encN n).length ∧ (encN n).length ≤ 3 := by
  by_cases h1 : n < 128
  · rw [encN_lt h1]; simp
  · rw [encN_ge (by omega)]
    by_cases h2 : n / 128 < 128
    · rw [encN_lt h2]; simp
    · rw [encN_ge (by omega), encN_lt (by omega)]; simp

def encI (a : Int) : List Nat := encN (a + 1).toNat
def enc (xs : List Int) : List Nat := xs.flatMap encI
theorem enc_cons (a : Int) (xs : List Int) : enc (a :: xs) = encI a ++ enc xs := rfl
theorem enc_append (xs ys : List Int) : enc (xs ++ ys) = enc xs ++ enc ys := by simp [enc]
theorem enc_byte (xs : List Int) : ∀ b ∈ enc xs, b < 256 := by
  intro b hb
  obtain ⟨a, _, h⟩ := List.mem_flatMap.1 hb
  exact encN_byte _ b h
theorem enc_len (xs : List Int) (h : ∀ a ∈ xs, a ≤ 99999) : xs.length ≤ (enc xs).length ∧ (enc xs).length ≤ 3 * xs.length := by
  induction xs with
  | nil => simp [enc]
  | cons a xs ih =>
    have h1 := ih (fun b hb => h b (by simp [hb]))
    have h2 := h a (by simp)
    have h3 := encN_len (a + 1).toNat (by omega)
    rw [enc_cons, List.length_append, List.length_cons]
    unfold encI
    omega

abbrev pnum (p : Pc) : List Int := [p.1, p.2.1, p.2.2.1, p.2.2.2]
abbrev lnum (l : Lc) : List Int := [l.1, l.2]
def allP (ps : List Pc) : List Int := (ps.length : Int) :: ps.flatMap pnum
def allL (ls : List Lc) : List Int := (ls.length : Int) :: ls.flatMap lnum
def allW (x : Wd) : List Int := x.nums ++ (allP x.ps ++ allL x.ls)
def packW (x : Wd) : List Nat := if okW x then enc (allW x) else []

theorem okL_mem {α : Type} {m : Nat} {fit : α → Bool} {ord : α → α → Int} {xs : List α} (h : okL m fit ord xs = true) : xs.length ≤ m ∧ ∀ x ∈ xs, fit x = true := by
  unfold okL at h
  rw [Bool.and_eq_true] at h
  refine ⟨of_decide_eq_true h.1, fun x hx => ?_⟩
  obtain ⟨i, hi, e⟩ := List.getElem_of_mem hx
  have g := List.all_eq_true.1 h.2 i (List.mem_range.2 hi)
  have hx' : xs[i]? = some x := by rw [List.getElem?_eq_getElem hi, e]
  cases i with
  | zero => rw [goodAt_zero hx'] at g; exact g
  | succ j =>
    have hy : xs[j]? = some (xs[j]'(by omega)) := List.getElem?_eq_getElem (by omega)
    rw [goodAt_succ hx' hy, Bool.and_eq_true] at g
    exact g.1

theorem allW_num {x : Wd} (h : okW x = true) : ∀ a ∈ allW x, -1 ≤ a ∧ a ≤ 99999 := by
  intro a ha
  obtain ⟨l1, f1⟩ := okL_mem (okW_ps h)
  obtain ⟨l2, f2⟩ := okL_mem (okW_ls h)
  simp only [allW, allP, allL, List.mem_append, List.mem_cons, List.mem_flatMap] at ha
  rcases ha with ha | (rfl | ⟨p, hp, ha⟩) | (rfl | ⟨l, hl, ha⟩)
  · exact okW_nums h a ha
  · omega
  · have := f1 p hp
    simp only [fitP, inI, Bool.and_eq_true, decide_eq_true_eq] at this
    simp only [List.not_mem_nil, or_false] at ha
    rcases ha with rfl | rfl | rfl | rfl <;> omega
  · omega
  · have := f2 l hl
    simp only [fitL, inI, Bool.and_eq_true, decide_eq_true_eq] at this
    simp only [List.not_mem_nil, or_false] at ha
    rcases ha with rfl | rfl <;> omega

theorem allW_len (x : Wd) : (allW x).length = 26 + 4 * x.ps.length + 2 * x.ls.length := by
  have e1 : (x.ps.flatMap pnum).length = 4 * x.ps.length := by
    generalize x.ps = ps
    induction ps with
    | nil => rfl
    | cons p ps ih => rw [List.flatMap_cons, List.length_append, ih, List.length_cons]; simp; omega
  have e2 : (x.ls.flatMap lnum).length = 2 * x.ls.length := by
    generalize x.ls = ls
    induction ls with
    | nil => rfl
    | cons p ps ih => rw [List.flatMap_cons, List.length_append, ih, List.length_cons]; simp; omega
  simp only [allW, allP, allL, List.length_append, List.length_cons, e1, e2, Wd.nums, List.length_nil]
  omega

theorem packW_len (x : Wd) : (packW x).length ≤ 3 * (26 + 4 * x.ps.length + 2 * x.ls.length) ∧ (packW x).length ≤ 822 := by
  unfold packW
  split
  · rename_i h
    have h1 := (enc_len (allW x) (fun a ha => (allW_num h a ha).2)).2
    rw [allW_len] at h1
    have h2 := (okL_mem (okW_ps h)).1
    have h3 := (okL_mem (okW_ls h)).1
    exact ⟨h1, by omega⟩
  · simp
theorem packW_byte (x : Wd) : ∀ b ∈ packW x, b < 256 := by
  unfold packW
  split
  · exact enc_byte _
  · simp

theorem packW_pos {x : Wd} (h : okW x = true) : 26 ≤ (packW x).length := by
  unfold packW
  rw [if_pos h]
  have h1 := (enc_len (allW x) (fun a ha => (allW_num h a ha).2)).1
  rw [allW_len] at h1
  omega

end Go.Proofs.Ytdnojnkcmncffaa

/- What the laws' own helpers do with words: contracts; no statement of the seat is proved here. -/
namespace Go.Proofs.Ytdnojnkcmncffaa
open Go.RowKit

set_option maxHeartbeats 2000000 in
theorem szWord_any (x : Wd) (po lo : Option Addr) (pn pc ln lc : Nat) (w : World) (hp : pn ≤ 9223372036854775807) (hl : ln ≤ 9223372036854775807) :
    Calls Try.prog 9 #[ .agg #[.int .i64 x.a0, .int .i64 x.a1, .int .i64 x.a2, .int .i64 x.a3, .int .i64 x.a4, .int .i64 x.a5, .int .i64 x.c0, .int .i64 x.c1, .int .i64 x.c2, .int .i64 x.c3, .int .i64 x.c4, .int .i64 x.c5, .int .i64 x.c6, .int .i64 x.c7, .int .i64 x.c8, .int .i64 x.c9, .int .i64 x.b0, .int .i64 x.b1, .int .i64 x.b2, .int .i64 x.b3, .int .i64 x.b4, .int .i64 x.b5, .int .i64 x.b6, .int .i64 x.b7, .slice po pn pc, .slice lo ln lc], .int .i64 1048576] w fun e w' => ∃ r, e = .returned (.int .i64 r) ∧ (r < 0 ∨ (0 ≤ r ∧ pn ≤ 1048576 ∧ ln ≤ 1048576)) ∧ Below w.heap.size w w' := by
  have hal : Below w.heap.size w (w.alloc (.cells (#[.int .i64 x.a0, .int .i64 x.a1, .int .i64 x.a2, .int .i64 x.a3, .int .i64 x.a4, .int .i64 x.a5, .int .i64 x.c0, .int .i64 x.c1, .int .i64 x.c2, .int .i64 x.c3, .int .i64 x.c4, .int .i64 x.c5, .int .i64 x.c6, .int .i64 x.c7, .int .i64 x.c8, .int .i64 x.c9, .int .i64 x.b0, .int .i64 x.b1, .int .i64 x.b2, .int .i64 x.b3, .int .i64 x.b4, .int .i64 x.b5, .int .i64 x.b6, .int .i64 x.b7, .slice po pn pc, .slice lo ln lc] : Array Value) 27)) := (Below.refl _ _).alloc (Nat.le_refl _) _
  go_enter Try.func9, Try.ntmps9
  go_wp2_with fail
  refine (szBlkPieceS_any _ _ _ 1048576 _ hp (by omega) (by omega)).mono ?_
  rintro e w1 ⟨r, rfl, hz, b1⟩
  rcases hz with hneg | ⟨hr1, hr2⟩
  · go_wp2
    go_ret
    exact ⟨_, rfl, .inl (by omega), bAll hal b1⟩
  · have hc1 : w1.cell? ⟨w.heap.size, 25, none⟩ = some (.slice lo ln lc) := (b1.cell (p := ⟨w.heap.size, 25, none⟩) (by simp)).trans (by simp)
    have Hr1 := hide hr1
    have hr3 : r ≤ 1048576 := by omega
    clear hr1
    go_wp2_with fail
    refine (szBlkLastS_any _ _ _ _ _ hl hr2 hr3).mono ?_
    rintro e w2 ⟨r2, rfl, hz2, b2⟩
    rcases hz2 with hneg | ⟨hr4, hr5⟩
    · go_wp2
      go_ret
      exact ⟨_, rfl, .inl (by omega), bAll (bAll hal b1) b2⟩
    · have Hr4 := hide hr4
      clear hr4
      go_wp2
      go_ret
      exact ⟨_, rfl, .inr ⟨hr5, by have := Hr4.out; have := Hr1.out; omega, by have := Hr4.out; have := Hr1.out; omega⟩, bAll (bAll hal b1) b2⟩

set_option maxHeartbeats 2000000 in
theorem toCmd_any (x : Wd) (w : World) :
    Calls Try.prog 36 #[ .agg #[.int .i64 x.c0, .int .i64 x.c1, .int .i64 x.c2, .int .i64 x.c3, .int .i64 x.c4, .int .i64 x.c5, .int .i64 x.c6, .int .i64 x.c7, .int .i64 x.c8, .int .i64 x.c9] ] w fun e w' => e = .returned (.agg #[.int .i64 x.c0, .int .i64 x.c1, .int .i64 x.c2, .int .i64 x.c3, .int .i64 x.c4, .int .i64 x.c5, .int .i64 x.c6, .int .i64 x.c7, .int .i64 x.c8, .int .i64 x.c9]) ∧ w' = ((w.alloc (.cells #[.int .i64 x.c0, .int .i64 x.c1, .int .i64 x.c2, .int .i64 x.c3, .int .i64 x.c4, .int .i64 x.c5, .int .i64 x.c6, .int .i64 x.c7, .int .i64 x.c8, .int .i64 x.c9] 23)).alloc (.cells #[.int .i64 x.c0, .int .i64 x.c1, .int .i64 x.c2, .int .i64 x.c3, .int .i64 x.c4, .int .i64 x.c5, .int .i64 x.c6, .int .i64 x.c7, .int .i64 x.c8, .int .i64 x.c9] 30)).alloc (.cells #[.int .i64 x.c0, .int .i64 x.c1, .int .i64 x.c2, .int .i64 x.c3, .int .i64 x.c4, .int .i64 x.c5, .int .i64 x.c6, .int .i64 x.c7, .int .i64 x.c8, .int .i64 x.c9] 30) := by
  go_enter Try.func36, Try.ntmps36
  go_wp2
  exact bodyPost_ret (v := .agg #[.int .i64 x.c0, .int .i64 x.c1, .int .i64 x.c2, .int .i64 x.c3, .int .i64 x.c4, .int .i64 x.c5, .int .i64 x.c6, .int .i64 x.c7, .int .i64 x.c8, .int .i64 x.c9]) (by simp [results, Try.results36, go_sem]) rfl ⟨rfl, rfl⟩

/-- A word that lies so: its value, and its lists in memory. -/
def WdR (w : World) (v : Value) (x : Wd) : Prop :=
  ∃ po pc lo lc, v = .agg #[.int .i64 x.a0, .int .i64 x.a1, .int .i64 x.a2, .int .i64 x.a3, .int .i64 x.a4, .int .i64 x.a5, .int .i64 x.c0, .int .i64 x.c1, .int .i64 x.c2, .int .i64 x.c3, .int .i64 x.c4, .int .i64 x.c5, .int .i64 x.c6, .int .i64 x.c7, .int .i64 x.c8, .int .i64 x.c9, .int .i64 x.b0, .int .i64 x.b1, .int .i64 x.b2, .int .i64 x.b3, .int .i64 x.b4, .int .i64 x.b5, .int .i64 x.b6, .int .i64 x.b7, .slice po x.ps.length pc, .slice lo x.ls.length lc] ∧ RowR w 4 (.slice po x.ps.length pc) x.ps.length (pcells x.ps) ∧ RowR w 2 (.slice lo x.ls.length lc) x.ls.length (lcells x.ls)
def WdO (w : World) (S : Nat → Prop) (v : Value) (x : Wd) : Prop :=
  ∃ po pc lo lc, v = .agg #[.int .i64 x.a0, .int .i64 x.a1, .int .i64 x.a2, .int .i64 x.a3, .int .i64 x.a4, .int .i64 x.a5, .int .i64 x.c0, .int .i64 x.c1, .int .i64 x.c2, .int .i64 x.c3, .int .i64 x.c4, .int .i64 x.c5, .int .i64 x.c6, .int .i64 x.c7, .int .i64 x.c8, .int .i64 x.c9, .int .i64 x.b0, .int .i64 x.b1, .int .i64 x.b2, .int .i64 x.b3, .int .i64 x.b4, .int .i64 x.b5, .int .i64 x.b6, .int .i64 x.b7, .slice po x.ps.length pc, .slice lo x.ls.length lc] ∧ Row w 83 4 S (.slice po x.ps.length pc) x.ps.length (pcells x.ps) ∧ Row w 86 2 S (.slice lo x.ls.length lc) x.ls.length (lcells x.ls)

theorem WdO.reads {w : World} {S : Nat → Prop} {v : Value} {x : Wd} (h : WdO w S v x) : WdR w v x := by
  obtain ⟨po, pc, lo, lc, e, h1, h2⟩ := h
  exact ⟨po, pc, lo, lc, e, h1.reads, h2.reads⟩
theorem WdR.keep {w w' : World} {v : Value} {x : Wd} (h : WdR w v x) (hb : Below w.heap.size w w') : WdR w' v x := by
  obtain ⟨po, pc, lo, lc, e, h1, h2⟩ := h
  exact ⟨po, pc, lo, lc, e, h1.keep hb, h2.keep hb⟩
theorem WdO.keep {w w' : World} {S T : Nat → Prop} {v : Value} {x : Wd} (h : WdO w S v x) (hb : Upd T w w') (hST : ∀ k, S k → ¬ T k) : WdO w' S v x := by
  obtain ⟨po, pc, lo, lc, e, h1, h2⟩ := h
  exact ⟨po, pc, lo, lc, e, h1.keep hb hST, h2.keep hb hST⟩
theorem WdO.keepB {w w' : World} {S : Nat → Prop} {v : Value} {x : Wd} (h : WdO w S v x) (hb : Below w.heap.size w w') : WdO w' S v x := by
  obtain ⟨po, pc, lo, lc, e, h1, h2⟩ := h
  exact ⟨po, pc, lo, lc, e, h1.keepB hb, h2.keepB hb⟩
theorem WdO.mono {w : World} {S T : Nat → Prop} {v : Value} {x : Wd} (h : WdO w S v x) (hST : ∀ k, k < w.heap.size → S k → T k) : WdO w T v x := by
  obtain ⟨po, pc, lo, lc, e, h1, h2⟩ := h
  exact ⟨po, pc, lo, lc, e, h1.mono hST, h2.mono hST⟩

theorem heap_up {w : World} {g : Nat} {o : Obj} (a : Obj) (h : w.heap[g]? = some o) : (w.alloc a).heap[g]? = some o := (Below.heap_alloc _ _ _ (heap_lt h)).trans h
theorem bal {W w : World} (h : Below W.heap.size W w) (o : Obj) : Below W.heap.size W (w.alloc o) := h.alloc h.size o
theorem boxAt {w : World} {g : Nat} {cur : Array Value} {e : TypeId} (h : w.heap[g]? = some (.cells cur e (0, 0))) : ∀ j, w.cell? ⟨g, j, none⟩ = cur[j]? := fun j => cell_of_row w g j cur e (0, 0) h
theorem boxFz {w : World} {g : Nat} {cur : Array Value} {e : TypeId} (h : w.heap[g]? = some (.cells cur e (0, 0))) : ∀ j, w.frozen? ⟨g, j, none⟩ = false := fun j => frozen_of_row w g j cur e h

theorem wd_one (x : Wd) (po lo : Option Addr) (pn pc ln lc : Nat) : ∀ v ∈ (#[.int .i64 x.a0, .int .i64 x.a1, .int .i64 x.a2, .int .i64 x.a3, .int .i64 x.a4, .int .i64 x.a5, .int .i64 x.c0, .int .i64 x.c1, .int .i64 x.c2, .int .i64 x.c3, .int .i64 x.c4, .int .i64 x.c5, .int .i64 x.c6, .int .i64 x.c7, .int .i64 x.c8, .int .i64 x.c9, .int .i64 x.b0, .int .i64 x.b1, .int .i64 x.b2, .int .i64 x.b3, .int .i64 x.b4, .int .i64 x.b5, .int .i64 x.b6, .int .i64 x.b7, .slice po pn pc, .slice lo ln lc] : Array Value).toList, v.oneCell' = true := by
  have : (#[.int .i64 x.a0, .int .i64 x.a1, .int .i64 x.a2, .int .i64 x.a3, .int .i64 x.a4, .int .i64 x.a5, .int .i64 x.c0, .int .i64 x.c1, .int .i64 x.c2, .int .i64 x.c3, .int .i64 x.c4, .int .i64 x.c5, .int .i64 x.c6, .int .i64 x.c7, .int .i64 x.c8, .int .i64 x.c9, .int .i64 x.b0, .int .i64 x.b1, .int .i64 x.b2, .int .i64 x.b3, .int .i64 x.b4, .int .i64 x.b5, .int .i64 x.b6, .int .i64 x.b7, .slice po pn pc, .slice lo ln lc] : Array Value).toList.all (·.oneCell') = true := rfl
  exact List.all_eq_true.1 this
theorem infoWd : (Try.prog.info? 34).map (·.size) = some 26 := by kernel_rfl

end Go.Proofs.Ytdnojnkcmncffaa
