/- Contracts and plain facts that this claim leans on (texts BS6, BT6, BM3, BM2, BS7, BT7, XI2); no statement of the seat is proved here. -/
import Derived.Test.YtdnojnkcmncffaaWk11
import Derived.Test.YtdnojnkcmncffaaWk4
import Derived.Test.YtdnojnkcmncffaaWk6
import Derived.Test.YtdnojnkcmncffaaWk9
import Derived.Deep.WholeRow

/- Copies of pieces, and pieces with one put into its place: contracts; no statement of the seat is proved here. -/
namespace Go.Proofs.Ytdnojnkcmncffaa
open Go.RowKit

/-- A part of a slice. -/
theorem RowR.drop {w : World} {size n k : Nat} {b off cap c' : Nat} {cs : List Value} (h : RowR w size (.slice (some ⟨b, off, none⟩) n cap) n cs) (hk : k ≤ n) : RowR w size (.slice (some ⟨b, off + k * size, none⟩) (n - k) c') (n - k) (cs.drop (k * size)) := by
  obtain ⟨ao, ca, e, hn, hl, h⟩ := h
  injection e with e1 e2 e3
  subst e1
  refine ⟨_, _, rfl, by omega, by rw [List.length_drop, hl, Nat.sub_mul], fun h0 => ⟨b, off + k * size, rfl, fun j u hj => ?_⟩⟩
  obtain ⟨b', off', e, hc⟩ := h (by omega)
  injection e with e
  injection e with e1 e2
  subst e1 e2
  rw [List.getElem?_drop] at hj
  rw [Nat.add_assoc]
  exact hc _ u hj
theorem RowR.take {w : World} {size n k : Nat} {ao : Option Addr} {cap c' : Nat} {cs : List Value} (h : RowR w size (.slice ao n cap) n cs) (hk : k ≤ n) : RowR w size (.slice ao k c') k (cs.take (k * size)) := by
  obtain ⟨ao', ca, e, hn, hl, h⟩ := h
  injection e with e1 e2 e3
  subst e1
  refine ⟨_, _, rfl, by omega, by rw [List.length_take, hl, Nat.min_eq_left (Nat.mul_le_mul_right _ hk)], fun h0 => ?_⟩
  obtain ⟨b', off', rfl, hc⟩ := h (by omega)
  refine ⟨b', off', rfl, fun j u hj => hc j u ?_⟩
  have := (List.getElem?_eq_some_iff.1 hj).1
  rw [List.length_take] at this
  rwa [List.getElem?_take_of_lt (by omega)] at hj

theorem owns_mono {w : World} {base base' : Nat} {e : TypeId} {size : Nat} {v : Value} {n : Nat} {cs : List Value} (h : w.ownsRow base e size v n cs) (hb : base' ≤ base) : w.ownsRow base' e size v n cs := by
  obtain ⟨hl, h⟩ := h
  refine ⟨hl, ?_⟩
  rcases h with h | ⟨g, cap, cur, h0, hg, h'⟩
  · exact .inl h
  · exact .inr ⟨g, cap, cur, h0, by omega, h'⟩
theorem bAll3 {a b c : World} {e : TypeId} (h : Below a.heap.size a b) (u : Upd (typed b (fun k => a.heap.size ≤ k) e) b c) : Below a.heap.size a c := h.trans (u.below h.size (fun _ hk => hk.1))
theorem newP_cells (w : World) (x : Pc) (e : TypeId) : ∀ j u, (pcell x)[j]? = some u → (w.alloc (.cells #[.int .i64 x.1, .int .i64 x.2.1, .int .i64 x.2.2.1, .int .i64 x.2.2.2] e)).cell? ((⟨w.heap.size, 0, none⟩ : Addr).add j) = some u := by
  intro j u h
  rw [Addr.add_lit, Nat.zero_add, cell_of_row _ _ j _ _ (0, 0) (al1_0 w _)]
  simpa [pcell] using h
theorem RowR.zero {w : World} {size c : Nat} {ao : Option Addr} : RowR w size (.slice ao 0 c) 0 [] := ⟨ao, c, rfl, by omega, by simp, fun h => by omega⟩

end Go.Proofs.Ytdnojnkcmncffaa

/- Copies of last calls, and with one put into its place: contracts; no statement of the seat is proved here. -/
namespace Go.Proofs.Ytdnojnkcmncffaa
open Go.RowKit

theorem newC_cells (w : World) (x : Lc) (e : TypeId) : ∀ j u, (lcell x)[j]? = some u → (w.alloc (.cells #[.int .i64 x.1, .int .i64 x.2] e)).cell? ((⟨w.heap.size, 0, none⟩ : Addr).add j) = some u := by
  intro j u h
  rw [Addr.add_lit, Nat.zero_add, cell_of_row _ _ j _ _ (0, 0) (al1_0 w _)]
  simpa [lcell] using h

end Go.Proofs.Ytdnojnkcmncffaa

/- What a look at last calls and a mark give, and plain facts on them; no statement of the seat is proved here. -/
namespace Go.Proofs.Ytdnojnkcmncffaa

/-- The last call of a client. -/
def callL (xs : List Lc) (c : Int) : Int :=
  match xs.find? (fun y => decide (y.1 = c)) with
  | some y => y.2
  | none => 0
def callR (xs : List Lc) (c : Int) : Int := if okC xs = true then callL xs c else 0
def markR (xs : List Lc) (c l : Int) : List Lc := if okC xs = true then (if (inI c 0 3 && (inI l 1 99999 && decide (callL xs c < l))) = true then insL ordL xs (c, l) else xs) else []

theorem ordL_neg {x y : Lc} : ordL x y < 0 ↔ x.1 < y.1 := cmpI_neg
theorem ordL_zero {x y : Lc} : ordL x y = 0 ↔ x.1 = y.1 := cmpI_zero
theorem asc_unique {α : Type} {ord : α → α → Int} (ho : OrdOk ord) : ∀ {xs : List α}, Asc ord xs → ∀ y ∈ xs, ∀ z ∈ xs, ord y z = 0 → y = z
  | [], _, y, hy, _, _, _ => by simp at hy
  | x :: xs, h, y, hy, z, hz, e => by
    have p := List.pairwise_cons.1 h
    rcases List.mem_cons.1 hy with e1 | hy'
    · rcases List.mem_cons.1 hz with e2 | hz'
      · rw [e1, e2]
      · have := p.1 z hz'
        rw [e1] at e
        omega
    · rcases List.mem_cons.1 hz with e2 | hz'
      · have h1 := p.1 y hy'
        rw [e2] at e
        have h2 := (ho.flip x y).2 h1
        omega
      · exact asc_unique ho p.2 y hy' z hz' e

theorem call_mem {xs : List Lc} (hs : Asc ordL xs) {y : Lc} (hy : y ∈ xs) : callL xs y.1 = y.2 := by
  rcases hf : xs.find? (fun z => decide (z.1 = y.1)) with _ | z
  · have := List.find?_eq_none.1 hf y hy
    simp at this
  · have h1 := List.find?_some hf
    have h2 := List.mem_of_find?_eq_some hf
    simp at h1
    have := asc_unique ordOkL hs z h2 y hy (ordL_zero.2 h1)
    subst this
    simp only [callL, hf]
theorem call_none {xs : List Lc} {c : Int} (h : ∀ y ∈ xs, y.1 ≠ c) : callL xs c = 0 := by
  have hf : xs.find? (fun y => decide (y.1 = c)) = none := List.find?_eq_none.2 (fun y hy => by simpa using h y hy)
  simp only [callL, hf]
theorem call_some {xs : List Lc} {c : Int} (h : callL xs c ≠ 0) : (c, callL xs c) ∈ xs := by
  rcases hf : xs.find? (fun y => decide (y.1 = c)) with _ | z
  · simp only [callL, hf] at h
    exact absurd rfl h
  · have h1 := List.find?_some hf
    have h2 := List.mem_of_find?_eq_some hf
    simp at h1
    have e : callL xs c = z.2 := by simp only [callL, hf]
    rw [e, ← h1]
    exact h2

theorem inI_iff {n lo hi : Int} : inI n lo hi = true ↔ lo ≤ n ∧ n ≤ hi := by simp [inI]
theorem fitL_iff {x : Lc} : fitL x = true ↔ (0 ≤ x.1 ∧ x.1 ≤ 3) ∧ 1 ≤ x.2 ∧ x.2 ≤ 99999 := by simp [fitL, inI]

theorem callR_zero (xs : List Lc) (c : Int) : 0 ≤ callR xs c := by
  unfold callR
  split
  · rename_i h
    by_cases h0 : callL xs c = 0
    · omega
    · have := fitL_iff.1 (ok_fit h _ (call_some h0))
      simp only at this
      omega
  · omega

theorem markR_len (xs : List Lc) (c l : Int) : (markR xs c l).length ≤ 60 := by
  unfold markR
  split
  · rename_i h
    have h1 : xs.length ≤ 4 := ok_len h
    split
    · have := ins_len (ord := ordL) xs (c, l); omega
    · omega
  · simp

/-- What the specification's loop of a mark builds. -/
def nOf (xs : List Lc) (c l : Int) (k : Int) : Int := if k = c then l else callL xs k
def bldL (xs : List Lc) (c l : Int) : Nat → List Lc
  | 0 => []
  | k + 1 => bldL xs c l k ++ (if 0 < nOf xs c l k then [((k : Int), nOf xs c l k)] else [])

theorem bld_mem (xs : List Lc) (c l : Int) : ∀ (k : Nat) (z : Lc), z ∈ bldL xs c l k ↔ 0 ≤ z.1 ∧ z.1 < k ∧ 0 < z.2 ∧ z.2 = nOf xs c l z.1
  | 0, z => by simp [bldL]; omega
  | k + 1, z => by
    rw [bldL, List.mem_append, bld_mem xs c l k z]
    obtain ⟨a, b⟩ := z
    simp only
    constructor
    · rintro (⟨h1, h2, h3, h4⟩ | h)
      · exact ⟨h1, by omega, h3, h4⟩
      · split at h
        · rename_i hp
          simp only [List.mem_singleton, Prod.mk.injEq] at h
          obtain ⟨rfl, rfl⟩ := h
          exact ⟨by omega, by omega, hp, rfl⟩
        · simp at h
    · rintro ⟨h1, h2, h3, h4⟩
      by_cases hk : a < (k : Int)
      · exact .inl ⟨h1, hk, h3, h4⟩
      · obtain rfl : a = (k : Int) := by omega
        right
        rw [← h4, if_pos h3]
        simp
theorem bld_asc (xs : List Lc) (c l : Int) : ∀ k : Nat, Asc ordL (bldL xs c l k)
  | 0 => List.Pairwise.nil
  | k + 1 => by
    rw [bldL, Asc, List.pairwise_append]
    refine ⟨bld_asc xs c l k, ?_, fun y hy z hz => ?_⟩
    · split <;> simp
    · have h1 := (bld_mem xs c l k y).1 hy
      split at hz
      · simp only [List.mem_singleton] at hz
        subst hz
        rw [ordL_neg]
        exact h1.2.1
      · simp at hz
theorem bld_ins {xs : List Lc} {c l : Int} (hok : okC xs = true) (hc : 0 ≤ c ∧ c ≤ 3) (hl : 1 ≤ l) : bldL xs c l 4 = insL ordL xs (c, l) := by
  have hs := ok_asc ordOkL hok
  refine asc_ext ordOkL (bld_asc xs c l 4) (ins_asc ordOkL hs) (fun z => ?_)
  rw [bld_mem, ins_mem]
  obtain ⟨a, b⟩ := z
  simp only [Prod.mk.injEq, ne_eq, ordL_zero]
  constructor
  · rintro ⟨h1, h2, h3, h4⟩
    rw [nOf] at h4
    by_cases e : a = c
    · rw [if_pos e] at h4
      exact .inl ⟨e, h4⟩
    · rw [if_neg e] at h4
      have := call_some (xs := xs) (c := a) (by omega)
      rw [← h4] at this
      exact .inr ⟨this, e⟩
  · rintro (⟨rfl, rfl⟩ | ⟨h1, h2⟩)
    · exact ⟨by omega, by omega, by omega, by rw [nOf, if_pos rfl]⟩
    · have hf := fitL_iff.1 (ok_fit hok _ h1)
      simp only at hf
      have := call_mem hs h1
      simp only at this
      exact ⟨by omega, by omega, by omega, by rw [nOf, if_neg h2, this]⟩
theorem bld_len (xs : List Lc) (c l : Int) : ∀ k : Nat, (bldL xs c l k).length ≤ k
  | 0 => by simp [bldL]
  | k + 1 => by
    have := bld_len xs c l k
    rw [bldL, List.length_append]
    split <;> simp <;> omega
theorem okC_nonneg {xs : List Lc} (h : okC xs = true) (c : Int) : 0 ≤ callL xs c := by
  have := callR_zero xs c
  rwa [callR, if_pos h] at this

end Go.Proofs.Ytdnojnkcmncffaa

/- What a write, a look and a drop of pieces give, and plain facts on them; no statement of the seat is proved here. -/
namespace Go.Proofs.Ytdnojnkcmncffaa

/-- Pieces behind a write, and whether it was done. -/
def putR (xs : List Pc) (x : Pc) : List Pc × Bool := if okP xs = true then (if okP (insL ordP xs x) = true then (insL ordP xs x, true) else (xs, false)) else ([], false)
theorem putR_len (xs : List Pc) (x : Pc) : (putR xs x).1.length ≤ 60 := by
  unfold putR
  split
  · rename_i h
    split
    · rename_i h'
      exact ok_len h'
    · exact ok_len h
  · simp
/-- What the specification's loop of a write has behind some pieces. -/
inductive PutAt (x : Pc) (ys out : List Pc) : Bool → Prop
  | before (h : ∀ y ∈ ys, ordP y x < 0) (e : out = ys) : PutAt x ys out false
  | behind (h : ∃ y ∈ ys, 0 ≤ ordP y x) (e : out = insL ordP ys x) : PutAt x ys out true

theorem put_start (x : Pc) : PutAt x [] [] false := .before (by simp) rfl
theorem ins_snoc {ys : List Pc} {x y : Pc} (h : 0 < ordP y x) : insL ordP (ys ++ [y]) x = insL ordP ys x ++ [y] := by
  have h1 : ¬ ordP y x < 0 := by omega
  simp [insL, h, h1]
theorem put_step {x y : Pc} {ys out : List Pc} {done : Bool} (hs : Asc ordP (ys ++ [y])) (h : PutAt x ys out done) :
    PutAt x (ys ++ [y]) ((if done = false ∧ ¬ ordP y x < 0 then out ++ [x] else out) ++ (if ordP y x = 0 then [] else [y])) (done || decide (¬ ordP y x < 0)) := by
  cases h with
  | before h e =>
    subst e
    by_cases hy : ordP y x < 0
    · rw [if_neg (by simp [hy]), if_neg (by omega)]
      have e1 : (false || decide (¬ ordP y x < 0)) = false := by simp [hy]
      rw [e1]
      refine .before (fun z hz => ?_) rfl
      rcases List.mem_append.1 hz with hz | hz
      · exact h z hz
      · obtain rfl : z = y := by simpa using hz
        exact hy
    · rw [if_pos ⟨rfl, hy⟩]
      have e1 : (false || decide (¬ ordP y x < 0)) = true := by simp; omega
      rw [e1]
      refine .behind ⟨y, by simp, by omega⟩ ?_
      rw [insL, List.filter_append, List.filter_append, (filter_lo h).1, (filter_lo h).2]
      by_cases h0 : ordP y x = 0
      · simp [h0]
      · have h2 : 0 < ordP y x := by omega
        simp [h0, hy, h2]
  | behind h e =>
    subst e
    obtain ⟨z, hz, hz0⟩ := h
    have hyx : 0 < ordP y x := ordOkP.above hz0 ((List.pairwise_append.1 hs).2.2 z hz y (by simp))
    rw [if_neg (by simp), if_neg (by omega), Bool.true_or, ← ins_snoc hyx]
    exact .behind ⟨z, by simp [hz], hz0⟩ rfl
theorem put_end {x : Pc} {ys out : List Pc} {done : Bool} (h : PutAt x ys out done) : (if done = false then out ++ [x] else out) = insL ordP ys x := by
  cases h with
  | before h e => subst e; rw [if_pos rfl, insL, (filter_lo h).1, (filter_lo h).2]
  | behind h e => subst e; rw [if_neg (by simp)]
theorem put_len {x : Pc} {ys out : List Pc} {done : Bool} (h : PutAt x ys out done) : out.length ≤ ys.length + 1 := by
  cases h with
  | before h e => subst e; omega
  | behind h e => subst e; exact ins_len _ _

end Go.Proofs.Ytdnojnkcmncffaa

/- BlkPut, BlkGet and BlkDrop of the program: contracts; no statement of the seat is proved here. -/
namespace Go.Proofs.Ytdnojnkcmncffaa
open Go.RowKit

theorem owns_shape {w : World} {base : Nat} {e : TypeId} {size : Nat} {v : Value} {n : Nat} {cs : List Value} (h : w.ownsRow base e size v n cs) : ∃ ao ca, v = .slice ao n ca ∧ n ≤ ca := by
  rcases h.2 with ⟨rfl, rfl⟩ | ⟨g, cap, cur, rfl, _, _, hnc, _⟩
  · exact ⟨none, 0, rfl, Nat.le_refl _⟩
  · exact ⟨_, cap, rfl, hnc⟩
theorem owns_reads {w : World} {base : Nat} {e : TypeId} {size : Nat} {v : Value} {n : Nat} {cs : List Value} (h : w.ownsRow base e size v n cs) (hn : n ≤ 9223372036854775807) : RowR w size v n cs := (Row.ofOwns h hn).reads
theorem owns_keep {w w' : World} {base : Nat} {e : TypeId} {size : Nat} {v : Value} {n : Nat} {cs : List Value} (h : w.ownsRow base e size v n cs) (hb : Below w.heap.size w w') : w'.ownsRow base e size v n cs := by
  obtain ⟨hl, h⟩ := h
  refine ⟨hl, ?_⟩
  rcases h with h | ⟨g, cap, cur, rfl, hg, hh, h1, h2, h3, h4⟩
  · exact .inl h
  · exact .inr ⟨g, cap, cur, rfl, hg, bKeeps hb hh, h1, h2, h3, h4⟩

end Go.Proofs.Ytdnojnkcmncffaa

/- blkInForm, BlkCall and BlkMark of the program: contracts; no statement of the seat is proved here. -/
namespace Go.Proofs.Ytdnojnkcmncffaa
open Go.RowKit

set_option maxHeartbeats 1000000 in
theorem inForm_any (v : Value) (xs : List Lc) (w : World) (hr : RowR w 2 v xs.length (lcells xs)) :
    Calls Try.prog 104 #[v] w fun e w' => e = .returned (.bool (okC xs)) ∧ Below w.heap.size w w' := by
  have Hr := hide hr
  obtain ⟨ao, ca, rfl, hn, -⟩ := hr
  obtain ⟨R, HR⟩ : ∃ R, Hid (okC xs = R) := ⟨_, rfl⟩
  rw [HR.out]
  obtain ⟨n, hnn⟩ : ∃ n, xs.length = n := ⟨_, rfl⟩
  have Hl := hide hnn
  rw [hnn] at hn Hr ⊢
  clear hnn
  by_cases hlong : (n : Int) ≤ 4
  · obtain ⟨q, hq⟩ : ∃ q, (List.range n).all (goodAt fitL ordL xs) = q := ⟨_, rfl⟩
    have cS := sortedC_any _ n xs w Hr.out
    rw [hq] at cS
    have HQ : Hid (R = q) := by
      show _ = _
      rw [← HR.out, ← hq, okC, okL, Hl.out]
      simp
      omega
    clear hq
    go_enter Try.func104, Try.ntmps104
    go_wp2_with fail
    refine cS.mono ?_
    rintro e w1 ⟨rfl, b1⟩
    go_wp2
    go_ret
    exact ⟨by rw [HQ.out]; rfl, b1⟩
  · have hno : Hid (R = false) := by show _ = _; rw [← HR.out]; exact okL_long (by rw [Hl.out]; omega)
    go_enter Try.func104, Try.ntmps104
    go_wp2
    go_ret
    exact ⟨by rw [hno.out]; rfl, Below.refl _ _⟩

end Go.Proofs.Ytdnojnkcmncffaa

/- Whether the numbers of a word are in bounds, and whether a word fits, in the program: contracts; no statement of the seat is proved here. -/
namespace Go.Proofs.Ytdnojnkcmncffaa
open Go.RowKit

set_option maxRecDepth 100000 in
set_option maxHeartbeats 2000000 in
theorem wordInBounds_any (N b o n c : Nat) (xs : List Int) (w : World) (hn : n ≤ 24) (hl : xs.length = n) (hN : ∀ k, k < n → w.cell? ⟨N, k, none⟩ = some (.pointer (some ⟨b, o + k, none⟩))) (hX : ∀ k a, xs[k]? = some a → w.cell? ⟨b, o + k, none⟩ = some (.int .i64 a)) :
    Calls Try.prog 100 #[.slice (some ⟨N, 0, none⟩) n c] w fun e w' => e = .returned (.bool (xs.all numI)) ∧ w' = w := by
  obtain ⟨R, HR⟩ : ∃ R, Hid (xs.all numI = R) := ⟨_, rfl⟩
  rw [HR.out]
  have HL := hide hl
  have HN := hide hN
  have HX := hide hX
  clear hl hN hX
  go_enter Try.func100, Try.ntmps100
  go_wp2
  go_loopw [7] (fun i wr => ∃ k : Nat, k ≤ n ∧ i = .int .i64 k ∧ (∀ j a, j < k → xs[j]? = some a → numI a = true) ∧ wr = w) (fun i _ => n - (intOf i).toNat)
  case atStart => exact ⟨0, Nat.zero_le _, rfl, fun j a hj => by omega, rfl⟩
  case round =>
    obtain ⟨k, hk, rfl, hgood, rfl⟩ := hrel
    have HG := hide hgood
    clear hgood
    by_cases hlt : k < n
    · obtain ⟨a, ha⟩ := getAt xs k (by have := HL.out; omega)
      have hc := HN.out k hlt
      have hd := HX.out k a ha
      have Ha := hide ha
      have hi : (k : Int) < (n : Int) := by omega
      clear ha
      go_wp2_with fail
      refine (blkWithin_any a (-1) 99999 _).mono ?_
      rintro e w' ⟨rfl, rfl⟩
      rcases hb : inI a (-1) 99999 with _ | _
      · have hno : Hid (R = false) := by
          show _ = _
          rw [← HR.out, List.all_eq_false.2 ⟨a, List.mem_of_getElem? Ha.out, by simp [numI, hb]⟩]
        go_wp2
        go_ret
        exact ⟨by rw [hno.out]; rfl, rfl⟩
      · go_wp2
        go_roundw
        case rel =>
          refine ⟨k + 1, by omega, by go_num, fun j b hj hbj => ?_, by trivial⟩
          by_cases hjk : j = k
          · subst hjk
            rw [Ha.out] at hbj
            rw [← Option.some.inj hbj]
            exact hb
          · exact HG.out j b (by omega) hbj
        case measure => simp [intOf]; omega
    · have hall : Hid (R = true) := by
        show _ = _
        rw [← HR.out]
        refine List.all_eq_true.2 (fun a ha => ?_)
        obtain ⟨j, hj, e⟩ := List.getElem_of_mem ha
        exact HG.out j a (by have := HL.out; omega) (by rw [List.getElem?_eq_getElem hj, e])
      have hge : ¬ (k : Int) < (n : Int) := by omega
      go_wp2
      go_ret
      exact ⟨by rw [hall.out]; rfl, rfl⟩

set_option maxHeartbeats 400000 in
theorem wordIsServer_any (n : Int) (w : World) :
    Calls Try.prog 108 #[.int .i64 n] w fun e w' => e = .returned (.bool (inI n 0 4)) ∧ w' = w := by
  go_enter Try.func108, Try.ntmps108
  go_wp2_with fail
  refine (blkWithin_any n 0 4 _).mono ?_
  rintro e w1 ⟨rfl, rfl⟩
  go_wp2
  go_ret
  exact ⟨rfl, rfl⟩

set_option maxHeartbeats 400000 in
theorem wordIsPlace_any (n : Int) (w : World) :
    Calls Try.prog 101 #[.int .i64 n] w fun e w' => e = .returned (.bool (placeI n)) ∧ w' = w := by
  go_enter Try.func101, Try.ntmps101
  go_wp2_with fail
  refine (wordIsServer_any n _).mono ?_
  rintro e w1 ⟨rfl, rfl⟩
  rcases h1 : inI n 0 4 with _ | _
  · have H : placeI n = inI n 100 103 := by simp [placeI, h1]
    go_wp2_with fail
    refine (blkWithin_any n 100 103 _).mono ?_
    rintro e w1 ⟨rfl, rfl⟩
    have HH := hide H
    clear H
    go_wp2
    go_ret
    exact ⟨by rw [HH.out]; rfl, rfl⟩
  · have H : placeI n = true := by simp [placeI, h1]
    go_wp2
    go_ret
    exact ⟨by rw [H]; rfl, rfl⟩

/-- The numbers of a command. -/
def Wd.cnums (x : Wd) : List Int := [x.c0, x.c1, x.c2, x.c3, x.c4, x.c5, x.c6, x.c7, x.c8, x.c9]
theorem cmdI_eq (x : Wd) : cmdI x = (inI x.c0 0 7 && x.cnums.all numI) := by
  unfold cmdI Wd.cnums
  rcases h : inI x.c0 0 7 with _ | _
  · rfl
  · have : numI x.c0 = true := by
      simp only [inI, Bool.and_eq_true, decide_eq_true_eq] at h
      simp only [numI, inI, Bool.and_eq_true, decide_eq_true_eq]
      omega
    simp only [List.all_cons, List.all_nil, this, Bool.true_and, Bool.and_true]

set_option maxRecDepth 100000 in
set_option maxHeartbeats 2000000 in
theorem cmdInForm_any (x : Wd) (w : World) :
    Calls Try.prog 102 #[ .agg #[.int .i64 x.c0, .int .i64 x.c1, .int .i64 x.c2, .int .i64 x.c3, .int .i64 x.c4, .int .i64 x.c5, .int .i64 x.c6, .int .i64 x.c7, .int .i64 x.c8, .int .i64 x.c9] ] w fun e w' => e = .returned (.bool (cmdI x)) ∧ Below w.heap.size w w' := by
  obtain ⟨R, HR⟩ : ∃ R, Hid (cmdI x = R) := ⟨_, rfl⟩
  rw [HR.out]
  go_enter Try.func102, Try.ntmps102
  go_wp2_with fail
  generalize hW : World.alloc _ _ = W
  have hal : Below w.heap.size w W := by rw [← hW]; exact bal (Below.refl _ _) _
  have B0 : W.heap[w.heap.size]? = some (.cells #[.int .i64 x.c0, .int .i64 x.c1, .int .i64 x.c2, .int .i64 x.c3, .int .i64 x.c4, .int .i64 x.c5, .int .i64 x.c6, .int .i64 x.c7, .int .i64 x.c8, .int .i64 x.c9] 30 (0, 0)) := by rw [← hW]; exact heap_alloc_new w _
  clear hW
  refine (cmdNumbers_any w.heap.size 0 _).mono ?_
  rintro e w1 ⟨ps, rfl, hps, b1⟩
  have C0 := bKeeps b1 B0
  have c1 := bAll hal b1
  have HP := hide hps
  have h10 : (Try.prog.info? 132).map (·.size) = some ps.size := by rw [hps.1]; exact info10
  have HS := hide (show 10 = ps.size from hps.1.symm)
  have H1 := hide hps.one
  have H10 := hide h10
  clear hps h10 B0 b1 hal
  have D0 := heap_up (.cells ps 132) C0
  have hN : ∀ k, k < 10 → (w1.alloc (.cells ps 132)).cell? ⟨w1.heap.size, k, none⟩ = some (.pointer (some ⟨w.heap.size, 0 + k, none⟩)) := fun k hk => (boxAt (heap_alloc_new w1 _) k).trans (HP.out.2 k hk)
  have hX : ∀ k a, x.cnums[k]? = some a → (w1.alloc (.cells ps 132)).cell? ⟨w.heap.size, 0 + k, none⟩ = some (.int .i64 a) := by
    intro k a h
    rw [boxAt D0, Nat.zero_add]
    have hk : k < 10 := (List.getElem?_eq_some_iff.1 h).1
    rcases (by omega : k = 0 ∨ k = 1 ∨ k = 2 ∨ k = 3 ∨ k = 4 ∨ k = 5 ∨ k = 6 ∨ k = 7 ∨ k = 8 ∨ k = 9) with rfl | rfl | rfl | rfl | rfl | rfl | rfl | rfl | rfl | rfl <;> (obtain rfl := Option.some.inj h; rfl)
  have HB := hide (wordInBounds_any w1.heap.size w.heap.size 0 10 10 x.cnums _ (by omega) rfl hN hX)
  have d0 : (w1.alloc (.cells ps 132)).cell? ⟨w.heap.size, 0, none⟩ = some (.int .i64 x.c0) := boxAt D0 0
  clear hN hX D0 C0
  have c2 := bal c1 (.cells ps 132)
  go_wp2_with (refine wpList_store_row rfl 132 (.tmp 3) (.tmp 4) rfl w1.heap.size ps rfl rfl _ _ (heap_alloc_new w1 _) H10.out HS.out H1.out ?_; rw [World.setRow_alloc_new])
  refine (blkWithin_any x.c0 0 7 _).mono ?_
  rintro e w' ⟨rfl, rfl⟩
  rcases hb : inI x.c0 0 7 with _ | _
  · have hno : Hid (R = false) := by show _ = _; rw [← HR.out, cmdI_eq, hb, Bool.false_and]
    go_wp2
    go_ret
    exact ⟨by rw [hno.out]; rfl, c2⟩
  · have hR : Hid (R = x.cnums.all numI) := by show _ = _; rw [← HR.out, cmdI_eq, hb, Bool.true_and]
    go_wp2_with fail
    refine HB.out.mono ?_
    rintro e w' ⟨rfl, rfl⟩
    go_wp2
    go_ret
    exact ⟨by rw [hR.out]; rfl, c2⟩

end Go.Proofs.Ytdnojnkcmncffaa
