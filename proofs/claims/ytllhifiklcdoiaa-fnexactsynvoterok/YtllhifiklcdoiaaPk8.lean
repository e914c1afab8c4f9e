/- Contracts and plain facts that the claims of this seat lean on (texts BT5, BS6, BT6, BM3, BM2, BS7, BT7, XI2, XO, XO2); no statement of the seat is proved here. -/
import Derived.Test.YtllhifiklcdoiaaPk7
import Derived.Test.YtllhifiklcdoiaaPk4
import Derived.Deep.WholeRow

/- The program's search in last calls: contracts; no statement of the seat is proved here. -/
namespace Go.Proofs.Ytllhifiklcdoiaa
open Go.RowKit

end Go.Proofs.Ytllhifiklcdoiaa

/- Copies of pieces, and pieces with one put into its place: contracts; no statement of the seat is proved here. -/
namespace Go.Proofs.Ytllhifiklcdoiaa
open Go.RowKit

theorem step_append_row {P : Program} {ops : Array Oper} {o : Oper} {a : Act} {w : World} {K : Act → World → Prop} {Q : Exit → Act → World → Prop} {E : Prop}
    (hg : o.guard = none) (s x : Operand) (t : TypeId) (hop : o.op = Op.call { callee := Callee.builtin Builtin.append, args := #[s, x], argTypes := #[t, t] })
    (base : Nat) (e : TypeId) (i : TypeInfo) (z : Value) (size bytes : Nat) (ht : P.underlying t = some (.slice e)) (hi : P.info? e = some i) (hz : i.zero = some z)
    (hsize : i.size = size) (hby : i.bytes = bytes) (hzs : z.cells.size = size) (hsz : 0 < size)
    (v : Value) (n : Nat) (xs : List Value) (hs : a.eval s = v) (hown : w.ownsRow base e size v n xs)
    (vx : Value) (m : Nat) (news : List Value) (hx : a.eval x = vx) (hr : RowR w size vx m news) (h1 : ∀ u ∈ news, u.oneCell' = true)
    (h63 : n + m ≤ 1048576) (hbytes : (n + m) * bytes ≤ 140737488355328) (hbase : base ≤ w.heap.size)
    (hK : ∀ v' w', w'.ownsRow base e size v' (n + m) (xs ++ news) → Below base w w' → K (a.put o.dst v') w') :
    if Region.wanted o (yielded ops a.tmps) = true then Oper.wp P o a w K Q else E := by
  have hw : Region.wanted o (yielded ops a.tmps) = true := by simp [Region.wanted, hg]
  rw [if_pos hw]
  obtain ⟨ao, c, rfl, _, hl, hr⟩ := hr
  rcases Nat.eq_zero_or_pos m with rfl | hpos
  · obtain rfl : news = [] := List.eq_nil_of_length_eq_zero (by simpa using hl)
    have hrun := run_append_zero (P := P) (w := w) base t o.type e i size ht hi v n xs hown ao c
    unfold Oper.wp
    simp [execOp, hop, resolve, invoke, builtin, hs, hx, hrun, Result.andThen]
    exact hK v w (by simpa using hown) (Below.refl _ _)
  · obtain ⟨b, off, rfl, hc⟩ := hr hpos
    obtain ⟨v', w', hrun, r1, r2, _⟩ := run_append_own (P := P) w base t o.type e i z size bytes ht hi hz hsize hby hzs hsz v n xs hown ⟨b, off, none⟩ m c news hl (fun j u hj => by rw [Addr.add_lit]; exact hc j u hj) h1 (by unfold maxLen; omega) hbytes hbase
    unfold Oper.wp
    simp [execOp, hop, resolve, invoke, builtin, hs, hx, hrun, Result.andThen]
    exact hK v' w' r1 ((Below.refl _ _).grown r2 hbase (fun k e => (hown.lt k e).1))

/-- A part of a slice. -/
theorem RowR.drop {w : World} {size n k : Nat} {b off cap c' : Nat} {cs : List Value} (h : RowR w size (.slice (some ⟨b, off, none⟩) n cap) n cs) (hk : k ≤ n) : RowR w size (.slice (some ⟨b, off + k * size, none⟩) (n - k) c') (n - k) (cs.drop (k * size)) := by
  obtain ⟨ao, ca, e, hn, hl, h⟩ := h
  injection e with e1 e2 e3
  subst e1
  refine ⟨_, _, rfl, by omega, by rw [List.length_drop, hl, Nat.sub_mul], fun h0 => ⟨b, off + k * size, rfl, fun j u hj => ?_⟩⟩
  obtain ⟨b', off', e, hc⟩ := h (by omega)
  injection e with e
  injection e with e1 e2
  subst e1 e2
  rw [List.getElem?_drop] at hj
  rw [Nat.add_assoc]
  exact hc _ u hj
theorem RowR.take {w : World} {size n k : Nat} {ao : Option Addr} {cap c' : Nat} {cs : List Value} (h : RowR w size (.slice ao n cap) n cs) (hk : k ≤ n) : RowR w size (.slice ao k c') k (cs.take (k * size)) := by
  obtain ⟨ao', ca, e, hn, hl, h⟩ := h
  injection e with e1 e2 e3
  subst e1
  refine ⟨_, _, rfl, by omega, by rw [List.length_take, hl, Nat.min_eq_left (Nat.mul_le_mul_right _ hk)], fun h0 => ?_⟩
  obtain ⟨b', off', rfl, hc⟩ := h (by omega)
  refine ⟨b', off', rfl, fun j u hj => hc j u ?_⟩
  have := (List.getElem?_eq_some_iff.1 hj).1
  rw [List.length_take] at this
  rwa [List.getElem?_take_of_lt (by omega)] at hj

theorem owns_mono {w : World} {base base' : Nat} {e : TypeId} {size : Nat} {v : Value} {n : Nat} {cs : List Value} (h : w.ownsRow base e size v n cs) (hb : base' ≤ base) : w.ownsRow base' e size v n cs := by
  obtain ⟨hl, h⟩ := h
  refine ⟨hl, ?_⟩
  rcases h with h | ⟨g, cap, cur, h0, hg, h'⟩
  · exact .inl h
  · exact .inr ⟨g, cap, cur, h0, by omega, h'⟩
theorem owns_ins {w : World} {base base' : Nat} {e : TypeId} {v : Value} {q m : Nat} {us bs ys : List Pc} {x : Pc} (h : w.ownsRow base e 4 v (q + 1 + m) ((pcells us ++ pcell x) ++ pcells bs)) (hb : base' ≤ base) (hy : us ++ x :: bs = ys ∧ ys.length = q + 1 + m) : w.ownsRow base' e 4 v ys.length (pcells ys) := by
  obtain ⟨rfl, hl⟩ := hy
  have e1 : pcells (us ++ x :: bs) = (pcells us ++ pcell x) ++ pcells bs := by simp [pcells]
  rw [e1, hl]
  exact owns_mono h hb
theorem bAll3 {a b c : World} {e : TypeId} (h : Below a.heap.size a b) (u : Upd (typed b (fun k => a.heap.size ≤ k) e) b c) : Below a.heap.size a c := h.trans (u.below h.size (fun _ hk => hk.1))
theorem newP_cells (w : World) (x : Pc) (e : TypeId) : ∀ j u, (pcell x)[j]? = some u → (w.alloc (.cells #[.int .i64 x.1, .int .i64 x.2.1, .int .i64 x.2.2.1, .int .i64 x.2.2.2] e)).cell? ((⟨w.heap.size, 0, none⟩ : Addr).add j) = some u := by
  intro j u h
  rw [Addr.add_lit, Nat.zero_add, cell_of_row _ _ j _ _ (0, 0) (al1_0 w _)]
  simpa [pcell] using h
theorem newP_later (w : World) (x : Pc) (e : TypeId) {w2 : World} (hb : Below (w.alloc (.cells #[.int .i64 x.1, .int .i64 x.2.1, .int .i64 x.2.2.1, .int .i64 x.2.2.2] e)).heap.size (w.alloc (.cells #[.int .i64 x.1, .int .i64 x.2.1, .int .i64 x.2.2.1, .int .i64 x.2.2.2] e)) w2) : ∀ j u, (pcell x)[j]? = some u → w2.cell? ((⟨w.heap.size, 0, none⟩ : Addr).add j) = some u := by
  intro j u h
  have h1 := newP_cells w x e j u h
  rw [Addr.add_lit] at h1 ⊢
  exact (hb.cell (p := ⟨w.heap.size, 0 + j, none⟩) (by simp)).trans h1
theorem RowR.addr {w : World} {size n ca : Nat} {ao : Option Addr} {cs : List Value} (h : RowR w size (.slice ao n ca) n cs) (hn : 0 < n) : ∃ b off, ao = some ⟨b, off, none⟩ := by
  obtain ⟨ao', ca', e, _, _, h⟩ := h
  injection e with e1 e2 e3
  obtain ⟨b, off, h1, _⟩ := h hn
  exact ⟨b, off, e1.trans h1⟩
theorem RowR.zero {w : World} {size c : Nat} {ao : Option Addr} : RowR w size (.slice ao 0 c) 0 [] := ⟨ao, c, rfl, by omega, by simp, fun h => by omega⟩

end Go.Proofs.Ytllhifiklcdoiaa

/- Copies of last calls, and with one put into its place: contracts; no statement of the seat is proved here. -/
namespace Go.Proofs.Ytllhifiklcdoiaa
open Go.RowKit

theorem owns_insC {w : World} {base base' : Nat} {e : TypeId} {v : Value} {q m : Nat} {us bs ys : List Lc} {x : Lc} (h : w.ownsRow base e 2 v (q + 1 + m) ((lcells us ++ lcell x) ++ lcells bs)) (hb : base' ≤ base) (hy : us ++ x :: bs = ys ∧ ys.length = q + 1 + m) : w.ownsRow base' e 2 v ys.length (lcells ys) := by
  obtain ⟨rfl, hl⟩ := hy
  have e1 : lcells (us ++ x :: bs) = (lcells us ++ lcell x) ++ lcells bs := by simp [lcells]
  rw [e1, hl]
  exact owns_mono h hb

theorem newC_cells (w : World) (x : Lc) (e : TypeId) : ∀ j u, (lcell x)[j]? = some u → (w.alloc (.cells #[.int .i64 x.1, .int .i64 x.2] e)).cell? ((⟨w.heap.size, 0, none⟩ : Addr).add j) = some u := by
  intro j u h
  rw [Addr.add_lit, Nat.zero_add, cell_of_row _ _ j _ _ (0, 0) (al1_0 w _)]
  simpa [lcell] using h

theorem newC_later (w : World) (x : Lc) (e : TypeId) {w2 : World} (hb : Below (w.alloc (.cells #[.int .i64 x.1, .int .i64 x.2] e)).heap.size (w.alloc (.cells #[.int .i64 x.1, .int .i64 x.2] e)) w2) : ∀ j u, (lcell x)[j]? = some u → w2.cell? ((⟨w.heap.size, 0, none⟩ : Addr).add j) = some u := by
  intro j u h
  have h1 := newC_cells w x e j u h
  rw [Addr.add_lit] at h1 ⊢
  exact (hb.cell (p := ⟨w.heap.size, 0 + j, none⟩) (by simp)).trans h1

end Go.Proofs.Ytllhifiklcdoiaa

/- What a look at last calls and a mark give, and plain facts on them; no statement of the seat is proved here. -/
namespace Go.Proofs.Ytllhifiklcdoiaa

/-- The last call of a client. -/
def callL (xs : List Lc) (c : Int) : Int :=
  match xs.find? (fun y => decide (y.1 = c)) with
  | some y => y.2
  | none => 0
def callR (xs : List Lc) (c : Int) : Int := if okC xs = true then callL xs c else 0
def markR (xs : List Lc) (c l : Int) : List Lc := if okC xs = true then (if (inI c 0 3 && (inI l 1 99999 && decide (callL xs c < l))) = true then insL ordL xs (c, l) else xs) else []

theorem ordL_neg {x y : Lc} : ordL x y < 0 ↔ x.1 < y.1 := cmpI_neg
theorem ordL_zero {x y : Lc} : ordL x y = 0 ↔ x.1 = y.1 := cmpI_zero
theorem ordL_pos {x y : Lc} : 0 < ordL x y ↔ y.1 < x.1 := cmpI_pos

theorem asc_unique {α : Type} {ord : α → α → Int} (ho : OrdOk ord) : ∀ {xs : List α}, Asc ord xs → ∀ y ∈ xs, ∀ z ∈ xs, ord y z = 0 → y = z
  | [], _, y, hy, _, _, _ => by simp at hy
  | x :: xs, h, y, hy, z, hz, e => by
    have p := List.pairwise_cons.1 h
    rcases List.mem_cons.1 hy with e1 | hy'
    · rcases List.mem_cons.1 hz with e2 | hz'
      · rw [e1, e2]
      · have := p.1 z hz'
        rw [e1] at e
        omega
    · rcases List.mem_cons.1 hz with e2 | hz'
      · have h1 := p.1 y hy'
        rw [e2] at e
        have h2 := (ho.flip x y).2 h1
        omega
      · exact asc_unique ho p.2 y hy' z hz' e

theorem call_mem {xs : List Lc} (hs : Asc ordL xs) {y : Lc} (hy : y ∈ xs) : callL xs y.1 = y.2 := by
  rcases hf : xs.find? (fun z => decide (z.1 = y.1)) with _ | z
  · have := List.find?_eq_none.1 hf y hy
    simp at this
  · have h1 := List.find?_some hf
    have h2 := List.mem_of_find?_eq_some hf
    simp at h1
    have := asc_unique ordOkL hs z h2 y hy (ordL_zero.2 h1)
    subst this
    simp only [callL, hf]
theorem call_none {xs : List Lc} {c : Int} (h : ∀ y ∈ xs, y.1 ≠ c) : callL xs c = 0 := by
  have hf : xs.find? (fun y => decide (y.1 = c)) = none := List.find?_eq_none.2 (fun y hy => by simpa using h y hy)
  simp only [callL, hf]
theorem call_some {xs : List Lc} {c : Int} (h : callL xs c ≠ 0) : (c, callL xs c) ∈ xs := by
  rcases hf : xs.find? (fun y => decide (y.1 = c)) with _ | z
  · simp only [callL, hf] at h
    exact absurd rfl h
  · have h1 := List.find?_some hf
    have h2 := List.mem_of_find?_eq_some hf
    simp at h1
    have e : callL xs c = z.2 := by simp only [callL, hf]
    rw [e, ← h1]
    exact h2

theorem dropC_above {xs : List Lc} {x : Lc} {p : Nat} (hs : Asc ordL xs) (h : IsAt ordL xs x p false) : ∀ y ∈ xs.drop p, 0 < ordL y x := by
  have hd : Asc ordL (xs.drop p) := hs.sublist (List.drop_sublist p xs)
  rcases hl : xs.drop p with _ | ⟨y, r⟩
  · intro y hy; simp at hy
  · rw [hl] at hd
    have hy : xs[p]? = some y := by
      have := List.getElem?_drop (xs := xs) (i := p) (j := 0)
      rw [hl] at this
      simpa using this.symm
    have hy0 : 0 ≤ ordL y x := h.hi y (by rw [hl]; simp)
    have hne : ordL y x ≠ 0 := fun e => by have := h.th.2 ⟨y, hy, e⟩; cases this
    intro z hz
    rcases List.mem_cons.1 hz with rfl | hz
    · omega
    · exact asc_tail_above ordOkL hd hy0 z hz

theorem call_off {xs : List Lc} {c : Int} {p : Nat} (hs : Asc ordL xs) (h : IsAt ordL xs (c, 0) p false) : callL xs c = 0 := by
  refine call_none (fun y hy e => ?_)
  rw [← List.take_append_drop p xs] at hy
  rcases List.mem_append.1 hy with hy | hy
  · have := h.lo y hy
    rw [ordL_neg] at this
    simp only at this
    omega
  · have := dropC_above hs h y hy
    rw [ordL_pos] at this
    simp only at this
    omega
theorem call_here {xs : List Lc} {c : Int} {p : Nat} {y : Lc} (hs : Asc ordL xs) (h : IsAt ordL xs (c, 0) p true) (hy : xs[p]? = some y) : callL xs c = y.2 := by
  obtain ⟨y', hy', h0⟩ := h.th.1 rfl
  rw [hy] at hy'
  obtain rfl := Option.some.inj hy'
  rw [ordL_zero] at h0
  simp only at h0
  rw [← h0]
  exact call_mem hs (List.mem_of_getElem? hy)

theorem inI_iff {n lo hi : Int} : inI n lo hi = true ↔ lo ≤ n ∧ n ≤ hi := by simp [inI]
theorem fitL_iff {x : Lc} : fitL x = true ↔ (0 ≤ x.1 ∧ x.1 ≤ 3) ∧ 1 ≤ x.2 ∧ x.2 ≤ 99999 := by simp [fitL, inI]

theorem asc_few : ∀ (ys : List Lc) (lo hi : Int), Asc ordL ys → (∀ y ∈ ys, lo ≤ y.1 ∧ y.1 < hi) → (ys.length : Int) ≤ hi - lo ∨ ys = []
  | [], _, _, _, _ => .inr rfl
  | y :: ys, lo, hi, h, hb => by
    left
    have p := List.pairwise_cons.1 h
    have hy := hb y (by simp)
    rcases asc_few ys (y.1 + 1) hi p.2 (fun z hz => ⟨by have := ordL_neg.1 (p.1 z hz); omega, (hb z (by simp [hz])).2⟩) with h1 | h1
    · simp only [List.length_cons]; omega
    · subst h1; simp; omega

theorem mark_ok {xs : List Lc} {c l : Int} (hok : okC xs = true) : okC (insL ordL xs (c, l)) = (inI c 0 3 && inI l 1 99999) := by
  rw [Bool.eq_iff_iff, Bool.and_eq_true, inI_iff, inI_iff]
  constructor
  · intro h
    have := ok_fit h (c, l) (by rw [ins_mem]; exact .inl rfl)
    rw [fitL_iff] at this
    exact this
  · intro h
    have hf : ∀ x ∈ insL ordL xs (c, l), fitL x = true := by
      intro x hx
      rcases ins_mem.1 hx with rfl | ⟨hx, _⟩
      · rw [fitL_iff]; exact h
      · exact ok_fit hok x hx
    have ha : Asc ordL (insL ordL xs (c, l)) := ins_asc ordOkL (ok_asc ordOkL hok)
    refine ok_mk ?_ hf ha
    rcases asc_few _ 0 4 ha (fun y hy => by have := fitL_iff.1 (hf y hy); omega) with h1 | h1
    · omega
    · rw [h1]; simp

theorem markR_prog (xs : List Lc) (c l : Int) (hok : okC xs = true) : markR xs c l = if l ≤ callL xs c then xs else if okC (insL ordL xs (c, l)) = true then insL ordL xs (c, l) else xs := by
  rw [markR, if_pos hok, mark_ok hok]
  by_cases h : l ≤ callL xs c
  · rw [if_pos h, if_neg (by simp; omega)]
  · rw [if_neg h]
    have e : decide (callL xs c < l) = true := by simp; omega
    rw [e, Bool.and_true]
theorem callR_zero (xs : List Lc) (c : Int) : 0 ≤ callR xs c := by
  unfold callR
  split
  · rename_i h
    by_cases h0 : callL xs c = 0
    · omega
    · have := fitL_iff.1 (ok_fit h _ (call_some h0))
      simp only at this
      omega
  · omega

theorem markR_len (xs : List Lc) (c l : Int) : (markR xs c l).length ≤ 60 := by
  unfold markR
  split
  · rename_i h
    have h1 : xs.length ≤ 4 := ok_len h
    split
    · have := ins_len (ord := ordL) xs (c, l); omega
    · omega
  · simp

/-- What the specification's loop of a mark builds. -/
def nOf (xs : List Lc) (c l : Int) (k : Int) : Int := if k = c then l else callL xs k
def bldL (xs : List Lc) (c l : Int) : Nat → List Lc
  | 0 => []
  | k + 1 => bldL xs c l k ++ (if 0 < nOf xs c l k then [((k : Int), nOf xs c l k)] else [])

theorem bld_mem (xs : List Lc) (c l : Int) : ∀ (k : Nat) (z : Lc), z ∈ bldL xs c l k ↔ 0 ≤ z.1 ∧ z.1 < k ∧ 0 < z.2 ∧ z.2 = nOf xs c l z.1
  | 0, z => by simp [bldL]; omega
  | k + 1, z => by
    rw [bldL, List.mem_append, bld_mem xs c l k z]
    obtain ⟨a, b⟩ := z
    simp only
    constructor
    · rintro (⟨h1, h2, h3, h4⟩ | h)
      · exact ⟨h1, by omega, h3, h4⟩
      · split at h
        · rename_i hp
          simp only [List.mem_singleton, Prod.mk.injEq] at h
          obtain ⟨rfl, rfl⟩ := h
          exact ⟨by omega, by omega, hp, rfl⟩
        · simp at h
    · rintro ⟨h1, h2, h3, h4⟩
      by_cases hk : a < (k : Int)
      · exact .inl ⟨h1, hk, h3, h4⟩
      · obtain rfl : a = (k : Int) := by omega
        right
        rw [← h4, if_pos h3]
        simp
theorem bld_asc (xs : List Lc) (c l : Int) : ∀ k : Nat, Asc ordL (bldL xs c l k)
  | 0 => List.Pairwise.nil
  | k + 1 => by
    rw [bldL, Asc, List.pairwise_append]
    refine ⟨bld_asc xs c l k, ?_, fun y hy z hz => ?_⟩
    · split <;> simp
    · have h1 := (bld_mem xs c l k y).1 hy
      split at hz
      · simp only [List.mem_singleton] at hz
        subst hz
        rw [ordL_neg]
        exact h1.2.1
      · simp at hz
theorem bld_ins {xs : List Lc} {c l : Int} (hok : okC xs = true) (hc : 0 ≤ c ∧ c ≤ 3) (hl : 1 ≤ l) : bldL xs c l 4 = insL ordL xs (c, l) := by
  have hs := ok_asc ordOkL hok
  refine asc_ext ordOkL (bld_asc xs c l 4) (ins_asc ordOkL hs) (fun z => ?_)
  rw [bld_mem, ins_mem]
  obtain ⟨a, b⟩ := z
  simp only [Prod.mk.injEq, ne_eq, ordL_zero]
  constructor
  · rintro ⟨h1, h2, h3, h4⟩
    rw [nOf] at h4
    by_cases e : a = c
    · rw [if_pos e] at h4
      exact .inl ⟨e, h4⟩
    · rw [if_neg e] at h4
      have := call_some (xs := xs) (c := a) (by omega)
      rw [← h4] at this
      exact .inr ⟨this, e⟩
  · rintro (⟨rfl, rfl⟩ | ⟨h1, h2⟩)
    · exact ⟨by omega, by omega, by omega, by rw [nOf, if_pos rfl]⟩
    · have hf := fitL_iff.1 (ok_fit hok _ h1)
      simp only at hf
      have := call_mem hs h1
      simp only at this
      exact ⟨by omega, by omega, by omega, by rw [nOf, if_neg h2, this]⟩
theorem bld_len (xs : List Lc) (c l : Int) : ∀ k : Nat, (bldL xs c l k).length ≤ k
  | 0 => by simp [bldL]
  | k + 1 => by
    have := bld_len xs c l k
    rw [bldL, List.length_append]
    split <;> simp <;> omega
theorem okC_nonneg {xs : List Lc} (h : okC xs = true) (c : Int) : 0 ≤ callL xs c := by
  have := callR_zero xs c
  rwa [callR, if_pos h] at this

end Go.Proofs.Ytllhifiklcdoiaa

/- What a write, a look and a drop of pieces give, and plain facts on them; no statement of the seat is proved here. -/
namespace Go.Proofs.Ytllhifiklcdoiaa

/-- Pieces behind a write, and whether it was done. -/
def putR (xs : List Pc) (x : Pc) : List Pc × Bool := if okP xs = true then (if okP (insL ordP xs x) = true then (insL ordP xs x, true) else (xs, false)) else ([], false)
/-- Whether a piece says what a block says in an epoch. -/
def hitP (d b e : Int) (y : Pc) : Bool := decide (y.1 = d) && (decide (y.2.1 = b) && decide (y.2.2.1 ≤ e))
def getF (d b e : Int) (o : Int) (y : Pc) : Int := if hitP d b e y = true then y.2.2.2 else o
def getL (d b e : Int) (ys : List Pc) : Int := ys.foldl (getF d b e) 0
def getR (xs : List Pc) (d b e : Int) : Int := if okP xs = true then getL d b e xs else 0
def offP (d : Int) (xs : List Pc) : List Pc := xs.filter (fun y => decide (y.1 ≠ d))
def dropR (xs : List Pc) (d : Int) : List Pc := if okP xs = true then offP d xs else []

theorem putR_len (xs : List Pc) (x : Pc) : (putR xs x).1.length ≤ 60 := by
  unfold putR
  split
  · rename_i h
    split
    · rename_i h'
      exact ok_len h'
    · exact ok_len h
  · simp
theorem dropR_len (xs : List Pc) (d : Int) : (dropR xs d).length ≤ 60 := by
  unfold dropR
  split
  · rename_i h
    exact Nat.le_trans (List.length_filter_le _ _) (ok_len h)
  · simp

theorem hitP_iff {d b e : Int} {y : Pc} : hitP d b e y = true ↔ y.1 = d ∧ y.2.1 = b ∧ y.2.2.1 ≤ e := by simp [hitP]
theorem hit_ord {d b e : Int} {y : Pc} : hitP d b e y = true → ordP y (d, b, e, 0) ≤ 0 := by
  intro h
  rw [hitP_iff] at h
  have := @ordP_pos y (d, b, e, 0)
  simp only at this
  omega
theorem getF_none (d b e : Int) : ∀ (ys : List Pc) (o : Int), (∀ y ∈ ys, ¬ hitP d b e y = true) → ys.foldl (getF d b e) o = o
  | [], _, _ => rfl
  | y :: ys, o, h => by
    rw [List.foldl_cons, getF, if_neg (h y (by simp))]
    exact getF_none d b e ys o (fun z hz => h z (List.mem_cons_of_mem _ hz))
theorem getL_snoc (d b e : Int) (ys : List Pc) (y : Pc) : getL d b e (ys ++ [y]) = if hitP d b e y = true then y.2.2.2 else getL d b e ys := by
  simp only [getL, List.foldl_append, List.foldl_cons, List.foldl_nil, getF]

theorem drop_above {xs : List Pc} {x : Pc} {p : Nat} (hs : Asc ordP xs) (h : IsAt ordP xs x p false) : ∀ y ∈ xs.drop p, 0 < ordP y x := by
  have hd : Asc ordP (xs.drop p) := hs.sublist (List.drop_sublist p xs)
  rcases hl : xs.drop p with _ | ⟨y, r⟩
  · intro y hy; simp at hy
  · rw [hl] at hd
    have hy : xs[p]? = some y := by
      have := List.getElem?_drop (xs := xs) (i := p) (j := 0)
      rw [hl] at this
      simpa using this.symm
    have hy0 : 0 ≤ ordP y x := h.hi y (by rw [hl]; simp)
    have hne : ordP y x ≠ 0 := fun e => by have := h.th.2 ⟨y, hy, e⟩; cases this
    intro z hz
    rcases List.mem_cons.1 hz with rfl | hz
    · omega
    · exact asc_tail_above ordOkP hd hy0 z hz

theorem get_here {xs : List Pc} {d b e : Int} {p : Nat} {y : Pc} (hs : Asc ordP xs) (h : IsAt ordP xs (d, b, e, 0) p true) (hy : xs[p]? = some y) : getL d b e xs = y.2.2.2 := by
  have hd : Asc ordP (xs.drop p) := hs.sublist (List.drop_sublist p xs)
  obtain ⟨y', hy', h0⟩ := h.th.1 rfl
  rw [hy] at hy'
  obtain rfl := Option.some.inj hy'
  have hp := (List.getElem?_eq_some_iff.1 hy).1
  have hl : xs.drop p = y :: xs.drop (p + 1) := by
    rw [List.drop_eq_getElem_cons hp]
    rw [List.getElem?_eq_getElem hp] at hy
    rw [Option.some.inj hy]
  have e1 : getL d b e xs = getL d b e (xs.take p ++ (y :: xs.drop (p + 1))) := by rw [← hl, List.take_append_drop]
  rw [hl] at hd
  have hit : hitP d b e y = true := by rw [hitP_iff]; rw [ordP_zero] at h0; simp only at h0; omega
  rw [e1, getL, List.foldl_append, List.foldl_cons, getF, if_pos hit]
  refine getF_none _ _ _ _ _ (fun z hz hh => ?_)
  have := asc_tail_above ordOkP hd (x := (d, b, e, 0)) (by omega) z hz
  have := hit_ord hh
  omega

theorem get_off {xs : List Pc} {d b e : Int} {p : Nat} (hs : Asc ordP xs) (h : IsAt ordP xs (d, b, e, 0) p false) : getL d b e xs = getL d b e (xs.take p) := by
  have e1 : getL d b e xs = getL d b e (xs.take p ++ xs.drop p) := by rw [List.take_append_drop]
  rw [e1, getL, List.foldl_append]
  refine getF_none _ _ _ _ _ (fun z hz hh => ?_)
  have := drop_above hs h z hz
  have := hit_ord hh
  omega
theorem get_first {xs : List Pc} {d b e : Int} (hs : Asc ordP xs) (h : IsAt ordP xs (d, b, e, 0) 0 false) : getL d b e xs = 0 := by
  rw [get_off hs h, List.take_zero]
  rfl
theorem get_ahead {xs : List Pc} {d b e : Int} {m : Nat} {y : Pc} (hs : Asc ordP xs) (h : IsAt ordP xs (d, b, e, 0) (m + 1) false) (hy : xs[m]? = some y) : getL d b e xs = if y.1 = d ∧ y.2.1 = b then y.2.2.2 else 0 := by
  have hm := (List.getElem?_eq_some_iff.1 hy).1
  have ht : xs.take (m + 1) = xs.take m ++ [y] := by
    rw [List.take_succ_eq_append_getElem hm]
    rw [List.getElem?_eq_getElem hm] at hy
    rw [Option.some.inj hy]
  have hyx : ordP y (d, b, e, 0) < 0 := h.lo y (by rw [ht]; simp)
  rw [get_off hs h, ht, getL_snoc]
  rw [ordP_neg] at hyx
  simp only at hyx
  by_cases hyd : y.1 = d ∧ y.2.1 = b
  · rw [if_pos hyd, if_pos (by rw [hitP_iff]; omega)]
  · rw [if_neg hyd, if_neg (by rw [hitP_iff]; omega)]
    refine getF_none _ _ _ _ _ (fun z hz hh => ?_)
    rw [hitP_iff] at hh
    have ha : Asc ordP (xs.take m ++ [y]) := by rw [← ht]; exact hs.sublist (List.take_sublist _ _)
    have hzy : ordP z y < 0 := (List.pairwise_append.1 ha).2.2 z hz y (by simp)
    rw [ordP_neg] at hzy
    omega

theorem offP_snoc (d : Int) (ys : List Pc) (y : Pc) : offP d (ys ++ [y]) = if y.1 = d then offP d ys else offP d ys ++ [y] := by
  by_cases h : y.1 = d <;> simp [offP, h]

/-- What the specification's loop of a write has behind some pieces. -/
inductive PutAt (x : Pc) (ys out : List Pc) : Bool → Prop
  | before (h : ∀ y ∈ ys, ordP y x < 0) (e : out = ys) : PutAt x ys out false
  | behind (h : ∃ y ∈ ys, 0 ≤ ordP y x) (e : out = insL ordP ys x) : PutAt x ys out true

theorem put_start (x : Pc) : PutAt x [] [] false := .before (by simp) rfl
theorem ins_snoc {ys : List Pc} {x y : Pc} (h : 0 < ordP y x) : insL ordP (ys ++ [y]) x = insL ordP ys x ++ [y] := by
  have h1 : ¬ ordP y x < 0 := by omega
  simp [insL, h, h1]
theorem put_step {x y : Pc} {ys out : List Pc} {done : Bool} (hs : Asc ordP (ys ++ [y])) (h : PutAt x ys out done) :
    PutAt x (ys ++ [y]) ((if done = false ∧ ¬ ordP y x < 0 then out ++ [x] else out) ++ (if ordP y x = 0 then [] else [y])) (done || decide (¬ ordP y x < 0)) := by
  cases h with
  | before h e =>
    subst e
    by_cases hy : ordP y x < 0
    · rw [if_neg (by simp [hy]), if_neg (by omega)]
      have e1 : (false || decide (¬ ordP y x < 0)) = false := by simp [hy]
      rw [e1]
      refine .before (fun z hz => ?_) rfl
      rcases List.mem_append.1 hz with hz | hz
      · exact h z hz
      · obtain rfl : z = y := by simpa using hz
        exact hy
    · rw [if_pos ⟨rfl, hy⟩]
      have e1 : (false || decide (¬ ordP y x < 0)) = true := by simp; omega
      rw [e1]
      refine .behind ⟨y, by simp, by omega⟩ ?_
      rw [insL, List.filter_append, List.filter_append, (filter_lo h).1, (filter_lo h).2]
      by_cases h0 : ordP y x = 0
      · simp [h0]
      · have h2 : 0 < ordP y x := by omega
        simp [h0, hy, h2]
  | behind h e =>
    subst e
    obtain ⟨z, hz, hz0⟩ := h
    have hyx : 0 < ordP y x := ordOkP.above hz0 ((List.pairwise_append.1 hs).2.2 z hz y (by simp))
    rw [if_neg (by simp), if_neg (by omega), Bool.true_or, ← ins_snoc hyx]
    exact .behind ⟨z, by simp [hz], hz0⟩ rfl
theorem put_end {x : Pc} {ys out : List Pc} {done : Bool} (h : PutAt x ys out done) : (if done = false then out ++ [x] else out) = insL ordP ys x := by
  cases h with
  | before h e => subst e; rw [if_pos rfl, insL, (filter_lo h).1, (filter_lo h).2]
  | behind h e => subst e; rw [if_neg (by simp)]
theorem put_len {x : Pc} {ys out : List Pc} {done : Bool} (h : PutAt x ys out done) : out.length ≤ ys.length + 1 := by
  cases h with
  | before h e => subst e; omega
  | behind h e => subst e; exact ins_len _ _

end Go.Proofs.Ytllhifiklcdoiaa

/- BlkPut, BlkGet and BlkDrop of the program: contracts; no statement of the seat is proved here. -/
namespace Go.Proofs.Ytllhifiklcdoiaa
open Go.RowKit

theorem owns_shape {w : World} {base : Nat} {e : TypeId} {size : Nat} {v : Value} {n : Nat} {cs : List Value} (h : w.ownsRow base e size v n cs) : ∃ ao ca, v = .slice ao n ca ∧ n ≤ ca := by
  rcases h.2 with ⟨rfl, rfl⟩ | ⟨g, cap, cur, rfl, _, _, hnc, _⟩
  · exact ⟨none, 0, rfl, Nat.le_refl _⟩
  · exact ⟨_, cap, rfl, hnc⟩
theorem owns_reads {w : World} {base : Nat} {e : TypeId} {size : Nat} {v : Value} {n : Nat} {cs : List Value} (h : w.ownsRow base e size v n cs) (hn : n ≤ 9223372036854775807) : RowR w size v n cs := (Row.ofOwns h hn).reads
theorem owns_keep {w w' : World} {base : Nat} {e : TypeId} {size : Nat} {v : Value} {n : Nat} {cs : List Value} (h : w.ownsRow base e size v n cs) (hb : Below w.heap.size w w') : w'.ownsRow base e size v n cs := by
  obtain ⟨hl, h⟩ := h
  refine ⟨hl, ?_⟩
  rcases h with h | ⟨g, cap, cur, rfl, hg, hh, h1, h2, h3, h4⟩
  · exact .inl h
  · exact .inr ⟨g, cap, cur, rfl, hg, bKeeps hb hh, h1, h2, h3, h4⟩

end Go.Proofs.Ytllhifiklcdoiaa

/- blkInForm, BlkCall and BlkMark of the program: contracts; no statement of the seat is proved here. -/
namespace Go.Proofs.Ytllhifiklcdoiaa
open Go.RowKit

set_option maxHeartbeats 1000000 in
theorem inForm_any (v : Value) (xs : List Lc) (w : World) (hr : RowR w 2 v xs.length (lcells xs)) :
    Calls Try.prog 114 #[v] w fun e w' => e = .returned (.bool (okC xs)) ∧ Below w.heap.size w w' := by
  have Hr := hide hr
  obtain ⟨ao, ca, rfl, hn, -⟩ := hr
  obtain ⟨R, HR⟩ : ∃ R, Hid (okC xs = R) := ⟨_, rfl⟩
  rw [HR.out]
  obtain ⟨n, hnn⟩ : ∃ n, xs.length = n := ⟨_, rfl⟩
  have Hl := hide hnn
  rw [hnn] at hn Hr ⊢
  clear hnn
  by_cases hlong : (n : Int) ≤ 4
  · obtain ⟨q, hq⟩ : ∃ q, (List.range n).all (goodAt fitL ordL xs) = q := ⟨_, rfl⟩
    have cS := sortedC_any _ n xs w Hr.out
    rw [hq] at cS
    have HQ : Hid (R = q) := by
      show _ = _
      rw [← HR.out, ← hq, okC, okL, Hl.out]
      simp
      omega
    clear hq
    go_enter Try.func114, Try.ntmps114
    go_wp2_with fail
    refine cS.mono ?_
    rintro e w1 ⟨rfl, b1⟩
    go_wp2
    go_ret
    exact ⟨by rw [HQ.out]; rfl, b1⟩
  · have hno : Hid (R = false) := by show _ = _; rw [← HR.out]; exact okL_long (by rw [Hl.out]; omega)
    go_enter Try.func114, Try.ntmps114
    go_wp2
    go_ret
    exact ⟨by rw [hno.out]; rfl, Below.refl _ _⟩

end Go.Proofs.Ytllhifiklcdoiaa

/- Whether the numbers of a word are in bounds, and whether a word fits, in the program: contracts; no statement of the seat is proved here. -/
namespace Go.Proofs.Ytllhifiklcdoiaa
open Go.RowKit

set_option maxRecDepth 100000 in
set_option maxHeartbeats 2000000 in
theorem wordInBounds_any (N b o n c : Nat) (xs : List Int) (w : World) (hn : n ≤ 24) (hl : xs.length = n) (hN : ∀ k, k < n → w.cell? ⟨N, k, none⟩ = some (.pointer (some ⟨b, o + k, none⟩))) (hX : ∀ k a, xs[k]? = some a → w.cell? ⟨b, o + k, none⟩ = some (.int .i64 a)) :
    Calls Try.prog 90 #[.slice (some ⟨N, 0, none⟩) n c] w fun e w' => e = .returned (.bool (xs.all numI)) ∧ w' = w := by
  obtain ⟨R, HR⟩ : ∃ R, Hid (xs.all numI = R) := ⟨_, rfl⟩
  rw [HR.out]
  have HL := hide hl
  have HN := hide hN
  have HX := hide hX
  clear hl hN hX
  go_enter Try.func90, Try.ntmps90
  go_wp2
  go_loopw [7] (fun i wr => ∃ k : Nat, k ≤ n ∧ i = .int .i64 k ∧ (∀ j a, j < k → xs[j]? = some a → numI a = true) ∧ wr = w) (fun i _ => n - (intOf i).toNat)
  case atStart => exact ⟨0, Nat.zero_le _, rfl, fun j a hj => by omega, rfl⟩
  case round =>
    obtain ⟨k, hk, rfl, hgood, rfl⟩ := hrel
    have HG := hide hgood
    clear hgood
    by_cases hlt : k < n
    · obtain ⟨a, ha⟩ := getAt xs k (by have := HL.out; omega)
      have hc := HN.out k hlt
      have hd := HX.out k a ha
      have Ha := hide ha
      have hi : (k : Int) < (n : Int) := by omega
      clear ha
      go_wp2_with fail
      refine (blkWithin_any a (-1) 99999 _).mono ?_
      rintro e w' ⟨rfl, rfl⟩
      rcases hb : inI a (-1) 99999 with _ | _
      · have hno : Hid (R = false) := by
          show _ = _
          rw [← HR.out, List.all_eq_false.2 ⟨a, List.mem_of_getElem? Ha.out, by simp [numI, hb]⟩]
        go_wp2
        go_ret
        exact ⟨by rw [hno.out]; rfl, rfl⟩
      · go_wp2
        go_roundw
        case rel =>
          refine ⟨k + 1, by omega, by go_num, fun j b hj hbj => ?_, by trivial⟩
          by_cases hjk : j = k
          · subst hjk
            rw [Ha.out] at hbj
            rw [← Option.some.inj hbj]
            exact hb
          · exact HG.out j b (by omega) hbj
        case measure => simp [intOf]; omega
    · have hall : Hid (R = true) := by
        show _ = _
        rw [← HR.out]
        refine List.all_eq_true.2 (fun a ha => ?_)
        obtain ⟨j, hj, e⟩ := List.getElem_of_mem ha
        exact HG.out j a (by have := HL.out; omega) (by rw [List.getElem?_eq_getElem hj, e])
      have hge : ¬ (k : Int) < (n : Int) := by omega
      go_wp2
      go_ret
      exact ⟨by rw [hall.out]; rfl, rfl⟩

set_option maxHeartbeats 400000 in
theorem wordIsPlace_any (n : Int) (w : World) :
    Calls Try.prog 112 #[.int .i64 n] w fun e w' => e = .returned (.bool (placeI n)) ∧ w' = w := by
  go_enter Try.func112, Try.ntmps112
  go_wp2_with fail
  refine (blkWithin_any n 0 4 _).mono ?_
  rintro e w1 ⟨rfl, rfl⟩
  rcases h1 : inI n 0 4 with _ | _
  · have H : placeI n = inI n 100 103 := by simp [placeI, h1]
    go_wp2_with fail
    refine (blkWithin_any n 100 103 _).mono ?_
    rintro e w1 ⟨rfl, rfl⟩
    have HH := hide H
    clear H
    go_wp2
    go_ret
    exact ⟨by rw [HH.out]; rfl, rfl⟩
  · have H : placeI n = true := by simp [placeI, h1]
    go_wp2
    go_ret
    exact ⟨by rw [H]; rfl, rfl⟩

/-- The numbers of a command. -/
def Wd.cnums (x : Wd) : List Int := [x.c0, x.c1, x.c2, x.c3, x.c4, x.c5, x.c6, x.c7, x.c8, x.c9]
theorem cmdI_eq (x : Wd) : cmdI x = (inI x.c0 0 7 && x.cnums.all numI) := by
  unfold cmdI Wd.cnums
  rcases h : inI x.c0 0 7 with _ | _
  · rfl
  · have : numI x.c0 = true := by
      simp only [inI, Bool.and_eq_true, decide_eq_true_eq] at h
      simp only [numI, inI, Bool.and_eq_true, decide_eq_true_eq]
      omega
    simp only [List.all_cons, List.all_nil, this, Bool.true_and, Bool.and_true]

set_option maxRecDepth 100000 in
set_option maxHeartbeats 2000000 in
theorem cmdInForm_any (x : Wd) (w : World) :
    Calls Try.prog 83 #[ .agg #[.int .i64 x.c0, .int .i64 x.c1, .int .i64 x.c2, .int .i64 x.c3, .int .i64 x.c4, .int .i64 x.c5, .int .i64 x.c6, .int .i64 x.c7, .int .i64 x.c8, .int .i64 x.c9] ] w fun e w' => e = .returned (.bool (cmdI x)) ∧ Below w.heap.size w w' := by
  obtain ⟨R, HR⟩ : ∃ R, Hid (cmdI x = R) := ⟨_, rfl⟩
  rw [HR.out]
  go_enter Try.func83, Try.ntmps83
  go_wp2_with fail
  generalize hW : World.alloc _ _ = W
  have hal : Below w.heap.size w W := by rw [← hW]; exact bal (Below.refl _ _) _
  have B0 : W.heap[w.heap.size]? = some (.cells #[.int .i64 x.c0, .int .i64 x.c1, .int .i64 x.c2, .int .i64 x.c3, .int .i64 x.c4, .int .i64 x.c5, .int .i64 x.c6, .int .i64 x.c7, .int .i64 x.c8, .int .i64 x.c9] 40 (0, 0)) := by rw [← hW]; exact heap_alloc_new w _
  clear hW
  refine (cmdNumbers_any w.heap.size 0 _).mono ?_
  rintro e w1 ⟨ps, rfl, hps, b1⟩
  have C0 := bKeeps b1 B0
  have c1 := bAll hal b1
  have HP := hide hps
  have h10 : (Try.prog.info? 128).map (·.size) = some ps.size := by rw [hps.1]; exact info10
  have HS := hide (show 10 = ps.size from hps.1.symm)
  have H1 := hide hps.one
  have H10 := hide h10
  clear hps h10 B0 b1 hal
  have D0 := heap_up (.cells ps 128) C0
  have hN : ∀ k, k < 10 → (w1.alloc (.cells ps 128)).cell? ⟨w1.heap.size, k, none⟩ = some (.pointer (some ⟨w.heap.size, 0 + k, none⟩)) := fun k hk => (boxAt (heap_alloc_new w1 _) k).trans (HP.out.2 k hk)
  have hX : ∀ k a, x.cnums[k]? = some a → (w1.alloc (.cells ps 128)).cell? ⟨w.heap.size, 0 + k, none⟩ = some (.int .i64 a) := by
    intro k a h
    rw [boxAt D0, Nat.zero_add]
    have hk : k < 10 := (List.getElem?_eq_some_iff.1 h).1
    rcases (by omega : k = 0 ∨ k = 1 ∨ k = 2 ∨ k = 3 ∨ k = 4 ∨ k = 5 ∨ k = 6 ∨ k = 7 ∨ k = 8 ∨ k = 9) with rfl | rfl | rfl | rfl | rfl | rfl | rfl | rfl | rfl | rfl <;> (obtain rfl := Option.some.inj h; rfl)
  have HB := hide (wordInBounds_any w1.heap.size w.heap.size 0 10 10 x.cnums _ (by omega) rfl hN hX)
  have d0 : (w1.alloc (.cells ps 128)).cell? ⟨w.heap.size, 0, none⟩ = some (.int .i64 x.c0) := boxAt D0 0
  clear hN hX D0 C0
  have c2 := bal c1 (.cells ps 128)
  go_wp2_with (refine wpList_store_row rfl 128 (.tmp 3) (.tmp 4) rfl w1.heap.size ps rfl rfl _ _ (heap_alloc_new w1 _) H10.out HS.out H1.out ?_; rw [World.setRow_alloc_new])
  refine (blkWithin_any x.c0 0 7 _).mono ?_
  rintro e w' ⟨rfl, rfl⟩
  rcases hb : inI x.c0 0 7 with _ | _
  · have hno : Hid (R = false) := by show _ = _; rw [← HR.out, cmdI_eq, hb, Bool.false_and]
    go_wp2
    go_ret
    exact ⟨by rw [hno.out]; rfl, c2⟩
  · have hR : Hid (R = x.cnums.all numI) := by show _ = _; rw [← HR.out, cmdI_eq, hb, Bool.true_and]
    go_wp2_with fail
    refine HB.out.mono ?_
    rintro e w' ⟨rfl, rfl⟩
    go_wp2
    go_ret
    exact ⟨by rw [hR.out]; rfl, c2⟩

end Go.Proofs.Ytllhifiklcdoiaa

/- A word as a struct of its kind, in the program: contracts; no statement of the seat is proved here. -/
namespace Go.Proofs.Ytllhifiklcdoiaa
open Go.RowKit

theorem info16 : (Try.prog.info? 154).map (·.size) = some 16 := by kernel_rfl
/-- The type of the structs of a kind. -/
def kindT : Nat → TypeId
  | 1 => 137
  | 2 => 138
  | 3 => 139
  | 4 => 140
  | 5 => 141
  | 6 => 142
  | 7 => 143
  | 8 => 144
  | 9 => 145
  | 10 => 146
  | 11 => 147
  | 12 => 148
  | 13 => 149
  | 14 => 150
  | 15 => 151
  | _ => 0

set_option maxRecDepth 100000 in
set_option maxHeartbeats 4000000 in
theorem wordBlank_any (k : Int) (w : World) :
    Calls Try.prog 91 #[.int .i64 k] w fun e w' => ∃ v, e = .returned v ∧ (inI k 1 15 = false → v = .nilIface) ∧ (∀ j : Nat, 1 ≤ j → j ≤ 15 → k = j → ∃ Z, v = .iface (kindT j) Z) ∧ Below w.heap.size w w' := by
  go_enter Try.func91, Try.ntmps91
  go_wp2_with (refine wpList_store_row rfl 154 (.tmp 3) (.tmp 34) rfl w.heap.size _ rfl rfl _ _ (heap_alloc_new w _) info16 rfl (all_of_list rfl) ?_; rw [World.setRow_alloc_new])
  generalize (Value.agg #[.int .i64 0, .int .i64 0, .int .i64 0, .int .i64 0, .int .i64 0, .int .i64 0, .int .i64 0, .int .i64 0, .int .i64 0, .int .i64 0, .int .i64 0, .int .i64 0, .int .i64 0, .int .i64 0, .int .i64 0, .int .i64 0, .int .i64 0, .int .i64 0, .int .i64 0, .int .i64 0, .int .i64 0, .int .i64 0, .int .i64 0, .int .i64 0, .slice none 0 0, .slice none 0 0]) = Z
  have hcell : ∀ j : Nat, 1 ≤ j → j ≤ 15 → (w.alloc (.cells #[.nilIface, .iface 137 Z, .iface 138 Z, .iface 139 Z, .iface 140 Z, .iface 141 Z, .iface 142 Z, .iface 143 Z, .iface 144 Z, .iface 145 Z, .iface 146 Z, .iface 147 Z, .iface 148 Z, .iface 149 Z, .iface 150 Z, .iface 151 Z] 154)).cell? ⟨w.heap.size, j, none⟩ = some (.iface (kindT j) Z) := by
    intro j h1 h2
    rw [boxAt (heap_alloc_new w _)]
    rcases (by omega : j = 1 ∨ j = 2 ∨ j = 3 ∨ j = 4 ∨ j = 5 ∨ j = 6 ∨ j = 7 ∨ j = 8 ∨ j = 9 ∨ j = 10 ∨ j = 11 ∨ j = 12 ∨ j = 13 ∨ j = 14 ∨ j = 15) with rfl | rfl | rfl | rfl | rfl | rfl | rfl | rfl | rfl | rfl | rfl | rfl | rfl | rfl | rfl <;> rfl
  have HC := hide hcell
  clear hcell
  have hal : Below w.heap.size w (w.alloc (.cells #[.nilIface, .iface 137 Z, .iface 138 Z, .iface 139 Z, .iface 140 Z, .iface 141 Z, .iface 142 Z, .iface 143 Z, .iface 144 Z, .iface 145 Z, .iface 146 Z, .iface 147 Z, .iface 148 Z, .iface 149 Z, .iface 150 Z, .iface 151 Z] 154)) := bal (Below.refl _ _) _
  refine (blkWithin_any k 1 15 _).mono ?_
  rintro e w' ⟨rfl, rfl⟩
  rcases hb : inI k 1 15 with _ | _
  · have hno : ∀ j : Nat, 1 ≤ j → j ≤ 15 → k = j → False := by
      intro j h1 h2 h3
      have : inI k 1 15 = true := by simp only [inI, Bool.and_eq_true, decide_eq_true_eq]; omega
      rw [hb] at this
      cases this
    have HN := hide hno
    clear hno
    go_wp2
    go_ret
    exact ⟨_, rfl, fun _ => rfl, fun j h1 h2 h3 => (HN.out j h1 h2 h3).elim, hal⟩
  · have hk := hb
    simp only [inI, Bool.and_eq_true, decide_eq_true_eq] at hk
    obtain ⟨j, rfl⟩ : ∃ j : Nat, k = j := ⟨k.toNat, by omega⟩
    have hc := HC.out j (by omega) (by omega)
    have hj1 : 1 ≤ j := by omega
    have hj2 : j ≤ 15 := by omega
    clear hk
    go_wp2
    go_ret
    exact ⟨_, rfl, fun h => (by rw [hb] at h; cases h), fun i h1 h2 h3 => ⟨Z, by rw [show i = j by omega]; rfl⟩, hal⟩

end Go.Proofs.Ytllhifiklcdoiaa

/- A plain word as a struct of its kind, in the program: contracts; no statement of the seat is proved here. -/
namespace Go.Proofs.Ytllhifiklcdoiaa
open Go.RowKit

theorem infoWb : (Try.prog.info? 134).map (·.size) = some 26 := by kernel_rfl

theorem setRow_new1 (w : World) (o : Obj) (c c' : Array Value) (t : TypeId) : ((w.alloc o).alloc (.cells c t)).setRow (w.heap.size + 1) c' = (w.alloc o).alloc (.cells c' t) := by
  have := World.setRow_alloc_new (w.alloc o) c c' t
  rwa [World.size_alloc] at this

theorem as_no {P : Program} {t T xt : TypeId} {d : Array Field} (hu : P.underlying t = some (.struct d)) (hz : (P.info? t).map (fun i => i.zero.isSome) = some true) (h : T ≠ t) :
    ∃ z, ∀ (Z : Value) (w : World), (Instr.typeAssert (.iface T Z) xt t true).run P w = .ok (.tuple #[z, .bool false]) w := by
  cases hq : P.info? t with
  | none => simp [hq] at hz
  | some i =>
    cases hzz : i.zero with
    | none => simp [hq, hzz] at hz
    | some z =>
      refine ⟨z, fun Z w => ?_⟩
      simp [Instr.typeAssert, run_underlying hu, h, zeroValue, typeInfo, hq, hzz]
theorem as_nilNo {P : Program} {t xt : TypeId} {d : Array Field} (hu : P.underlying t = some (.struct d)) (hz : (P.info? t).map (fun i => i.zero.isSome) = some true) :
    ∃ z, ∀ (w : World), (Instr.typeAssert .nilIface xt t true).run P w = .ok (.tuple #[z, .bool false]) w := by
  cases hq : P.info? t with
  | none => simp [hq] at hz
  | some i =>
    cases hzz : i.zero with
    | none => simp [hq, hzz] at hz
    | some z =>
      refine ⟨z, fun w => ?_⟩
      simp [Instr.typeAssert, run_underlying hu, zeroValue, typeInfo, hq, hzz]
theorem as_yes {P : Program} {t xt : TypeId} {d : Array Field} (hu : P.underlying t = some (.struct d)) :
    ∀ (Z : Value) (w : World), (Instr.typeAssert (.iface t Z) xt t true).run P w = .ok (.tuple #[Z, .bool true]) w := by
  intro Z w
  simp [Instr.typeAssert, run_underlying hu]

end Go.Proofs.Ytllhifiklcdoiaa
