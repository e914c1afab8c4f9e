/- Contracts and plain facts that the claims of this seat lean on (texts XUM, XUN, XUT, XUL, XUP, XUU, XUC, XUW, XUS, XBy, XUB, XLPack); no statement of the seat is proved here. -/
import Derived.Test.YtafojnjpllpjjaaPk4
import Derived.Test.YtafojnjpllpjjaaPk12
import Derived.Test.YtafojnjpllpjjaaPk13
import Derived.Laws.Shifts
import Derived.Test.YtafojnjpllpjjaaPk15
import Derived.Laws.BytesArg
import Derived.Laws.ResultCell
import Derived.Test.YtafojnjpllpjjaaPk10
import Derived.Test.YtafojnjpllpjjaaPk14

/- Words as plain values: reading numbers off bytes; no statement of the seat is proved here. -/
namespace Go.Proofs.Ytafojnjpllpjjaa

/-- What stays to be read of a number m, when n was read of it, by sevens of bits up to pl. -/
def Lft (bs : List Nat) (n pl : Nat) (m : Nat) (rest : List Nat) : Prop :=
  ∃ m', m = n + m' * pl ∧ bs = encN m' ++ rest ∧ (pl = 1 ∨ 1 ≤ m')

theorem Lft.start {bs rest : List Nat} {m : Nat} (h : bs = encN m ++ rest) : Lft bs 0 1 m rest := ⟨m, by omega, h, .inl rfl⟩

theorem Lft.ne {bs rest : List Nat} {n pl m : Nat} (h : Lft bs n pl m rest) : bs ≠ [] := by
  obtain ⟨m', _, rfl, _⟩ := h
  intro e
  by_cases h1 : m' < 128
  · rw [encN_lt h1] at e; simp at e
  · rw [encN_ge (by omega)] at e; simp at e

theorem Lft.last {b : Nat} {bs rest : List Nat} {n pl m : Nat} (hb : b < 128) (h : Lft (b :: bs) n pl m rest) : m = n + b % 128 * pl ∧ bs = rest := by
  obtain ⟨m', e, e1, _⟩ := h
  by_cases h1 : m' < 128
  · rw [encN_lt h1] at e1
    injection e1 with e2 e3
    subst e2
    refine ⟨?_, e3⟩
    rw [Nat.mod_eq_of_lt hb, e]
  · rw [encN_ge (by omega)] at e1
    injection e1 with e2 e3
    omega

theorem Lft.more {b : Nat} {bs rest : List Nat} {n pl m : Nat} (hb : 128 ≤ b) (h : Lft (b :: bs) n pl m rest) : Lft bs (n + b % 128 * pl) (pl * 128) m rest := by
  obtain ⟨m', e, e1, _⟩ := h
  by_cases h1 : m' < 128
  · rw [encN_lt h1] at e1
    injection e1 with e2 e3
    omega
  · rw [encN_ge (by omega)] at e1
    injection e1 with e2 e3
    refine ⟨m' / 128, ?_, e3, .inr (by omega)⟩
    have e4 : b % 128 = m' % 128 := by omega
    rw [e4, e, Nat.add_assoc, Nat.mul_comm pl 128, ← Nat.mul_assoc, ← Nat.add_mul]
    congr 2
    omega

theorem Lft.big {bs rest : List Nat} {n pl m : Nat} (h : Lft bs n pl m rest) (hp : 100000 < pl) : 100000 < m := by
  obtain ⟨m', e, _, h3⟩ := h
  rcases h3 with h3 | h3
  · omega
  · have : 1 * pl ≤ m' * pl := Nat.mul_le_mul_right _ h3
    omega

/-- What was read of bytes: if they begin with the bytes of these numbers, just these, and what is left is what is left. -/
def Rdn (bs : List Nat) (xs : List Int) (bs' : List Nat) : Prop :=
  ∀ (ys : List Int) (rest : List Nat), ys.length = xs.length → (∀ a ∈ ys, -1 ≤ a ∧ a ≤ 99999) → bs = enc ys ++ rest → xs = ys ∧ bs' = rest

theorem Rdn.nil (bs : List Nat) : Rdn bs [] bs := by
  intro ys rest h _ e
  obtain rfl : ys = [] := by simpa using h
  exact ⟨rfl, e⟩

theorem Rdn.append {bs bs' bs'' : List Nat} {xs ys : List Int} (h1 : Rdn bs xs bs') (h2 : Rdn bs' ys bs'') : Rdn bs (xs ++ ys) bs'' := by
  intro zs rest hl hz e
  have e1 : zs = zs.take xs.length ++ zs.drop xs.length := (List.take_append_drop _ _).symm
  rw [List.length_append] at hl
  rw [e1, enc_append, List.append_assoc] at e
  obtain ⟨g1, g2⟩ := h1 _ _ (by rw [List.length_take]; omega) (fun a ha => hz a (List.mem_of_mem_take ha)) e
  obtain ⟨g3, g4⟩ := h2 _ _ (by rw [List.length_drop]; omega) (fun a ha => hz a (List.mem_of_mem_drop ha)) g2
  rw [e1]
  exact ⟨by rw [← g1, ← g3], g4⟩

theorem Rdn.one {bs bs' : List Nat} {a : Int} (h : ∀ (m : Nat) rest, m ≤ 100000 → bs = encN m ++ rest → a = (m : Int) - 1 ∧ bs' = rest) : Rdn bs [a] bs' := by
  intro ys rest hl hy e
  match ys, hl with
  | [y], _ =>
    have hy := hy y (by simp)
    have e' : bs = encN (y + 1).toNat ++ rest := by rw [e, enc_cons]; simp [enc, encI]
    obtain ⟨g1, g2⟩ := h (y + 1).toNat rest (by omega) e'
    exact ⟨by rw [g1]; congr 1; omega, g2⟩

/-- What was read of bytes as a list of so many numbers each. -/
def Rdl {α : Type} (most : Nat) (num : α → List Int) (bs : List Nat) (xs : List α) (bs' : List Nat) : Prop :=
  ∀ (ys : List α) (rest : List Nat), ys.length ≤ most → (∀ y ∈ ys, ∀ a ∈ num y, -1 ≤ a ∧ a ≤ 99999) → bs = enc ((ys.length : Int) :: ys.flatMap num) ++ rest → xs = ys ∧ bs' = rest

/-- What was read of a list, when k of it are still to come. -/
def Lpt {α : Type} (num : α → List Int) (bs : List Nat) (xs : List α) (k : Int) (bs' : List Nat) : Prop :=
  ∀ (ys : List α) (rest : List Nat), ys.length ≤ 99999 → (∀ y ∈ ys, ∀ a ∈ num y, -1 ≤ a ∧ a ≤ 99999) → bs = enc ((ys.length : Int) :: ys.flatMap num) ++ rest → ∃ zs, ys = xs ++ zs ∧ k = (zs.length : Int) ∧ bs' = enc (zs.flatMap num) ++ rest

theorem Lpt.start {α : Type} {num : α → List Int} {bs bs' : List Nat} {a : Int} (h : Rdn bs [a] bs') : Lpt num bs ([] : List α) a bs' := by
  intro ys rest hl hy e
  rw [enc_cons, List.append_assoc] at e
  obtain ⟨g1, g2⟩ := h [(ys.length : Int)] _ rfl (fun b hb => by rw [List.mem_singleton] at hb; omega) (by rw [e, enc_cons]; exact congrArg (· ++ _) (List.append_nil _).symm)
  injection g1 with g1 _
  exact ⟨ys, rfl, g1, g2⟩

theorem Lpt.step {α : Type} {num : α → List Int} {bs b1 b2 : List Nat} {xs : List α} {x : α} {k : Int} (h : Lpt num bs xs k b1) (hk : 0 < k) (h1 : Rdn b1 (num x) b2) (hl : ∀ y, (num y).length = (num x).length) (hi : ∀ y, num x = num y → x = y) : Lpt num bs (xs ++ [x]) (k - 1) b2 := by
  intro ys rest hl' hy e
  obtain ⟨zs, e1, e2, e3⟩ := h ys rest hl' hy e
  match zs, e1, e2, e3 with
  | [], e1, e2, e3 => simp at e2; omega
  | z :: zs, e1, e2, e3 =>
    rw [List.flatMap_cons, enc_append, List.append_assoc] at e3
    obtain ⟨g1, g2⟩ := h1 (num z) _ (hl z) (hy z (by rw [e1]; simp)) e3
    obtain rfl := hi z g1
    exact ⟨zs, by rw [e1]; simp, by rw [e2]; simp, g2⟩

theorem Lpt.done {α : Type} {num : α → List Int} {most : Nat} {bs b1 : List Nat} {xs : List α} {k : Int} (h : Lpt num bs xs k b1) (hm : most ≤ 99999) (hk : k ≤ 0 ∨ (most : Int) < xs.length + k) : Rdl most num bs xs b1 := by
  intro ys rest hl hy e
  obtain ⟨zs, e1, e2, e3⟩ := h ys rest (by omega) hy e
  have hl2 := congrArg List.length e1
  rw [List.length_append] at hl2
  have hz : zs = [] := List.length_eq_zero_iff.1 (by omega)
  subst hz
  rw [List.append_nil] at e1
  exact ⟨e1.symm, by rw [e3]; simp [enc]⟩

theorem Lpt.bad {α : Type} {num : α → List Int} {most : Nat} {bs b2 : List Nat} {xs : List α} {k : Int} (h : Lpt num bs xs k [256]) (hm : most ≤ 99999) (hk : 0 < k) (hp : ∀ y, num y ≠ []) : Rdl most num bs xs b2 := by
  intro ys rest hl hy e
  exfalso
  obtain ⟨zs, e1, e2, e3⟩ := h ys rest (by omega) hy e
  match zs, e2, e3 with
  | [], e2, e3 => simp at e2; omega
  | z :: zs, e2, e3 =>
    match hz : num z, hp z with
    | a :: t, _ =>
      rw [List.flatMap_cons, hz, List.cons_append, enc_cons, List.append_assoc] at e3
      unfold encI at e3
      by_cases h1 : (a + 1).toNat < 128
      · rw [encN_lt h1] at e3
        injection e3 with h2 h3
        omega
      · rw [encN_ge (by omega)] at e3
        injection e3 with h2 h3
        omega

/-- The bytes are those of just one word that is ok, and it is x; or of none. -/
def UnP (bs : List Nat) (x : Wd) (ok : Bool) : Prop :=
  (ok = true ∧ okW x = true ∧ packW x = bs ∧ ∀ y, okW y = true → packW y = bs → y = x) ∨ (ok = false ∧ x = zeroW ∧ ∀ y, okW y = true → packW y ≠ bs)

theorem UnP.same {bs : List Nat} {x y : Wd} {ok ok' : Bool} (h : UnP bs x ok) (h' : UnP bs y ok') : x = y ∧ ok = ok' := by
  rcases h with ⟨rfl, h1, h2, h3⟩ | ⟨rfl, h1, h2⟩ <;> rcases h' with ⟨rfl, g1, g2, g3⟩ | ⟨rfl, g1, g2⟩
  · exact ⟨g3 _ h1 h2, rfl⟩
  · exact absurd h2 (g2 _ h1)
  · exact absurd g2 (h2 _ g1)
  · exact ⟨h1.trans g1.symm, rfl⟩

/-- What was read as a whole word: at the bytes of a word that is ok, that word, and nothing is left. -/
def Rdw (bs : List Nat) (x : Wd) (bs' : List Nat) : Prop := ∀ y, okW y = true → packW y = bs → x = y ∧ bs' = []

theorem Rdw.mk {bs b1 b2 b3 : List Nat} {x : Wd} (h1 : Rdn bs x.nums b1) (h2 : Rdl 60 pnum b1 x.ps b2) (h3 : Rdl 4 lnum b2 x.ls b3) : Rdw bs x b3 := by
  intro y hy e
  have hn := allW_num hy
  obtain ⟨l1, f1⟩ := okL_mem (okW_ps hy)
  obtain ⟨l2, f2⟩ := okL_mem (okW_ls hy)
  unfold packW at e
  rw [if_pos hy] at e
  unfold allW at e
  rw [enc_append, enc_append] at e
  obtain ⟨g1, g2⟩ := h1 y.nums _ rfl (okW_nums hy) e.symm
  obtain ⟨g3, g4⟩ := h2 y.ps _ (by omega) (fun p hp a ha => hn a (List.mem_append.2 (.inr (List.mem_append.2 (.inl (List.mem_cons.2 (.inr (List.mem_flatMap.2 ⟨p, hp, ha⟩)))))))) (by rw [g2]; rfl)
  obtain ⟨g5, g6⟩ := h3 y.ls [] (by omega) (fun p hp a ha => hn a (List.mem_append.2 (.inr (List.mem_append.2 (.inr (List.mem_cons.2 (.inr (List.mem_flatMap.2 ⟨p, hp, ha⟩)))))))) (by rw [g4, List.append_nil]; rfl)
  refine ⟨?_, g6⟩
  cases x
  cases y
  simp only [Wd.nums, List.cons.injEq, and_true] at g1
  simp only at g3 g5
  simp [g1, g3, g5]

theorem UnP.yes {bs b' : List Nat} {x : Wd} (h : Rdw bs x b') (h1 : packW x = bs) (h0 : bs ≠ []) : UnP bs x true := by
  have hk : okW x = true := by
    cases hk : okW x
    · exfalso
      unfold packW at h1
      rw [hk] at h1
      exact h0 (by simpa using h1.symm)
    · rfl
  exact .inl ⟨rfl, hk, h1, fun y hy e => (h y hy e).1.symm⟩

theorem UnP.no {bs b' : List Nat} {x : Wd} (h : Rdw bs x b') (h1 : packW x ≠ bs ∨ b' ≠ [] ∨ bs = []) : UnP bs zeroW false := by
  refine .inr ⟨rfl, rfl, fun y hy e => ?_⟩
  obtain ⟨g1, g2⟩ := h y hy e
  subst g1
  rcases h1 with h1 | h1 | h1
  · exact h1 e
  · exact h1 g2
  · have := packW_pos hy
    rw [e, h1] at this
    simp at this

end Go.Proofs.Ytafojnjpllpjjaa

/- The specification's reader of numbers: contracts; no statement of the seat is proved here. -/
namespace Go.Proofs.Ytafojnjpllpjjaa
open Go.RowKit

/-- What a reader has still to read: nothing that could be read, once it was bad. -/
def vw (bs : List Nat) (p : Nat) (bad : Bool) : List Nat := if bad then [256] else bs.drop p
theorem vw_bad (bs : List Nat) (p : Nat) : vw bs p true = [256] := rfl
theorem vw_ok (bs : List Nat) (p : Nat) : vw bs p false = bs.drop p := rfl
theorem vw_no {bs rest : List Nat} {p m : Nat} (h : vw bs p true = encN m ++ rest) : False := by
  rw [vw_bad] at h
  by_cases h1 : m < 128
  · rw [encN_lt h1] at h
    injection h with h2 h3
    omega
  · rw [encN_ge (by omega)] at h
    injection h with h2 h3
    omega

/-- A reader of numbers at a place. -/
def Rg (w0 w : World) (R : Nat) (bo : Option Addr) (n cap : Nat) (bs : List Nat) (p : Nat) (bad : Bool) : Prop :=
  n ≤ 1048576 ∧ p ≤ n ∧ RowR w0 1 (.slice bo n cap) n (byts bs) ∧ (∀ b ∈ bs, b < 256) ∧
    w.heap[R]? = some (.cells #[.slice bo n cap, .int .i64 (p : Nat), .bool bad] 75 (0, 0)) ∧ w0.heap.size ≤ R ∧ Below w0.heap.size w0 w

theorem Rg.keep {w0 w w' : World} {R n cap p : Nat} {bo : Option Addr} {bs : List Nat} {bad : Bool} {T : Nat → Prop} (h : Rg w0 w R bo n cap bs p bad) (hu : Upd T w w') (hR : ¬ T R) (hT : ∀ k, T k → w0.heap.size ≤ k) : Rg w0 w' R bo n cap bs p bad := by
  obtain ⟨h1, h1', h2, h3, h4, h5, h6⟩ := h
  exact ⟨h1, h1', h2, h3, hu.keeps h4 hR, h5, h6.trans (hu.below h6.size hT)⟩

theorem Rg.keepB {w0 w w' : World} {R n cap p : Nat} {bo : Option Addr} {bs : List Nat} {bad : Bool} (h : Rg w0 w R bo n cap bs p bad) (hu : Below w.heap.size w w') : Rg w0 w' R bo n cap bs p bad :=
  h.keep (T := fun _ => False) (Upd.ofBelow hu) (fun h => h) (fun _ h => h.elim)

theorem Rg.len {w0 w : World} {R n cap p : Nat} {bo : Option Addr} {bs : List Nat} {bad : Bool} (h : Rg w0 w R bo n cap bs p bad) : bs.length = n := by
  obtain ⟨_, _, ⟨_, _, e, _, hl, _⟩, _⟩ := h
  rw [byts_len] at hl
  omega

theorem box3u {w : World} {g : Nat} {a b c : Value} {t : TypeId} (h : w.heap[g]? = some (.cells #[a, b, c] t (0, 0))) :
    w.cell? ⟨g, 0, none⟩ = some a ∧ w.cell? ⟨g, 1, none⟩ = some b ∧ w.cell? ⟨g, 2, none⟩ = some c ∧ g < w.heap.size :=
  ⟨(cell_of_row w g 0 _ _ _ h).trans rfl, (cell_of_row w g 1 _ _ _ h).trans rfl, (cell_of_row w g 2 _ _ _ h).trans rfl, heap_lt h⟩

theorem box3f {w : World} {g : Nat} {a b c : Value} {t : TypeId} (h : w.heap[g]? = some (.cells #[a, b, c] t (0, 0))) : w.frozen? ⟨g, 1, none⟩ = false ∧ w.frozen? ⟨g, 2, none⟩ = false :=
  ⟨frozen_of_row w g 1 _ _ h, frozen_of_row w g 2 _ _ h⟩

theorem updDrew {S : Nat → Prop} {w w' : World} (h : Upd S w w') (k : Nat) : Upd S w (w'.drewN k) := ⟨h.os, h.tape, h.output, h.size, h.block⟩

/-- What is known in the midst of a number. -/
def Mid (kk pp : Int) (pl n : Nat) : Prop := (kk = 0 ∧ pp = 1 ∧ pl = 1 ∧ n < 1) ∨ (kk = 1 ∧ pp = 128 ∧ pl = 128 ∧ n < 128) ∨ (kk = 2 ∧ pp = 16384 ∧ pl = 16384 ∧ n < 16384) ∨ (kk = 3 ∧ pp = 2097152 ∧ pl = 2097152 ∧ n < 2097152)

/-- What reading a number gives: that number, the reader behind it. -/
def Num1 (w0 w : World) (R : Nat) (bo : Option Addr) (n cap : Nat) (bs : List Nat) (p : Nat) (bad : Bool) (a : Int) (w' : World) : Prop :=
  ∃ (p' : Nat) (bad' : Bool), -1 ≤ a ∧ a ≤ 2097150 ∧ Rg w0 w' R bo n cap bs p' bad' ∧ Rdn (vw bs p bad) [a] (vw bs p' bad') ∧ Upd (fun j => j = R) w w'

theorem bad_end {w0 w wr : World} {R n cap p q : Nat} {bo : Option Addr} {bs : List Nat} {bad : Bool} (HG : Rg w0 wr R bo n cap bs q bad) (HU : Upd (fun j => j = R) w wr) (hno : ∀ m rest, m ≤ 100000 → vw bs p bad = encN m ++ rest → False) :
    Num1 w0 w R bo n cap bs p bad 0 (wr.setCell ⟨R, 2, none⟩ (.bool true)) := by
  have hu := Upd.setCell (S := fun j => j = R) wr R 2 (.bool true) rfl
  have h5 := HG.2.2.2.2.2.1
  exact ⟨q, true, by omega, by omega, ⟨HG.1, HG.2.1, HG.2.2.1, HG.2.2.2.1, row_set _ HG.2.2.2.2.1, h5, HG.2.2.2.2.2.2.trans (hu.below HG.2.2.2.2.2.2.size (fun k h => by omega))⟩, Rdn.one (fun m rest hm e => (hno m rest hm e).elim), HU.trans hu⟩

theorem go_on {w0 w wr : World} {R n cap q : Nat} {bo : Option Addr} {bs : List Nat} {bad : Bool} (HG : Rg w0 wr R bo n cap bs q bad) (HU : Upd (fun j => j = R) w wr) (hq : q < n) :
    Rg w0 (wr.setCell ⟨R, 1, none⟩ (.int .i64 ((q + 1 : Nat) : Int))) R bo n cap bs (q + 1) bad ∧ Upd (fun j => j = R) w (wr.setCell ⟨R, 1, none⟩ (.int .i64 ((q + 1 : Nat) : Int))) := by
  have hu := Upd.setCell (S := fun j => j = R) wr R 1 (.int .i64 ((q + 1 : Nat) : Int)) rfl
  have h5 := HG.2.2.2.2.2.1
  exact ⟨⟨HG.1, by omega, HG.2.2.1, HG.2.2.2.1, row_set _ HG.2.2.2.2.1, h5, HG.2.2.2.2.2.2.trans (hu.below HG.2.2.2.2.2.2.size (fun k h => by omega))⟩, HU.trans hu⟩

theorem Rg.drewN {w0 w : World} {R n cap p : Nat} {bo : Option Addr} {bs : List Nat} {bad : Bool} (h : Rg w0 w R bo n cap bs p bad) (k : Nat) : Rg w0 (w.drewN k) R bo n cap bs p bad := h.keepB (below_drewN (Below.refl _ _) _)

theorem num_last {bs : List Nat} {p q u pl y : Nat} {bad : Bool} (hT : bad = false → ∀ m rest, vw bs p bad = encN m ++ rest → Lft (bs.drop q) u pl m rest) (hc : bs.drop q = y :: bs.drop (q + 1)) (hy : y < 128) {a : Int} (ha : a = ((u + y % 128 * pl : Nat) : Int) - 1) : Rdn (vw bs p bad) [a] (vw bs (q + 1) bad) := by
  refine Rdn.one (fun m rest hm e => ?_)
  cases bad
  · have := hT rfl m rest e
    rw [hc] at this
    obtain ⟨e1, e2⟩ := this.last hy
    exact ⟨by rw [ha, e1], e2⟩
  · exact (vw_no e).elim

set_option maxRecDepth 100000 in
set_option maxHeartbeats 4000000 in
theorem num_any (w0 w : World) (R p n cap : Nat) (bo : Option Addr) (bs : List Nat) (bad : Bool) (h : Rg w0 w R bo n cap bs p bad) :
    Calls Try.prog 64 #[.pointer (some ⟨R, 0, none⟩)] w fun e w' => ∃ (a : Int), e = .returned (.int .i64 a) ∧ Num1 w0 w R bo n cap bs p bad a w' := by
  have HN := hide h.len
  have HR := hide h
  have hn := h.1
  have hw0 := h.2.2.2.2.2.1
  clear h
  go_enter Try.func64, Try.ntmps64
  go_wp2
  go_loopw [3, 4, 5] (fun nv pv kv wr => ∃ (q u pl : Nat) (kk pp : Int), nv = .int .i64 u ∧ pv = .int .i64 pp ∧ kv = .int .i64 kk ∧ Mid kk pp pl u ∧ Rg w0 wr R bo n cap bs q bad ∧ Upd (fun j => j = R) w wr ∧ (bad = false → ∀ m rest, vw bs p bad = encN m ++ rest → Lft (bs.drop q) u pl m rest)) (fun _ _ kv _ => 3 - (intOf kv).toNat)
  case atStart => exact ⟨p, 0, 1, 0, 1, rfl, rfl, rfl, .inl ⟨rfl, rfl, rfl, by omega⟩, HR.out, Upd.refl _ _, fun hb m rest e => Lft.start (by rw [← e, hb]; rfl)⟩
  case round =>
    obtain ⟨q, u, pl, kk, pp, rfl, rfl, rfl, hmid, hrg, hupd, htg⟩ := hrel
    have HT := hide htg
    have HG := hide hrg
    obtain ⟨-, hq, hrow, hby, hbox, -, hbel⟩ := hrg
    obtain ⟨p0, p1, p2, plt⟩ := box3u hbox
    obtain ⟨p3, p4⟩ := box3f hbox
    have HU := hide hupd
    clear htg hupd hbox
    by_cases h3 : kk < 3
    · by_cases hlt : q < n
      · have hlt' : ¬ (q : Int) ≥ (n : Int) := by omega
        obtain ⟨y, hy⟩ := getAt bs q (by have := HN.out; omega)
        have hy2 : y < 256 := hby y (List.mem_of_getElem? hy)
        obtain ⟨_, _, e0, -, -, hc0⟩ := hrow
        injection e0 with e1 e2 e3
        subst e1 e3
        obtain ⟨kb, koff, rfl, hc⟩ := hc0 (by omega)
        have hcu := hc q (.int .u8 (y : Int)) (by simp [byts, hy])
        have hkb := World.block_lt_of_cell? w0 _ hcu
        have fy : wr.cell? ⟨kb, koff + q, none⟩ = some (.int .u8 (y : Int)) := (hbel.cell (p := ⟨kb, koff + q, none⟩) hkb).trans hcu
        have hne : ¬ kb = R := by simp at hkb; omega
        have hcons : bs.drop q = y :: bs.drop (q + 1) := by
          rw [List.drop_eq_getElem_cons (by have := HN.out; omega)]
          congr 1
          have := List.getElem?_eq_getElem (l := bs) (i := q) (by have := HN.out; omega)
          rw [hy] at this
          injection this with this
          exact this.symm
        have HC := hide hcons
        clear hcu hc hc0 e2 hcons hy
        by_cases hs : y < 128
        · have hs' : (y : Int) < 128 := by omega
          have fin : ∀ (nd : Nat) (a : Int) (W : World), W = (wr.drewN nd).setCell ⟨R, 1, none⟩ (.int .i64 ((q + 1 : Nat) : Int)) → a = ((u + y % 128 * pl : Nat) : Int) - 1 → -1 ≤ a → a ≤ 2097150 → Num1 w0 w R (some ⟨kb, koff, none⟩) n cap bs p bad a W := by
            intro nd a W hW ha h1 h2
            obtain ⟨g1, g2⟩ := go_on (HG.out.drewN nd) (updDrew HU.out nd) hlt
            rw [hW]
            exact ⟨q + 1, bad, h1, h2, g1, num_last HT.out HC.out hs ha, g2⟩
          rcases hmid with ⟨rfl, rfl, rfl, hu⟩ | ⟨rfl, rfl, rfl, hu⟩ | ⟨rfl, rfl, rfl, hu⟩ | ⟨rfl, rfl, rfl, hu⟩
          · go_wp2
            go_quiet (fail)
            go_wp2
            go_quiet (fail)
            go_wp2
            go_ret
            exact ⟨_, rfl, fin _ _ _ rfl (by push_cast; omega) (by omega) (by omega)⟩
          · go_wp2
            go_quiet (fail)
            go_wp2
            go_quiet (fail)
            go_wp2
            go_ret
            exact ⟨_, rfl, fin _ _ _ rfl (by push_cast; omega) (by omega) (by omega)⟩
          · go_wp2
            go_quiet (fail)
            go_wp2
            go_quiet (fail)
            go_wp2
            go_ret
            exact ⟨_, rfl, fin _ _ _ rfl (by push_cast; omega) (by omega) (by omega)⟩
          · omega
        · have hs' : ¬ (y : Int) < 128 := by omega
          have more : ∀ nd : Nat, Rg w0 ((wr.drewN nd).setCell ⟨R, 1, none⟩ (.int .i64 ((q + 1 : Nat) : Int))) R (some ⟨kb, koff, none⟩) n cap bs (q + 1) bad ∧ Upd (fun j => j = R) w ((wr.drewN nd).setCell ⟨R, 1, none⟩ (.int .i64 ((q + 1 : Nat) : Int))) ∧ (bad = false → ∀ m rest, vw bs p bad = encN m ++ rest → Lft (bs.drop (q + 1)) (u + y % 128 * pl) (pl * 128) m rest) := by
            intro nd
            obtain ⟨g1, g2⟩ := go_on (HG.out.drewN nd) (updDrew HU.out nd) hlt
            refine ⟨g1, g2, fun hb m rest e => ?_⟩
            have := HT.out hb m rest e
            rw [HC.out] at this
            exact this.more (by omega)
          rcases hmid with ⟨rfl, rfl, rfl, hu⟩ | ⟨rfl, rfl, rfl, hu⟩ | ⟨rfl, rfl, rfl, hu⟩ | ⟨rfl, rfl, rfl, hu⟩
          · go_wp2
            go_quiet (fail)
            go_wp2
            go_quiet (fail)
            go_wp2
            go_roundw
            case rel =>
              obtain ⟨g1, g2, g3⟩ := more _
              exact ⟨q + 1, u + y % 128 * 1, 128, _, _, by push_cast; first | rfl | (congr 1; omega), rfl, rfl, .inr (.inl ⟨rfl, rfl, rfl, by omega⟩), g1, g2, g3⟩
            case measure => decide
          · go_wp2
            go_quiet (fail)
            go_wp2
            go_quiet (fail)
            go_wp2
            go_roundw
            case rel =>
              obtain ⟨g1, g2, g3⟩ := more _
              exact ⟨q + 1, u + y % 128 * 128, 16384, _, _, by push_cast; first | rfl | (congr 1; omega), rfl, rfl, .inr (.inr (.inl ⟨rfl, rfl, rfl, by omega⟩)), g1, g2, g3⟩
            case measure => decide
          · go_wp2
            go_quiet (fail)
            go_wp2
            go_quiet (fail)
            go_wp2
            go_roundw
            case rel =>
              obtain ⟨g1, g2, g3⟩ := more _
              exact ⟨q + 1, u + y % 128 * 16384, 2097152, _, _, by push_cast; first | rfl | (congr 1; omega), rfl, rfl, .inr (.inr (.inr ⟨rfl, rfl, rfl, by omega⟩)), g1, g2, g3⟩
            case measure => decide
          · omega
      · obtain rfl : q = n := by omega
        have hno : ∀ m rest, m ≤ 100000 → vw bs p bad = encN m ++ rest → False := by
          intro m rest hm e
          cases bad
          · have := (HT.out rfl m rest e).ne
            rw [List.drop_eq_nil_of_le (by have := HN.out; omega)] at this
            exact this rfl
          · exact vw_no e
        go_wp2
        go_quiet (fail)
        go_wp2
        go_ret
        exact ⟨0, rfl, bad_end (HG.out.drewN _) (updDrew HU.out _) hno⟩
    · obtain ⟨rfl, rfl, rfl, hu⟩ : kk = 3 ∧ pp = 2097152 ∧ pl = 2097152 ∧ u < 2097152 := by
        rcases hmid with h | h | h | h <;> first | exact h | omega
      have hno : ∀ m rest, m ≤ 100000 → vw bs p bad = encN m ++ rest → False := by
        intro m rest hm e
        cases bad
        · have := (HT.out rfl m rest e).big (by omega)
          omega
        · exact vw_no e
      go_wp2
      go_ret
      exact ⟨0, rfl, bad_end HG.out HU.out hno⟩

end Go.Proofs.Ytafojnjpllpjjaa

/- The program's reader of numbers: contracts; no statement of the seat is proved here. -/
namespace Go.Proofs.Ytafojnjpllpjjaa
open Go.RowKit

/-- Bytes that are still to be taken, behind a pointer. -/
def Tk (w0 w : World) (G : Nat) (bs : List Nat) : Prop :=
  ∃ (so : Option Addr) (ns sc : Nat), RowR w0 1 (.slice so ns sc) ns (byts bs) ∧ ns ≤ sc ∧ ns ≤ 1048576 ∧ (∀ b ∈ bs, b < 256) ∧
    w.heap[G]? = some (.cells #[.slice so ns sc] 69 (0, 0)) ∧ w0.heap.size ≤ G ∧ Below w0.heap.size w0 w

theorem Tk.keep {w0 w w' : World} {G : Nat} {bs : List Nat} {T : Nat → Prop} (h : Tk w0 w G bs) (hu : Upd T w w') (hG : ¬ T G) (hT : ∀ k, T k → w0.heap.size ≤ k) : Tk w0 w' G bs := by
  obtain ⟨so, ns, sc, h1, h2, h3, h4, h5, h6, h7⟩ := h
  exact ⟨so, ns, sc, h1, h2, h3, h4, hu.keeps h5 hG, h6, h7.trans (hu.below h7.size hT)⟩
theorem Tk.keepB {w0 w w' : World} {G : Nat} {bs : List Nat} (h : Tk w0 w G bs) (hu : Below w.heap.size w w') : Tk w0 w' G bs :=
  h.keep (T := fun _ => False) (Upd.ofBelow hu) (fun h => h) (fun _ h => h.elim)
theorem Tk.lt {w0 w : World} {G : Nat} {bs : List Nat} (h : Tk w0 w G bs) : G < w.heap.size ∧ w0.heap.size ≤ G ∧ w0.heap.size ≤ w.heap.size := by
  obtain ⟨so, ns, sc, h1, h2, h3, h4, h5, h6, h7⟩ := h
  exact ⟨heap_lt h5, h6, h7.size⟩

theorem RowR.from {w : World} {b off n cap j : Nat} {bs : List Nat} (h : RowR w 1 (.slice (some ⟨b, off, none⟩) n cap) n (byts bs)) (hj : j ≤ n) : RowR w 1 (.slice (some ⟨b, off + j, none⟩) (n - j) (cap - j)) (n - j) (byts (bs.drop j)) := by
  obtain ⟨ao, cap', e, hn, hl, h⟩ := h
  injection e with e1 e2 e3
  subst e1 e3
  rw [byts_len] at hl
  refine ⟨_, _, rfl, by omega, by rw [byts_len, List.length_drop]; omega, fun h0 => ⟨b, off + j, rfl, fun i u hi => ?_⟩⟩
  obtain ⟨b', off', e, hc⟩ := h (by omega)
  simp only [Option.some.injEq, Addr.mk.injEq, and_true] at e
  obtain ⟨rfl, rfl⟩ := e
  rw [Nat.add_assoc]
  refine hc (j + i) u ?_
  rw [← hi]
  simp [byts]

/-- What taking a number gives. -/
def Tk1 (w0 w : World) (G : Nat) (bs : List Nat) (xs : List Int) (w' : World) : Prop := ∃ bs', Tk w0 w' G bs' ∧ Rdn bs xs bs' ∧ Upd (fun j => j = G) w w'

def Mid2 (bs : List Nat) (k : Nat) (s : Int) : Prop := ∀ m rest, m ≤ 100000 → bs = encN m ++ rest → ∃ u pl : Nat, s = (u : Int) ∧ ((k = 0 ∧ pl = 1 ∧ u < 1) ∨ (k = 1 ∧ pl = 128 ∧ u < 128) ∨ (k = 2 ∧ pl = 16384 ∧ u < 16384)) ∧ Lft (bs.drop k) u pl m rest

theorem shl_small (y k pl : Nat) (hy : y < 128) (hk : (k = 0 ∧ pl = 1) ∨ (k = 1 ∧ pl = 128) ∨ (k = 2 ∧ pl = 16384)) : IntKind.i64.wrap ((y : Int) * 2 ^ min (7 * (k : Int)).toNat IntKind.i64.bits) = ((y * pl : Nat) : Int) := by
  rcases hk with ⟨rfl, rfl⟩ | ⟨rfl, rfl⟩ | ⟨rfl, rfl⟩
  · simp [IntKind.wrap, IntKind.bits, IntKind.signed]; omega
  · simp [IntKind.wrap, IntKind.bits, IntKind.signed]; omega
  · simp [IntKind.wrap, IntKind.bits, IntKind.signed]; omega

theorem or_small (u x i pl : Nat) (hp : pl = 2 ^ i) (hu : u < pl) (hb : x * pl + u < 4611686018427387904) : bits .or .i64 (u : Int) ((x * pl : Nat) : Int) = ((u + x * pl : Nat) : Int) := by
  have h1 : (BitVec.ofInt 64 (u : Int)).toNat = u := by
    rw [BitVec.ofInt_natCast, BitVec.toNat_ofNat]; exact Nat.mod_eq_of_lt (by omega)
  have h2 : (BitVec.ofInt 64 ((x * pl : Nat) : Int)).toNat = x * pl := by
    rw [BitVec.ofInt_natCast, BitVec.toNat_ofNat]; exact Nat.mod_eq_of_lt (by omega)
  have h3 : u ||| x * pl = u + x * pl := by
    have := Nat.shiftLeft_add_eq_or_of_lt (b := u) (i := i) (by rw [← hp]; exact hu) x
    rw [Nat.shiftLeft_eq, ← hp] at this
    rw [Nat.or_comm, ← this, Nat.add_comm]
  show IntKind.i64.wrap ((BitVec.ofInt 64 (u : Int) ||| BitVec.ofInt 64 ((x * pl : Nat) : Int)).toNat : Int) = _
  rw [BitVec.toNat_or, h1, h2, h3]
  have hb' : u + x * pl < 4611686018427387904 := by omega
  clear hb h1 h2 h3
  generalize u + x * pl = c at hb' ⊢
  simp [IntKind.wrap, IntKind.bits, IntKind.signed]
  omega

/-- One byte more of a number. -/
theorem Mid2.sum {bs : List Nat} {k y : Nat} {s X : Int} (h : Mid2 bs k s) (hX : X = IntKind.i64.wrap (((y : Int) % 128) * 2 ^ min (7 * (k : Int)).toNat IntKind.i64.bits)) {m : Nat} {rest : List Nat} (hm : m ≤ 100000) (e : bs = encN m ++ rest) :
    ∃ u pl : Nat, bits .or .i64 s X = ((u + y % 128 * pl : Nat) : Int) ∧ ((k = 0 ∧ pl = 1 ∧ u < 1) ∨ (k = 1 ∧ pl = 128 ∧ u < 128) ∨ (k = 2 ∧ pl = 16384 ∧ u < 16384)) ∧ Lft (bs.drop k) u pl m rest := by
  obtain ⟨u, pl, rfl, hp, hl⟩ := h m rest hm e
  refine ⟨u, pl, ?_, hp, hl⟩
  have hX2 := shl_small (y % 128) k pl (by omega) (by omega)
  rw [show ((y % 128 : Nat) : Int) = (y : Int) % 128 by omega] at hX2
  rw [hX, hX2]
  rcases hp with ⟨-, rfl, hu⟩ | ⟨-, rfl, hu⟩ | ⟨-, rfl, hu⟩
  · exact or_small u (y % 128) 0 1 rfl hu (by omega)
  · exact or_small u (y % 128) 7 128 rfl hu (by omega)
  · exact or_small u (y % 128) 14 16384 rfl hu (by omega)

theorem Mid2.last {bs : List Nat} {k y : Nat} {s X : Int} (h : Mid2 bs k s) (hy : y < 128) (hX : X = IntKind.i64.wrap (((y : Int) % 128) * 2 ^ min (7 * (k : Int)).toNat IntKind.i64.bits)) (hc : bs.drop k = y :: bs.drop (k + 1)) : Rdn bs [wrap64 (bits .or .i64 s X - 1)] (bs.drop (k + 1)) := by
  refine Rdn.one (fun m rest hm e => ?_)
  obtain ⟨u, pl, e1, hp, hl⟩ := h.sum hX hm e
  rw [hc] at hl
  obtain ⟨g1, g2⟩ := hl.last hy
  refine ⟨?_, g2⟩
  rw [e1, ← g1]
  simp [wrap64]
  omega

theorem Mid2.more {bs : List Nat} {k y : Nat} {s X : Int} (h : Mid2 bs k s) (hy : 128 ≤ y) (hX : X = IntKind.i64.wrap (((y : Int) % 128) * 2 ^ min (7 * (k : Int)).toNat IntKind.i64.bits)) (hc : bs.drop k = y :: bs.drop (k + 1)) : Mid2 bs (k + 1) (bits .or .i64 s X) := by
  intro m rest hm e
  obtain ⟨u, pl, e1, hp, hl⟩ := h.sum hX hm e
  rw [hc] at hl
  have hl2 := hl.more hy
  refine ⟨_, _, e1, ?_, hl2⟩
  rcases hp with ⟨rfl, rfl, hu⟩ | ⟨rfl, rfl, hu⟩ | ⟨rfl, rfl, hu⟩
  · exact .inr (.inl ⟨rfl, rfl, by omega⟩)
  · exact .inr (.inr ⟨rfl, rfl, by omega⟩)
  · exfalso
    have := hl2.big (by omega)
    omega

theorem takeEnd {w0 w : World} {G n' c' : Nat} {so' : Option Addr} {bs bs' : List Nat} (h : Tk w0 w G bs) (hr : RowR w0 1 (.slice so' n' c') n' (byts bs')) (hc : n' ≤ c') (hn : n' ≤ 1048576) (hb : ∀ b ∈ bs', b ∈ bs) :
    Tk w0 (w.setCell ⟨G, 0, none⟩ (.slice so' n' c')) G bs' ∧ Upd (fun j => j = G) w (w.setCell ⟨G, 0, none⟩ (.slice so' n' c')) := by
  obtain ⟨so, ns, sc, h1, h2, h3, h4, h5, h6, h7⟩ := h
  have hu := Upd.setCell (S := fun j => j = G) w G 0 (.slice so' n' c') rfl
  exact ⟨⟨so', n', c', hr, hc, hn, fun b h => h4 b (hb b h), row_set _ h5, h6, h7.trans (hu.below h7.size (fun k h => by omega))⟩, hu⟩

set_option maxRecDepth 100000 in
set_option maxHeartbeats 4000000 in
theorem takeNumber_any (w0 w : World) (G : Nat) (bs : List Nat) (h : Tk w0 w G bs) :
    Calls Try.prog 78 #[.pointer (some ⟨G, 0, none⟩)] w fun e w' => ∃ (a : Int), e = .returned (.int .i64 a) ∧ Tk1 w0 w G bs [a] w' := by
  have HT := hide h
  obtain ⟨so, ns, sc, h1, h2, h3, h4, h5, h6, h7⟩ := h
  have H1 := hide h1
  have H4 := hide h4
  have H5 := hide h5
  have H7 := hide h7
  have c0 : w.cell? ⟨G, 0, none⟩ = some (.slice so ns sc) := boxAt h5 0
  have c1 : w.frozen? ⟨G, 0, none⟩ = false := boxFz h5 0
  have hlen : bs.length = ns := by
    obtain ⟨_, _, _, _, hl, _⟩ := h1
    rw [byts_len] at hl
    omega
  have HL := hide hlen
  clear h1 h4 h5 h7 hlen
  go_enter Try.func78, Try.ntmps78
  go_wp2
  go_loopw [3, 10] (fun sv iv wr => ∃ (k : Nat) (s : Int), k ≤ ns ∧ iv = .int .i64 k ∧ sv = .int .i64 s ∧ Mid2 bs k s ∧ wr = w) (fun _ iv _ => ns - (intOf iv).toNat)
  case atStart => exact ⟨0, 0, Nat.zero_le _, rfl, rfl, fun m rest hm e => ⟨0, 1, rfl, .inl ⟨rfl, rfl, by omega⟩, Lft.start e⟩, rfl⟩
  case round =>
    obtain ⟨k, s, hk, rfl, rfl, hmid, rfl⟩ := hrel
    have HM := hide hmid
    clear hmid
    by_cases hlt : k < ns
    · have hi : (k : Int) < (ns : Int) := by omega
      obtain ⟨y, hy⟩ := getAt bs k (by have := HL.out; omega)
      have hy2 : y < 256 := H4.out y (List.mem_of_getElem? hy)
      obtain ⟨_, _, e0, -, -, hc0⟩ := H1.out
      injection e0 with e1 e2 e3
      subst e1 e3
      obtain ⟨kb, koff, rfl, hc⟩ := hc0 (by omega)
      have hcu := hc k (.int .u8 (y : Int)) (by simp [byts, hy])
      have hkb := World.block_lt_of_cell? w0 _ hcu
      have fy : wr.cell? ⟨kb, koff + k, none⟩ = some (.int .u8 (y : Int)) := (H7.out.cell (p := ⟨kb, koff + k, none⟩) hkb).trans hcu
      have hne : ¬ kb = G := by simp at hkb; omega
      have hcons : bs.drop k = y :: bs.drop (k + 1) := by
        rw [List.drop_eq_getElem_cons (by have := HL.out; omega)]
        congr 1
        have := List.getElem?_eq_getElem (l := bs) (i := k) (by have := HL.out; omega)
        rw [hy] at this
        injection this with this
        exact this.symm
      have HC := hide hcons
      clear hcu hc hc0 e2 hcons hy
      obtain ⟨X, hXe, hX⟩ : ∃ X, X = IntKind.i64.wrap (((y : Int) % 128) * 2 ^ min (7 * (k : Int)).toNat IntKind.i64.bits) ∧ Op.shift .shl .i64 ((y : Int) % 128) .i64 (7 * (k : Int)) = pure (.int .i64 X) := ⟨_, rfl, shift_shl_any .i64 .i64 _ _ (by omega)⟩
      have HX := hide hXe
      clear hXe
      obtain ⟨Y, hY⟩ : ∃ Y, bits .or .i64 s X = Y := ⟨_, rfl⟩
      have HY := hide hY
      by_cases hs : y < 128
      · have hs' : (y : Int) < 128 := by omega
        by_cases hcap : sc = k + 1
        · obtain rfl : ns = k + 1 := by omega
          subst hcap
          have hnil : bs.drop (k + 1) = [] := List.drop_eq_nil_of_le (by have := HL.out; omega)
          have hrd := HM.out.last hs HX.out HC.out
          rw [HY.out, hnil] at hrd
          have HRD := hide hrd
          clear hnil hrd
          go_wp2
          go_ret
          obtain ⟨g1, g2⟩ := takeEnd (so' := some ⟨kb, koff, none⟩) (n' := k + 1 - (k + 1)) (c' := 0) (bs' := []) HT.out ⟨_, _, rfl, by omega, by simp [byts], fun h => by omega⟩ (by omega) (by omega) (by simp)
          exact ⟨_, rfl, [], by first | exact g1 | simpa using g1, HRD.out, by first | exact g2 | simpa using g2⟩
        · have hrd := HM.out.last hs HX.out HC.out
          rw [HY.out] at hrd
          have HRD := hide hrd
          have HRF := hide (RowR.from (j := k + 1) H1.out (by omega))
          clear hrd
          go_wp2
          go_ret
          obtain ⟨g1, g2⟩ := takeEnd HT.out HRF.out (by omega) (by omega) (fun b hb => List.mem_of_mem_drop hb)
          exact ⟨_, rfl, _, g1, HRD.out, g2⟩
      · have hs' : ¬ (y : Int) < 128 := by omega
        have hmo := HM.out.more (by omega) HX.out HC.out
        rw [HY.out] at hmo
        have HMO := hide hmo
        clear hmo
        go_wp2
        go_roundw
        case rel => exact ⟨k + 1, Y, by omega, by go_num, rfl, HMO.out, by simp⟩
        case measure => simp [intOf]; omega
    · obtain rfl : k = ns := by omega
      have hrd : Rdn bs [-1] [] := Rdn.one (fun m rest hm e => by
        obtain ⟨u, pl, -, -, hl⟩ := HM.out m rest hm e
        have := hl.ne
        rw [List.drop_eq_nil_of_le (by have := HL.out; omega)] at this
        exact absurd rfl this)
      have HRD := hide hrd
      clear hrd
      go_wp2
      go_ret
      obtain ⟨g1, g2⟩ := takeEnd (so' := none) (n' := 0) (c' := 0) (bs' := []) HT.out (RowR.nil _ _) (by omega) (by omega) (by simp)
      exact ⟨_, rfl, [], g1, HRD.out, g2⟩

theorem setNext {pre : List Int} {cur : List Value} {k : Nat} {c : Value} {rest : List Value} (hk : pre.length = k) (hc : cur.drop k = c :: rest) (a : Int) :
    ((pre.map (Value.int .i64)) ++ cur.drop k).toArray.setIfInBounds k (.int .i64 a) = ((pre ++ [a]).map (Value.int .i64) ++ cur.drop (k + 1)).toArray := by
  have h1 : cur.drop (k + 1) = rest := by
    have := congrArg List.tail hc
    rwa [List.tail_drop] at this
  rw [h1, hc, List.setIfInBounds_toArray, List.set_append, if_neg (by simp; omega)]
  simp [hk]

set_option maxRecDepth 100000 in
set_option maxHeartbeats 4000000 in
theorem take_any (w0 w : World) (G D pb po n cap : Nat) (t : TypeId) (cur : Array Value) (bs : List Nat) (h : Tk w0 w G bs) (hD : w.heap[D]? = some (.cells cur t (0, 0))) (hn : n ≤ cur.size) (hn' : n ≤ 1000) (h0 : w0.heap.size ≤ D) (hDG : D ≠ G) (hpG : pb ≠ G) (hpD : pb ≠ D)
    (hp : ∀ k, k < n → w.cell? ⟨pb, po + k, none⟩ = some (.pointer (some ⟨D, k, none⟩))) :
    Calls Try.prog 67 #[.pointer (some ⟨G, 0, none⟩), .slice (some ⟨pb, po, none⟩) n cap] w fun e w' => e = .returned (.tuple #[]) ∧ ∃ (xs : List Int) (bs' : List Nat), xs.length = n ∧ Tk w0 w' G bs' ∧ Rdn bs xs bs' ∧ w'.heap[D]? = some (.cells (xs.map (Value.int .i64) ++ cur.toList.drop n).toArray t (0, 0)) ∧ Upd (fun j => j = G ∨ j = D) w w' := by
  have HT := hide h
  have HD := hide hD
  have HP := hide hp
  clear h hD hp
  go_enter Try.func67, Try.ntmps67
  go_wp2
  go_loopw [8] (fun iv wr => ∃ (k : Nat) (xs : List Int) (bs' : List Nat), k ≤ n ∧ iv = .int .i64 k ∧ xs.length = k ∧ Tk w0 wr G bs' ∧ Rdn bs xs bs' ∧ wr.heap[D]? = some (.cells (xs.map (Value.int .i64) ++ cur.toList.drop k).toArray t (0, 0)) ∧ Upd (fun j => j = G ∨ j = D) w wr) (fun iv _ => n - (intOf iv).toNat)
  case atStart => exact ⟨0, [], bs, Nat.zero_le _, rfl, rfl, HT.out, Rdn.nil _, by simpa using HD.out, Upd.refl _ _⟩
  case round =>
    obtain ⟨k, xs, bs', hk, rfl, hxl, htk, hrd, hbx, hupd⟩ := hrel
    by_cases hlt : k < n
    · have hi : (k : Int) < (n : Int) := by omega
      have f0 : wr.cell? ⟨pb, po + k, none⟩ = some (.pointer (some ⟨D, k, none⟩)) := updCell hupd (HP.out k hlt) (by omega)
      obtain ⟨c, hc⟩ : ∃ c, cur.toList[k]? = some c := getAt _ _ (by simp; omega)
      have hdr : cur.toList.drop k = c :: cur.toList.drop (k + 1) := by
        obtain ⟨hl, e⟩ := List.getElem?_eq_some_iff.1 hc
        rw [List.drop_eq_getElem_cons hl, e]
      have HX := hide hxl
      have HR := hide hrd
      have HB := hide hbx
      have HU := hide hupd
      have HDR := hide hdr
      clear hxl hrd hbx hupd hc hdr
      go_wp2_with fail
      refine (takeNumber_any w0 wr G bs' htk).mono ?_
      rintro e w1 ⟨a, rfl, b1, tk1, rd1, u1⟩
      have B1 := hide (u1.keeps HB.out hDG)
      have c0 : w1.cell? ⟨D, k, none⟩ = some c := by
        rw [boxAt B1.out k]
        simp [HX.out, HDR.out]
      have c1 : w1.frozen? ⟨D, k, none⟩ = false := boxFz B1.out k
      have us := Upd.setCell (S := fun j => j = D) w1 D k (.int .i64 a) rfl
      go_wp2
      go_roundw
      case rel =>
        refine ⟨k + 1, xs ++ [a], b1, by omega, by go_num, by rw [List.length_append, HX.out]; rfl, tk1.keep us (fun h => hDG h.symm) (fun k h => by omega), HR.out.append rd1, ?_, (HU.out.trans (u1.mono (fun k h => .inl h))).trans (us.mono (fun k h => .inr h))⟩
        rw [← setNext HX.out HDR.out a]
        exact row_set _ B1.out
      case measure => simp [intOf]; omega
    · obtain rfl : k = n := by omega
      go_wp2
      go_end0
      exact ⟨rfl, xs, bs', hxl, htk, hrd, hbx, hupd⟩

end Go.Proofs.Ytafojnjpllpjjaa

/- The program's reader of lists: contracts; no statement of the seat is proved here. -/
namespace Go.Proofs.Ytafojnjpllpjjaa
open Go.RowKit

theorem Upd.transW {S T : Nat → Prop} {a b c : World} (h : Upd S a b) (k : Upd T b c) (hT : ∀ i, T i → S i ∨ a.heap.size ≤ i) : Upd S a c :=
  ⟨k.os.trans h.os, k.tape.trans h.tape, k.output.trans h.output, Nat.le_trans h.size k.size,
    fun i hi hS => (k.block i (Nat.lt_of_lt_of_le hi h.size) (fun ht => by rcases hT i ht with h1 | h1; exact hS h1; omega)).trans (h.block i hi hS)⟩

theorem pcU_new (w : World) (x : Pc) (e : TypeId) : ∀ j u, (pcell x)[j]? = some u → (w.alloc (.cells #[.int .i64 x.1, .int .i64 x.2.1, .int .i64 x.2.2.1, .int .i64 x.2.2.2] e)).cell? ((⟨w.heap.size, 0, none⟩ : Addr).add j) = some u := by
  intro j u h
  rw [Addr.add_lit, Nat.zero_add, boxAt (heap_alloc_new w _)]
  simpa [pcell] using h
theorem lcU_new (w : World) (x : Lc) (e : TypeId) : ∀ j u, (lcell x)[j]? = some u → (w.alloc (.cells #[.int .i64 x.1, .int .i64 x.2] e)).cell? ((⟨w.heap.size, 0, none⟩ : Addr).add j) = some u := by
  intro j u h
  rw [Addr.add_lit, Nat.zero_add, boxAt (heap_alloc_new w _)]
  simpa [lcell] using h

/-- What taking a list gives. -/
def TkL {α : Type} (most : Nat) (num : α → List Int) (w0 w : World) (G : Nat) (bs : List Nat) (xs : List α) (w' : World) : Prop := ∃ bs', Tk w0 w' G bs' ∧ Rdl most num bs xs bs' ∧ Upd (fun j => j = G) w w'

set_option maxRecDepth 100000 in
set_option maxHeartbeats 4000000 in
theorem takeP_any (w0 w : World) (G : Nat) (bs : List Nat) (h : Tk w0 w G bs) :
    Calls Try.prog 68 #[.pointer (some ⟨G, 0, none⟩), .int .i64 60, .func (.func 69) #[] #[]] w fun e w' => ∃ (po : Option Addr) (pc m : Nat), e = .returned (.slice po m pc) ∧ ∃ (xs : List Pc), m = xs.length ∧ RowA w' w.heap.size 83 4 (.slice po m pc) m (pcells xs) ∧ m ≤ 60 ∧ TkL 60 pnum w0 w G bs xs w' := by
  obtain ⟨hGl, hG0, hw0⟩ := h.lt
  obtain ⟨i1, gi, gz0, gz1, gz2⟩ := info_parts infoPc
  go_enter Try.func68, Try.ntmps68
  go_wp2_with fail
  refine (takeNumber_any w0 w G bs h).mono ?_
  rintro e w1 ⟨a, rfl, b1, tk1, rd1, u1⟩
  have LP := hide (Lpt.start (num := pnum) rd1)
  have TK := hide tk1
  have U1 := hide u1
  clear h rd1 tk1 u1
  by_cases ha : a ≤ 60
  · go_wp2
    go_loopw [7, 13] (fun lv iv wr => ∃ (i : Nat) (xs : List Pc) (po : Option Addr) (pc : Nat) (bs' : List Nat), lv = .slice po i pc ∧ iv = .int .i64 i ∧ i = xs.length ∧ (i = 0 ∨ (i : Int) ≤ a) ∧ RowA wr w.heap.size 83 4 (.slice po i pc) i (pcells xs) ∧ Tk w0 wr G bs' ∧ Lpt pnum bs xs (a - i) bs' ∧ Upd (fun j => j = G) w wr) (fun _ iv _ => (a : Int).toNat - (intOf iv).toNat)
    case atStart => exact ⟨0, [], none, 0, b1, rfl, rfl, rfl, .inl rfl, .inr ⟨rfl, rfl, _, rfl⟩, TK.out, by simpa using LP.out, U1.out⟩
    case round =>
      obtain ⟨i, xs, po, pc, bs', rfl, rfl, hi, hle, hrow, htk, hlp, hupd⟩ := hrel
      have HI := hide hi
      have HRW := hide hrow
      have HTK := hide htk
      have HLP := hide hlp
      have HUP := hide hupd
      have hzr := hupd.size
      clear hi hrow htk hlp hupd TK LP U1
      have hi60 : i ≤ 60 := by omega
      by_cases hlt : (i : Int) < a
      · have al1 := bal (Below.refl wr.heap.size wr) (.cells #[.int .i64 0, .int .i64 0, .int .i64 0, .int .i64 0] 83)
        have D1 := hide (heap_alloc_new wr (.cells #[.int .i64 0, .int .i64 0, .int .i64 0, .int .i64 0] 83))
        have CN := hide (pieceNumbers_any wr.heap.size (wr.alloc (.cells #[.int .i64 0, .int .i64 0, .int .i64 0, .int .i64 0] 83)))
        have al2 := bal (Below.refl (wr.alloc (.cells #[.int .i64 0, .int .i64 0, .int .i64 0, .int .i64 0] 83)).heap.size (wr.alloc (.cells #[.int .i64 0, .int .i64 0, .int .i64 0, .int .i64 0] 83))) (.cells (#[.pointer (some ⟨wr.heap.size, 0, none⟩), .pointer (some ⟨wr.heap.size, 1, none⟩), .pointer (some ⟨wr.heap.size, 2, none⟩), .pointer (some ⟨wr.heap.size, 3, none⟩)] : Array Value) 115)
        have B2 := hide (heap_alloc_new (wr.alloc (.cells #[.int .i64 0, .int .i64 0, .int .i64 0, .int .i64 0] 83)) (.cells (#[.pointer (some ⟨wr.heap.size, 0, none⟩), .pointer (some ⟨wr.heap.size, 1, none⟩), .pointer (some ⟨wr.heap.size, 2, none⟩), .pointer (some ⟨wr.heap.size, 3, none⟩)] : Array Value) 115))
        simp only [World.size_alloc] at B2
        go_wp2_with fail
        refine CN.out.mono ?_
        rintro e w2 ⟨rfl, rfl⟩
        have al12 := hide (bDrewB (bAll al1 al2))
        have TK2 := HTK.out.keepB al12.out
        have D2 := hide (bKeeps (bDrewB al2) D1.out)
        have B2v := hide (bKeeps ((Below.refl _ _).drew) B2.out)
        have hGr := HTK.out.lt.1
        clear CN al1 al2 D1 B2
        generalize World.drew _ = V at TK2 D2 al12 B2v ⊢
        go_wp2_with fail
        refine (take_any w0 V G wr.heap.size (wr.heap.size + 1) 0 4 4 _ _ bs' TK2 D2.out (Nat.le_refl _) (by omega) (by omega) (by omega) (by omega) (by omega) ?ptrs).mono ?_
        case ptrs =>
          intro k hk
          rw [Nat.zero_add, boxAt B2v.out k]
          match k, hk with
          | 0, _ => rfl
          | 1, _ => rfl
          | 2, _ => rfl
          | 3, _ => rfl
        rintro e w3 ⟨rfl, ys, b3, hyl, tk3, rd3, hD3, u3⟩
        obtain ⟨d, b, c, t, rfl⟩ : ∃ d b c t, ys = [d, b, c, t] := by
          match ys, hyl with
          | [d, b, c, t], _ => exact ⟨d, b, c, t, rfl⟩
        have D3 : w3.heap[wr.heap.size]? = some (.cells #[.int .i64 d, .int .i64 b, .int .i64 c, .int .i64 t] 83 (0, 0)) := hD3
        have y0 : w3.cell? ⟨wr.heap.size, 0, none⟩ = some (.int .i64 d) := boxAt D3 0
        have y1 : w3.cell? ⟨wr.heap.size, 1, none⟩ = some (.int .i64 b) := boxAt D3 1
        have y2 : w3.cell? ⟨wr.heap.size, 2, none⟩ = some (.int .i64 c) := boxAt D3 2
        have y3 : w3.cell? ⟨wr.heap.size, 3, none⟩ = some (.int .i64 t) := boxAt D3 3
        have U3 := hide ((Upd.ofBelow (S := fun j => j = G) al12.out).transW u3 (fun i h => by omega))
        have al5 := bal (Below.refl w3.heap.size w3) (.cells #[.int .i64 d, .int .i64 b, .int .i64 c, .int .i64 t] 83)
        have row3 := (HRW.out.keep U3.out (fun k h e => by omega)).keepB al5
        have HN3 := hide (pcU_new w3 (d, b, c, t) 83)
        have LP2 := hide (HLP.out.step (x := (d, b, c, t)) (by omega) rd3 (fun _ => rfl) (fun y e => by obtain ⟨y0, y1, y2, y3⟩ := y; simp [pnum] at e; simp [e]))
        have TK3 := hide tk3
        have z3 := U3.out.size
        clear HLP rd3 tk3 u3 D2 B2v al12 TK2 HTK hD3 D3 hyl
        go_wp2_with (at_builtin; refine wpList_appendA _ rfl _ _ 31 rfl w.heap.size 83 i1 (.agg #[.int .i64 0, .int .i64 0, .int .i64 0, .int .i64 0]) 4 32 Try.underlying31 gi gz0 gz1 gz2 rfl (by decide) _ i (pcells xs) rfl row3 ⟨w3.heap.size, 0, none⟩ 1 1 (pcell (d, b, c, t)) rfl rfl HN3.out (pcell_one _) (by decide) ?q63 ?qby ?qbase ?_)
        case q63 => unfold maxLen; omega
        case qby => omega
        case qbase => first | omega | (simp; omega)
        intro v5 w5 hown u5
        obtain ⟨mo, cm, rfl⟩ := (Row.ofOwns hown (by omega)).shape
        go_wp2
        go_roundw
        case rel =>
          refine ⟨i + 1, xs ++ [(d, b, c, t)], mo, cm, b3, rfl, by go_num, by rw [List.length_append, ← HI.out]; rfl, .inr (by omega), .inl (by rw [pcells_snoc]; exact hown), (TK3.out.keepB al5).keep u5 (fun h => by have := h.1; omega) (fun k h => by have := h.1; omega), ?_, ((HUP.out.trans U3.out).trans (Upd.ofBelow al5)).transW u5 (fun k h => .inr h.1)⟩
          have := LP2.out
          rwa [show a - (i : Int) - 1 = a - ((i + 1 : Nat) : Int) by omega] at this
        case measure => simp [intOf]; omega
      · have hd : Rdl 60 pnum bs xs bs' := HLP.out.done (by omega) (by have := HI.out; omega)
        have HDN := hide hd
        clear hd
        go_wp2
        go_ret
        exact ⟨po, pc, i, rfl, xs, HI.out, HRW.out, hi60, bs', HTK.out, HDN.out, HUP.out⟩
  · go_wp2
    go_loopw [7, 13] (fun lv iv wr => ∃ (i : Nat) (xs : List Pc) (po : Option Addr) (pc : Nat) (bs' : List Nat), lv = .slice po i pc ∧ iv = .int .i64 i ∧ i = xs.length ∧ (i = 0 ∨ (i : Int) ≤ 60) ∧ RowA wr w.heap.size 83 4 (.slice po i pc) i (pcells xs) ∧ Tk w0 wr G bs' ∧ Lpt pnum bs xs (a - i) bs' ∧ Upd (fun j => j = G) w wr) (fun _ iv _ => (60 : Int).toNat - (intOf iv).toNat)
    case atStart => exact ⟨0, [], none, 0, b1, rfl, rfl, rfl, .inl rfl, .inr ⟨rfl, rfl, _, rfl⟩, TK.out, by simpa using LP.out, U1.out⟩
    case round =>
      obtain ⟨i, xs, po, pc, bs', rfl, rfl, hi, hle, hrow, htk, hlp, hupd⟩ := hrel
      have HI := hide hi
      have HRW := hide hrow
      have HTK := hide htk
      have HLP := hide hlp
      have HUP := hide hupd
      have hzr := hupd.size
      clear hi hrow htk hlp hupd TK LP U1
      have hi60 : i ≤ 60 := by omega
      by_cases hlt : (i : Int) < 60
      · have al1 := bal (Below.refl wr.heap.size wr) (.cells #[.int .i64 0, .int .i64 0, .int .i64 0, .int .i64 0] 83)
        have D1 := hide (heap_alloc_new wr (.cells #[.int .i64 0, .int .i64 0, .int .i64 0, .int .i64 0] 83))
        have CN := hide (pieceNumbers_any wr.heap.size (wr.alloc (.cells #[.int .i64 0, .int .i64 0, .int .i64 0, .int .i64 0] 83)))
        have al2 := bal (Below.refl (wr.alloc (.cells #[.int .i64 0, .int .i64 0, .int .i64 0, .int .i64 0] 83)).heap.size (wr.alloc (.cells #[.int .i64 0, .int .i64 0, .int .i64 0, .int .i64 0] 83))) (.cells (#[.pointer (some ⟨wr.heap.size, 0, none⟩), .pointer (some ⟨wr.heap.size, 1, none⟩), .pointer (some ⟨wr.heap.size, 2, none⟩), .pointer (some ⟨wr.heap.size, 3, none⟩)] : Array Value) 115)
        have B2 := hide (heap_alloc_new (wr.alloc (.cells #[.int .i64 0, .int .i64 0, .int .i64 0, .int .i64 0] 83)) (.cells (#[.pointer (some ⟨wr.heap.size, 0, none⟩), .pointer (some ⟨wr.heap.size, 1, none⟩), .pointer (some ⟨wr.heap.size, 2, none⟩), .pointer (some ⟨wr.heap.size, 3, none⟩)] : Array Value) 115))
        simp only [World.size_alloc] at B2
        go_wp2_with fail
        refine CN.out.mono ?_
        rintro e w2 ⟨rfl, rfl⟩
        have al12 := hide (bDrewB (bAll al1 al2))
        have TK2 := HTK.out.keepB al12.out
        have D2 := hide (bKeeps (bDrewB al2) D1.out)
        have B2v := hide (bKeeps ((Below.refl _ _).drew) B2.out)
        have hGr := HTK.out.lt.1
        clear CN al1 al2 D1 B2
        generalize World.drew _ = V at TK2 D2 al12 B2v ⊢
        go_wp2_with fail
        refine (take_any w0 V G wr.heap.size (wr.heap.size + 1) 0 4 4 _ _ bs' TK2 D2.out (Nat.le_refl _) (by omega) (by omega) (by omega) (by omega) (by omega) ?ptrs).mono ?_
        case ptrs =>
          intro k hk
          rw [Nat.zero_add, boxAt B2v.out k]
          match k, hk with
          | 0, _ => rfl
          | 1, _ => rfl
          | 2, _ => rfl
          | 3, _ => rfl
        rintro e w3 ⟨rfl, ys, b3, hyl, tk3, rd3, hD3, u3⟩
        obtain ⟨d, b, c, t, rfl⟩ : ∃ d b c t, ys = [d, b, c, t] := by
          match ys, hyl with
          | [d, b, c, t], _ => exact ⟨d, b, c, t, rfl⟩
        have D3 : w3.heap[wr.heap.size]? = some (.cells #[.int .i64 d, .int .i64 b, .int .i64 c, .int .i64 t] 83 (0, 0)) := hD3
        have y0 : w3.cell? ⟨wr.heap.size, 0, none⟩ = some (.int .i64 d) := boxAt D3 0
        have y1 : w3.cell? ⟨wr.heap.size, 1, none⟩ = some (.int .i64 b) := boxAt D3 1
        have y2 : w3.cell? ⟨wr.heap.size, 2, none⟩ = some (.int .i64 c) := boxAt D3 2
        have y3 : w3.cell? ⟨wr.heap.size, 3, none⟩ = some (.int .i64 t) := boxAt D3 3
        have U3 := hide ((Upd.ofBelow (S := fun j => j = G) al12.out).transW u3 (fun i h => by omega))
        have al5 := bal (Below.refl w3.heap.size w3) (.cells #[.int .i64 d, .int .i64 b, .int .i64 c, .int .i64 t] 83)
        have row3 := (HRW.out.keep U3.out (fun k h e => by omega)).keepB al5
        have HN3 := hide (pcU_new w3 (d, b, c, t) 83)
        have LP2 := hide (HLP.out.step (x := (d, b, c, t)) (by omega) rd3 (fun _ => rfl) (fun y e => by obtain ⟨y0, y1, y2, y3⟩ := y; simp [pnum] at e; simp [e]))
        have TK3 := hide tk3
        have z3 := U3.out.size
        clear HLP rd3 tk3 u3 D2 B2v al12 TK2 HTK hD3 D3 hyl
        go_wp2_with (at_builtin; refine wpList_appendA _ rfl _ _ 31 rfl w.heap.size 83 i1 (.agg #[.int .i64 0, .int .i64 0, .int .i64 0, .int .i64 0]) 4 32 Try.underlying31 gi gz0 gz1 gz2 rfl (by decide) _ i (pcells xs) rfl row3 ⟨w3.heap.size, 0, none⟩ 1 1 (pcell (d, b, c, t)) rfl rfl HN3.out (pcell_one _) (by decide) ?q63 ?qby ?qbase ?_)
        case q63 => unfold maxLen; omega
        case qby => omega
        case qbase => first | omega | (simp; omega)
        intro v5 w5 hown u5
        obtain ⟨mo, cm, rfl⟩ := (Row.ofOwns hown (by omega)).shape
        go_wp2
        go_roundw
        case rel =>
          refine ⟨i + 1, xs ++ [(d, b, c, t)], mo, cm, b3, rfl, by go_num, by rw [List.length_append, ← HI.out]; rfl, .inr (by omega), .inl (by rw [pcells_snoc]; exact hown), (TK3.out.keepB al5).keep u5 (fun h => by have := h.1; omega) (fun k h => by have := h.1; omega), ?_, ((HUP.out.trans U3.out).trans (Upd.ofBelow al5)).transW u5 (fun k h => .inr h.1)⟩
          have := LP2.out
          rwa [show a - (i : Int) - 1 = a - ((i + 1 : Nat) : Int) by omega] at this
        case measure => simp [intOf]; omega
      · have hd : Rdl 60 pnum bs xs bs' := HLP.out.done (by omega) (by have := HI.out; omega)
        have HDN := hide hd
        clear hd
        go_wp2
        go_ret
        exact ⟨po, pc, i, rfl, xs, HI.out, HRW.out, hi60, bs', HTK.out, HDN.out, HUP.out⟩

set_option maxRecDepth 100000 in
set_option maxHeartbeats 4000000 in
theorem takeL_any (w0 w : World) (G : Nat) (bs : List Nat) (h : Tk w0 w G bs) :
    Calls Try.prog 70 #[.pointer (some ⟨G, 0, none⟩), .int .i64 4, .func (.func 71) #[] #[]] w fun e w' => ∃ (po : Option Addr) (pc m : Nat), e = .returned (.slice po m pc) ∧ ∃ (xs : List Lc), m = xs.length ∧ RowA w' w.heap.size 86 2 (.slice po m pc) m (lcells xs) ∧ m ≤ 4 ∧ TkL 4 lnum w0 w G bs xs w' := by
  obtain ⟨hGl, hG0, hw0⟩ := h.lt
  obtain ⟨i1, gi, gz0, gz1, gz2⟩ := info_parts infoLc
  go_enter Try.func70, Try.ntmps70
  go_wp2_with fail
  refine (takeNumber_any w0 w G bs h).mono ?_
  rintro e w1 ⟨a, rfl, b1, tk1, rd1, u1⟩
  have LP := hide (Lpt.start (num := lnum) rd1)
  have TK := hide tk1
  have U1 := hide u1
  clear h rd1 tk1 u1
  by_cases ha : a ≤ 4
  · go_wp2
    go_loopw [7, 13] (fun lv iv wr => ∃ (i : Nat) (xs : List Lc) (po : Option Addr) (pc : Nat) (bs' : List Nat), lv = .slice po i pc ∧ iv = .int .i64 i ∧ i = xs.length ∧ (i = 0 ∨ (i : Int) ≤ a) ∧ RowA wr w.heap.size 86 2 (.slice po i pc) i (lcells xs) ∧ Tk w0 wr G bs' ∧ Lpt lnum bs xs (a - i) bs' ∧ Upd (fun j => j = G) w wr) (fun _ iv _ => (a : Int).toNat - (intOf iv).toNat)
    case atStart => exact ⟨0, [], none, 0, b1, rfl, rfl, rfl, .inl rfl, .inr ⟨rfl, rfl, _, rfl⟩, TK.out, by simpa using LP.out, U1.out⟩
    case round =>
      obtain ⟨i, xs, po, pc, bs', rfl, rfl, hi, hle, hrow, htk, hlp, hupd⟩ := hrel
      have HI := hide hi
      have HRW := hide hrow
      have HTK := hide htk
      have HLP := hide hlp
      have HUP := hide hupd
      have hzr := hupd.size
      clear hi hrow htk hlp hupd TK LP U1
      have hi60 : i ≤ 4 := by omega
      by_cases hlt : (i : Int) < a
      · have al1 := bal (Below.refl wr.heap.size wr) (.cells #[.int .i64 0, .int .i64 0] 86)
        have D1 := hide (heap_alloc_new wr (.cells #[.int .i64 0, .int .i64 0] 86))
        have CN := hide (lastNumbers_any wr.heap.size (wr.alloc (.cells #[.int .i64 0, .int .i64 0] 86)))
        have al2 := bal (Below.refl (wr.alloc (.cells #[.int .i64 0, .int .i64 0] 86)).heap.size (wr.alloc (.cells #[.int .i64 0, .int .i64 0] 86))) (.cells (#[.pointer (some ⟨wr.heap.size, 0, none⟩), .pointer (some ⟨wr.heap.size, 1, none⟩)] : Array Value) 115)
        have B2 := hide (heap_alloc_new (wr.alloc (.cells #[.int .i64 0, .int .i64 0] 86)) (.cells (#[.pointer (some ⟨wr.heap.size, 0, none⟩), .pointer (some ⟨wr.heap.size, 1, none⟩)] : Array Value) 115))
        simp only [World.size_alloc] at B2
        go_wp2_with fail
        refine CN.out.mono ?_
        rintro e w2 ⟨rfl, rfl⟩
        have al12 := hide (bDrewB (bAll al1 al2))
        have TK2 := HTK.out.keepB al12.out
        have D2 := hide (bKeeps (bDrewB al2) D1.out)
        have B2v := hide (bKeeps ((Below.refl _ _).drew) B2.out)
        have hGr := HTK.out.lt.1
        clear CN al1 al2 D1 B2
        generalize World.drew _ = V at TK2 D2 al12 B2v ⊢
        go_wp2_with fail
        refine (take_any w0 V G wr.heap.size (wr.heap.size + 1) 0 2 2 _ _ bs' TK2 D2.out (Nat.le_refl _) (by omega) (by omega) (by omega) (by omega) (by omega) ?ptrs).mono ?_
        case ptrs =>
          intro k hk
          rw [Nat.zero_add, boxAt B2v.out k]
          match k, hk with
          | 0, _ => rfl
          | 1, _ => rfl
        rintro e w3 ⟨rfl, ys, b3, hyl, tk3, rd3, hD3, u3⟩
        obtain ⟨d, b, rfl⟩ : ∃ d b, ys = [d, b] := by
          match ys, hyl with
          | [d, b], _ => exact ⟨d, b, rfl⟩
        have D3 : w3.heap[wr.heap.size]? = some (.cells #[.int .i64 d, .int .i64 b] 86 (0, 0)) := hD3
        have y0 : w3.cell? ⟨wr.heap.size, 0, none⟩ = some (.int .i64 d) := boxAt D3 0
        have y1 : w3.cell? ⟨wr.heap.size, 1, none⟩ = some (.int .i64 b) := boxAt D3 1
        have U3 := hide ((Upd.ofBelow (S := fun j => j = G) al12.out).transW u3 (fun i h => by omega))
        have al5 := bal (Below.refl w3.heap.size w3) (.cells #[.int .i64 d, .int .i64 b] 86)
        have row3 := (HRW.out.keep U3.out (fun k h e => by omega)).keepB al5
        have HN3 := hide (lcU_new w3 (d, b) 86)
        have LP2 := hide (HLP.out.step (x := (d, b)) (by omega) rd3 (fun _ => rfl) (fun y e => by obtain ⟨y0, y1⟩ := y; simp [lnum] at e; simp [e]))
        have TK3 := hide tk3
        have z3 := U3.out.size
        clear HLP rd3 tk3 u3 D2 B2v al12 TK2 HTK hD3 D3 hyl
        go_wp2_with (at_builtin; refine wpList_appendA _ rfl _ _ 32 rfl w.heap.size 86 i1 (.agg #[.int .i64 0, .int .i64 0]) 2 16 Try.underlying32 gi gz0 gz1 gz2 rfl (by decide) _ i (lcells xs) rfl row3 ⟨w3.heap.size, 0, none⟩ 1 1 (lcell (d, b)) rfl rfl HN3.out (lcell_one _) (by decide) ?q63 ?qby ?qbase ?_)
        case q63 => unfold maxLen; omega
        case qby => omega
        case qbase => first | omega | (simp; omega)
        intro v5 w5 hown u5
        obtain ⟨mo, cm, rfl⟩ := (Row.ofOwns hown (by omega)).shape
        go_wp2
        go_roundw
        case rel =>
          refine ⟨i + 1, xs ++ [(d, b)], mo, cm, b3, rfl, by go_num, by rw [List.length_append, ← HI.out]; rfl, .inr (by omega), .inl (by rw [lcells_snoc]; exact hown), (TK3.out.keepB al5).keep u5 (fun h => by have := h.1; omega) (fun k h => by have := h.1; omega), ?_, ((HUP.out.trans U3.out).trans (Upd.ofBelow al5)).transW u5 (fun k h => .inr h.1)⟩
          have := LP2.out
          rwa [show a - (i : Int) - 1 = a - ((i + 1 : Nat) : Int) by omega] at this
        case measure => simp [intOf]; omega
      · have hd : Rdl 4 lnum bs xs bs' := HLP.out.done (by omega) (by have := HI.out; omega)
        have HDN := hide hd
        clear hd
        go_wp2
        go_ret
        exact ⟨po, pc, i, rfl, xs, HI.out, HRW.out, hi60, bs', HTK.out, HDN.out, HUP.out⟩
  · go_wp2
    go_loopw [7, 13] (fun lv iv wr => ∃ (i : Nat) (xs : List Lc) (po : Option Addr) (pc : Nat) (bs' : List Nat), lv = .slice po i pc ∧ iv = .int .i64 i ∧ i = xs.length ∧ (i = 0 ∨ (i : Int) ≤ 4) ∧ RowA wr w.heap.size 86 2 (.slice po i pc) i (lcells xs) ∧ Tk w0 wr G bs' ∧ Lpt lnum bs xs (a - i) bs' ∧ Upd (fun j => j = G) w wr) (fun _ iv _ => (4 : Int).toNat - (intOf iv).toNat)
    case atStart => exact ⟨0, [], none, 0, b1, rfl, rfl, rfl, .inl rfl, .inr ⟨rfl, rfl, _, rfl⟩, TK.out, by simpa using LP.out, U1.out⟩
    case round =>
      obtain ⟨i, xs, po, pc, bs', rfl, rfl, hi, hle, hrow, htk, hlp, hupd⟩ := hrel
      have HI := hide hi
      have HRW := hide hrow
      have HTK := hide htk
      have HLP := hide hlp
      have HUP := hide hupd
      have hzr := hupd.size
      clear hi hrow htk hlp hupd TK LP U1
      have hi60 : i ≤ 4 := by omega
      by_cases hlt : (i : Int) < 4
      · have al1 := bal (Below.refl wr.heap.size wr) (.cells #[.int .i64 0, .int .i64 0] 86)
        have D1 := hide (heap_alloc_new wr (.cells #[.int .i64 0, .int .i64 0] 86))
        have CN := hide (lastNumbers_any wr.heap.size (wr.alloc (.cells #[.int .i64 0, .int .i64 0] 86)))
        have al2 := bal (Below.refl (wr.alloc (.cells #[.int .i64 0, .int .i64 0] 86)).heap.size (wr.alloc (.cells #[.int .i64 0, .int .i64 0] 86))) (.cells (#[.pointer (some ⟨wr.heap.size, 0, none⟩), .pointer (some ⟨wr.heap.size, 1, none⟩)] : Array Value) 115)
        have B2 := hide (heap_alloc_new (wr.alloc (.cells #[.int .i64 0, .int .i64 0] 86)) (.cells (#[.pointer (some ⟨wr.heap.size, 0, none⟩), .pointer (some ⟨wr.heap.size, 1, none⟩)] : Array Value) 115))
        simp only [World.size_alloc] at B2
        go_wp2_with fail
        refine CN.out.mono ?_
        rintro e w2 ⟨rfl, rfl⟩
        have al12 := hide (bDrewB (bAll al1 al2))
        have TK2 := HTK.out.keepB al12.out
        have D2 := hide (bKeeps (bDrewB al2) D1.out)
        have B2v := hide (bKeeps ((Below.refl _ _).drew) B2.out)
        have hGr := HTK.out.lt.1
        clear CN al1 al2 D1 B2
        generalize World.drew _ = V at TK2 D2 al12 B2v ⊢
        go_wp2_with fail
        refine (take_any w0 V G wr.heap.size (wr.heap.size + 1) 0 2 2 _ _ bs' TK2 D2.out (Nat.le_refl _) (by omega) (by omega) (by omega) (by omega) (by omega) ?ptrs).mono ?_
        case ptrs =>
          intro k hk
          rw [Nat.zero_add, boxAt B2v.out k]
          match k, hk with
          | 0, _ => rfl
          | 1, _ => rfl
        rintro e w3 ⟨rfl, ys, b3, hyl, tk3, rd3, hD3, u3⟩
        obtain ⟨d, b, rfl⟩ : ∃ d b, ys = [d, b] := by
          match ys, hyl with
          | [d, b], _ => exact ⟨d, b, rfl⟩
        have D3 : w3.heap[wr.heap.size]? = some (.cells #[.int .i64 d, .int .i64 b] 86 (0, 0)) := hD3
        have y0 : w3.cell? ⟨wr.heap.size, 0, none⟩ = some (.int .i64 d) := boxAt D3 0
        have y1 : w3.cell? ⟨wr.heap.size, 1, none⟩ = some (.int .i64 b) := boxAt D3 1
        have U3 := hide ((Upd.ofBelow (S := fun j => j = G) al12.out).transW u3 (fun i h => by omega))
        have al5 := bal (Below.refl w3.heap.size w3) (.cells #[.int .i64 d, .int .i64 b] 86)
        have row3 := (HRW.out.keep U3.out (fun k h e => by omega)).keepB al5
        have HN3 := hide (lcU_new w3 (d, b) 86)
        have LP2 := hide (HLP.out.step (x := (d, b)) (by omega) rd3 (fun _ => rfl) (fun y e => by obtain ⟨y0, y1⟩ := y; simp [lnum] at e; simp [e]))
        have TK3 := hide tk3
        have z3 := U3.out.size
        clear HLP rd3 tk3 u3 D2 B2v al12 TK2 HTK hD3 D3 hyl
        go_wp2_with (at_builtin; refine wpList_appendA _ rfl _ _ 32 rfl w.heap.size 86 i1 (.agg #[.int .i64 0, .int .i64 0]) 2 16 Try.underlying32 gi gz0 gz1 gz2 rfl (by decide) _ i (lcells xs) rfl row3 ⟨w3.heap.size, 0, none⟩ 1 1 (lcell (d, b)) rfl rfl HN3.out (lcell_one _) (by decide) ?q63 ?qby ?qbase ?_)
        case q63 => unfold maxLen; omega
        case qby => omega
        case qbase => first | omega | (simp; omega)
        intro v5 w5 hown u5
        obtain ⟨mo, cm, rfl⟩ := (Row.ofOwns hown (by omega)).shape
        go_wp2
        go_roundw
        case rel =>
          refine ⟨i + 1, xs ++ [(d, b)], mo, cm, b3, rfl, by go_num, by rw [List.length_append, ← HI.out]; rfl, .inr (by omega), .inl (by rw [lcells_snoc]; exact hown), (TK3.out.keepB al5).keep u5 (fun h => by have := h.1; omega) (fun k h => by have := h.1; omega), ?_, ((HUP.out.trans U3.out).trans (Upd.ofBelow al5)).transW u5 (fun k h => .inr h.1)⟩
          have := LP2.out
          rwa [show a - (i : Int) - 1 = a - ((i + 1 : Nat) : Int) by omega] at this
        case measure => simp [intOf]; omega
      · have hd : Rdl 4 lnum bs xs bs' := HLP.out.done (by omega) (by have := HI.out; omega)
        have HDN := hide hd
        clear hd
        go_wp2
        go_ret
        exact ⟨po, pc, i, rfl, xs, HI.out, HRW.out, hi60, bs', HTK.out, HDN.out, HUP.out⟩

end Go.Proofs.Ytafojnjpllpjjaa

/- The program's reader of words: contracts; no statement of the seat is proved here. -/
namespace Go.Proofs.Ytafojnjpllpjjaa
open Go.RowKit

theorem wdOf24 (ys : List Int) (h : ys.length = 24) : ∃ x : Wd, ys = x.nums := by
  match ys, h with
  | [a0, a1, a2, a3, a4, a5, a6, a7, a8, a9, a10, a11, a12, a13, a14, a15, a16, a17, a18, a19, a20, a21, a22, a23], _ => exact ⟨⟨a0, a1, a2, a3, a4, a5, a6, a7, a8, a9, a10, a11, a12, a13, a14, a15, a16, a17, a18, a19, a20, a21, a22, a23, [], []⟩, rfl⟩

/-- What taking a word gives. -/
def TkW (w0 w : World) (G : Nat) (bs : List Nat) (x : Wd) (w' : World) : Prop := ∃ bs', Tk w0 w' G bs' ∧ Rdw bs x bs' ∧ Upd (fun j => j = G) w w'

set_option maxRecDepth 100000 in
set_option maxHeartbeats 16000000 in
theorem takeWord_any (w0 w : World) (G : Nat) (bs : List Nat) (h : Tk w0 w G bs) :
    Calls Try.prog 48 #[.pointer (some ⟨G, 0, none⟩)] w fun e w' => ∃ (v : Value), e = .returned v ∧ ∃ x : Wd, WdO w' (fun k => w.heap.size ≤ k) v x ∧ TkW w0 w G bs x w' := by
  obtain ⟨hGl, hG0, hw0⟩ := h.lt
  have al := bal (bal (Below.refl w.heap.size w) (.cells #[.int .i64 0, .int .i64 0, .int .i64 0, .int .i64 0, .int .i64 0, .int .i64 0, .int .i64 0, .int .i64 0, .int .i64 0, .int .i64 0, .int .i64 0, .int .i64 0, .int .i64 0, .int .i64 0, .int .i64 0, .int .i64 0, .int .i64 0, .int .i64 0, .int .i64 0, .int .i64 0, .int .i64 0, .int .i64 0, .int .i64 0, .int .i64 0, .slice none 0 0, .slice none 0 0] 34)) (.cells #[.int .i64 0, .int .i64 0, .int .i64 0, .int .i64 0, .int .i64 0, .int .i64 0, .int .i64 0, .int .i64 0, .int .i64 0, .int .i64 0, .int .i64 0, .int .i64 0, .int .i64 0, .int .i64 0, .int .i64 0, .int .i64 0, .int .i64 0, .int .i64 0, .int .i64 0, .int .i64 0, .int .i64 0, .int .i64 0, .int .i64 0, .int .i64 0, .slice none 0 0, .slice none 0 0] 34)
  have T0 := h.keepB al
  have R0 := hide (al2_0 w (.cells #[.int .i64 0, .int .i64 0, .int .i64 0, .int .i64 0, .int .i64 0, .int .i64 0, .int .i64 0, .int .i64 0, .int .i64 0, .int .i64 0, .int .i64 0, .int .i64 0, .int .i64 0, .int .i64 0, .int .i64 0, .int .i64 0, .int .i64 0, .int .i64 0, .int .i64 0, .int .i64 0, .int .i64 0, .int .i64 0, .int .i64 0, .int .i64 0, .slice none 0 0, .slice none 0 0] 34) (.cells #[.int .i64 0, .int .i64 0, .int .i64 0, .int .i64 0, .int .i64 0, .int .i64 0, .int .i64 0, .int .i64 0, .int .i64 0, .int .i64 0, .int .i64 0, .int .i64 0, .int .i64 0, .int .i64 0, .int .i64 0, .int .i64 0, .int .i64 0, .int .i64 0, .int .i64 0, .int .i64 0, .int .i64 0, .int .i64 0, .int .i64 0, .int .i64 0, .slice none 0 0, .slice none 0 0] 34))
  have D0 := hide (al2_1 w (.cells #[.int .i64 0, .int .i64 0, .int .i64 0, .int .i64 0, .int .i64 0, .int .i64 0, .int .i64 0, .int .i64 0, .int .i64 0, .int .i64 0, .int .i64 0, .int .i64 0, .int .i64 0, .int .i64 0, .int .i64 0, .int .i64 0, .int .i64 0, .int .i64 0, .int .i64 0, .int .i64 0, .int .i64 0, .int .i64 0, .int .i64 0, .int .i64 0, .slice none 0 0, .slice none 0 0] 34) (.cells #[.int .i64 0, .int .i64 0, .int .i64 0, .int .i64 0, .int .i64 0, .int .i64 0, .int .i64 0, .int .i64 0, .int .i64 0, .int .i64 0, .int .i64 0, .int .i64 0, .int .i64 0, .int .i64 0, .int .i64 0, .int .i64 0, .int .i64 0, .int .i64 0, .int .i64 0, .int .i64 0, .int .i64 0, .int .i64 0, .int .i64 0, .int .i64 0, .slice none 0 0, .slice none 0 0] 34))
  clear h
  go_enter Try.func48, Try.ntmps48
  go_wp2_with fail
  generalize World.alloc _ _ = W at al T0 R0 D0 ⊢
  refine (wordNumbers_any (w.heap.size + 1) W).mono ?_
  rintro e w1 ⟨ps, rfl, hps, b1⟩
  have alp := bal (Below.refl w1.heap.size w1) (.cells ps 116)
  have HP := hide hps
  have H24 := hide (show (Try.prog.info? 116).map (·.size) = some ps.size by rw [hps.1]; exact info24)
  have HS := hide (show 24 = ps.size from hps.1.symm)
  have H1 := hide hps.one
  have c1 := bAll b1 alp
  have R1 := hide (bKeeps c1 R0.out)
  have D1 := hide (bKeeps c1 D0.out)
  have T1 := T0.keepB c1
  have U1 := hide (Upd.ofBelow (S := fun j => j = G) (bAll al c1))
  have hz1 : w.heap.size + 1 < w1.heap.size := heap_lt (bKeeps b1 D0.out)
  have P1 := hide (heap_alloc_new w1 (.cells ps 116))
  have CT := hide (take_any w0 _ G (w.heap.size + 1) w1.heap.size 0 24 24 _ _ bs T1 D1.out (by decide) (by omega) (by omega) (by omega) (by omega) (by omega) (fun k hk => by rw [Nat.zero_add, boxAt P1.out k]; exact (HP.out.2 k hk).trans (by rw [Nat.zero_add])))
  clear hps al b1 T0 R0 D0 alp c1 T1 D1 P1 HP
  go_wp2_with (refine wpList_store_row rfl 116 (.tmp 4) (.tmp 5) rfl w1.heap.size ps rfl rfl _ _ (heap_alloc_new w1 _) H24.out HS.out H1.out ?_; rw [World.setRow_alloc_new])
  refine CT.out.mono ?_
  rintro e w2 ⟨rfl, ys, b2, hyl, tk2, rd2, hD2, u2⟩
  obtain ⟨x, rfl⟩ := wdOf24 ys hyl
  have D2 : Hid (w2.heap[w.heap.size + 1]? = some (.cells (#[.int .i64 x.a0, .int .i64 x.a1, .int .i64 x.a2, .int .i64 x.a3, .int .i64 x.a4, .int .i64 x.a5, .int .i64 x.c0, .int .i64 x.c1, .int .i64 x.c2, .int .i64 x.c3, .int .i64 x.c4, .int .i64 x.c5, .int .i64 x.c6, .int .i64 x.c7, .int .i64 x.c8, .int .i64 x.c9, .int .i64 x.b0, .int .i64 x.b1, .int .i64 x.b2, .int .i64 x.b3, .int .i64 x.b4, .int .i64 x.b5, .int .i64 x.b6, .int .i64 x.b7, .slice none 0 0, .slice none 0 0] : Array Value) 34 (0, 0))) := hD2
  have R2 := hide (u2.keeps R1.out (by omega))
  have U2 := hide (U1.out.transW u2 (fun i h => by omega))
  have RD := hide rd2
  have z2 := U2.out.size
  clear CT hyl rd2 hD2 u2 R1 U1 H24 HS H1
  go_wp2_with fail
  refine (takeP_any w0 w2 G b2 tk2).mono ?_
  rintro e w3 ⟨po, pc, m, rfl, xs, hm, row3, hm60, b3, tk3, rd3, u3⟩
  have D3 := hide (u3.keeps D2.out (by omega))
  have R3 := hide (u3.keeps R2.out (by omega))
  have c0 : w3.cell? ⟨w.heap.size + 1, 24, none⟩ = some (.slice none 0 0) := boxAt D3.out 24
  have c1 : w3.frozen? ⟨w.heap.size + 1, 24, none⟩ = false := boxFz D3.out 24
  have us := Upd.setCell (S := fun j => j = w.heap.size + 1) w3 (w.heap.size + 1) 24 (.slice po m pc) rfl
  have N1 : Hid ((w3.setCell ⟨w.heap.size + 1, 24, none⟩ (.slice po m pc)).heap[w.heap.size + 1]? = some (.cells (#[.int .i64 x.a0, .int .i64 x.a1, .int .i64 x.a2, .int .i64 x.a3, .int .i64 x.a4, .int .i64 x.a5, .int .i64 x.c0, .int .i64 x.c1, .int .i64 x.c2, .int .i64 x.c3, .int .i64 x.c4, .int .i64 x.c5, .int .i64 x.c6, .int .i64 x.c7, .int .i64 x.c8, .int .i64 x.c9, .int .i64 x.b0, .int .i64 x.b1, .int .i64 x.b2, .int .i64 x.b3, .int .i64 x.b4, .int .i64 x.b5, .int .i64 x.b6, .int .i64 x.b7, .slice po m pc, .slice none 0 0] : Array Value) 34 (0, 0))) := row_set _ D3.out
  have R4 := hide (us.keeps R3.out (by omega))
  have row4 := hide (RowA.keepTy8 (row3.base (b' := w.heap.size) (by omega)) us (fun k h1 h2 => by subst h2; exact typed_box D3.out (by decide) rfl h1))
  have tk4 := tk3.keep us (by omega) (fun k h => by omega)
  have U4 := hide ((U2.out.trans u3).transW us (fun i h => .inr (by omega)))
  have RP := hide rd3
  have HM := hide hm
  clear tk2 D2 R2 U2 row3 tk3 rd3 u3 R3 D3 hm
  go_wp2_with fail
  clear c0 c1
  generalize World.setCell _ _ _ = V at us N1 R4 row4 tk4 U4 ⊢
  have zV := U4.out.size
  refine (takeL_any w0 V G b3 tk4).mono ?_
  rintro e w5 ⟨lo, lc, ml, rfl, ls, hml, row5, hm4, b5, tk5, rd5, u5⟩
  have D5 := hide (u5.keeps N1.out (by omega))
  have R5 := hide (u5.keeps R4.out (by omega))
  have c0 : w5.cell? ⟨w.heap.size + 1, 25, none⟩ = some (.slice none 0 0) := boxAt D5.out 25
  have c1 : w5.frozen? ⟨w.heap.size + 1, 25, none⟩ = false := boxFz D5.out 25
  have ut := Upd.setCell (S := fun j => j = w.heap.size + 1) w5 (w.heap.size + 1) 25 (.slice lo ml lc) rfl
  have N2 : Hid ((w5.setCell ⟨w.heap.size + 1, 25, none⟩ (.slice lo ml lc)).heap[w.heap.size + 1]? = some (.cells (#[.int .i64 x.a0, .int .i64 x.a1, .int .i64 x.a2, .int .i64 x.a3, .int .i64 x.a4, .int .i64 x.a5, .int .i64 x.c0, .int .i64 x.c1, .int .i64 x.c2, .int .i64 x.c3, .int .i64 x.c4, .int .i64 x.c5, .int .i64 x.c6, .int .i64 x.c7, .int .i64 x.c8, .int .i64 x.c9, .int .i64 x.b0, .int .i64 x.b1, .int .i64 x.b2, .int .i64 x.b3, .int .i64 x.b4, .int .i64 x.b5, .int .i64 x.b6, .int .i64 x.b7, .slice po m pc, .slice lo ml lc] : Array Value) 34 (0, 0))) := row_set _ D5.out
  have R6 := hide (ut.keeps R5.out (by omega))
  have row6 := hide (RowA.keepTy8 (row4.out.keep u5 (fun k h e => by omega)) ut (fun k h1 h2 => by subst h2; exact typed_box D5.out (by decide) rfl h1))
  have row7 := hide (RowA.keepTy8 (row5.base (b' := w.heap.size) (by omega)) ut (fun k h1 h2 => by subst h2; exact typed_box D5.out (by decide) rfl h1))
  have tk6 := tk5.keep ut (by omega) (fun k h => by omega)
  have U6 := hide ((U4.out.trans u5).transW ut (fun i h => .inr (by omega)))
  have RL := hide rd5
  have HML := hide hml
  obtain ⟨y, hy⟩ : ∃ y : Wd, y = { x with ps := xs, ls := ls } := ⟨_, rfl⟩
  have M1 : Hid ((w5.setCell ⟨w.heap.size + 1, 25, none⟩ (.slice lo ml lc)).heap[w.heap.size + 1]? = some (.cells (#[.int .i64 y.a0, .int .i64 y.a1, .int .i64 y.a2, .int .i64 y.a3, .int .i64 y.a4, .int .i64 y.a5, .int .i64 y.c0, .int .i64 y.c1, .int .i64 y.c2, .int .i64 y.c3, .int .i64 y.c4, .int .i64 y.c5, .int .i64 y.c6, .int .i64 y.c7, .int .i64 y.c8, .int .i64 y.c9, .int .i64 y.b0, .int .i64 y.b1, .int .i64 y.b2, .int .i64 y.b3, .int .i64 y.b4, .int .i64 y.b5, .int .i64 y.b6, .int .i64 y.b7, .slice po m pc, .slice lo ml lc] : Array Value) 34 (0, 0))) := by rw [hy]; exact N2.out
  have fin : ∀ Y, Y = (w5.setCell ⟨w.heap.size + 1, 25, none⟩ (.slice lo ml lc)).setRow w.heap.size (#[.int .i64 y.a0, .int .i64 y.a1, .int .i64 y.a2, .int .i64 y.a3, .int .i64 y.a4, .int .i64 y.a5, .int .i64 y.c0, .int .i64 y.c1, .int .i64 y.c2, .int .i64 y.c3, .int .i64 y.c4, .int .i64 y.c5, .int .i64 y.c6, .int .i64 y.c7, .int .i64 y.c8, .int .i64 y.c9, .int .i64 y.b0, .int .i64 y.b1, .int .i64 y.b2, .int .i64 y.b3, .int .i64 y.b4, .int .i64 y.b5, .int .i64 y.b6, .int .i64 y.b7, .slice po m pc, .slice lo ml lc] : Array Value) → WdO Y (fun k => w.heap.size ≤ k) (.agg #[.int .i64 y.a0, .int .i64 y.a1, .int .i64 y.a2, .int .i64 y.a3, .int .i64 y.a4, .int .i64 y.a5, .int .i64 y.c0, .int .i64 y.c1, .int .i64 y.c2, .int .i64 y.c3, .int .i64 y.c4, .int .i64 y.c5, .int .i64 y.c6, .int .i64 y.c7, .int .i64 y.c8, .int .i64 y.c9, .int .i64 y.b0, .int .i64 y.b1, .int .i64 y.b2, .int .i64 y.b3, .int .i64 y.b4, .int .i64 y.b5, .int .i64 y.b6, .int .i64 y.b7, .slice po m pc, .slice lo ml lc]) y ∧ TkW w0 w G bs y Y := by
    intro Y hY
    have u6 : Upd (fun j => j = w.heap.size) (w5.setCell ⟨w.heap.size + 1, 25, none⟩ (.slice lo ml lc)) Y := by rw [hY]; exact ⟨rfl, rfl, rfl, by simp, fun k _ h => setRow_other _ _ _ _ h⟩
    refine ⟨⟨po, pc, lo, lc, ?_, ?_, ?_⟩, b5, tk6.keep u6 (by omega) (fun k h => by omega), Rdw.mk (b1 := b2) (b2 := b3) ?_ ?_ ?_, U6.out.transW u6 (fun i h => .inr (by omega))⟩
    · rw [hy, HM.out, HML.out]
    · rw [hy]
      show Row Y _ _ _ (.slice po xs.length pc) xs.length (pcells xs)
      rw [← HM.out]
      exact (RowA.keepTy8 row6.out u6 (fun k h1 h2 => by subst h2; exact typed_box R6.out (by decide) rfl h1)).row (by omega)
    · rw [hy]
      show Row Y _ _ _ (.slice lo ls.length lc) ls.length (lcells ls)
      rw [← HML.out]
      exact (RowA.keepTy8 row7.out u6 (fun k h1 h2 => by subst h2; exact typed_box R6.out (by decide) rfl h1)).row (by omega)
    · rw [hy]; exact RD.out
    · rw [hy]; exact RP.out
    · rw [hy]; exact RL.out
  have HF := hide fin
  have H1s := hide (all_of_list (List.all_eq_true.2 (wd_one y po lo m pc ml lc)))
  clear hy fin N2 row6 row7 tk6 U6 RL RP RD HML HM us ut row5 tk5 rd5 u5 hml D5 R5 R4 N1 row4 tk4 U4
  go_wp2_with (first | (refine wpList_load_row rfl 34 (.tmp 3) rfl (w.heap.size + 1) rfl _ _ (0, 0) _ M1.out Try.underlying34 rfl infoWd ?_) | (refine wpList_store_row rfl 34 (.tmp 2) (.tmp 15) rfl w.heap.size _ rfl rfl _ _ R6.out infoWd (show (26 : Nat) = 26 from rfl) H1s.out ?_))
  refine bodyPost_ret (v := .agg #[.int .i64 y.a0, .int .i64 y.a1, .int .i64 y.a2, .int .i64 y.a3, .int .i64 y.a4, .int .i64 y.a5, .int .i64 y.c0, .int .i64 y.c1, .int .i64 y.c2, .int .i64 y.c3, .int .i64 y.c4, .int .i64 y.c5, .int .i64 y.c6, .int .i64 y.c7, .int .i64 y.c8, .int .i64 y.c9, .int .i64 y.b0, .int .i64 y.b1, .int .i64 y.b2, .int .i64 y.b3, .int .i64 y.b4, .int .i64 y.b5, .int .i64 y.b6, .int .i64 y.b7, .slice po m pc, .slice lo ml lc]) (results_cell_row Try.results48 _ _ w.heap.size _ _ (0, 0) _ rfl (setRow_heap _ _ _ _ _ _ R6.out) Try.underlying34 rfl infoWd) rfl ?_
  obtain ⟨g1, g2⟩ := HF.out _ rfl
  exact ⟨_, rfl, y, g1, g2⟩

end Go.Proofs.Ytafojnjpllpjjaa

/- WordUnpack of the program: a contract; no statement of the seat is proved here. -/
namespace Go.Proofs.Ytafojnjpllpjjaa
open Go.RowKit

theorem results_row_tmp {P : Program} {fn : Func} {p u : Tmp} {ty : TypeId} (h : fn.results = #[.cell p ty, .tmp u]) (tmps : Array Value) (w : World) (g : Nat) (t : TypeId) (cs : Array Value) (fr : Nat × Nat) (d : TypeDesc) (b : Value)
    (hp : tmps.getD p undef = .pointer (some ⟨g, 0, none⟩)) (hb : tmps.getD u undef = b) (hg : w.heap[g]? = some (.cells cs t fr))
    (hu : P.underlying ty = some d) (hd : (match d with | .struct _ | .array _ _ => true | _ => false) = true) (hi : (P.info? ty).map (·.size) = some cs.size) :
    (results fn tmps).run P w = .ok (.tuple #[.agg cs, b]) w := by
  rw [results_cell_tmp h, hp, hb]
  simp [asAddr, Result.andThen, run_loadVar_row w g t ty cs fr d hg hu hd hi]

def txtU (bs : List Nat) : ByteArray := strOfNums (bs.map fun b : Nat => (b : Int))

theorem textU {P : Program} {w : World} {v : Value} {n : Nat} {bs : List Nat} (h : RowR w 1 v n (byts bs)) (src e dst : TypeId) (hs : P.underlying src = some (.slice e)) (he : P.underlying e = some (.int .u8)) (hd : P.underlying dst = some .string) :
    (convert src dst v).run P w = .ok (.string (txtU bs)) w := by
  obtain ⟨ao, cap, rfl, _, hl, h⟩ := h
  rw [byts_len] at hl
  by_cases h0 : 0 < n
  · obtain ⟨b, off, rfl, hc⟩ := h h0
    refine run_convert_bytes_arg (P := P) w src e hs he b off n cap _ (by simp; omega) (fun i hi => ?_) dst hd
    have hi' : i < bs.length := by omega
    rw [hc i _ (by rw [byts, List.getElem?_map, List.getElem?_eq_getElem hi']; rfl)]
    simp [List.getD, List.getElem?_eq_getElem hi']
  · obtain rfl : n = 0 := by omega
    obtain rfl : bs = [] := List.length_eq_zero_iff.1 (by omega)
    rw [run_convert_bytes_string w src dst e _ 0 cap hs he hd]
    cases ao
    · simp [Conv.bytesToString, txtU, strOfNums]; rfl
    · rw [run_bytesToString w _ 0 cap [] (by simp [loadCells, loadCellsFrom, go_sem])]; rfl

theorem txtU_inj {xs ys : List Nat} (hx : ∀ b ∈ xs, b < 256) (hy : ∀ b ∈ ys, b < 256) (h : txtU xs = txtU ys) : xs = ys := by
  have h1 := congrArg (fun s : ByteArray => s.data.toList) h
  simp only [txtU, strOfNums_data, List.map_map] at h1
  clear h
  induction xs generalizing ys with
  | nil => cases ys with
    | nil => rfl
    | cons y ys => simp at h1
  | cons x xs ih => cases ys with
    | nil => simp at h1
    | cons y ys =>
      rw [List.map_cons, List.map_cons] at h1
      injection h1 with h2 h3
      have e := ih (fun b hb => hx b (by simp [hb])) (fun b hb => hy b (by simp [hb])) h3
      have hx' := hx x (by simp)
      have hy' := hy y (by simp)
      have h4 := congrArg UInt8.toNat h2
      simp at h4
      rw [e]
      congr 1
      omega

set_option maxRecDepth 100000 in
theorem bytesEqual_any (va vb : Value) (n m : Nat) (xs ys : List Nat) (w : World) (ha : RowR w 1 va n (byts xs)) (hb : RowR w 1 vb m (byts ys)) (hx : ∀ b ∈ xs, b < 256) (hy : ∀ b ∈ ys, b < 256) :
    Calls Try.prog 49 #[va, vb] w fun e w' => e = .returned (.bool (decide (xs = ys))) ∧ w' = w := by
  have t1 := textU (P := Try.prog) ha 38 5 9 Try.underlying38 Try.underlying5 Try.underlying9
  have t2 := textU (P := Try.prog) hb 38 5 9 Try.underlying38 Try.underlying5 Try.underlying9
  by_cases he : xs = ys
  · subst he
    go_enter Try.func49, Try.ntmps49
    go_wp2
    go_ret
    exact ⟨by simp, rfl⟩
  · have hne : ¬ txtU xs = txtU ys := fun h => he (txtU_inj hx hy h)
    have hne' : ¬ (txtU xs).toList = (txtU ys).toList := by
      intro h
      refine hne ?_
      unfold txtU strOfNums at h ⊢
      rw [ByteArray.toList_eq, ByteArray.toList_eq] at h
      exact congrArg ByteArray.mk (Array.toList_inj.1 h)
    go_enter Try.func49, Try.ntmps49
    go_wp2
    go_ret
    exact ⟨by simp [he, hne'], rfl⟩

theorem built34z : Try.prog.built 34 [] = some #[.int .i64 0, .int .i64 0, .int .i64 0, .int .i64 0, .int .i64 0, .int .i64 0, .int .i64 0, .int .i64 0, .int .i64 0, .int .i64 0, .int .i64 0, .int .i64 0, .int .i64 0, .int .i64 0, .int .i64 0, .int .i64 0, .int .i64 0, .int .i64 0, .int .i64 0, .int .i64 0, .int .i64 0, .int .i64 0, .int .i64 0, .int .i64 0, .slice none 0 0, .slice none 0 0] := by kernel_rfl
theorem wpList_built34z {ops : Array Oper} {rest : List Oper} {o : Oper} {a : Act} {w : World} {Q : Exit → Act → World → Prop} (hg : o.guard = none) (parts : Array (Nat × Operand)) (ho : o.op = .build 34 parts) (hp : (parts.map fun (i, x) => (i, a.eval x)).toList = [])
    (h : wpList Try.prog ops Q rest (a.put o.dst (.agg #[.int .i64 0, .int .i64 0, .int .i64 0, .int .i64 0, .int .i64 0, .int .i64 0, .int .i64 0, .int .i64 0, .int .i64 0, .int .i64 0, .int .i64 0, .int .i64 0, .int .i64 0, .int .i64 0, .int .i64 0, .int .i64 0, .int .i64 0, .int .i64 0, .int .i64 0, .int .i64 0, .int .i64 0, .int .i64 0, .int .i64 0, .int .i64 0, .slice none 0 0, .slice none 0 0])) w) : wpList Try.prog ops Q (o :: rest) a w :=
  wpList_build hg 34 parts ho (by rw [hp, built34z]; rfl) (by rw [hp, built34z]; exact h)

theorem wpList_load_rowG {P : Program} {ops : Array Oper} {rest : List Oper} {o : Oper} {a : Act} {w : World} {Q : Exit → Act → World → Prop} (hgd : Region.wanted o (yielded ops a.tmps) = true) (ty : TypeId) (x : Operand) (ho : o.op = .load ty x)
    (g : Nat) (hx : a.eval x = .pointer (some ⟨g, 0, none⟩)) (t : TypeId) (cs : Array Value) (fr : Nat × Nat) (d : TypeDesc) (hg : w.heap[g]? = some (.cells cs t fr))
    (hu : P.underlying ty = some d) (hd : (match d with | .struct _ | .array _ _ => true | _ => false) = true) (hi : (P.info? ty).map (·.size) = some cs.size)
    (h : wpList P ops Q rest (a.put o.dst (.agg cs)) w) : wpList P ops Q (o :: rest) a w :=
  wpList_step fun _ hK => by rw [if_pos hgd]; exact wp_load_row ty x ho g hx t cs fr d hg hu hd hi (hK _ _ h)

theorem zeroRow (w : World) (S : Nat → Prop) : WdO w S (.agg #[.int .i64 0, .int .i64 0, .int .i64 0, .int .i64 0, .int .i64 0, .int .i64 0, .int .i64 0, .int .i64 0, .int .i64 0, .int .i64 0, .int .i64 0, .int .i64 0, .int .i64 0, .int .i64 0, .int .i64 0, .int .i64 0, .int .i64 0, .int .i64 0, .int .i64 0, .int .i64 0, .int .i64 0, .int .i64 0, .int .i64 0, .int .i64 0, .slice none 0 0, .slice none 0 0]) zeroW := ⟨none, 0, none, 0, rfl, Row.nil _ _ _ _, Row.nil _ _ _ _⟩

/-- What reading a word of bytes gives. -/
def UnR (w : World) (bs : List Nat) (v : Value) (ok : Bool) (w' : World) : Prop := ∃ x, WdO w' (fun k => w.heap.size < k) v x ∧ UnP bs x ok ∧ x.ps.length ≤ 2097151 ∧ x.ls.length ≤ 2097151 ∧ Below w.heap.size w w'

theorem UnP.lens {bs : List Nat} {x : Wd} {ok : Bool} (h : UnP bs x ok) : x.ps.length ≤ 60 ∧ x.ls.length ≤ 4 := by
  rcases h with ⟨-, h, -, -⟩ | ⟨-, rfl, -⟩
  · exact ⟨(okL_mem (okW_ps h)).1, (okL_mem (okW_ls h)).1⟩
  · exact ⟨by simp [zeroW], by simp [zeroW]⟩

set_option maxRecDepth 100000 in
set_option maxHeartbeats 16000000 in
theorem implWordUnpack_any (bo : Option Addr) (n cap : Nat) (bs : List Nat) (w : World) (h : RowR w 1 (.slice bo n cap) n (byts bs)) (hb : ∀ b ∈ bs, b < 256) (hn : n ≤ 1048576) (hc : n ≤ cap) :
    Calls Try.prog 22 #[.slice bo n cap] w fun e w' => ∃ (v : Value) (ok : Bool), e = .returned (.tuple #[v, .bool ok]) ∧ UnR w bs v ok w' := by
  have al := bal (bal (Below.refl w.heap.size w) (.cells #[.int .i64 0, .int .i64 0, .int .i64 0, .int .i64 0, .int .i64 0, .int .i64 0, .int .i64 0, .int .i64 0, .int .i64 0, .int .i64 0, .int .i64 0, .int .i64 0, .int .i64 0, .int .i64 0, .int .i64 0, .int .i64 0, .int .i64 0, .int .i64 0, .int .i64 0, .int .i64 0, .int .i64 0, .int .i64 0, .int .i64 0, .int .i64 0, .slice none 0 0, .slice none 0 0] 34)) (.cells #[.slice bo n cap] 69)
  have R0 := hide (al2_0 w (.cells #[.int .i64 0, .int .i64 0, .int .i64 0, .int .i64 0, .int .i64 0, .int .i64 0, .int .i64 0, .int .i64 0, .int .i64 0, .int .i64 0, .int .i64 0, .int .i64 0, .int .i64 0, .int .i64 0, .int .i64 0, .int .i64 0, .int .i64 0, .int .i64 0, .int .i64 0, .int .i64 0, .int .i64 0, .int .i64 0, .int .i64 0, .int .i64 0, .slice none 0 0, .slice none 0 0] 34) (.cells #[.slice bo n cap] 69))
  have G0 := al2_1 w (.cells #[.int .i64 0, .int .i64 0, .int .i64 0, .int .i64 0, .int .i64 0, .int .i64 0, .int .i64 0, .int .i64 0, .int .i64 0, .int .i64 0, .int .i64 0, .int .i64 0, .int .i64 0, .int .i64 0, .int .i64 0, .int .i64 0, .int .i64 0, .int .i64 0, .int .i64 0, .int .i64 0, .int .i64 0, .int .i64 0, .int .i64 0, .int .i64 0, .slice none 0 0, .slice none 0 0] 34) (.cells #[.slice bo n cap] 69)
  have T0 : Tk w _ (w.heap.size + 1) bs := ⟨bo, n, cap, h, hc, hn, hb, G0, by omega, al⟩
  have HR := hide h
  have HB := hide hb
  have zW : ((w.alloc (.cells #[.int .i64 0, .int .i64 0, .int .i64 0, .int .i64 0, .int .i64 0, .int .i64 0, .int .i64 0, .int .i64 0, .int .i64 0, .int .i64 0, .int .i64 0, .int .i64 0, .int .i64 0, .int .i64 0, .int .i64 0, .int .i64 0, .int .i64 0, .int .i64 0, .int .i64 0, .int .i64 0, .int .i64 0, .int .i64 0, .int .i64 0, .int .i64 0, .slice none 0 0, .slice none 0 0] 34)).alloc (.cells #[.slice bo n cap] 69)).heap.size = w.heap.size + 2 := by simp
  clear h hb G0
  go_enter Try.func22, Try.ntmps22
  go_wp2_with fail
  generalize World.alloc _ _ = W at al R0 T0 zW ⊢
  refine (takeWord_any w W (w.heap.size + 1) bs T0).mono ?_
  rintro e w1 ⟨v, rfl, x, D1, bs', tk1, rdw, u1⟩
  obtain ⟨cs, rfl, hs, h1⟩ := D1.reads.agg
  have HI := hide (infoAt infoWd hs)
  have HZ := hide (zero26.trans hs.symm)
  have H1 := hide h1
  have RDW := hide rdw
  have R1 := hide (u1.keeps R0.out (by omega))
  have c1 : Below w.heap.size w w1 := al.trans (u1.below (by have := al.size; omega) (fun k h => by omega))
  have al5 := bal (Below.refl w1.heap.size w1) (.cells cs 34)
  have B5 := hide (heap_alloc_new w1 (.cells cs 34))
  have R5 := hide (bKeeps al5 R1.out)
  have D5 := hide (D1.keepB al5)
  have c5 := bAll c1 al5
  have z1 := u1.size
  clear hs h1 rdw R0 T0 tk1 u1 R1 D1 c1 al5 al
  go_wp2_with (first
    | (refine wpList_store_row rfl 34 (.tmp 5) (.tmp 7) rfl w1.heap.size cs rfl rfl _ _ (heap_alloc_new w1 _) HI.out HZ.out H1.out ?_; rw [World.setRow_alloc_new])
    | (refine wpList_load_row rfl 34 (.tmp 5) rfl w1.heap.size rfl _ cs (0, 0) _ B5.out Try.underlying34 rfl HI.out ?_))
  refine (implWordOk_any _ x _ D5.out.reads).mono ?_
  rintro e w6 ⟨rfl, b6⟩
  have B6 := hide (bKeeps b6 B5.out)
  have R6 := hide (bKeeps b6 R5.out)
  have D6 := hide (D5.out.keepB b6)
  have c6 := bAll c5 b6
  have z6 := b6.size
  simp only [World.size_alloc] at z6
  clear B5 R5 D5 c5 b6
  have fin0 : ∀ (V : World), Below w.heap.size w V → V.heap[w.heap.size]? = some (.cells #[.int .i64 0, .int .i64 0, .int .i64 0, .int .i64 0, .int .i64 0, .int .i64 0, .int .i64 0, .int .i64 0, .int .i64 0, .int .i64 0, .int .i64 0, .int .i64 0, .int .i64 0, .int .i64 0, .int .i64 0, .int .i64 0, .int .i64 0, .int .i64 0, .int .i64 0, .int .i64 0, .int .i64 0, .int .i64 0, .int .i64 0, .int .i64 0, .slice none 0 0, .slice none 0 0] 34 (0, 0)) → UnP bs zeroW false → UnR w bs (.agg #[.int .i64 0, .int .i64 0, .int .i64 0, .int .i64 0, .int .i64 0, .int .i64 0, .int .i64 0, .int .i64 0, .int .i64 0, .int .i64 0, .int .i64 0, .int .i64 0, .int .i64 0, .int .i64 0, .int .i64 0, .int .i64 0, .int .i64 0, .int .i64 0, .int .i64 0, .int .i64 0, .int .i64 0, .int .i64 0, .int .i64 0, .int .i64 0, .slice none 0 0, .slice none 0 0]) false (V.setRow w.heap.size #[.int .i64 0, .int .i64 0, .int .i64 0, .int .i64 0, .int .i64 0, .int .i64 0, .int .i64 0, .int .i64 0, .int .i64 0, .int .i64 0, .int .i64 0, .int .i64 0, .int .i64 0, .int .i64 0, .int .i64 0, .int .i64 0, .int .i64 0, .int .i64 0, .int .i64 0, .int .i64 0, .int .i64 0, .int .i64 0, .int .i64 0, .int .i64 0, .slice none 0 0, .slice none 0 0]) := by
    intro V hV hg hu
    have u9 : Upd (fun j => j = w.heap.size) V (V.setRow w.heap.size #[.int .i64 0, .int .i64 0, .int .i64 0, .int .i64 0, .int .i64 0, .int .i64 0, .int .i64 0, .int .i64 0, .int .i64 0, .int .i64 0, .int .i64 0, .int .i64 0, .int .i64 0, .int .i64 0, .int .i64 0, .int .i64 0, .int .i64 0, .int .i64 0, .int .i64 0, .int .i64 0, .int .i64 0, .int .i64 0, .int .i64 0, .int .i64 0, .slice none 0 0, .slice none 0 0]) := ⟨rfl, rfl, rfl, by simp, fun k _ h => setRow_other _ _ _ _ h⟩
    exact ⟨zeroW, zeroRow _ _, hu, by simp [zeroW], by simp [zeroW], hV.trans (u9.below hV.size (fun k h => by omega))⟩
  have F0 := hide fin0
  clear fin0
  cases hok : okW x
  · have hu : UnP bs zeroW false := by
      refine UnP.no RDW.out ?_
      by_cases he : bs = []
      · exact .inr (.inr he)
      · refine .inl (fun e => he ?_)
        unfold packW at e
        rw [hok] at e
        simpa using e.symm
    have FF := hide (F0.out w6 c6 R6.out hu)
    clear hu F0
    go_wp2_with (first
      | (refine wpList_built34z rfl _ rfl rfl ?_)
      | (refine wpList_store_row rfl 34 (.tmp 2) (.tmp 18) rfl w.heap.size _ rfl rfl _ _ R6.out infoWd (show (26 : Nat) = 26 from rfl) (all_of_list rfl) ?_))
    refine bodyPost_ret (v := .tuple #[.agg #[.int .i64 0, .int .i64 0, .int .i64 0, .int .i64 0, .int .i64 0, .int .i64 0, .int .i64 0, .int .i64 0, .int .i64 0, .int .i64 0, .int .i64 0, .int .i64 0, .int .i64 0, .int .i64 0, .int .i64 0, .int .i64 0, .int .i64 0, .int .i64 0, .int .i64 0, .int .i64 0, .int .i64 0, .int .i64 0, .int .i64 0, .int .i64 0, .slice none 0 0, .slice none 0 0], .bool false]) (results_row_tmp Try.results22 _ _ w.heap.size _ _ (0, 0) _ _ rfl rfl (setRow_heap _ _ _ _ _ _ R6.out) Try.underlying34 rfl infoWd) rfl ?_
    exact ⟨_, false, rfl, FF.out⟩
  · have HK := hide hok
    obtain ⟨pk, hpk⟩ : ∃ pk, packW x = pk := ⟨_, rfl⟩
    have hpl : pk.length ≤ 822 := by rw [← hpk]; exact (packW_len x).2
    have HPB : Hid (∀ b ∈ pk, b < 256) := by rw [← hpk]; exact packW_byte x
    have HPK := hide hpk
    have IC := hide (implWordPack_any _ x _ D6.out.reads)
    rw [hpk] at IC
    clear hpk hok
    go_wp2_with (refine wpList_load_rowG (by rfl) 34 (.tmp 5) rfl w1.heap.size rfl _ cs (0, 0) _ B6.out Try.underlying34 rfl HI.out ?_)
    refine IC.out.mono ?_
    rintro e w7 ⟨vo, co, rfl, r7, b7⟩
    have B7 := hide (bKeeps b7 B6.out)
    have R7 := hide (bKeeps b7 R6.out)
    have D7 := hide (D6.out.keepB b7)
    have c7 := bAll c6 b7
    have CE := hide (bytesEqual_any _ _ _ _ pk bs w7 (r7.row (by omega)).reads (HR.out.keep c7) HPB.out HB.out)
    clear IC B6 R6 D6 c6 b7 r7
    go_wp2_with fail
    refine CE.out.mono ?_
    rintro e w8 ⟨rfl, rfl⟩
    clear CE
    by_cases he : pk = bs
    · have hd : decide (pk = bs) = true := by simpa using he
      rw [hd]
      have hu : UnP bs x true := UnP.yes RDW.out (HPK.out.trans he) (by
        intro e0
        have := packW_pos HK.out
        rw [HPK.out, he, e0] at this
        simp at this)
      have u9 : Upd (fun j => j = w.heap.size) w8 (w8.setRow w.heap.size cs) := ⟨rfl, rfl, rfl, by simp, fun k _ h => setRow_other _ _ _ _ h⟩
      have FF : Hid (UnR w bs (.agg cs) true (w8.setRow w.heap.size cs)) := ⟨x, (D7.out.keep u9 (fun k h e => by omega)).mono (fun k _ h => by omega), hu, by have := hu.lens.1; omega, by have := hu.lens.2; omega, c7.trans (u9.below c7.size (fun k h => by omega))⟩
      clear hu u9 he hd F0
      go_wp2_with (first
        | (refine wpList_load_row rfl 34 (.tmp 5) rfl w1.heap.size rfl _ cs (0, 0) _ B7.out Try.underlying34 rfl HI.out ?_)
        | (refine wpList_store_row rfl 34 (.tmp 2) (.tmp 19) rfl w.heap.size cs rfl rfl _ _ R7.out HI.out HZ.out H1.out ?_))
      refine bodyPost_ret (v := .tuple #[.agg cs, .bool true]) (results_row_tmp Try.results22 _ _ w.heap.size _ _ (0, 0) _ _ rfl rfl (setRow_heap _ _ _ _ _ _ R7.out) Try.underlying34 rfl HI.out) rfl ?_
      exact ⟨_, true, rfl, FF.out⟩
    · have hd : decide (pk = bs) = false := by simpa using he
      rw [hd]
      have FF := hide (F0.out w8 c7 R7.out (UnP.no RDW.out (.inl (by rw [HPK.out]; exact he))))
      clear he hd F0
      go_wp2_with (first
        | (refine wpList_built34z rfl _ rfl rfl ?_)
        | (refine wpList_store_row rfl 34 (.tmp 2) (.tmp 18) rfl w.heap.size _ rfl rfl _ _ R7.out infoWd (show (26 : Nat) = 26 from rfl) (all_of_list rfl) ?_))
      refine bodyPost_ret (v := .tuple #[.agg #[.int .i64 0, .int .i64 0, .int .i64 0, .int .i64 0, .int .i64 0, .int .i64 0, .int .i64 0, .int .i64 0, .int .i64 0, .int .i64 0, .int .i64 0, .int .i64 0, .int .i64 0, .int .i64 0, .int .i64 0, .int .i64 0, .int .i64 0, .int .i64 0, .int .i64 0, .int .i64 0, .int .i64 0, .int .i64 0, .int .i64 0, .int .i64 0, .slice none 0 0, .slice none 0 0], .bool false]) (results_row_tmp Try.results22 _ _ w.heap.size _ _ (0, 0) _ _ rfl rfl (setRow_heap _ _ _ _ _ _ R7.out) Try.underlying34 rfl infoWd) rfl ?_
      exact ⟨_, false, rfl, FF.out⟩

end Go.Proofs.Ytafojnjpllpjjaa

/- The specification's reader of commands: a contract; no statement of the seat is proved here. -/
namespace Go.Proofs.Ytafojnjpllpjjaa
open Go.RowKit

/-- What reading numbers gives: those numbers, the reader behind them. -/
def NumsR (w0 w : World) (R : Nat) (bo : Option Addr) (n cap : Nat) (bs : List Nat) (p : Nat) (bad : Bool) (xs : List Int) (w' : World) : Prop :=
  ∃ (p' : Nat) (bad' : Bool), Rg w0 w' R bo n cap bs p' bad' ∧ Rdn (vw bs p bad) xs (vw bs p' bad') ∧ Upd (fun j => j = R) w w'

theorem Rg.lt {w0 w : World} {R n cap p : Nat} {bo : Option Addr} {bs : List Nat} {bad : Bool} (h : Rg w0 w R bo n cap bs p bad) : R < w.heap.size ∧ w0.heap.size ≤ R ∧ w0.heap.size ≤ w.heap.size :=
  ⟨heap_lt h.2.2.2.2.1, h.2.2.2.2.2.1, h.2.2.2.2.2.2.size⟩

set_option maxRecDepth 100000 in
set_option maxHeartbeats 8000000 in
theorem readCmd_any (w0 w : World) (R p n cap : Nat) (bo : Option Addr) (bs : List Nat) (bad : Bool) (h : Rg w0 w R bo n cap bs p bad) :
    Calls Try.prog 65 #[.pointer (some ⟨R, 0, none⟩)] w fun e w' => ∃ (x : Wd), e = .returned (.agg #[.int .i64 x.c0, .int .i64 x.c1, .int .i64 x.c2, .int .i64 x.c3, .int .i64 x.c4, .int .i64 x.c5, .int .i64 x.c6, .int .i64 x.c7, .int .i64 x.c8, .int .i64 x.c9]) ∧ NumsR w0 w R bo n cap bs p bad [x.c0, x.c1, x.c2, x.c3, x.c4, x.c5, x.c6, x.c7, x.c8, x.c9] w' := by
  obtain ⟨hRl, hR0, hw0⟩ := h.lt
  have al0 := bal (Below.refl w.heap.size w) (.cells #[.int .i64 0, .int .i64 0, .int .i64 0, .int .i64 0, .int .i64 0, .int .i64 0, .int .i64 0, .int .i64 0, .int .i64 0, .int .i64 0] 30)
  have hr0 := h.keepB al0
  have G := hide (heap_alloc_new w (.cells #[.int .i64 0, .int .i64 0, .int .i64 0, .int .i64 0, .int .i64 0, .int .i64 0, .int .i64 0, .int .i64 0, .int .i64 0, .int .i64 0] 30))
  have HU0 := hide (Upd.ofBelow (S := fun j => j = R) al0)
  clear h
  go_enter Try.func65, Try.ntmps65
  go_wp2_with fail
  refine (num_any w0 _ R _ n cap bo bs _ hr0).mono ?_
  rintro e w1 ⟨a0, rfl, p1, bad1, -, -, hr1, rd1, hu1⟩
  have G1 := hide (hu1.keeps G.out (by omega))
  have U1 := hide (HU0.out.trans hu1)
  have z1 := hu1.size
  simp only [World.size_alloc] at z1
  have alc := bal (Below.refl w1.heap.size w1) (.cells #[.int .i64 a0, .int .i64 0, .int .i64 0, .int .i64 0, .int .i64 0, .int .i64 0, .int .i64 0, .int .i64 0, .int .i64 0, .int .i64 0] 30)
  have N0 := hide (heap_up (.cells #[.int .i64 a0, .int .i64 0, .int .i64 0, .int .i64 0, .int .i64 0, .int .i64 0, .int .i64 0, .int .i64 0, .int .i64 0, .int .i64 0] 30) G1.out)
  have N1 := hide (heap_alloc_new w1 (.cells #[.int .i64 a0, .int .i64 0, .int .i64 0, .int .i64 0, .int .i64 0, .int .i64 0, .int .i64 0, .int .i64 0, .int .i64 0, .int .i64 0] 30))
  have hrc := hr1.keepB alc
  have V1 := hide (U1.out.trans (Upd.ofBelow (S := fun j => j = R) alc))
  have hRl1 := hr1.lt.1
  clear hr0 hu1 G G1 HU0 U1 hr1 alc

  go_wp2_with fail
  refine (num_any w0 _ R _ n cap bo bs _ hrc).mono ?_
  rintro e w2 ⟨a1, rfl, p2, bad2, -, -, hr2, rd2', hu2⟩
  have rd2 := rd1.append rd2'
  have M0 := hide (hu2.keeps N0.out (by omega))
  have M1 := hide (hu2.keeps N1.out (by omega))
  have z2 := hu2.size
  simp only [World.size_alloc] at z2
  have c0 : w2.cell? ⟨w1.heap.size, 1, none⟩ = some (.int .i64 0) := boxAt M1.out 1
  have c1 : w2.frozen? ⟨w1.heap.size, 1, none⟩ = false := boxFz M1.out 1
  have us := Upd.setCell (S := fun j => j = w1.heap.size) w2 w1.heap.size 1 (.int .i64 a1) rfl
  have V2 := hide ((V1.out.trans hu2).transN us (fun k h => by omega))
  have hrd := hr2.keep us (by omega) (fun k h => by omega)
  clear N0 N1 hrc V1 rd1 rd2' hr2
  have N0 := hide (us.keeps M0.out (by omega))
  have N1 : Hid ((w2.setCell ⟨w1.heap.size, 1, none⟩ (.int .i64 a1)).heap[w1.heap.size]? = some (.cells #[.int .i64 a0, .int .i64 a1, .int .i64 0, .int .i64 0, .int .i64 0, .int .i64 0, .int .i64 0, .int .i64 0, .int .i64 0, .int .i64 0] 30 (0, 0))) := row_set _ M1.out
  have hrc := hrd
  clear M0 M1 us hu2 hrd

  go_wp2_with fail
  refine (num_any w0 _ R _ n cap bo bs _ hrc).mono ?_
  rintro e w3 ⟨a2, rfl, p3, bad3, -, -, hr3, rd3', hu3⟩
  have rd3 := rd2.append rd3'
  have M0 := hide (hu3.keeps N0.out (by omega))
  have M1 := hide (hu3.keeps N1.out (by omega))
  have z3 := hu3.size
  simp only [World.size_setCell] at z3
  have c0 : w3.cell? ⟨w1.heap.size, 2, none⟩ = some (.int .i64 0) := boxAt M1.out 2
  have c1 : w3.frozen? ⟨w1.heap.size, 2, none⟩ = false := boxFz M1.out 2
  have us := Upd.setCell (S := fun j => j = w1.heap.size) w3 w1.heap.size 2 (.int .i64 a2) rfl
  have V3 := hide ((V2.out.trans hu3).transN us (fun k h => by omega))
  have hrd := hr3.keep us (by omega) (fun k h => by omega)
  clear N0 N1 hrc V2 rd2 rd3' hr3
  have N0 := hide (us.keeps M0.out (by omega))
  have N1 : Hid ((w3.setCell ⟨w1.heap.size, 2, none⟩ (.int .i64 a2)).heap[w1.heap.size]? = some (.cells #[.int .i64 a0, .int .i64 a1, .int .i64 a2, .int .i64 0, .int .i64 0, .int .i64 0, .int .i64 0, .int .i64 0, .int .i64 0, .int .i64 0] 30 (0, 0))) := row_set _ M1.out
  have hrc := hrd
  clear M0 M1 us hu3 hrd

  go_wp2_with fail
  refine (num_any w0 _ R _ n cap bo bs _ hrc).mono ?_
  rintro e w4 ⟨a3, rfl, p4, bad4, -, -, hr4, rd4', hu4⟩
  have rd4 := rd3.append rd4'
  have M0 := hide (hu4.keeps N0.out (by omega))
  have M1 := hide (hu4.keeps N1.out (by omega))
  have z4 := hu4.size
  simp only [World.size_setCell] at z4
  have c0 : w4.cell? ⟨w1.heap.size, 3, none⟩ = some (.int .i64 0) := boxAt M1.out 3
  have c1 : w4.frozen? ⟨w1.heap.size, 3, none⟩ = false := boxFz M1.out 3
  have us := Upd.setCell (S := fun j => j = w1.heap.size) w4 w1.heap.size 3 (.int .i64 a3) rfl
  have V4 := hide ((V3.out.trans hu4).transN us (fun k h => by omega))
  have hrd := hr4.keep us (by omega) (fun k h => by omega)
  clear N0 N1 hrc V3 rd3 rd4' hr4
  have N0 := hide (us.keeps M0.out (by omega))
  have N1 : Hid ((w4.setCell ⟨w1.heap.size, 3, none⟩ (.int .i64 a3)).heap[w1.heap.size]? = some (.cells #[.int .i64 a0, .int .i64 a1, .int .i64 a2, .int .i64 a3, .int .i64 0, .int .i64 0, .int .i64 0, .int .i64 0, .int .i64 0, .int .i64 0] 30 (0, 0))) := row_set _ M1.out
  have hrc := hrd
  clear M0 M1 us hu4 hrd

  go_wp2_with fail
  refine (num_any w0 _ R _ n cap bo bs _ hrc).mono ?_
  rintro e w5 ⟨a4, rfl, p5, bad5, -, -, hr5, rd5', hu5⟩
  have rd5 := rd4.append rd5'
  have M0 := hide (hu5.keeps N0.out (by omega))
  have M1 := hide (hu5.keeps N1.out (by omega))
  have z5 := hu5.size
  simp only [World.size_setCell] at z5
  have c0 : w5.cell? ⟨w1.heap.size, 4, none⟩ = some (.int .i64 0) := boxAt M1.out 4
  have c1 : w5.frozen? ⟨w1.heap.size, 4, none⟩ = false := boxFz M1.out 4
  have us := Upd.setCell (S := fun j => j = w1.heap.size) w5 w1.heap.size 4 (.int .i64 a4) rfl
  have V5 := hide ((V4.out.trans hu5).transN us (fun k h => by omega))
  have hrd := hr5.keep us (by omega) (fun k h => by omega)
  clear N0 N1 hrc V4 rd4 rd5' hr5
  have N0 := hide (us.keeps M0.out (by omega))
  have N1 : Hid ((w5.setCell ⟨w1.heap.size, 4, none⟩ (.int .i64 a4)).heap[w1.heap.size]? = some (.cells #[.int .i64 a0, .int .i64 a1, .int .i64 a2, .int .i64 a3, .int .i64 a4, .int .i64 0, .int .i64 0, .int .i64 0, .int .i64 0, .int .i64 0] 30 (0, 0))) := row_set _ M1.out
  have hrc := hrd
  clear M0 M1 us hu5 hrd

  go_wp2_with fail
  refine (num_any w0 _ R _ n cap bo bs _ hrc).mono ?_
  rintro e w6 ⟨a5, rfl, p6, bad6, -, -, hr6, rd6', hu6⟩
  have rd6 := rd5.append rd6'
  have M0 := hide (hu6.keeps N0.out (by omega))
  have M1 := hide (hu6.keeps N1.out (by omega))
  have z6 := hu6.size
  simp only [World.size_setCell] at z6
  have c0 : w6.cell? ⟨w1.heap.size, 5, none⟩ = some (.int .i64 0) := boxAt M1.out 5
  have c1 : w6.frozen? ⟨w1.heap.size, 5, none⟩ = false := boxFz M1.out 5
  have us := Upd.setCell (S := fun j => j = w1.heap.size) w6 w1.heap.size 5 (.int .i64 a5) rfl
  have V6 := hide ((V5.out.trans hu6).transN us (fun k h => by omega))
  have hrd := hr6.keep us (by omega) (fun k h => by omega)
  clear N0 N1 hrc V5 rd5 rd6' hr6
  have N0 := hide (us.keeps M0.out (by omega))
  have N1 : Hid ((w6.setCell ⟨w1.heap.size, 5, none⟩ (.int .i64 a5)).heap[w1.heap.size]? = some (.cells #[.int .i64 a0, .int .i64 a1, .int .i64 a2, .int .i64 a3, .int .i64 a4, .int .i64 a5, .int .i64 0, .int .i64 0, .int .i64 0, .int .i64 0] 30 (0, 0))) := row_set _ M1.out
  have hrc := hrd
  clear M0 M1 us hu6 hrd

  go_wp2_with fail
  refine (num_any w0 _ R _ n cap bo bs _ hrc).mono ?_
  rintro e w7 ⟨a6, rfl, p7, bad7, -, -, hr7, rd7', hu7⟩
  have rd7 := rd6.append rd7'
  have M0 := hide (hu7.keeps N0.out (by omega))
  have M1 := hide (hu7.keeps N1.out (by omega))
  have z7 := hu7.size
  simp only [World.size_setCell] at z7
  have c0 : w7.cell? ⟨w1.heap.size, 6, none⟩ = some (.int .i64 0) := boxAt M1.out 6
  have c1 : w7.frozen? ⟨w1.heap.size, 6, none⟩ = false := boxFz M1.out 6
  have us := Upd.setCell (S := fun j => j = w1.heap.size) w7 w1.heap.size 6 (.int .i64 a6) rfl
  have V7 := hide ((V6.out.trans hu7).transN us (fun k h => by omega))
  have hrd := hr7.keep us (by omega) (fun k h => by omega)
  clear N0 N1 hrc V6 rd6 rd7' hr7
  have N0 := hide (us.keeps M0.out (by omega))
  have N1 : Hid ((w7.setCell ⟨w1.heap.size, 6, none⟩ (.int .i64 a6)).heap[w1.heap.size]? = some (.cells #[.int .i64 a0, .int .i64 a1, .int .i64 a2, .int .i64 a3, .int .i64 a4, .int .i64 a5, .int .i64 a6, .int .i64 0, .int .i64 0, .int .i64 0] 30 (0, 0))) := row_set _ M1.out
  have hrc := hrd
  clear M0 M1 us hu7 hrd

  go_wp2_with fail
  refine (num_any w0 _ R _ n cap bo bs _ hrc).mono ?_
  rintro e w8 ⟨a7, rfl, p8, bad8, -, -, hr8, rd8', hu8⟩
  have rd8 := rd7.append rd8'
  have M0 := hide (hu8.keeps N0.out (by omega))
  have M1 := hide (hu8.keeps N1.out (by omega))
  have z8 := hu8.size
  simp only [World.size_setCell] at z8
  have c0 : w8.cell? ⟨w1.heap.size, 7, none⟩ = some (.int .i64 0) := boxAt M1.out 7
  have c1 : w8.frozen? ⟨w1.heap.size, 7, none⟩ = false := boxFz M1.out 7
  have us := Upd.setCell (S := fun j => j = w1.heap.size) w8 w1.heap.size 7 (.int .i64 a7) rfl
  have V8 := hide ((V7.out.trans hu8).transN us (fun k h => by omega))
  have hrd := hr8.keep us (by omega) (fun k h => by omega)
  clear N0 N1 hrc V7 rd7 rd8' hr8
  have N0 := hide (us.keeps M0.out (by omega))
  have N1 : Hid ((w8.setCell ⟨w1.heap.size, 7, none⟩ (.int .i64 a7)).heap[w1.heap.size]? = some (.cells #[.int .i64 a0, .int .i64 a1, .int .i64 a2, .int .i64 a3, .int .i64 a4, .int .i64 a5, .int .i64 a6, .int .i64 a7, .int .i64 0, .int .i64 0] 30 (0, 0))) := row_set _ M1.out
  have hrc := hrd
  clear M0 M1 us hu8 hrd

  go_wp2_with fail
  refine (num_any w0 _ R _ n cap bo bs _ hrc).mono ?_
  rintro e w9 ⟨a8, rfl, p9, bad9, -, -, hr9, rd9', hu9⟩
  have rd9 := rd8.append rd9'
  have M0 := hide (hu9.keeps N0.out (by omega))
  have M1 := hide (hu9.keeps N1.out (by omega))
  have z9 := hu9.size
  simp only [World.size_setCell] at z9
  have c0 : w9.cell? ⟨w1.heap.size, 8, none⟩ = some (.int .i64 0) := boxAt M1.out 8
  have c1 : w9.frozen? ⟨w1.heap.size, 8, none⟩ = false := boxFz M1.out 8
  have us := Upd.setCell (S := fun j => j = w1.heap.size) w9 w1.heap.size 8 (.int .i64 a8) rfl
  have V9 := hide ((V8.out.trans hu9).transN us (fun k h => by omega))
  have hrd := hr9.keep us (by omega) (fun k h => by omega)
  clear N0 N1 hrc V8 rd8 rd9' hr9
  have N0 := hide (us.keeps M0.out (by omega))
  have N1 : Hid ((w9.setCell ⟨w1.heap.size, 8, none⟩ (.int .i64 a8)).heap[w1.heap.size]? = some (.cells #[.int .i64 a0, .int .i64 a1, .int .i64 a2, .int .i64 a3, .int .i64 a4, .int .i64 a5, .int .i64 a6, .int .i64 a7, .int .i64 a8, .int .i64 0] 30 (0, 0))) := row_set _ M1.out
  have hrc := hrd
  clear M0 M1 us hu9 hrd

  go_wp2_with fail
  refine (num_any w0 _ R _ n cap bo bs _ hrc).mono ?_
  rintro e w10 ⟨a9, rfl, p10, bad10, -, -, hr10, rd10', hu10⟩
  have rd10 := rd9.append rd10'
  have M0 := hide (hu10.keeps N0.out (by omega))
  have M1 := hide (hu10.keeps N1.out (by omega))
  have z10 := hu10.size
  simp only [World.size_setCell] at z10
  have c0 : w10.cell? ⟨w1.heap.size, 9, none⟩ = some (.int .i64 0) := boxAt M1.out 9
  have c1 : w10.frozen? ⟨w1.heap.size, 9, none⟩ = false := boxFz M1.out 9
  have us := Upd.setCell (S := fun j => j = w1.heap.size) w10 w1.heap.size 9 (.int .i64 a9) rfl
  have V10 := hide ((V9.out.trans hu10).transN us (fun k h => by omega))
  have hrd := hr10.keep us (by omega) (fun k h => by omega)
  clear N0 N1 hrc V9 rd9 rd10' hr10
  have N0 := hide (us.keeps M0.out (by omega))
  have N1 : Hid ((w10.setCell ⟨w1.heap.size, 9, none⟩ (.int .i64 a9)).heap[w1.heap.size]? = some (.cells #[.int .i64 a0, .int .i64 a1, .int .i64 a2, .int .i64 a3, .int .i64 a4, .int .i64 a5, .int .i64 a6, .int .i64 a7, .int .i64 a8, .int .i64 a9] 30 (0, 0))) := row_set _ M1.out
  have hrc := hrd
  clear M0 M1 us hu10 hrd

  go_wp2_with (first | (refine wpList_load_row rfl 30 (.tmp 3) rfl w1.heap.size rfl _ #[.int .i64 a0, .int .i64 a1, .int .i64 a2, .int .i64 a3, .int .i64 a4, .int .i64 a5, .int .i64 a6, .int .i64 a7, .int .i64 a8, .int .i64 a9] (0, 0) _ N1.out Try.underlying30 rfl infoCm ?_) | (refine wpList_store_row rfl 30 (.tmp 2) (.tmp 34) rfl w.heap.size #[.int .i64 a0, .int .i64 a1, .int .i64 a2, .int .i64 a3, .int .i64 a4, .int .i64 a5, .int .i64 a6, .int .i64 a7, .int .i64 a8, .int .i64 a9] rfl rfl _ _ N0.out infoCm rfl (all_of_list rfl) ?_))
  refine bodyPost_ret (v := .agg #[.int .i64 a0, .int .i64 a1, .int .i64 a2, .int .i64 a3, .int .i64 a4, .int .i64 a5, .int .i64 a6, .int .i64 a7, .int .i64 a8, .int .i64 a9]) (results_cell_row Try.results65 _ _ w.heap.size _ _ (0, 0) _ rfl (setRow_heap _ _ _ _ _ _ N0.out) Try.underlying30 rfl infoCm) rfl ?_
  have u6 : Upd (fun j => j = w.heap.size) (w10.setCell ⟨w1.heap.size, 9, none⟩ (.int .i64 a9)) ((w10.setCell ⟨w1.heap.size, 9, none⟩ (.int .i64 a9)).setRow w.heap.size #[.int .i64 a0, .int .i64 a1, .int .i64 a2, .int .i64 a3, .int .i64 a4, .int .i64 a5, .int .i64 a6, .int .i64 a7, .int .i64 a8, .int .i64 a9]) := ⟨rfl, rfl, rfl, by simp, fun k _ h => setRow_other _ _ _ _ h⟩
  exact ⟨⟨0, 0, 0, 0, 0, 0, a0, a1, a2, a3, a4, a5, a6, a7, a8, a9, 0, 0, 0, 0, 0, 0, 0, 0, [], []⟩, rfl, p10, bad10, hrc.keep u6 (by omega) (fun k h => by omega), rd10, V10.out.transN u6 (fun k h => by omega)⟩

end Go.Proofs.Ytafojnjpllpjjaa

/- The specification's reader of words: a contract; no statement of the seat is proved here. -/
namespace Go.Proofs.Ytafojnjpllpjjaa
open Go.RowKit

theorem built34a (a0 : Int) : Try.prog.built 34 [(0, .int .i64 a0)] = some #[.int .i64 a0, .int .i64 0, .int .i64 0, .int .i64 0, .int .i64 0, .int .i64 0, .int .i64 0, .int .i64 0, .int .i64 0, .int .i64 0, .int .i64 0, .int .i64 0, .int .i64 0, .int .i64 0, .int .i64 0, .int .i64 0, .int .i64 0, .int .i64 0, .int .i64 0, .int .i64 0, .int .i64 0, .int .i64 0, .int .i64 0, .int .i64 0, .slice none 0 0, .slice none 0 0] := by kernel_rfl
theorem wpList_built34a {ops : Array Oper} {rest : List Oper} {o : Oper} {a : Act} {w : World} {Q : Exit → Act → World → Prop} (a0 : Int) (hg : o.guard = none) (parts : Array (Nat × Operand)) (ho : o.op = .build 34 parts)
    (hp : (parts.map fun (i, x) => (i, a.eval x)).toList = [(0, .int .i64 a0)])
    (h : wpList Try.prog ops Q rest (a.put o.dst (.agg #[.int .i64 a0, .int .i64 0, .int .i64 0, .int .i64 0, .int .i64 0, .int .i64 0, .int .i64 0, .int .i64 0, .int .i64 0, .int .i64 0, .int .i64 0, .int .i64 0, .int .i64 0, .int .i64 0, .int .i64 0, .int .i64 0, .int .i64 0, .int .i64 0, .int .i64 0, .int .i64 0, .int .i64 0, .int .i64 0, .int .i64 0, .int .i64 0, .slice none 0 0, .slice none 0 0])) w) : wpList Try.prog ops Q (o :: rest) a w :=
  wpList_build hg 34 parts ho (by rw [hp, built34a]; rfl) (by rw [hp, built34a]; exact h)

/-- What reading a word gives: that word, the reader behind it. -/
def WordR (w0 w : World) (R : Nat) (bo : Option Addr) (n cap : Nat) (bs : List Nat) (p : Nat) (bad : Bool) (x : Wd) (w' : World) : Prop :=
  ∃ (p' : Nat) (bad' : Bool), Rg w0 w' R bo n cap bs p' bad' ∧ (∃ b1 b2, Rdn (vw bs p bad) x.nums b1 ∧ Rdl 60 pnum b1 x.ps b2 ∧ Rdl 4 lnum b2 x.ls (vw bs p' bad')) ∧ Upd (fun j => j = R) w w'

theorem set10 {w : World} {g : Nat} {t : TypeId} {a0 a1 a2 a3 a4 a5 z0 z1 z2 z3 z4 z5 z6 z7 z8 z9 b0 b1 b2 b3 b4 b5 b6 b7 p l : Value} (c0 c1 c2 c3 c4 c5 c6 c7 c8 c9 : Value) (h : w.heap[g]? = some (.cells #[a0, a1, a2, a3, a4, a5, z0, z1, z2, z3, z4, z5, z6, z7, z8, z9, b0, b1, b2, b3, b4, b5, b6, b7, p, l] t (0, 0))) :
    ((((((((((w.setCell ⟨g, 6, none⟩ c0).setCell ⟨g, 7, none⟩ c1).setCell ⟨g, 8, none⟩ c2).setCell ⟨g, 9, none⟩ c3).setCell ⟨g, 10, none⟩ c4).setCell ⟨g, 11, none⟩ c5).setCell ⟨g, 12, none⟩ c6).setCell ⟨g, 13, none⟩ c7).setCell ⟨g, 14, none⟩ c8).setCell ⟨g, 15, none⟩ c9).heap[g]? = some (.cells #[a0, a1, a2, a3, a4, a5, c0, c1, c2, c3, c4, c5, c6, c7, c8, c9, b0, b1, b2, b3, b4, b5, b6, b7, p, l] t (0, 0)) :=
  by
    have h1 : (w.setCell ⟨g, 6, none⟩ c0).heap[g]? = some (.cells #[a0, a1, a2, a3, a4, a5, c0, z1, z2, z3, z4, z5, z6, z7, z8, z9, b0, b1, b2, b3, b4, b5, b6, b7, p, l] t (0, 0)) := row_set _ h
    have h2 : ((w.setCell ⟨g, 6, none⟩ c0).setCell ⟨g, 7, none⟩ c1).heap[g]? = some (.cells #[a0, a1, a2, a3, a4, a5, c0, c1, z2, z3, z4, z5, z6, z7, z8, z9, b0, b1, b2, b3, b4, b5, b6, b7, p, l] t (0, 0)) := row_set _ h1
    have h3 : (((w.setCell ⟨g, 6, none⟩ c0).setCell ⟨g, 7, none⟩ c1).setCell ⟨g, 8, none⟩ c2).heap[g]? = some (.cells #[a0, a1, a2, a3, a4, a5, c0, c1, c2, z3, z4, z5, z6, z7, z8, z9, b0, b1, b2, b3, b4, b5, b6, b7, p, l] t (0, 0)) := row_set _ h2
    have h4 : ((((w.setCell ⟨g, 6, none⟩ c0).setCell ⟨g, 7, none⟩ c1).setCell ⟨g, 8, none⟩ c2).setCell ⟨g, 9, none⟩ c3).heap[g]? = some (.cells #[a0, a1, a2, a3, a4, a5, c0, c1, c2, c3, z4, z5, z6, z7, z8, z9, b0, b1, b2, b3, b4, b5, b6, b7, p, l] t (0, 0)) := row_set _ h3
    have h5 : (((((w.setCell ⟨g, 6, none⟩ c0).setCell ⟨g, 7, none⟩ c1).setCell ⟨g, 8, none⟩ c2).setCell ⟨g, 9, none⟩ c3).setCell ⟨g, 10, none⟩ c4).heap[g]? = some (.cells #[a0, a1, a2, a3, a4, a5, c0, c1, c2, c3, c4, z5, z6, z7, z8, z9, b0, b1, b2, b3, b4, b5, b6, b7, p, l] t (0, 0)) := row_set _ h4
    have h6 : ((((((w.setCell ⟨g, 6, none⟩ c0).setCell ⟨g, 7, none⟩ c1).setCell ⟨g, 8, none⟩ c2).setCell ⟨g, 9, none⟩ c3).setCell ⟨g, 10, none⟩ c4).setCell ⟨g, 11, none⟩ c5).heap[g]? = some (.cells #[a0, a1, a2, a3, a4, a5, c0, c1, c2, c3, c4, c5, z6, z7, z8, z9, b0, b1, b2, b3, b4, b5, b6, b7, p, l] t (0, 0)) := row_set _ h5
    have h7 : (((((((w.setCell ⟨g, 6, none⟩ c0).setCell ⟨g, 7, none⟩ c1).setCell ⟨g, 8, none⟩ c2).setCell ⟨g, 9, none⟩ c3).setCell ⟨g, 10, none⟩ c4).setCell ⟨g, 11, none⟩ c5).setCell ⟨g, 12, none⟩ c6).heap[g]? = some (.cells #[a0, a1, a2, a3, a4, a5, c0, c1, c2, c3, c4, c5, c6, z7, z8, z9, b0, b1, b2, b3, b4, b5, b6, b7, p, l] t (0, 0)) := row_set _ h6
    have h8 : ((((((((w.setCell ⟨g, 6, none⟩ c0).setCell ⟨g, 7, none⟩ c1).setCell ⟨g, 8, none⟩ c2).setCell ⟨g, 9, none⟩ c3).setCell ⟨g, 10, none⟩ c4).setCell ⟨g, 11, none⟩ c5).setCell ⟨g, 12, none⟩ c6).setCell ⟨g, 13, none⟩ c7).heap[g]? = some (.cells #[a0, a1, a2, a3, a4, a5, c0, c1, c2, c3, c4, c5, c6, c7, z8, z9, b0, b1, b2, b3, b4, b5, b6, b7, p, l] t (0, 0)) := row_set _ h7
    have h9 : (((((((((w.setCell ⟨g, 6, none⟩ c0).setCell ⟨g, 7, none⟩ c1).setCell ⟨g, 8, none⟩ c2).setCell ⟨g, 9, none⟩ c3).setCell ⟨g, 10, none⟩ c4).setCell ⟨g, 11, none⟩ c5).setCell ⟨g, 12, none⟩ c6).setCell ⟨g, 13, none⟩ c7).setCell ⟨g, 14, none⟩ c8).heap[g]? = some (.cells #[a0, a1, a2, a3, a4, a5, c0, c1, c2, c3, c4, c5, c6, c7, c8, z9, b0, b1, b2, b3, b4, b5, b6, b7, p, l] t (0, 0)) := row_set _ h8
    have h10 : ((((((((((w.setCell ⟨g, 6, none⟩ c0).setCell ⟨g, 7, none⟩ c1).setCell ⟨g, 8, none⟩ c2).setCell ⟨g, 9, none⟩ c3).setCell ⟨g, 10, none⟩ c4).setCell ⟨g, 11, none⟩ c5).setCell ⟨g, 12, none⟩ c6).setCell ⟨g, 13, none⟩ c7).setCell ⟨g, 14, none⟩ c8).setCell ⟨g, 15, none⟩ c9).heap[g]? = some (.cells #[a0, a1, a2, a3, a4, a5, c0, c1, c2, c3, c4, c5, c6, c7, c8, c9, b0, b1, b2, b3, b4, b5, b6, b7, p, l] t (0, 0)) := row_set _ h9
    exact h10
theorem set10u (w : World) (g : Nat) (c0 c1 c2 c3 c4 c5 c6 c7 c8 c9 : Value) :
    Upd (fun j => j = g) w ((((((((((w.setCell ⟨g, 6, none⟩ c0).setCell ⟨g, 7, none⟩ c1).setCell ⟨g, 8, none⟩ c2).setCell ⟨g, 9, none⟩ c3).setCell ⟨g, 10, none⟩ c4).setCell ⟨g, 11, none⟩ c5).setCell ⟨g, 12, none⟩ c6).setCell ⟨g, 13, none⟩ c7).setCell ⟨g, 14, none⟩ c8).setCell ⟨g, 15, none⟩ c9) :=
  ((((((((((Upd.setCell (S := fun j => j = g) w g 6 c0 rfl).trans (Upd.setCell _ g 7 c1 rfl)).trans (Upd.setCell _ g 8 c2 rfl)).trans (Upd.setCell _ g 9 c3 rfl)).trans (Upd.setCell _ g 10 c4 rfl)).trans (Upd.setCell _ g 11 c5 rfl)).trans (Upd.setCell _ g 12 c6 rfl)).trans (Upd.setCell _ g 13 c7 rfl)).trans (Upd.setCell _ g 14 c8 rfl)).trans (Upd.setCell _ g 15 c9 rfl))

theorem pc_new (w : World) (x : Pc) (e : TypeId) : ∀ j u, (pcell x)[j]? = some u → (w.alloc (.cells #[.int .i64 x.1, .int .i64 x.2.1, .int .i64 x.2.2.1, .int .i64 x.2.2.2] e)).cell? ((⟨w.heap.size, 0, none⟩ : Addr).add j) = some u := by
  intro j u h
  rw [Addr.add_lit, Nat.zero_add, boxAt (heap_alloc_new w _)]
  simpa [pcell] using h
theorem lc_new (w : World) (x : Lc) (e : TypeId) : ∀ j u, (lcell x)[j]? = some u → (w.alloc (.cells #[.int .i64 x.1, .int .i64 x.2] e)).cell? ((⟨w.heap.size, 0, none⟩ : Addr).add j) = some u := by
  intro j u h
  rw [Addr.add_lit, Nat.zero_add, boxAt (heap_alloc_new w _)]
  simpa [lcell] using h

set_option maxRecDepth 100000 in
set_option maxHeartbeats 16000000 in
theorem readWord_any (w0 w : World) (R p n cap : Nat) (bo : Option Addr) (bs : List Nat) (bad : Bool) (h : Rg w0 w R bo n cap bs p bad) :
    Calls Try.prog 47 #[.pointer (some ⟨R, 0, none⟩)] w fun e w' => ∃ (v : Value) (x : Wd), e = .returned v ∧ WdO w' (fun k => w.heap.size ≤ k) v x ∧ WordR w0 w R bo n cap bs p bad x w' := by
  obtain ⟨hRl, hR0, hw0⟩ := h.lt
  have al0 := bal (Below.refl w.heap.size w) (.cells #[.int .i64 0, .int .i64 0, .int .i64 0, .int .i64 0, .int .i64 0, .int .i64 0, .int .i64 0, .int .i64 0, .int .i64 0, .int .i64 0, .int .i64 0, .int .i64 0, .int .i64 0, .int .i64 0, .int .i64 0, .int .i64 0, .int .i64 0, .int .i64 0, .int .i64 0, .int .i64 0, .int .i64 0, .int .i64 0, .int .i64 0, .int .i64 0, .slice none 0 0, .slice none 0 0] 34)
  have hr0 := h.keepB al0
  have G := hide (heap_alloc_new w (.cells #[.int .i64 0, .int .i64 0, .int .i64 0, .int .i64 0, .int .i64 0, .int .i64 0, .int .i64 0, .int .i64 0, .int .i64 0, .int .i64 0, .int .i64 0, .int .i64 0, .int .i64 0, .int .i64 0, .int .i64 0, .int .i64 0, .int .i64 0, .int .i64 0, .int .i64 0, .int .i64 0, .int .i64 0, .int .i64 0, .int .i64 0, .int .i64 0, .slice none 0 0, .slice none 0 0] 34))
  have HU0 := hide (Upd.ofBelow (S := fun j => j = R) al0)
  clear h
  go_enter Try.func47, Try.ntmps47
  go_wp2_with fail
  refine (num_any w0 _ R _ n cap bo bs _ hr0).mono ?_
  rintro e w1 ⟨a0, rfl, p1, bad1, -, -, hr1, rd1, hu1⟩
  have G1 := hide (hu1.keeps G.out (by omega))
  have U1 := hide (HU0.out.trans hu1)
  have z1 := hu1.size
  simp only [World.size_alloc] at z1
  have alc := bal (Below.refl w1.heap.size w1) (.cells #[.int .i64 a0, .int .i64 0, .int .i64 0, .int .i64 0, .int .i64 0, .int .i64 0, .int .i64 0, .int .i64 0, .int .i64 0, .int .i64 0, .int .i64 0, .int .i64 0, .int .i64 0, .int .i64 0, .int .i64 0, .int .i64 0, .int .i64 0, .int .i64 0, .int .i64 0, .int .i64 0, .int .i64 0, .int .i64 0, .int .i64 0, .int .i64 0, .slice none 0 0, .slice none 0 0] 34)
  have N0 := hide (heap_up (.cells #[.int .i64 a0, .int .i64 0, .int .i64 0, .int .i64 0, .int .i64 0, .int .i64 0, .int .i64 0, .int .i64 0, .int .i64 0, .int .i64 0, .int .i64 0, .int .i64 0, .int .i64 0, .int .i64 0, .int .i64 0, .int .i64 0, .int .i64 0, .int .i64 0, .int .i64 0, .int .i64 0, .int .i64 0, .int .i64 0, .int .i64 0, .int .i64 0, .slice none 0 0, .slice none 0 0] 34) G1.out)
  have N1 := hide (heap_alloc_new w1 (.cells #[.int .i64 a0, .int .i64 0, .int .i64 0, .int .i64 0, .int .i64 0, .int .i64 0, .int .i64 0, .int .i64 0, .int .i64 0, .int .i64 0, .int .i64 0, .int .i64 0, .int .i64 0, .int .i64 0, .int .i64 0, .int .i64 0, .int .i64 0, .int .i64 0, .int .i64 0, .int .i64 0, .int .i64 0, .int .i64 0, .int .i64 0, .int .i64 0, .slice none 0 0, .slice none 0 0] 34))
  have hrc := hr1.keepB alc
  have V1 := hide (U1.out.trans (Upd.ofBelow (S := fun j => j = R) alc))
  have hRl1 := hr1.lt.1
  clear hr0 hu1 G G1 HU0 U1 hr1 alc al0
  go_wp2_with (first
    | (refine wpList_built34a a0 rfl _ rfl ?hp ?_; (case hp => ((conv => lhs; simp only [List.map_toArray, List.map_cons, List.map_nil]); rfl)))
    | (refine wpList_store_row rfl 34 (.tmp 3) (.tmp 10) rfl w1.heap.size _ rfl rfl _ _ (heap_alloc_new w1 _) infoWd (show (26 : Nat) = 26 from rfl) (all_of_list rfl) ?_; rw [World.setRow_alloc_new]))

  refine (num_any w0 _ R _ n cap bo bs _ hrc).mono ?_
  rintro e w2 ⟨a1, rfl, p2, bad2, -, -, hr2, rd2', hu2⟩
  have rd2 := rd1.append rd2'
  simp only [List.cons_append, List.nil_append] at rd2
  have M0 := hide (hu2.keeps N0.out (by omega))
  have M1 := hide (hu2.keeps N1.out (by omega))
  have z2 := hu2.size
  simp only [World.size_alloc] at z2
  have c0 : w2.cell? ⟨w1.heap.size, 1, none⟩ = some (.int .i64 0) := boxAt M1.out 1
  have c1 : w2.frozen? ⟨w1.heap.size, 1, none⟩ = false := boxFz M1.out 1
  have us := Upd.setCell (S := fun j => j = w1.heap.size) w2 w1.heap.size 1 (.int .i64 a1) rfl
  have V2 := hide ((V1.out.trans hu2).transN us (fun k h => by omega))
  have hrd := hr2.keep us (by omega) (fun k h => by omega)
  clear N0 N1 hrc V1 rd1 rd2' hr2
  have N0 := hide (us.keeps M0.out (by omega))
  have N1 : Hid ((w2.setCell ⟨w1.heap.size, 1, none⟩ (.int .i64 a1)).heap[w1.heap.size]? = some (.cells #[.int .i64 a0, .int .i64 a1, .int .i64 0, .int .i64 0, .int .i64 0, .int .i64 0, .int .i64 0, .int .i64 0, .int .i64 0, .int .i64 0, .int .i64 0, .int .i64 0, .int .i64 0, .int .i64 0, .int .i64 0, .int .i64 0, .int .i64 0, .int .i64 0, .int .i64 0, .int .i64 0, .int .i64 0, .int .i64 0, .int .i64 0, .int .i64 0, .slice none 0 0, .slice none 0 0] 34 (0, 0))) := row_set _ M1.out
  have hrc := hrd
  clear M0 M1 us hu2 hrd
  go_wp2_with fail
  clear c0 c1
  refine (num_any w0 _ R _ n cap bo bs _ hrc).mono ?_
  rintro e w3 ⟨a2, rfl, p3, bad3, -, -, hr3, rd3', hu3⟩
  have rd3 := rd2.append rd3'
  simp only [List.cons_append, List.nil_append] at rd3
  have M0 := hide (hu3.keeps N0.out (by omega))
  have M1 := hide (hu3.keeps N1.out (by omega))
  have z3 := hu3.size
  simp only [World.size_setCell] at z3
  have c0 : w3.cell? ⟨w1.heap.size, 2, none⟩ = some (.int .i64 0) := boxAt M1.out 2
  have c1 : w3.frozen? ⟨w1.heap.size, 2, none⟩ = false := boxFz M1.out 2
  have us := Upd.setCell (S := fun j => j = w1.heap.size) w3 w1.heap.size 2 (.int .i64 a2) rfl
  have V3 := hide ((V2.out.trans hu3).transN us (fun k h => by omega))
  have hrd := hr3.keep us (by omega) (fun k h => by omega)
  clear N0 N1 hrc V2 rd2 rd3' hr3
  have N0 := hide (us.keeps M0.out (by omega))
  have N1 : Hid ((w3.setCell ⟨w1.heap.size, 2, none⟩ (.int .i64 a2)).heap[w1.heap.size]? = some (.cells #[.int .i64 a0, .int .i64 a1, .int .i64 a2, .int .i64 0, .int .i64 0, .int .i64 0, .int .i64 0, .int .i64 0, .int .i64 0, .int .i64 0, .int .i64 0, .int .i64 0, .int .i64 0, .int .i64 0, .int .i64 0, .int .i64 0, .int .i64 0, .int .i64 0, .int .i64 0, .int .i64 0, .int .i64 0, .int .i64 0, .int .i64 0, .int .i64 0, .slice none 0 0, .slice none 0 0] 34 (0, 0))) := row_set _ M1.out
  have hrc := hrd
  clear M0 M1 us hu3 hrd
  go_wp2_with fail
  clear c0 c1
  refine (num_any w0 _ R _ n cap bo bs _ hrc).mono ?_
  rintro e w4 ⟨a3, rfl, p4, bad4, -, -, hr4, rd4', hu4⟩
  have rd4 := rd3.append rd4'
  simp only [List.cons_append, List.nil_append] at rd4
  have M0 := hide (hu4.keeps N0.out (by omega))
  have M1 := hide (hu4.keeps N1.out (by omega))
  have z4 := hu4.size
  simp only [World.size_setCell] at z4
  have c0 : w4.cell? ⟨w1.heap.size, 3, none⟩ = some (.int .i64 0) := boxAt M1.out 3
  have c1 : w4.frozen? ⟨w1.heap.size, 3, none⟩ = false := boxFz M1.out 3
  have us := Upd.setCell (S := fun j => j = w1.heap.size) w4 w1.heap.size 3 (.int .i64 a3) rfl
  have V4 := hide ((V3.out.trans hu4).transN us (fun k h => by omega))
  have hrd := hr4.keep us (by omega) (fun k h => by omega)
  clear N0 N1 hrc V3 rd3 rd4' hr4
  have N0 := hide (us.keeps M0.out (by omega))
  have N1 : Hid ((w4.setCell ⟨w1.heap.size, 3, none⟩ (.int .i64 a3)).heap[w1.heap.size]? = some (.cells #[.int .i64 a0, .int .i64 a1, .int .i64 a2, .int .i64 a3, .int .i64 0, .int .i64 0, .int .i64 0, .int .i64 0, .int .i64 0, .int .i64 0, .int .i64 0, .int .i64 0, .int .i64 0, .int .i64 0, .int .i64 0, .int .i64 0, .int .i64 0, .int .i64 0, .int .i64 0, .int .i64 0, .int .i64 0, .int .i64 0, .int .i64 0, .int .i64 0, .slice none 0 0, .slice none 0 0] 34 (0, 0))) := row_set _ M1.out
  have hrc := hrd
  clear M0 M1 us hu4 hrd
  go_wp2_with fail
  clear c0 c1
  refine (num_any w0 _ R _ n cap bo bs _ hrc).mono ?_
  rintro e w5 ⟨a4, rfl, p5, bad5, -, -, hr5, rd5', hu5⟩
  have rd5 := rd4.append rd5'
  simp only [List.cons_append, List.nil_append] at rd5
  have M0 := hide (hu5.keeps N0.out (by omega))
  have M1 := hide (hu5.keeps N1.out (by omega))
  have z5 := hu5.size
  simp only [World.size_setCell] at z5
  have c0 : w5.cell? ⟨w1.heap.size, 4, none⟩ = some (.int .i64 0) := boxAt M1.out 4
  have c1 : w5.frozen? ⟨w1.heap.size, 4, none⟩ = false := boxFz M1.out 4
  have us := Upd.setCell (S := fun j => j = w1.heap.size) w5 w1.heap.size 4 (.int .i64 a4) rfl
  have V5 := hide ((V4.out.trans hu5).transN us (fun k h => by omega))
  have hrd := hr5.keep us (by omega) (fun k h => by omega)
  clear N0 N1 hrc V4 rd4 rd5' hr5
  have N0 := hide (us.keeps M0.out (by omega))
  have N1 : Hid ((w5.setCell ⟨w1.heap.size, 4, none⟩ (.int .i64 a4)).heap[w1.heap.size]? = some (.cells #[.int .i64 a0, .int .i64 a1, .int .i64 a2, .int .i64 a3, .int .i64 a4, .int .i64 0, .int .i64 0, .int .i64 0, .int .i64 0, .int .i64 0, .int .i64 0, .int .i64 0, .int .i64 0, .int .i64 0, .int .i64 0, .int .i64 0, .int .i64 0, .int .i64 0, .int .i64 0, .int .i64 0, .int .i64 0, .int .i64 0, .int .i64 0, .int .i64 0, .slice none 0 0, .slice none 0 0] 34 (0, 0))) := row_set _ M1.out
  have hrc := hrd
  clear M0 M1 us hu5 hrd
  go_wp2_with fail
  clear c0 c1
  refine (num_any w0 _ R _ n cap bo bs _ hrc).mono ?_
  rintro e w6 ⟨a5, rfl, p6, bad6, -, -, hr6, rd6', hu6⟩
  have rd6 := rd5.append rd6'
  simp only [List.cons_append, List.nil_append] at rd6
  have M0 := hide (hu6.keeps N0.out (by omega))
  have M1 := hide (hu6.keeps N1.out (by omega))
  have z6 := hu6.size
  simp only [World.size_setCell] at z6
  have c0 : w6.cell? ⟨w1.heap.size, 5, none⟩ = some (.int .i64 0) := boxAt M1.out 5
  have c1 : w6.frozen? ⟨w1.heap.size, 5, none⟩ = false := boxFz M1.out 5
  have us := Upd.setCell (S := fun j => j = w1.heap.size) w6 w1.heap.size 5 (.int .i64 a5) rfl
  have V6 := hide ((V5.out.trans hu6).transN us (fun k h => by omega))
  have hrd := hr6.keep us (by omega) (fun k h => by omega)
  clear N0 N1 hrc V5 rd5 rd6' hr6
  have N0 := hide (us.keeps M0.out (by omega))
  have N1 : Hid ((w6.setCell ⟨w1.heap.size, 5, none⟩ (.int .i64 a5)).heap[w1.heap.size]? = some (.cells #[.int .i64 a0, .int .i64 a1, .int .i64 a2, .int .i64 a3, .int .i64 a4, .int .i64 a5, .int .i64 0, .int .i64 0, .int .i64 0, .int .i64 0, .int .i64 0, .int .i64 0, .int .i64 0, .int .i64 0, .int .i64 0, .int .i64 0, .int .i64 0, .int .i64 0, .int .i64 0, .int .i64 0, .int .i64 0, .int .i64 0, .int .i64 0, .int .i64 0, .slice none 0 0, .slice none 0 0] 34 (0, 0))) := row_set _ M1.out
  have hrc := hrd
  clear M0 M1 us hu6 hrd
  go_wp2_with fail
  clear c0 c1
  refine (readCmd_any w0 _ R _ n cap bo bs _ hrc).mono ?_
  rintro e w7 ⟨C, rfl, p7, bad7, hr7, rd7', hu7⟩
  obtain ⟨a6, a7, a8, a9, a10, a11, a12, a13, a14, a15, hC⟩ : ∃ a6 a7 a8 a9 a10 a11 a12 a13 a14 a15, (C.c0 = a6 ∧ C.c1 = a7 ∧ C.c2 = a8 ∧ C.c3 = a9 ∧ C.c4 = a10 ∧ C.c5 = a11 ∧ C.c6 = a12 ∧ C.c7 = a13 ∧ C.c8 = a14 ∧ C.c9 = a15) := ⟨_, _, _, _, _, _, _, _, _, _, rfl, rfl, rfl, rfl, rfl, rfl, rfl, rfl, rfl, rfl⟩
  obtain ⟨h6, h7, h8, h9, h10, h11, h12, h13, h14, h15⟩ := hC
  rw [h6, h7, h8, h9, h10, h11, h12, h13, h14, h15] at rd7' ⊢
  have rd7 := rd6.append rd7'
  simp only [List.cons_append, List.nil_append] at rd7
  have M0 := hide (hu7.keeps N0.out (by omega))
  have M1 := hide (hu7.keeps N1.out (by omega))
  have z7 := hu7.size
  simp only [World.size_setCell] at z7
  have c6 : w7.cell? ⟨w1.heap.size, 6, none⟩ = some (.int .i64 0) := boxAt M1.out 6
  have d6 : w7.frozen? ⟨w1.heap.size, 6, none⟩ = false := boxFz M1.out 6
  have c7 : w7.cell? ⟨w1.heap.size, 7, none⟩ = some (.int .i64 0) := boxAt M1.out 7
  have d7 : w7.frozen? ⟨w1.heap.size, 7, none⟩ = false := boxFz M1.out 7
  have c8 : w7.cell? ⟨w1.heap.size, 8, none⟩ = some (.int .i64 0) := boxAt M1.out 8
  have d8 : w7.frozen? ⟨w1.heap.size, 8, none⟩ = false := boxFz M1.out 8
  have c9 : w7.cell? ⟨w1.heap.size, 9, none⟩ = some (.int .i64 0) := boxAt M1.out 9
  have d9 : w7.frozen? ⟨w1.heap.size, 9, none⟩ = false := boxFz M1.out 9
  have c10 : w7.cell? ⟨w1.heap.size, 10, none⟩ = some (.int .i64 0) := boxAt M1.out 10
  have d10 : w7.frozen? ⟨w1.heap.size, 10, none⟩ = false := boxFz M1.out 10
  have c11 : w7.cell? ⟨w1.heap.size, 11, none⟩ = some (.int .i64 0) := boxAt M1.out 11
  have d11 : w7.frozen? ⟨w1.heap.size, 11, none⟩ = false := boxFz M1.out 11
  have c12 : w7.cell? ⟨w1.heap.size, 12, none⟩ = some (.int .i64 0) := boxAt M1.out 12
  have d12 : w7.frozen? ⟨w1.heap.size, 12, none⟩ = false := boxFz M1.out 12
  have c13 : w7.cell? ⟨w1.heap.size, 13, none⟩ = some (.int .i64 0) := boxAt M1.out 13
  have d13 : w7.frozen? ⟨w1.heap.size, 13, none⟩ = false := boxFz M1.out 13
  have c14 : w7.cell? ⟨w1.heap.size, 14, none⟩ = some (.int .i64 0) := boxAt M1.out 14
  have d14 : w7.frozen? ⟨w1.heap.size, 14, none⟩ = false := boxFz M1.out 14
  have c15 : w7.cell? ⟨w1.heap.size, 15, none⟩ = some (.int .i64 0) := boxAt M1.out 15
  have d15 : w7.frozen? ⟨w1.heap.size, 15, none⟩ = false := boxFz M1.out 15
  have us := set10u w7 w1.heap.size (.int .i64 a6) (.int .i64 a7) (.int .i64 a8) (.int .i64 a9) (.int .i64 a10) (.int .i64 a11) (.int .i64 a12) (.int .i64 a13) (.int .i64 a14) (.int .i64 a15)
  have V7 := hide ((V6.out.trans hu7).transN us (fun k h => by omega))
  have hrd := hr7.keep us (by omega) (fun k h => by omega)
  clear N0 N1 hrc V6 rd6 rd7' hr7 h6 h7 h8 h9 h10 h11 h12 h13 h14 h15
  have N0 := hide (us.keeps M0.out (by omega))
  have N1 := hide (set10 (.int .i64 a6) (.int .i64 a7) (.int .i64 a8) (.int .i64 a9) (.int .i64 a10) (.int .i64 a11) (.int .i64 a12) (.int .i64 a13) (.int .i64 a14) (.int .i64 a15) M1.out)
  have hrc := hrd
  clear M0 M1 us hu7 hrd
  go_wp2_with fail
  clear c6 d6 c7 d7 c8 d8 c9 d9 c10 d10 c11 d11 c12 d12 c13 d13 c14 d14 c15 d15
  generalize World.setCell _ ⟨w1.heap.size, 15, none⟩ (.int .i64 a15) = Wc at N0 N1 hrc V7 ⊢

  refine (num_any w0 _ R _ n cap bo bs _ hrc).mono ?_
  rintro e w8 ⟨a16, rfl, p8, bad8, -, -, hr8, rd8', hu8⟩
  have rd8 := rd7.append rd8'
  simp only [List.cons_append, List.nil_append] at rd8
  have M0 := hide (hu8.keeps N0.out (by omega))
  have M1 := hide (hu8.keeps N1.out (by omega))
  have z8 := hu8.size
  have c0 : w8.cell? ⟨w1.heap.size, 16, none⟩ = some (.int .i64 0) := boxAt M1.out 16
  have c1 : w8.frozen? ⟨w1.heap.size, 16, none⟩ = false := boxFz M1.out 16
  have us := Upd.setCell (S := fun j => j = w1.heap.size) w8 w1.heap.size 16 (.int .i64 a16) rfl
  have V8 := hide ((V7.out.trans hu8).transN us (fun k h => by omega))
  have hrd := hr8.keep us (by omega) (fun k h => by omega)
  clear N0 N1 hrc V7 rd7 rd8' hr8
  have N0 := hide (us.keeps M0.out (by omega))
  have N1 : Hid ((w8.setCell ⟨w1.heap.size, 16, none⟩ (.int .i64 a16)).heap[w1.heap.size]? = some (.cells #[.int .i64 a0, .int .i64 a1, .int .i64 a2, .int .i64 a3, .int .i64 a4, .int .i64 a5, .int .i64 a6, .int .i64 a7, .int .i64 a8, .int .i64 a9, .int .i64 a10, .int .i64 a11, .int .i64 a12, .int .i64 a13, .int .i64 a14, .int .i64 a15, .int .i64 a16, .int .i64 0, .int .i64 0, .int .i64 0, .int .i64 0, .int .i64 0, .int .i64 0, .int .i64 0, .slice none 0 0, .slice none 0 0] 34 (0, 0))) := row_set _ M1.out
  have hrc := hrd
  clear M0 M1 us hu8 hrd
  go_wp2_with fail
  clear c0 c1
  refine (num_any w0 _ R _ n cap bo bs _ hrc).mono ?_
  rintro e w9 ⟨a17, rfl, p9, bad9, -, -, hr9, rd9', hu9⟩
  have rd9 := rd8.append rd9'
  simp only [List.cons_append, List.nil_append] at rd9
  have M0 := hide (hu9.keeps N0.out (by omega))
  have M1 := hide (hu9.keeps N1.out (by omega))
  have z9 := hu9.size
  simp only [World.size_setCell] at z9
  have c0 : w9.cell? ⟨w1.heap.size, 17, none⟩ = some (.int .i64 0) := boxAt M1.out 17
  have c1 : w9.frozen? ⟨w1.heap.size, 17, none⟩ = false := boxFz M1.out 17
  have us := Upd.setCell (S := fun j => j = w1.heap.size) w9 w1.heap.size 17 (.int .i64 a17) rfl
  have V9 := hide ((V8.out.trans hu9).transN us (fun k h => by omega))
  have hrd := hr9.keep us (by omega) (fun k h => by omega)
  clear N0 N1 hrc V8 rd8 rd9' hr9
  have N0 := hide (us.keeps M0.out (by omega))
  have N1 : Hid ((w9.setCell ⟨w1.heap.size, 17, none⟩ (.int .i64 a17)).heap[w1.heap.size]? = some (.cells #[.int .i64 a0, .int .i64 a1, .int .i64 a2, .int .i64 a3, .int .i64 a4, .int .i64 a5, .int .i64 a6, .int .i64 a7, .int .i64 a8, .int .i64 a9, .int .i64 a10, .int .i64 a11, .int .i64 a12, .int .i64 a13, .int .i64 a14, .int .i64 a15, .int .i64 a16, .int .i64 a17, .int .i64 0, .int .i64 0, .int .i64 0, .int .i64 0, .int .i64 0, .int .i64 0, .slice none 0 0, .slice none 0 0] 34 (0, 0))) := row_set _ M1.out
  have hrc := hrd
  clear M0 M1 us hu9 hrd
  go_wp2_with fail
  clear c0 c1
  refine (num_any w0 _ R _ n cap bo bs _ hrc).mono ?_
  rintro e w10 ⟨a18, rfl, p10, bad10, -, -, hr10, rd10', hu10⟩
  have rd10 := rd9.append rd10'
  simp only [List.cons_append, List.nil_append] at rd10
  have M0 := hide (hu10.keeps N0.out (by omega))
  have M1 := hide (hu10.keeps N1.out (by omega))
  have z10 := hu10.size
  simp only [World.size_setCell] at z10
  have c0 : w10.cell? ⟨w1.heap.size, 18, none⟩ = some (.int .i64 0) := boxAt M1.out 18
  have c1 : w10.frozen? ⟨w1.heap.size, 18, none⟩ = false := boxFz M1.out 18
  have us := Upd.setCell (S := fun j => j = w1.heap.size) w10 w1.heap.size 18 (.int .i64 a18) rfl
  have V10 := hide ((V9.out.trans hu10).transN us (fun k h => by omega))
  have hrd := hr10.keep us (by omega) (fun k h => by omega)
  clear N0 N1 hrc V9 rd9 rd10' hr10
  have N0 := hide (us.keeps M0.out (by omega))
  have N1 : Hid ((w10.setCell ⟨w1.heap.size, 18, none⟩ (.int .i64 a18)).heap[w1.heap.size]? = some (.cells #[.int .i64 a0, .int .i64 a1, .int .i64 a2, .int .i64 a3, .int .i64 a4, .int .i64 a5, .int .i64 a6, .int .i64 a7, .int .i64 a8, .int .i64 a9, .int .i64 a10, .int .i64 a11, .int .i64 a12, .int .i64 a13, .int .i64 a14, .int .i64 a15, .int .i64 a16, .int .i64 a17, .int .i64 a18, .int .i64 0, .int .i64 0, .int .i64 0, .int .i64 0, .int .i64 0, .slice none 0 0, .slice none 0 0] 34 (0, 0))) := row_set _ M1.out
  have hrc := hrd
  clear M0 M1 us hu10 hrd
  go_wp2_with fail
  clear c0 c1
  refine (num_any w0 _ R _ n cap bo bs _ hrc).mono ?_
  rintro e w11 ⟨a19, rfl, p11, bad11, -, -, hr11, rd11', hu11⟩
  have rd11 := rd10.append rd11'
  simp only [List.cons_append, List.nil_append] at rd11
  have M0 := hide (hu11.keeps N0.out (by omega))
  have M1 := hide (hu11.keeps N1.out (by omega))
  have z11 := hu11.size
  simp only [World.size_setCell] at z11
  have c0 : w11.cell? ⟨w1.heap.size, 19, none⟩ = some (.int .i64 0) := boxAt M1.out 19
  have c1 : w11.frozen? ⟨w1.heap.size, 19, none⟩ = false := boxFz M1.out 19
  have us := Upd.setCell (S := fun j => j = w1.heap.size) w11 w1.heap.size 19 (.int .i64 a19) rfl
  have V11 := hide ((V10.out.trans hu11).transN us (fun k h => by omega))
  have hrd := hr11.keep us (by omega) (fun k h => by omega)
  clear N0 N1 hrc V10 rd10 rd11' hr11
  have N0 := hide (us.keeps M0.out (by omega))
  have N1 : Hid ((w11.setCell ⟨w1.heap.size, 19, none⟩ (.int .i64 a19)).heap[w1.heap.size]? = some (.cells #[.int .i64 a0, .int .i64 a1, .int .i64 a2, .int .i64 a3, .int .i64 a4, .int .i64 a5, .int .i64 a6, .int .i64 a7, .int .i64 a8, .int .i64 a9, .int .i64 a10, .int .i64 a11, .int .i64 a12, .int .i64 a13, .int .i64 a14, .int .i64 a15, .int .i64 a16, .int .i64 a17, .int .i64 a18, .int .i64 a19, .int .i64 0, .int .i64 0, .int .i64 0, .int .i64 0, .slice none 0 0, .slice none 0 0] 34 (0, 0))) := row_set _ M1.out
  have hrc := hrd
  clear M0 M1 us hu11 hrd
  go_wp2_with fail
  clear c0 c1
  refine (num_any w0 _ R _ n cap bo bs _ hrc).mono ?_
  rintro e w12 ⟨a20, rfl, p12, bad12, -, -, hr12, rd12', hu12⟩
  have rd12 := rd11.append rd12'
  simp only [List.cons_append, List.nil_append] at rd12
  have M0 := hide (hu12.keeps N0.out (by omega))
  have M1 := hide (hu12.keeps N1.out (by omega))
  have z12 := hu12.size
  simp only [World.size_setCell] at z12
  have c0 : w12.cell? ⟨w1.heap.size, 20, none⟩ = some (.int .i64 0) := boxAt M1.out 20
  have c1 : w12.frozen? ⟨w1.heap.size, 20, none⟩ = false := boxFz M1.out 20
  have us := Upd.setCell (S := fun j => j = w1.heap.size) w12 w1.heap.size 20 (.int .i64 a20) rfl
  have V12 := hide ((V11.out.trans hu12).transN us (fun k h => by omega))
  have hrd := hr12.keep us (by omega) (fun k h => by omega)
  clear N0 N1 hrc V11 rd11 rd12' hr12
  have N0 := hide (us.keeps M0.out (by omega))
  have N1 : Hid ((w12.setCell ⟨w1.heap.size, 20, none⟩ (.int .i64 a20)).heap[w1.heap.size]? = some (.cells #[.int .i64 a0, .int .i64 a1, .int .i64 a2, .int .i64 a3, .int .i64 a4, .int .i64 a5, .int .i64 a6, .int .i64 a7, .int .i64 a8, .int .i64 a9, .int .i64 a10, .int .i64 a11, .int .i64 a12, .int .i64 a13, .int .i64 a14, .int .i64 a15, .int .i64 a16, .int .i64 a17, .int .i64 a18, .int .i64 a19, .int .i64 a20, .int .i64 0, .int .i64 0, .int .i64 0, .slice none 0 0, .slice none 0 0] 34 (0, 0))) := row_set _ M1.out
  have hrc := hrd
  clear M0 M1 us hu12 hrd
  go_wp2_with fail
  clear c0 c1
  refine (num_any w0 _ R _ n cap bo bs _ hrc).mono ?_
  rintro e w13 ⟨a21, rfl, p13, bad13, -, -, hr13, rd13', hu13⟩
  have rd13 := rd12.append rd13'
  simp only [List.cons_append, List.nil_append] at rd13
  have M0 := hide (hu13.keeps N0.out (by omega))
  have M1 := hide (hu13.keeps N1.out (by omega))
  have z13 := hu13.size
  simp only [World.size_setCell] at z13
  have c0 : w13.cell? ⟨w1.heap.size, 21, none⟩ = some (.int .i64 0) := boxAt M1.out 21
  have c1 : w13.frozen? ⟨w1.heap.size, 21, none⟩ = false := boxFz M1.out 21
  have us := Upd.setCell (S := fun j => j = w1.heap.size) w13 w1.heap.size 21 (.int .i64 a21) rfl
  have V13 := hide ((V12.out.trans hu13).transN us (fun k h => by omega))
  have hrd := hr13.keep us (by omega) (fun k h => by omega)
  clear N0 N1 hrc V12 rd12 rd13' hr13
  have N0 := hide (us.keeps M0.out (by omega))
  have N1 : Hid ((w13.setCell ⟨w1.heap.size, 21, none⟩ (.int .i64 a21)).heap[w1.heap.size]? = some (.cells #[.int .i64 a0, .int .i64 a1, .int .i64 a2, .int .i64 a3, .int .i64 a4, .int .i64 a5, .int .i64 a6, .int .i64 a7, .int .i64 a8, .int .i64 a9, .int .i64 a10, .int .i64 a11, .int .i64 a12, .int .i64 a13, .int .i64 a14, .int .i64 a15, .int .i64 a16, .int .i64 a17, .int .i64 a18, .int .i64 a19, .int .i64 a20, .int .i64 a21, .int .i64 0, .int .i64 0, .slice none 0 0, .slice none 0 0] 34 (0, 0))) := row_set _ M1.out
  have hrc := hrd
  clear M0 M1 us hu13 hrd
  go_wp2_with fail
  clear c0 c1
  refine (num_any w0 _ R _ n cap bo bs _ hrc).mono ?_
  rintro e w14 ⟨a22, rfl, p14, bad14, -, -, hr14, rd14', hu14⟩
  have rd14 := rd13.append rd14'
  simp only [List.cons_append, List.nil_append] at rd14
  have M0 := hide (hu14.keeps N0.out (by omega))
  have M1 := hide (hu14.keeps N1.out (by omega))
  have z14 := hu14.size
  simp only [World.size_setCell] at z14
  have c0 : w14.cell? ⟨w1.heap.size, 22, none⟩ = some (.int .i64 0) := boxAt M1.out 22
  have c1 : w14.frozen? ⟨w1.heap.size, 22, none⟩ = false := boxFz M1.out 22
  have us := Upd.setCell (S := fun j => j = w1.heap.size) w14 w1.heap.size 22 (.int .i64 a22) rfl
  have V14 := hide ((V13.out.trans hu14).transN us (fun k h => by omega))
  have hrd := hr14.keep us (by omega) (fun k h => by omega)
  clear N0 N1 hrc V13 rd13 rd14' hr14
  have N0 := hide (us.keeps M0.out (by omega))
  have N1 : Hid ((w14.setCell ⟨w1.heap.size, 22, none⟩ (.int .i64 a22)).heap[w1.heap.size]? = some (.cells #[.int .i64 a0, .int .i64 a1, .int .i64 a2, .int .i64 a3, .int .i64 a4, .int .i64 a5, .int .i64 a6, .int .i64 a7, .int .i64 a8, .int .i64 a9, .int .i64 a10, .int .i64 a11, .int .i64 a12, .int .i64 a13, .int .i64 a14, .int .i64 a15, .int .i64 a16, .int .i64 a17, .int .i64 a18, .int .i64 a19, .int .i64 a20, .int .i64 a21, .int .i64 a22, .int .i64 0, .slice none 0 0, .slice none 0 0] 34 (0, 0))) := row_set _ M1.out
  have hrc := hrd
  clear M0 M1 us hu14 hrd
  go_wp2_with fail
  clear c0 c1
  refine (num_any w0 _ R _ n cap bo bs _ hrc).mono ?_
  rintro e w15 ⟨a23, rfl, p15, bad15, -, -, hr15, rd15', hu15⟩
  have rd15 := rd14.append rd15'
  simp only [List.cons_append, List.nil_append] at rd15
  have M0 := hide (hu15.keeps N0.out (by omega))
  have M1 := hide (hu15.keeps N1.out (by omega))
  have z15 := hu15.size
  simp only [World.size_setCell] at z15
  have c0 : w15.cell? ⟨w1.heap.size, 23, none⟩ = some (.int .i64 0) := boxAt M1.out 23
  have c1 : w15.frozen? ⟨w1.heap.size, 23, none⟩ = false := boxFz M1.out 23
  have us := Upd.setCell (S := fun j => j = w1.heap.size) w15 w1.heap.size 23 (.int .i64 a23) rfl
  have V15 := hide ((V14.out.trans hu15).transN us (fun k h => by omega))
  have hrd := hr15.keep us (by omega) (fun k h => by omega)
  clear N0 N1 hrc V14 rd14 rd15' hr15
  have N0 := hide (us.keeps M0.out (by omega))
  have N1 : Hid ((w15.setCell ⟨w1.heap.size, 23, none⟩ (.int .i64 a23)).heap[w1.heap.size]? = some (.cells #[.int .i64 a0, .int .i64 a1, .int .i64 a2, .int .i64 a3, .int .i64 a4, .int .i64 a5, .int .i64 a6, .int .i64 a7, .int .i64 a8, .int .i64 a9, .int .i64 a10, .int .i64 a11, .int .i64 a12, .int .i64 a13, .int .i64 a14, .int .i64 a15, .int .i64 a16, .int .i64 a17, .int .i64 a18, .int .i64 a19, .int .i64 a20, .int .i64 a21, .int .i64 a22, .int .i64 a23, .slice none 0 0, .slice none 0 0] 34 (0, 0))) := row_set _ M1.out
  have hrc := hrd
  clear M0 M1 us hu15 hrd
  go_wp2_with fail
  clear c0 c1
  obtain ⟨x, hx⟩ : ∃ x : Wd, x = ⟨a0, a1, a2, a3, a4, a5, a6, a7, a8, a9, a10, a11, a12, a13, a14, a15, a16, a17, a18, a19, a20, a21, a22, a23, [], []⟩ := ⟨_, rfl⟩
  generalize World.setCell _ ⟨w1.heap.size, 23, none⟩ (.int .i64 a23) = W at N0 N1 hrc V15 ⊢
  have K1 : Hid (W.heap[w1.heap.size]? = some (.cells (#[.int .i64 x.a0, .int .i64 x.a1, .int .i64 x.a2, .int .i64 x.a3, .int .i64 x.a4, .int .i64 x.a5, .int .i64 x.c0, .int .i64 x.c1, .int .i64 x.c2, .int .i64 x.c3, .int .i64 x.c4, .int .i64 x.c5, .int .i64 x.c6, .int .i64 x.c7, .int .i64 x.c8, .int .i64 x.c9, .int .i64 x.b0, .int .i64 x.b1, .int .i64 x.b2, .int .i64 x.b3, .int .i64 x.b4, .int .i64 x.b5, .int .i64 x.b6, .int .i64 x.b7, .slice none 0 0, .slice none 0 0] : Array Value) 34 (0, 0))) := by rw [hx]; exact N1.out
  have RD : Hid (Rdn (vw bs p bad) x.nums (vw bs p15 bad15)) := by rw [hx]; exact rd15
  have zW := V15.out.size
  have hlW := heap_lt N1.out
  clear hx N1 rd15 z2 z3 z4 z5 z6 z7 z8 z9 z10 z11 z12 z13 z14 z15
  refine (num_any w0 W R p15 n cap bo bs bad15 hrc).mono ?_
  rintro e w16 ⟨k0, rfl, p16, bad16, hk0a, hk0b, hr16, rd16, hu16⟩
  obtain ⟨B, hB⟩ : ∃ B, vw bs p15 bad15 = B := ⟨_, rfl⟩
  rw [hB] at rd16 RD
  clear hB
  have LP := hide (Lpt.start (num := pnum) rd16)
  have J0 := hide (hu16.keeps N0.out (by omega))
  have J1 := hide (hu16.keeps K1.out (by omega))
  have JU := hide (V15.out.trans hu16)
  have hr16' := hide hr16
  obtain ⟨i1, gi, gz0, gz1, gz2⟩ := info_parts infoPc
  obtain ⟨i2, gi2, gy0, gy1, gy2⟩ := info_parts infoLc
  clear N0 K1 V15 hrc rd16 hr16 hu16
  go_wp2
  go_loopw [4] (fun nv wr => ∃ (k : Int) (xs : List Pc) (p' : Nat) (bad' : Bool) (po : Option Addr) (pc : Nat), nv = .int .i64 k ∧ -1 ≤ k ∧ (xs.length : Int) + k ≤ 2097150 ∧ RowA wr w.heap.size 83 4 (.slice po xs.length pc) xs.length (pcells xs) ∧ wr.heap[w1.heap.size]? = some (.cells (#[.int .i64 x.a0, .int .i64 x.a1, .int .i64 x.a2, .int .i64 x.a3, .int .i64 x.a4, .int .i64 x.a5, .int .i64 x.c0, .int .i64 x.c1, .int .i64 x.c2, .int .i64 x.c3, .int .i64 x.c4, .int .i64 x.c5, .int .i64 x.c6, .int .i64 x.c7, .int .i64 x.c8, .int .i64 x.c9, .int .i64 x.b0, .int .i64 x.b1, .int .i64 x.b2, .int .i64 x.b3, .int .i64 x.b4, .int .i64 x.b5, .int .i64 x.b6, .int .i64 x.b7, .slice po xs.length pc, .slice none 0 0] : Array Value) 34 (0, 0)) ∧ wr.heap[w.heap.size]? = some (.cells #[.int .i64 0, .int .i64 0, .int .i64 0, .int .i64 0, .int .i64 0, .int .i64 0, .int .i64 0, .int .i64 0, .int .i64 0, .int .i64 0, .int .i64 0, .int .i64 0, .int .i64 0, .int .i64 0, .int .i64 0, .int .i64 0, .int .i64 0, .int .i64 0, .int .i64 0, .int .i64 0, .int .i64 0, .int .i64 0, .int .i64 0, .int .i64 0, .slice none 0 0, .slice none 0 0] 34 (0, 0)) ∧ Rg w0 wr R bo n cap bs p' bad' ∧ Lpt pnum B xs k (vw bs p' bad') ∧ Upd (fun j => j = R) w wr) (fun nv _ => (intOf nv).toNat)
  case atStart => exact ⟨k0, [], p16, bad16, none, 0, rfl, hk0a, by simpa using hk0b, .inr ⟨rfl, rfl, _, rfl⟩, J1.out, J0.out, hr16'.out, LP.out, JU.out⟩
  case round =>
    clear J0 J1 JU hr16' LP
    obtain ⟨k, xs, p', bad', po, pc, rfl, hka, hkb, hrow, hbx, hres, hrr, hlp, hupd⟩ := hrel
    obtain ⟨m, hm⟩ : ∃ m, xs.length = m := ⟨_, rfl⟩
    rw [hm] at hkb hrow hbx
    have HM := hide hm
    have HBX := hide hbx
    have HRS := hide hres
    have HRW := hide hrow
    have HLP := hide hlp
    have HUP := hide hupd
    have hzr := hupd.size
    have hlx := heap_lt hbx
    have hbox := hrr.2.2.2.2.1
    obtain ⟨-, -, b2, -⟩ := box3u hbox
    clear hm hbx hres hrow hlp hupd hbox
    by_cases hgo : 0 < k ∧ bad' = false
    · obtain ⟨hk, rfl⟩ := hgo
      go_wp2_with fail
      refine (num_any w0 _ R _ n cap bo bs _ hrr).mono ?_
      rintro e v1 ⟨d, rfl, q1, e1, -, -, hs1, rs1, hv1⟩
      have alp := bal (Below.refl v1.heap.size v1) (.cells #[.int .i64 d, .int .i64 0, .int .i64 0, .int .i64 0] 83)
      have P1 := hide (heap_alloc_new v1 (.cells #[.int .i64 d, .int .i64 0, .int .i64 0, .int .i64 0] 83))
      have hsa := hs1.keepB alp
      have X1 := hide (hv1.trans (Upd.ofBelow (S := fun j => j = R) alp))
      have zv1 := hv1.size
      have hRv := hs1.lt.1
      clear hrr hv1 hs1 alp
      go_wp2_with fail
      refine (num_any w0 _ R _ n cap bo bs _ hsa).mono ?_
      rintro e v2 ⟨b, rfl, q2, e2, -, -, hs2, rs2', hv2⟩
      have rs2 := rs1.append rs2'
      simp only [List.cons_append, List.nil_append] at rs2
      have Q1 := hide (hv2.keeps P1.out (by omega))
      have zv2 := hv2.size
      simp only [World.size_alloc] at zv2
      have c0 : v2.cell? ⟨v1.heap.size, 1, none⟩ = some (.int .i64 0) := boxAt Q1.out 1
      have c1 : v2.frozen? ⟨v1.heap.size, 1, none⟩ = false := boxFz Q1.out 1
      have us := Upd.setCell (S := fun j => j = v1.heap.size) v2 v1.heap.size 1 (.int .i64 b) rfl
      have X2 := hide ((X1.out.trans hv2).transN us (fun k h => by omega))
      have hsb := hs2.keep us (by omega) (fun k h => by omega)
      clear P1 hsa X1 rs1 rs2'
      have P1 : Hid ((v2.setCell ⟨v1.heap.size, 1, none⟩ (.int .i64 b)).heap[v1.heap.size]? = some (.cells #[.int .i64 d, .int .i64 b, .int .i64 0, .int .i64 0] 83 (0, 0))) := row_set _ Q1.out
      have hsa := hsb
      clear Q1 us hsb hs2 hv2
      go_wp2_with fail
      refine (num_any w0 _ R _ n cap bo bs _ hsa).mono ?_
      rintro e v3 ⟨c, rfl, q3, e3, -, -, hs3, rs3', hv3⟩
      have rs3 := rs2.append rs3'
      simp only [List.cons_append, List.nil_append] at rs3
      have Q1 := hide (hv3.keeps P1.out (by omega))
      have zv3 := hv3.size
      simp only [World.size_setCell] at zv3
      have c0 : v3.cell? ⟨v1.heap.size, 2, none⟩ = some (.int .i64 0) := boxAt Q1.out 2
      have c1 : v3.frozen? ⟨v1.heap.size, 2, none⟩ = false := boxFz Q1.out 2
      have us := Upd.setCell (S := fun j => j = v1.heap.size) v3 v1.heap.size 2 (.int .i64 c) rfl
      have X3 := hide ((X2.out.trans hv3).transN us (fun k h => by omega))
      have hsb := hs3.keep us (by omega) (fun k h => by omega)
      clear P1 hsa X2 rs2 rs3'
      have P1 : Hid ((v3.setCell ⟨v1.heap.size, 2, none⟩ (.int .i64 c)).heap[v1.heap.size]? = some (.cells #[.int .i64 d, .int .i64 b, .int .i64 c, .int .i64 0] 83 (0, 0))) := row_set _ Q1.out
      have hsa := hsb
      clear Q1 us hsb hs3 hv3
      go_wp2_with fail
      refine (num_any w0 _ R _ n cap bo bs _ hsa).mono ?_
      rintro e v4 ⟨t, rfl, q4, e4, -, -, hs4, rs4', hv4⟩
      have rs4 := rs3.append rs4'
      simp only [List.cons_append, List.nil_append] at rs4
      have Q1 := hide (hv4.keeps P1.out (by omega))
      have zv4 := hv4.size
      simp only [World.size_setCell] at zv4
      have c0 : v4.cell? ⟨v1.heap.size, 3, none⟩ = some (.int .i64 0) := boxAt Q1.out 3
      have c1 : v4.frozen? ⟨v1.heap.size, 3, none⟩ = false := boxFz Q1.out 3
      have us := Upd.setCell (S := fun j => j = v1.heap.size) v4 v1.heap.size 3 (.int .i64 t) rfl
      have X4 := hide ((X3.out.trans hv4).transN us (fun k h => by omega))
      have hsb := hs4.keep us (by omega) (fun k h => by omega)
      clear P1 hsa X3 rs3 rs4'
      have P1 : Hid ((v4.setCell ⟨v1.heap.size, 3, none⟩ (.int .i64 t)).heap[v1.heap.size]? = some (.cells #[.int .i64 d, .int .i64 b, .int .i64 c, .int .i64 t] 83 (0, 0))) := row_set _ Q1.out
      have hsa := hsb
      have hne : ¬ v1.heap.size = w1.heap.size := by omega
      have hne' : ¬ w1.heap.size = v1.heap.size := by omega
      have y0 : v4.cell? ⟨v1.heap.size, 0, none⟩ = some (.int .i64 d) := boxAt Q1.out 0
      have y1 : v4.cell? ⟨v1.heap.size, 1, none⟩ = some (.int .i64 b) := boxAt Q1.out 1
      have y2 : v4.cell? ⟨v1.heap.size, 2, none⟩ = some (.int .i64 c) := boxAt Q1.out 2
      have HBX3 := hide (X4.out.keeps HBX.out (by omega))
      have HRS3 := hide (X4.out.keeps HRS.out (by omega))
      have f24 : (v4.setCell ⟨v1.heap.size, 3, none⟩ (.int .i64 t)).cell? ⟨w1.heap.size, 24, none⟩ = some (.slice po m pc) := boxAt HBX3.out 24
      have g24 : v4.cell? ⟨w1.heap.size, 24, none⟩ = some (.slice po m pc) := by
        rw [← f24]
        exact (World.cell?_of_block (a := ⟨w1.heap.size, 24, none⟩) (us.block _ (by show w1.heap.size < v4.heap.size; omega) hne')).symm
      have al5 := bal (Below.refl (v4.setCell ⟨v1.heap.size, 3, none⟩ (.int .i64 t)).heap.size (v4.setCell ⟨v1.heap.size, 3, none⟩ (.int .i64 t))) (.cells #[.int .i64 d, .int .i64 b, .int .i64 c, .int .i64 t] 83)
      have row3 := (HRW.out.keep X4.out (fun k h e => by omega)).keepB al5
      have N3 := pc_new (v4.setCell ⟨v1.heap.size, 3, none⟩ (.int .i64 t)) (d, b, c, t) 83
      simp only [World.size_setCell] at N3
      have HN3 := hide N3
      have LP2 := hide (HLP.out.step (x := (d, b, c, t)) hk rs4 (fun _ => rfl) (fun y e => by obtain ⟨y0, y1, y2, y3⟩ := y; simp [pnum] at e; simp [e]))
      have HX4 := hide X4.out
      have Hsa := hide hsa
      clear N3 f24 X4 hsa hsb rs4 hs4 hv4 us Q1 P1 HLP
      go_wp2_with (at_builtin; refine wpList_appendA _ rfl _ _ 31 rfl w.heap.size 83 i1 (.agg #[.int .i64 0, .int .i64 0, .int .i64 0, .int .i64 0]) 4 32 Try.underlying31 gi gz0 gz1 gz2 rfl (by decide) _ m (pcells xs) rfl row3 ⟨v4.heap.size, 0, none⟩ 1 1 (pcell (d, b, c, t)) rfl rfl HN3.out (pcell_one _) (by decide) ?q63 ?qby ?qbase ?_)
      case q63 => unfold maxLen; omega
      case qby => omega
      case qbase => first | omega | (simp; omega)
      intro v5 w5 hown u5
      obtain ⟨mo, cm, rfl⟩ := (Row.ofOwns hown (by omega)).shape
      have HB4 := hide (bKeeps al5 HBX3.out)
      have HB5 := hide (u5.keeps HB4.out (typed_box HB4.out (by decide) rfl))
      have HR4 := hide (bKeeps al5 HRS3.out)
      have HR5 := hide (u5.keeps HR4.out (typed_box HR4.out (by decide) rfl))
      have h24 : w5.cell? ⟨w1.heap.size, 24, none⟩ = some (.slice po m pc) := boxAt HB5.out 24
      have i24 : w5.frozen? ⟨w1.heap.size, 24, none⟩ = false := boxFz HB5.out 24
      have ut := Upd.setCell (S := fun j => j = w1.heap.size) w5 w1.heap.size 24 (.slice mo (m + 1) cm) rfl
      have UU := hide (((HUP.out.trans HX4.out).trans (Upd.ofBelow (S := fun j => j = R) al5)).transN u5 (fun k h => h.1))
      have Hsc := hide ((Hsa.out.keepB al5).keep u5 (fun h => by have := h.1; omega) (fun k h => by have := h.1; omega))
      have zz := u5.size
      simp only [World.size_alloc, World.size_setCell] at zz
      clear al5 HRW HX4 Hsa HN3 HBX HRS
      go_wp2
      go_roundw
      case rel =>
        refine ⟨k - 1, xs ++ [(d, b, c, t)], _, _, mo, cm, rfl, by omega, by rw [List.length_append, HM.out]; simp; omega, ?_, ?_, ut.keeps HR5.out (by omega), Hsc.out.keep ut (by omega) (fun k h => by omega), LP2.out, UU.out.transN ut (fun k h => by omega)⟩
        · rw [List.length_append, HM.out, pcells_snoc]
          exact RowA.keepTy8 (.inl hown) ut (fun k h1 h2 => by subst h2; exact typed_box HB5.out (by decide) rfl h1)
        · rw [List.length_append, HM.out]
          exact row_set _ HB5.out
      case measure => simp [intOf]; omega
    · have hd : Rdl 60 pnum B xs (vw bs p' bad') := by
        by_cases hk : 0 < k
        · have hb : bad' = true := by cases bad' <;> simp_all
          subst hb
          exact (show Lpt pnum B xs k [256] from HLP.out).bad (by omega) hk (fun y => by simp)
        · exact HLP.out.done (by omega) (.inl (by omega))
      obtain ⟨B2, hB2⟩ : ∃ B2, vw bs p' bad' = B2 := ⟨_, rfl⟩
      rw [hB2] at hd
      have HB2 := hide hB2
      have HD := hide hd
      clear hB2
      obtain hk | ⟨hk, rfl⟩ : ¬ 0 < k ∨ (0 < k ∧ bad' = true) := by
        by_cases hk : 0 < k
        · exact .inr ⟨hk, by cases bad' <;> simp_all⟩
        · exact .inl hk
      all_goals
        clear hd hgo
        go_wp2_with fail
        clear b2
        refine (num_any w0 wr R p' n cap bo bs _ hrr).mono ?_
        rintro e w17 ⟨l0, rfl, p17, bad17, hl0a, hl0b, hr17, rd17, hu17⟩
        have J0 := hide (hu17.keeps HRS.out (by omega))
        have J1 := hide (hu17.keeps HBX.out (by omega))
        have JU := hide (HUP.out.trans hu17)
        have JP := hide (HRW.out.keep hu17 (fun k h e => by omega))
        have hr17' := hide hr17
        rw [HB2.out] at rd17
        have LP := hide (Lpt.start (num := lnum) rd17)
        have hm2 : m ≤ 2097151 := by omega
        clear HLP HBX HRS HRW HUP hr17 hu17 rd17 hrr hzr hlx hka hkb hk
        go_wp2
        go_loopw [6] (fun nv wr => ∃ (k : Int) (ls : List Lc) (p'' : Nat) (bad'' : Bool) (lo : Option Addr) (lc : Nat), nv = .int .i64 k ∧ -1 ≤ k ∧ (ls.length : Int) + k ≤ 2097150 ∧ RowA wr w.heap.size 86 2 (.slice lo ls.length lc) ls.length (lcells ls) ∧ wr.heap[w1.heap.size]? = some (.cells (#[.int .i64 x.a0, .int .i64 x.a1, .int .i64 x.a2, .int .i64 x.a3, .int .i64 x.a4, .int .i64 x.a5, .int .i64 x.c0, .int .i64 x.c1, .int .i64 x.c2, .int .i64 x.c3, .int .i64 x.c4, .int .i64 x.c5, .int .i64 x.c6, .int .i64 x.c7, .int .i64 x.c8, .int .i64 x.c9, .int .i64 x.b0, .int .i64 x.b1, .int .i64 x.b2, .int .i64 x.b3, .int .i64 x.b4, .int .i64 x.b5, .int .i64 x.b6, .int .i64 x.b7, .slice po m pc, .slice lo ls.length lc] : Array Value) 34 (0, 0)) ∧ wr.heap[w.heap.size]? = some (.cells #[.int .i64 0, .int .i64 0, .int .i64 0, .int .i64 0, .int .i64 0, .int .i64 0, .int .i64 0, .int .i64 0, .int .i64 0, .int .i64 0, .int .i64 0, .int .i64 0, .int .i64 0, .int .i64 0, .int .i64 0, .int .i64 0, .int .i64 0, .int .i64 0, .int .i64 0, .int .i64 0, .int .i64 0, .int .i64 0, .int .i64 0, .int .i64 0, .slice none 0 0, .slice none 0 0] 34 (0, 0)) ∧ Rg w0 wr R bo n cap bs p'' bad'' ∧ Lpt lnum B2 ls k (vw bs p'' bad'') ∧ Upd (fun j => j = R) w wr ∧ RowA wr w.heap.size 83 4 (.slice po m pc) m (pcells xs)) (fun nv _ => (intOf nv).toNat)
        case atStart => exact ⟨l0, [], p17, bad17, none, 0, rfl, hl0a, by simpa using hl0b, .inr ⟨rfl, rfl, _, rfl⟩, J1.out, J0.out, hr17'.out, LP.out, JU.out, JP.out⟩
        case round =>
          clear J0 J1 JU hr17' LP JP
          obtain ⟨k, ls, p'', bad'', lo, lc, rfl, hka, hkb, hrow, hbx, hres, hrr, hlp, hupd, hpr⟩ := hrel
          obtain ⟨ml, hm⟩ : ∃ m, ls.length = m := ⟨_, rfl⟩
          rw [hm] at hkb hrow hbx
          have HML := hide hm
          have HBX := hide hbx
          have HRS := hide hres
          have HRW := hide hrow
          have HPR := hide hpr
          have HLP := hide hlp
          have HUP := hide hupd
          have hzr := hupd.size
          have hlx := heap_lt hbx
          have hbox := hrr.2.2.2.2.1
          obtain ⟨-, -, b2, -⟩ := box3u hbox
          clear hm hbx hres hrow hlp hupd hbox hpr
          by_cases hgo : 0 < k ∧ bad'' = false
          · obtain ⟨hk, rfl⟩ := hgo
            go_wp2_with fail
            refine (num_any w0 _ R _ n cap bo bs _ hrr).mono ?_
            rintro e v1 ⟨d, rfl, q1, e1, -, -, hs1, rs1, hv1⟩
            have alp := bal (Below.refl v1.heap.size v1) (.cells #[.int .i64 d, .int .i64 0] 86)
            have P1 := hide (heap_alloc_new v1 (.cells #[.int .i64 d, .int .i64 0] 86))
            have hsa := hs1.keepB alp
            have X1 := hide (hv1.trans (Upd.ofBelow (S := fun j => j = R) alp))
            have zv1 := hv1.size
            have hRv := hs1.lt.1
            clear hrr hv1 hs1 alp
            go_wp2_with fail
            refine (num_any w0 _ R _ n cap bo bs _ hsa).mono ?_
            rintro e v2 ⟨b, rfl, q2, e2, -, -, hs2, rs2', hv2⟩
            have rs2 := rs1.append rs2'
            simp only [List.cons_append, List.nil_append] at rs2
            have Q1 := hide (hv2.keeps P1.out (by omega))
            have zv2 := hv2.size
            simp only [World.size_alloc] at zv2
            have c0 : v2.cell? ⟨v1.heap.size, 1, none⟩ = some (.int .i64 0) := boxAt Q1.out 1
            have c1 : v2.frozen? ⟨v1.heap.size, 1, none⟩ = false := boxFz Q1.out 1
            have us := Upd.setCell (S := fun j => j = v1.heap.size) v2 v1.heap.size 1 (.int .i64 b) rfl
            have X2 := hide ((X1.out.trans hv2).transN us (fun k h => by omega))
            have hsb := hs2.keep us (by omega) (fun k h => by omega)
            clear P1 hsa X1 rs1 rs2'
            have P1 : Hid ((v2.setCell ⟨v1.heap.size, 1, none⟩ (.int .i64 b)).heap[v1.heap.size]? = some (.cells #[.int .i64 d, .int .i64 b] 86 (0, 0))) := row_set _ Q1.out
            have hsa := hsb
            have hne : ¬ v1.heap.size = w1.heap.size := by omega
            have hne' : ¬ w1.heap.size = v1.heap.size := by omega
            have y0 : v2.cell? ⟨v1.heap.size, 0, none⟩ = some (.int .i64 d) := boxAt Q1.out 0
            have HBX3 := hide (X2.out.keeps HBX.out (by omega))
            have HRS3 := hide (X2.out.keeps HRS.out (by omega))
            have f25 : (v2.setCell ⟨v1.heap.size, 1, none⟩ (.int .i64 b)).cell? ⟨w1.heap.size, 25, none⟩ = some (.slice lo ml lc) := boxAt HBX3.out 25
            have g25 : v2.cell? ⟨w1.heap.size, 25, none⟩ = some (.slice lo ml lc) := by
              rw [← f25]
              exact (World.cell?_of_block (a := ⟨w1.heap.size, 25, none⟩) (us.block _ (by show w1.heap.size < v2.heap.size; omega) hne')).symm
            have al5 := bal (Below.refl (v2.setCell ⟨v1.heap.size, 1, none⟩ (.int .i64 b)).heap.size (v2.setCell ⟨v1.heap.size, 1, none⟩ (.int .i64 b))) (.cells #[.int .i64 d, .int .i64 b] 86)
            have row3 := (HRW.out.keep X2.out (fun k h e => by omega)).keepB al5
            have PR3 := hide ((HPR.out.keep X2.out (fun k h e => by omega)).keepB al5)
            have N3 := lc_new (v2.setCell ⟨v1.heap.size, 1, none⟩ (.int .i64 b)) (d, b) 86
            simp only [World.size_setCell] at N3
            have HN3 := hide N3
            have LP2 := hide (HLP.out.step (x := (d, b)) hk rs2 (fun _ => rfl) (fun y e => by obtain ⟨y0, y1⟩ := y; simp [lnum] at e; simp [e]))
            have HX2 := hide X2.out
            have Hsa := hide hsa
            clear N3 f25 X2 hsa hsb rs2 hs2 hv2 us Q1 P1 HLP HPR
            go_wp2_with (at_builtin; refine wpList_appendA _ rfl _ _ 32 rfl w.heap.size 86 i2 (.agg #[.int .i64 0, .int .i64 0]) 2 16 Try.underlying32 gi2 gy0 gy1 gy2 rfl (by decide) _ ml (lcells ls) rfl row3 ⟨v2.heap.size, 0, none⟩ 1 1 (lcell (d, b)) rfl rfl HN3.out (lcell_one _) (by decide) ?q63 ?qby ?qbase ?_)
            case q63 => unfold maxLen; omega
            case qby => omega
            case qbase => first | omega | (simp; omega)
            intro v5 w5 hown u5
            obtain ⟨mo, cm, rfl⟩ := (Row.ofOwns hown (by omega)).shape
            have HB4 := hide (bKeeps al5 HBX3.out)
            have HB5 := hide (u5.keeps HB4.out (typed_box HB4.out (by decide) rfl))
            have HR4 := hide (bKeeps al5 HRS3.out)
            have HR5 := hide (u5.keeps HR4.out (typed_box HR4.out (by decide) rfl))
            have PR5 := hide (RowA.keepTy8 PR3.out u5 (fun k => typed_apart (by decide) k))
            have h25 : w5.cell? ⟨w1.heap.size, 25, none⟩ = some (.slice lo ml lc) := boxAt HB5.out 25
            have i25 : w5.frozen? ⟨w1.heap.size, 25, none⟩ = false := boxFz HB5.out 25
            have ut := Upd.setCell (S := fun j => j = w1.heap.size) w5 w1.heap.size 25 (.slice mo (ml + 1) cm) rfl
            have UU := hide (((HUP.out.trans HX2.out).trans (Upd.ofBelow (S := fun j => j = R) al5)).transN u5 (fun k h => h.1))
            have Hsc := hide ((Hsa.out.keepB al5).keep u5 (fun h => by have := h.1; omega) (fun k h => by have := h.1; omega))
            have zz := u5.size
            simp only [World.size_alloc, World.size_setCell] at zz
            clear al5 HRW HX2 Hsa HN3 HBX HRS PR3
            go_wp2
            go_roundw
            case rel =>
              refine ⟨k - 1, ls ++ [(d, b)], _, _, mo, cm, rfl, by omega, by rw [List.length_append, HML.out]; simp; omega, ?_, ?_, ut.keeps HR5.out (by omega), Hsc.out.keep ut (by omega) (fun k h => by omega), LP2.out, UU.out.transN ut (fun k h => by omega), RowA.keepTy8 PR5.out ut (fun k h1 h2 => by subst h2; exact typed_box HB5.out (by decide) rfl h1)⟩
              · rw [List.length_append, HML.out, lcells_snoc]
                exact RowA.keepTy8 (.inl hown) ut (fun k h1 h2 => by subst h2; exact typed_box HB5.out (by decide) rfl h1)
              · rw [List.length_append, HML.out]
                exact row_set _ HB5.out
            case measure => simp [intOf]; omega
          · have hd : Rdl 4 lnum B2 ls (vw bs p'' bad'') := by
              by_cases hk : 0 < k
              · have hb : bad'' = true := by cases bad'' <;> simp_all
                subst hb
                exact (show Lpt lnum B2 ls k [256] from HLP.out).bad (by omega) hk (fun y => by simp)
              · exact HLP.out.done (by omega) (.inl (by omega))
            have HD2 := hide hd
            obtain ⟨y, hy⟩ : ∃ y : Wd, y = { x with ps := xs, ls := ls } := ⟨_, rfl⟩
            have M1 : Hid (wr.heap[w1.heap.size]? = some (.cells (#[.int .i64 y.a0, .int .i64 y.a1, .int .i64 y.a2, .int .i64 y.a3, .int .i64 y.a4, .int .i64 y.a5, .int .i64 y.c0, .int .i64 y.c1, .int .i64 y.c2, .int .i64 y.c3, .int .i64 y.c4, .int .i64 y.c5, .int .i64 y.c6, .int .i64 y.c7, .int .i64 y.c8, .int .i64 y.c9, .int .i64 y.b0, .int .i64 y.b1, .int .i64 y.b2, .int .i64 y.b3, .int .i64 y.b4, .int .i64 y.b5, .int .i64 y.b6, .int .i64 y.b7, .slice po m pc, .slice lo ml lc] : Array Value) 34 (0, 0))) := by rw [hy]; exact HBX.out
            have fin : ∀ V, V = wr.setRow w.heap.size (#[.int .i64 y.a0, .int .i64 y.a1, .int .i64 y.a2, .int .i64 y.a3, .int .i64 y.a4, .int .i64 y.a5, .int .i64 y.c0, .int .i64 y.c1, .int .i64 y.c2, .int .i64 y.c3, .int .i64 y.c4, .int .i64 y.c5, .int .i64 y.c6, .int .i64 y.c7, .int .i64 y.c8, .int .i64 y.c9, .int .i64 y.b0, .int .i64 y.b1, .int .i64 y.b2, .int .i64 y.b3, .int .i64 y.b4, .int .i64 y.b5, .int .i64 y.b6, .int .i64 y.b7, .slice po m pc, .slice lo ml lc] : Array Value) → WdO V (fun k => w.heap.size ≤ k) (.agg #[.int .i64 y.a0, .int .i64 y.a1, .int .i64 y.a2, .int .i64 y.a3, .int .i64 y.a4, .int .i64 y.a5, .int .i64 y.c0, .int .i64 y.c1, .int .i64 y.c2, .int .i64 y.c3, .int .i64 y.c4, .int .i64 y.c5, .int .i64 y.c6, .int .i64 y.c7, .int .i64 y.c8, .int .i64 y.c9, .int .i64 y.b0, .int .i64 y.b1, .int .i64 y.b2, .int .i64 y.b3, .int .i64 y.b4, .int .i64 y.b5, .int .i64 y.b6, .int .i64 y.b7, .slice po m pc, .slice lo ml lc]) y ∧ WordR w0 w R bo n cap bs p bad y V := by
              intro V hV
              have u6 : Upd (fun j => j = w.heap.size) wr V := by rw [hV]; exact ⟨rfl, rfl, rfl, by simp, fun k _ h => setRow_other _ _ _ _ h⟩
              refine ⟨⟨po, pc, lo, lc, ?_, ?_, ?_⟩, p'', bad'', hrr.keep u6 (by omega) (fun k h => by omega), ⟨B, B2, ?_, ?_, ?_⟩, HUP.out.transN u6 (fun k h => by omega)⟩
              · rw [hy, ← HM.out, ← HML.out]
              · rw [hy]
                show Row V _ _ _ (.slice po xs.length pc) xs.length (pcells xs)
                rw [HM.out]
                exact (RowA.keepTy8 HPR.out u6 (fun k h1 h2 => by subst h2; exact typed_box HRS.out (by decide) rfl h1)).row (by omega)
              · rw [hy]
                show Row V _ _ _ (.slice lo ls.length lc) ls.length (lcells ls)
                rw [HML.out]
                exact (RowA.keepTy8 HRW.out u6 (fun k h1 h2 => by subst h2; exact typed_box HRS.out (by decide) rfl h1)).row (by omega)
              · rw [hy]; exact RD.out
              · rw [hy]; exact HD.out
              · rw [hy]; exact HD2.out
            have HF := hide fin
            have H1s := hide (all_of_list (List.all_eq_true.2 (wd_one y po lo m pc ml lc)))
            have HRS2 := HRS
            clear hy hd fin HBX HLP HRW HPR HD2 HUP HML
            obtain hk | ⟨hk, rfl⟩ : ¬ 0 < k ∨ (0 < k ∧ bad'' = true) := by
              by_cases hk : 0 < k
              · exact .inr ⟨hk, by cases bad'' <;> simp_all⟩
              · exact .inl hk
            all_goals
              clear hgo
              go_wp2_with (first | (refine wpList_load_row rfl 34 (.tmp 3) rfl w1.heap.size rfl _ _ (0, 0) _ M1.out Try.underlying34 rfl infoWd ?_) | (refine wpList_store_row rfl 34 (.tmp 2) (.tmp 109) rfl w.heap.size _ rfl rfl _ _ HRS2.out infoWd (show (26 : Nat) = 26 from rfl) H1s.out ?_))
              refine bodyPost_ret (v := .agg #[.int .i64 y.a0, .int .i64 y.a1, .int .i64 y.a2, .int .i64 y.a3, .int .i64 y.a4, .int .i64 y.a5, .int .i64 y.c0, .int .i64 y.c1, .int .i64 y.c2, .int .i64 y.c3, .int .i64 y.c4, .int .i64 y.c5, .int .i64 y.c6, .int .i64 y.c7, .int .i64 y.c8, .int .i64 y.c9, .int .i64 y.b0, .int .i64 y.b1, .int .i64 y.b2, .int .i64 y.b3, .int .i64 y.b4, .int .i64 y.b5, .int .i64 y.b6, .int .i64 y.b7, .slice po m pc, .slice lo ml lc]) (results_cell_row Try.results47 _ _ w.heap.size _ _ (0, 0) _ rfl (setRow_heap _ _ _ _ _ _ HRS2.out) Try.underlying34 rfl infoWd) rfl ?_
              obtain ⟨g1, g2⟩ := HF.out _ rfl
              first | exact ⟨_, y, rfl, g1, g2⟩ | exact ⟨_, rfl, y, g1, g2⟩

end Go.Proofs.Ytafojnjpllpjjaa

/- WordUnpack of the specification: a contract; no statement of the seat is proved here. -/
namespace Go.Proofs.Ytafojnjpllpjjaa
open Go.RowKit

theorem wp_convertA {P : Program} {o : Oper} {a : Act} {w : World} {K : Act → World → Prop} {Q : Exit → Act → World → Prop} (src dst : TypeId) (x : Operand) (ho : o.op = .convert src dst x) (v r : Value) (hx : a.eval x = v)
    (hrun : (convert src dst v).run P w = .ok r w) (hK : K (a.put o.dst r) w) : Oper.wp P o a w K Q := by
  unfold Oper.wp
  simp [execOp, ho, hx, hrun, Result.andThen]
  exact hK

set_option maxRecDepth 100000 in
set_option maxHeartbeats 16000000 in
theorem specWordUnpack_any (bo : Option Addr) (n cap : Nat) (bs : List Nat) (w : World) (h : RowR w 1 (.slice bo n cap) n (byts bs)) (hb : ∀ b ∈ bs, b < 256) (hn : n ≤ 1048576) :
    Calls Try.prog 20 #[.slice bo n cap] w fun e w' => ∃ (v : Value) (ok : Bool), e = .returned (.tuple #[v, .bool ok]) ∧ UnR w bs v ok w' := by
  have al := bal (bal (Below.refl w.heap.size w) (.cells #[.int .i64 0, .int .i64 0, .int .i64 0, .int .i64 0, .int .i64 0, .int .i64 0, .int .i64 0, .int .i64 0, .int .i64 0, .int .i64 0, .int .i64 0, .int .i64 0, .int .i64 0, .int .i64 0, .int .i64 0, .int .i64 0, .int .i64 0, .int .i64 0, .int .i64 0, .int .i64 0, .int .i64 0, .int .i64 0, .int .i64 0, .int .i64 0, .slice none 0 0, .slice none 0 0] 34)) (.cells #[.slice bo n cap, .int .i64 0, .bool false] 75)
  have R0 := hide (al2_0 w (.cells #[.int .i64 0, .int .i64 0, .int .i64 0, .int .i64 0, .int .i64 0, .int .i64 0, .int .i64 0, .int .i64 0, .int .i64 0, .int .i64 0, .int .i64 0, .int .i64 0, .int .i64 0, .int .i64 0, .int .i64 0, .int .i64 0, .int .i64 0, .int .i64 0, .int .i64 0, .int .i64 0, .int .i64 0, .int .i64 0, .int .i64 0, .int .i64 0, .slice none 0 0, .slice none 0 0] 34) (.cells #[.slice bo n cap, .int .i64 0, .bool false] 75))
  have G0 := al2_1 w (.cells #[.int .i64 0, .int .i64 0, .int .i64 0, .int .i64 0, .int .i64 0, .int .i64 0, .int .i64 0, .int .i64 0, .int .i64 0, .int .i64 0, .int .i64 0, .int .i64 0, .int .i64 0, .int .i64 0, .int .i64 0, .int .i64 0, .int .i64 0, .int .i64 0, .int .i64 0, .int .i64 0, .int .i64 0, .int .i64 0, .int .i64 0, .int .i64 0, .slice none 0 0, .slice none 0 0] 34) (.cells #[.slice bo n cap, .int .i64 0, .bool false] 75)
  have T0 : Rg w _ (w.heap.size + 1) bo n cap bs 0 false := ⟨hn, Nat.zero_le _, h, hb, G0, by omega, al⟩
  have HL := hide T0.len
  have HR := hide h
  have HB := hide hb
  have zW : ((w.alloc (.cells #[.int .i64 0, .int .i64 0, .int .i64 0, .int .i64 0, .int .i64 0, .int .i64 0, .int .i64 0, .int .i64 0, .int .i64 0, .int .i64 0, .int .i64 0, .int .i64 0, .int .i64 0, .int .i64 0, .int .i64 0, .int .i64 0, .int .i64 0, .int .i64 0, .int .i64 0, .int .i64 0, .int .i64 0, .int .i64 0, .int .i64 0, .int .i64 0, .slice none 0 0, .slice none 0 0] 34)).alloc (.cells #[.slice bo n cap, .int .i64 0, .bool false] 75)).heap.size = w.heap.size + 2 := by simp
  clear h hb G0
  go_enter Try.func20, Try.ntmps20
  go_wp2_with fail
  generalize World.alloc _ _ = W at al R0 T0 zW ⊢
  refine (readWord_any w W (w.heap.size + 1) 0 n cap bo bs false T0).mono ?_
  rintro e w1 ⟨v, x, rfl, D1, p', bad', rg1, ⟨b1, b2, r1, r2, r3⟩, u1⟩
  have RDW := hide (show Rdw bs x (vw bs p' bad') from Rdw.mk (b1 := b1) (b2 := b2) r1 r2 r3)
  obtain ⟨cs, rfl, hs, h1⟩ := D1.reads.agg
  have HI := hide (infoAt infoWd hs)
  have HZ := hide (zero26.trans hs.symm)
  have H1 := hide h1
  have hpn := rg1.2.1
  have R1 := hide (u1.keeps R0.out (by omega))
  have c1 : Below w.heap.size w w1 := al.trans (u1.below (by have := al.size; omega) (fun k h => by omega))
  have al5 := bal (Below.refl w1.heap.size w1) (.cells cs 34)
  have B5 := hide (heap_alloc_new w1 (.cells cs 34))
  have G5 := hide (bKeeps al5 rg1.2.2.2.2.1)
  have R5 := hide (bKeeps al5 R1.out)
  have D5 := hide (D1.keepB al5)
  have c5 := bAll c1 al5
  have z1 := u1.size
  clear hs h1 r1 r2 r3 R0 T0 u1 R1 D1 c1 al5 al rg1
  go_wp2_with (refine wpList_store_row rfl 34 (.tmp 5) (.tmp 10) rfl w1.heap.size cs rfl rfl _ _ (heap_alloc_new w1 _) HI.out HZ.out H1.out ?_; rw [World.setRow_alloc_new])
  have TX := fun V (hV : Below w.heap.size w V) => textU (P := Try.prog) (HR.out.keep hV) 38 5 9 Try.underlying38 Try.underlying5 Try.underlying9
  have HTX := hide TX
  clear TX
  have fin0 : ∀ (V : World), Below w.heap.size w V → UnP bs zeroW false → UnR w bs (.agg #[.int .i64 0, .int .i64 0, .int .i64 0, .int .i64 0, .int .i64 0, .int .i64 0, .int .i64 0, .int .i64 0, .int .i64 0, .int .i64 0, .int .i64 0, .int .i64 0, .int .i64 0, .int .i64 0, .int .i64 0, .int .i64 0, .int .i64 0, .int .i64 0, .int .i64 0, .int .i64 0, .int .i64 0, .int .i64 0, .int .i64 0, .int .i64 0, .slice none 0 0, .slice none 0 0]) false (V.setRow w.heap.size #[.int .i64 0, .int .i64 0, .int .i64 0, .int .i64 0, .int .i64 0, .int .i64 0, .int .i64 0, .int .i64 0, .int .i64 0, .int .i64 0, .int .i64 0, .int .i64 0, .int .i64 0, .int .i64 0, .int .i64 0, .int .i64 0, .int .i64 0, .int .i64 0, .int .i64 0, .int .i64 0, .int .i64 0, .int .i64 0, .int .i64 0, .int .i64 0, .slice none 0 0, .slice none 0 0]) := by
    intro V hV hu
    have u9 : Upd (fun j => j = w.heap.size) V (V.setRow w.heap.size #[.int .i64 0, .int .i64 0, .int .i64 0, .int .i64 0, .int .i64 0, .int .i64 0, .int .i64 0, .int .i64 0, .int .i64 0, .int .i64 0, .int .i64 0, .int .i64 0, .int .i64 0, .int .i64 0, .int .i64 0, .int .i64 0, .int .i64 0, .int .i64 0, .int .i64 0, .int .i64 0, .int .i64 0, .int .i64 0, .int .i64 0, .int .i64 0, .slice none 0 0, .slice none 0 0]) := ⟨rfl, rfl, rfl, by simp, fun k _ h => setRow_other _ _ _ _ h⟩
    exact ⟨zeroW, zeroRow _ _, hu, by simp [zeroW], by simp [zeroW], hV.trans (u9.below hV.size (fun k h => by omega))⟩
  have F0 := hide fin0
  clear fin0
  generalize World.alloc _ _ = V at B5 G5 R5 D5 c5 ⊢
  have dV := bDrewB (Below.refl V.heap.size V)
  have B5' := hide (bKeeps dV B5.out)
  cases hbd : bad'
  · subst hbd
    obtain ⟨-, g1, g2, -⟩ := box3u G5.out
    by_cases hp : p' = n
    · have hp' := hp.symm
      subst hp'
      clear hp
      obtain ⟨pk, hpk⟩ : ∃ pk, packW x = pk := ⟨_, rfl⟩
      have hpl : pk.length ≤ 822 := by rw [← hpk]; exact (packW_len x).2
      have HPB : Hid (∀ b ∈ pk, b < 256) := by rw [← hpk]; exact packW_byte x
      have HPK := hide hpk
      have SC := fun v w h => specWordPack_any v x w h
      rw [hpk] at SC
      clear hpk
      refine wp_region_noPanic ?_
      refine wp_region_held_drew (S := (fun w' => w'.cell? ⟨w.heap.size + 1, 1, none⟩ = some (.int .i64 (n : Nat)) ∧ w'.cell? ⟨w.heap.size + 1, 2, none⟩ = some (.bool false) ∧ w'.heap[w1.heap.size]? = some (.cells cs 34 (0, 0)) ∧ (convert 38 9 (.slice bo n cap)).run Try.prog w' = .ok (.string (txtU bs)) w')) (by kernel_rfl) ?_ (fun hHeld => ?_)
      · exact ⟨g1, g2, B5.out, HTX.out _ (bDrewB c5)⟩
      refine wpAnyH_take (i := 0) (v := ?v1) rfl (by kernel_rfl) (by kernel_rfl) (by kernel_rfl) (fun _ _ _ h => h) (Or.inl ⟨by rfl, ?hy1⟩) (by assumption) ?rest1
      case hy1 => ((intro w hSw; (try dsimp only at hSw); (try simp only [List.getElem_toArray, List.getElem_cons_zero]); go_simp; first | done | (with_reducible rfl)))
      simp only [Act.put, List.getElem_toArray, List.getElem_cons_zero, List.setIfInBounds_toArray, List.set_cons_zero, List.set_cons_succ]
      refine wpAnyH_take (i := 1) (v := ?v2) rfl (by kernel_rfl) (by kernel_rfl) (by kernel_rfl) (fun _ _ _ h => h) (Or.inl ⟨by rfl, ?hy2⟩) (by assumption) ?rest2
      case hy2 => ((intro w hSw; (try dsimp only at hSw); (try simp only [List.getElem_toArray, List.getElem_cons_zero, List.getElem_cons_succ]); go_simp; first | done | (with_reducible rfl)))
      simp only [Act.put, List.getElem_toArray, List.getElem_cons_zero, List.getElem_cons_succ, List.setIfInBounds_toArray, List.set_cons_zero, List.set_cons_succ]
      refine wpAnyH_take (i := 2) (v := ?v3) rfl (by kernel_rfl) (by kernel_rfl) (by kernel_rfl) (fun _ _ _ h => h) (Or.inl ⟨by rfl, ?hy3⟩) (by assumption) ?rest3
      case hy3 => ((intro w hSw; (try dsimp only at hSw); (try simp only [List.getElem_toArray, List.getElem_cons_zero, List.getElem_cons_succ]); go_simp; first | done | (with_reducible rfl)))
      simp only [Act.put, List.getElem_toArray, List.getElem_cons_zero, List.getElem_cons_succ, List.setIfInBounds_toArray, List.set_cons_zero, List.set_cons_succ]
      refine wpAnyH_take (i := 3) (v := ?v4) rfl (by kernel_rfl) (by kernel_rfl) (by kernel_rfl) (fun _ _ _ h => h) (Or.inl ⟨by rfl, ?hy4⟩) (by assumption) ?rest4
      case hy4 => ((intro w hSw; (try dsimp only at hSw); (try simp only [List.getElem_toArray, List.getElem_cons_zero, List.getElem_cons_succ]); go_simp; first | done | (with_reducible rfl)))
      simp only [Act.put, List.getElem_toArray, List.getElem_cons_zero, List.getElem_cons_succ, List.setIfInBounds_toArray, List.set_cons_zero, List.set_cons_succ]
      refine wpAnyH_take (i := 4) (v := ?v5) rfl (by kernel_rfl) (by kernel_rfl) (by kernel_rfl) (fun _ _ _ h => h) (Or.inl ⟨by rfl, ?hy5⟩) (by assumption) ?rest5
      case hy5 => ((intro w hSw; (try dsimp only at hSw); (try simp only [List.getElem_toArray, List.getElem_cons_zero, List.getElem_cons_succ]); go_simp; first | done | (with_reducible rfl)))
      simp only [Act.put, List.getElem_toArray, List.getElem_cons_zero, List.getElem_cons_succ, List.setIfInBounds_toArray, List.set_cons_zero, List.set_cons_succ]
      refine wpAnyH_take (i := 5) (v := ?v6) rfl (by kernel_rfl) (by kernel_rfl) (by kernel_rfl) (fun _ _ _ h => h) (Or.inl ⟨by rfl, ?hy6⟩) (by assumption) ?rest6
      case hy6 => ((intro w hSw; (try dsimp only at hSw); (try simp only [List.getElem_toArray, List.getElem_cons_zero, List.getElem_cons_succ]); go_simp; first | done | (with_reducible rfl)))
      simp only [Act.put, List.getElem_toArray, List.getElem_cons_zero, List.getElem_cons_succ, List.setIfInBounds_toArray, List.set_cons_zero, List.set_cons_succ]
      refine wpAnyH_take (i := 6) (v := ?v7) rfl (by kernel_rfl) (by kernel_rfl) (by kernel_rfl) (fun _ _ _ h => h) (Or.inl ⟨by rfl, ?hy7⟩) (by assumption) ?rest7
      case hy7 => ((intro w hSw; (try dsimp only at hSw); (try simp only [List.getElem_toArray, List.getElem_cons_zero, List.getElem_cons_succ]); go_simp; first | done | (with_reducible rfl)))
      simp only [Act.put, List.getElem_toArray, List.getElem_cons_zero, List.getElem_cons_succ, List.setIfInBounds_toArray, List.set_cons_zero, List.set_cons_succ]
      refine wpAnyH_take (i := 7) (v := ?v8) rfl (by kernel_rfl) (by kernel_rfl) (by kernel_rfl) (fun _ _ _ h => h) (Or.inl ⟨by rfl, ?hy8⟩) (by assumption) ?rest8
      case hy8 => ((intro w hSw; (try dsimp only at hSw); (try simp only [List.getElem_toArray, List.getElem_cons_zero, List.getElem_cons_succ]); go_simp; first | done | (with_reducible rfl)))
      simp only [Act.put, List.getElem_toArray, List.getElem_cons_zero, List.getElem_cons_succ, List.setIfInBounds_toArray, List.set_cons_zero, List.set_cons_succ]
      refine wpAnyH_take (i := 8) (v := ?v9) rfl (by kernel_rfl) (by kernel_rfl) (by kernel_rfl) (fun _ _ _ h => h) (Or.inl ⟨by rfl, ?hy9⟩) (by assumption) ?rest9
      case hy9 => ((intro w hSw; (try dsimp only at hSw); (try simp only [List.getElem_toArray, List.getElem_cons_zero, List.getElem_cons_succ]); go_simp; first | done | (with_reducible rfl)))
      simp only [Act.put, List.getElem_toArray, List.getElem_cons_zero, List.getElem_cons_succ, List.setIfInBounds_toArray, List.set_cons_zero, List.set_cons_succ]
      refine wpAnyH_take (i := 9) (v := ?v10) rfl (by kernel_rfl) (by kernel_rfl) (by kernel_rfl) (fun _ _ _ h => h) (Or.inl ⟨by rfl, ?hy10⟩) (by assumption) ?rest10
      case hy10 => ((intro w hSw; (try dsimp only at hSw); (try simp only [List.getElem_toArray, List.getElem_cons_zero, List.getElem_cons_succ]); go_simp; first | done | (with_reducible rfl)))
      simp only [Act.put, List.getElem_toArray, List.getElem_cons_zero, List.getElem_cons_succ, List.setIfInBounds_toArray, List.set_cons_zero, List.set_cons_succ]
      refine wpAnyH_take (i := 10) (v := ?v11) rfl (by kernel_rfl) (by kernel_rfl) (by kernel_rfl) (fun _ _ _ h => h) (Or.inl ⟨by rfl, ?hy11⟩) (by assumption) ?rest11
      case hy11 => ((intro w hSw; (try dsimp only at hSw); (try simp only [List.getElem_toArray, List.getElem_cons_zero, List.getElem_cons_succ]); go_simp; first | done | (with_reducible rfl)))
      simp only [Act.put, List.getElem_toArray, List.getElem_cons_zero, List.getElem_cons_succ, List.setIfInBounds_toArray, List.set_cons_zero, List.set_cons_succ]
      refine wpAnyH_take (i := 11) (v := ?v12) rfl (by kernel_rfl) (by kernel_rfl) (by kernel_rfl) (fun _ _ _ h => h) (Or.inl ⟨by rfl, ?hy12⟩) (by assumption) ?rest12
      case hy12 => ((intro w hSw; (try dsimp only at hSw); (try simp only [List.getElem_toArray, List.getElem_cons_zero, List.getElem_cons_succ]); go_simp; first | done | (with_reducible rfl)))
      simp only [Act.put, List.getElem_toArray, List.getElem_cons_zero, List.getElem_cons_succ, List.setIfInBounds_toArray, List.set_cons_zero, List.set_cons_succ]
      refine wpAnyH_take (i := 12) (v := ?v13) rfl (by kernel_rfl) (by kernel_rfl) (by kernel_rfl) (fun _ _ _ h => h) (Or.inl ⟨by rfl, ?hy13⟩) (by assumption) ?rest13
      case hy13 => ((intro w hSw; (try dsimp only at hSw); (try simp only [List.getElem_toArray, List.getElem_cons_zero, List.getElem_cons_succ]); go_simp; first | done | (with_reducible rfl)))
      simp only [Act.put, List.getElem_toArray, List.getElem_cons_zero, List.getElem_cons_succ, List.setIfInBounds_toArray, List.set_cons_zero, List.set_cons_succ]
      refine wpAnyH_take (i := 13) (v := ?v14) rfl (by kernel_rfl) (by kernel_rfl) (by kernel_rfl) (fun _ _ _ h => h) (Or.inl ⟨by rfl, ?hy14⟩) (by assumption) ?rest14
      case hy14 => ((intro w hSw; (try dsimp only at hSw); (try simp only [List.getElem_toArray, List.getElem_cons_zero, List.getElem_cons_succ]); go_simp; first | done | (with_reducible rfl)))
      simp only [Act.put, List.getElem_toArray, List.getElem_cons_zero, List.getElem_cons_succ, List.setIfInBounds_toArray, List.set_cons_zero, List.set_cons_succ]
      refine wpAnyH_take (i := 17) (v := ?v15) rfl (by kernel_rfl) (by kernel_rfl) (by kernel_rfl) (fun _ _ _ h => h) (Or.inl ⟨by rfl, ?hy15⟩) (by assumption) ?rest15
      case hy15 => ((intro w hSw; (try dsimp only at hSw); (try simp only [List.getElem_toArray, List.getElem_cons_zero, List.getElem_cons_succ]); go_simp; first | done | (with_reducible rfl)))
      simp only [Act.put, List.getElem_toArray, List.getElem_cons_zero, List.getElem_cons_succ, List.setIfInBounds_toArray, List.set_cons_zero, List.set_cons_succ]
      refine wpAnyH_take (i := 18) (v := ?v16) rfl (by kernel_rfl) (by kernel_rfl) (by kernel_rfl) (fun _ _ _ h => h) (Or.inl ⟨by rfl, ?hy16⟩) (by assumption) ?rest16
      case hy16 => ((intro w hSw; (try dsimp only at hSw); (try simp only [List.getElem_toArray, List.getElem_cons_zero, List.getElem_cons_succ]); go_simp; first | done | (with_reducible rfl)))
      simp only [Act.put, List.getElem_toArray, List.getElem_cons_zero, List.getElem_cons_succ, List.setIfInBounds_toArray, List.set_cons_zero, List.set_cons_succ]
      refine wpAnyH_take (i := 14) (v := .agg cs) rfl (by kernel_rfl) (by kernel_rfl) (by kernel_rfl) (fun _ _ _ h => h) (yields_row rfl 34 (.tmp 5) rfl (w1.heap.size) rfl _ cs _ (fun _ h => h.2.2.1) Try.underlying34 rfl HI.out) (by assumption) ?_
      simp only [Act.put, List.getElem_toArray, List.getElem_cons_zero, List.getElem_cons_succ, List.setIfInBounds_toArray, List.set_cons_zero, List.set_cons_succ]
      refine wpAnyH_ready (rs := [15]) (by kernel_rfl) (by simp) ?_
      refine AllReadyH.cons rfl (fun K hK => ?_) AllReadyH.nil
      go_simp
      (go_at_call 14; refine (SC _ _ (D5.out.keepB dV).reads).mono ?_; rintro e w2 ⟨vo, co, rfl, r2, b2⟩; have b2' : Below V.heap.size V w2 := bUndrew b2; have c2 := bAll c5 b2'; have G2 := hide (bKeeps b2' G5.out); have B2 := hide (bKeeps b2' B5.out); have R2 := hide (bKeeps b2' R5.out); have D2 := hide (D5.out.keepB b2'); obtain ⟨-, k1, k2, -⟩ := box3u G2.out)
      refine hK.out _ _ ?_ (fun hHeld => ?_)
      · exact ⟨k1, k2, B2.out, HTX.out _ c2⟩
      clear hK K
      refine wpAnyH_ready (rs := [16]) (by kernel_rfl) (by simp) ?_
      refine AllReadyH.cons rfl (fun K hK => ?_) AllReadyH.nil
      (refine wp_convertA 38 9 _ rfl (.slice vo pk.length co) (.string (txtU pk)) rfl (textU (r2.row (by omega)).reads 38 5 9 Try.underlying38 Try.underlying5 Try.underlying9) ?_)
      refine hK.out _ _ ?_ (fun hHeld => ?_)
      · exact ⟨k1, k2, B2.out, HTX.out _ c2⟩
      clear hK K
      by_cases he : pk = bs
      · have hne : ((txtU pk).toList == (txtU bs).toList) = true := by simp [he]
        by_cases hn0 : n = 0
        · have hz : (((n : Nat) : Int) == 0) = true := by simp [hn0]
          have FF := hide (F0.out w2 c2 (UnP.no RDW.out (.inr (.inr (List.length_eq_zero_iff.1 (by rw [HL.out]; exact hn0))))))
          clear he hn0
          refine wpAnyH_take (i := 19) (v := ?v17) rfl (by kernel_rfl) (by kernel_rfl) (by kernel_rfl) (fun _ _ _ h => h) (Or.inl ⟨by rfl, ?hy17⟩) (by assumption) ?rest17
          case hy17 => ((intro w hSw; (try dsimp only at hSw); (try simp only [List.getElem_toArray, List.getElem_cons_zero, List.getElem_cons_succ]); go_simp; first | done | (with_reducible rfl)))
          simp only [Act.put, List.getElem_toArray, List.getElem_cons_zero, List.getElem_cons_succ, List.setIfInBounds_toArray, List.set_cons_zero, List.set_cons_succ]
          refine wpAnyH_take (i := 20) (v := ?v18) rfl (by kernel_rfl) (by kernel_rfl) (by kernel_rfl) (fun _ _ _ h => h) (Or.inl ⟨by rfl, ?hy18⟩) (by assumption) ?rest18
          case hy18 => ((intro w hSw; (try dsimp only at hSw); (try simp only [List.getElem_toArray, List.getElem_cons_zero, List.getElem_cons_succ]); go_simp; first | done | (with_reducible rfl)))
          simp only [Act.put, List.getElem_toArray, List.getElem_cons_zero, List.getElem_cons_succ, List.setIfInBounds_toArray, List.set_cons_zero, List.set_cons_succ]
          refine wpAnyH_take (i := 21) (v := ?v19) rfl (by kernel_rfl) (by kernel_rfl) (by kernel_rfl) (fun _ _ _ h => h) (Or.inl ⟨by rfl, ?hy19⟩) (by assumption) ?rest19
          case hy19 => ((intro w hSw; (try dsimp only at hSw); (try simp only [List.getElem_toArray, List.getElem_cons_zero, List.getElem_cons_succ]); go_simp; first | done | (with_reducible rfl)))
          simp only [Act.put, List.getElem_toArray, List.getElem_cons_zero, List.getElem_cons_succ, List.setIfInBounds_toArray, List.set_cons_zero, List.set_cons_succ]
          refine wpAnyH_take (i := 22) (v := ?v20) rfl (by kernel_rfl) (by kernel_rfl) (by kernel_rfl) (fun _ _ _ h => h) (Or.inl ⟨by rfl, ?hy20⟩) (by assumption) ?rest20
          case hy20 => ((intro w hSw; (try dsimp only at hSw); (try simp only [List.getElem_toArray, List.getElem_cons_zero, List.getElem_cons_succ]); go_simp; first | done | (with_reducible rfl)))
          simp only [Act.put, List.getElem_toArray, List.getElem_cons_zero, List.getElem_cons_succ, List.setIfInBounds_toArray, List.set_cons_zero, List.set_cons_succ]
          refine wpAnyH_take (i := 23) (v := ?v21) rfl (by kernel_rfl) (by kernel_rfl) (by kernel_rfl) (fun _ _ _ h => h) (Or.inl ⟨by rfl, ?hy21⟩) (by assumption) ?rest21
          case hy21 => ((intro w hSw; (try dsimp only at hSw); (try simp only [List.getElem_toArray, List.getElem_cons_zero, List.getElem_cons_succ]); go_simp; first | done | (with_reducible rfl)))
          simp only [Act.put, List.getElem_toArray, List.getElem_cons_zero, List.getElem_cons_succ, List.setIfInBounds_toArray, List.set_cons_zero, List.set_cons_succ]
          refine wpAnyH_take (i := 24) (v := ?v22) rfl (by kernel_rfl) (by kernel_rfl) (by kernel_rfl) (fun _ _ _ h => h) (Or.inl ⟨by rfl, ?hy22⟩) (by assumption) ?rest22
          case hy22 => ((intro w hSw; (try dsimp only at hSw); (try simp only [List.getElem_toArray, List.getElem_cons_zero, List.getElem_cons_succ]); go_simp; first | done | (with_reducible rfl)))
          simp only [Act.put, List.getElem_toArray, List.getElem_cons_zero, List.getElem_cons_succ, List.setIfInBounds_toArray, List.set_cons_zero, List.set_cons_succ]
          refine wpAnyH_take (i := 25) (v := ?v23) rfl (by kernel_rfl) (by kernel_rfl) (by kernel_rfl) (fun _ _ _ h => h) (Or.inl ⟨by rfl, ?hy23⟩) (by assumption) ?rest23
          case hy23 => ((intro w hSw; (try dsimp only at hSw); (try simp only [List.getElem_toArray, List.getElem_cons_zero, List.getElem_cons_succ]); go_simp; first | done | (with_reducible rfl)))
          simp only [Act.put, List.getElem_toArray, List.getElem_cons_zero, List.getElem_cons_succ, List.setIfInBounds_toArray, List.set_cons_zero, List.set_cons_succ]
          refine wpAnyH_done (by kernel_rfl) ?_ _
          refine NoPanic.normal ?_
          clear hHeld
          go_wp2_with (first
            | (refine wpList_built34z rfl _ rfl rfl ?_)
            | (refine wpList_store_row rfl 34 (.tmp 2) (.tmp 37) rfl w.heap.size _ rfl rfl _ _ R2.out infoWd (show (26 : Nat) = 26 from rfl) (all_of_list rfl) ?_))
          refine bodyPost_ret (v := .tuple #[.agg #[.int .i64 0, .int .i64 0, .int .i64 0, .int .i64 0, .int .i64 0, .int .i64 0, .int .i64 0, .int .i64 0, .int .i64 0, .int .i64 0, .int .i64 0, .int .i64 0, .int .i64 0, .int .i64 0, .int .i64 0, .int .i64 0, .int .i64 0, .int .i64 0, .int .i64 0, .int .i64 0, .int .i64 0, .int .i64 0, .int .i64 0, .int .i64 0, .slice none 0 0, .slice none 0 0], .bool false]) (results_row_tmp Try.results20 _ _ w.heap.size _ _ (0, 0) _ _ rfl rfl (setRow_heap _ _ _ _ _ _ R2.out) Try.underlying34 rfl infoWd) rfl ?_
          exact ⟨_, false, rfl, FF.out⟩
        · have hz : (((n : Nat) : Int) == 0) = false := by simpa using hn0
          have hu : UnP bs x true := UnP.yes RDW.out (HPK.out.trans he) (fun e0 => hn0 (by rw [← HL.out, e0]; rfl))
          have u9 : Upd (fun j => j = w.heap.size) w2 (w2.setRow w.heap.size cs) := ⟨rfl, rfl, rfl, by simp, fun k _ h => setRow_other _ _ _ _ h⟩
          have FF : Hid (UnR w bs (.agg cs) true (w2.setRow w.heap.size cs)) := ⟨x, (D2.out.keep u9 (fun k h e => by omega)).mono (fun k _ h => by omega), hu, by have := hu.lens.1; omega, by have := hu.lens.2; omega, c2.trans (u9.below c2.size (fun k h => by omega))⟩
          clear hu u9 he hn0
          refine wpAnyH_take (i := 19) (v := ?v24) rfl (by kernel_rfl) (by kernel_rfl) (by kernel_rfl) (fun _ _ _ h => h) (Or.inl ⟨by rfl, ?hy24⟩) (by assumption) ?rest24
          case hy24 => ((intro w hSw; (try dsimp only at hSw); (try simp only [List.getElem_toArray, List.getElem_cons_zero, List.getElem_cons_succ]); go_simp; first | done | (with_reducible rfl)))
          simp only [Act.put, List.getElem_toArray, List.getElem_cons_zero, List.getElem_cons_succ, List.setIfInBounds_toArray, List.set_cons_zero, List.set_cons_succ]
          refine wpAnyH_take (i := 20) (v := ?v25) rfl (by kernel_rfl) (by kernel_rfl) (by kernel_rfl) (fun _ _ _ h => h) (Or.inl ⟨by rfl, ?hy25⟩) (by assumption) ?rest25
          case hy25 => ((intro w hSw; (try dsimp only at hSw); (try simp only [List.getElem_toArray, List.getElem_cons_zero, List.getElem_cons_succ]); go_simp; first | done | (with_reducible rfl)))
          simp only [Act.put, List.getElem_toArray, List.getElem_cons_zero, List.getElem_cons_succ, List.setIfInBounds_toArray, List.set_cons_zero, List.set_cons_succ]
          refine wpAnyH_take (i := 21) (v := ?v26) rfl (by kernel_rfl) (by kernel_rfl) (by kernel_rfl) (fun _ _ _ h => h) (Or.inl ⟨by rfl, ?hy26⟩) (by assumption) ?rest26
          case hy26 => ((intro w hSw; (try dsimp only at hSw); (try simp only [List.getElem_toArray, List.getElem_cons_zero, List.getElem_cons_succ]); go_simp; first | done | (with_reducible rfl)))
          simp only [Act.put, List.getElem_toArray, List.getElem_cons_zero, List.getElem_cons_succ, List.setIfInBounds_toArray, List.set_cons_zero, List.set_cons_succ]
          refine wpAnyH_take (i := 22) (v := ?v27) rfl (by kernel_rfl) (by kernel_rfl) (by kernel_rfl) (fun _ _ _ h => h) (Or.inl ⟨by rfl, ?hy27⟩) (by assumption) ?rest27
          case hy27 => ((intro w hSw; (try dsimp only at hSw); (try simp only [List.getElem_toArray, List.getElem_cons_zero, List.getElem_cons_succ]); go_simp; first | done | (with_reducible rfl)))
          simp only [Act.put, List.getElem_toArray, List.getElem_cons_zero, List.getElem_cons_succ, List.setIfInBounds_toArray, List.set_cons_zero, List.set_cons_succ]
          refine wpAnyH_take (i := 23) (v := ?v28) rfl (by kernel_rfl) (by kernel_rfl) (by kernel_rfl) (fun _ _ _ h => h) (Or.inl ⟨by rfl, ?hy28⟩) (by assumption) ?rest28
          case hy28 => ((intro w hSw; (try dsimp only at hSw); (try simp only [List.getElem_toArray, List.getElem_cons_zero, List.getElem_cons_succ]); go_simp; first | done | (with_reducible rfl)))
          simp only [Act.put, List.getElem_toArray, List.getElem_cons_zero, List.getElem_cons_succ, List.setIfInBounds_toArray, List.set_cons_zero, List.set_cons_succ]
          refine wpAnyH_take (i := 24) (v := ?v29) rfl (by kernel_rfl) (by kernel_rfl) (by kernel_rfl) (fun _ _ _ h => h) (Or.inl ⟨by rfl, ?hy29⟩) (by assumption) ?rest29
          case hy29 => ((intro w hSw; (try dsimp only at hSw); (try simp only [List.getElem_toArray, List.getElem_cons_zero, List.getElem_cons_succ]); go_simp; first | done | (with_reducible rfl)))
          simp only [Act.put, List.getElem_toArray, List.getElem_cons_zero, List.getElem_cons_succ, List.setIfInBounds_toArray, List.set_cons_zero, List.set_cons_succ]
          refine wpAnyH_take (i := 25) (v := ?v30) rfl (by kernel_rfl) (by kernel_rfl) (by kernel_rfl) (fun _ _ _ h => h) (Or.inl ⟨by rfl, ?hy30⟩) (by assumption) ?rest30
          case hy30 => ((intro w hSw; (try dsimp only at hSw); (try simp only [List.getElem_toArray, List.getElem_cons_zero, List.getElem_cons_succ]); go_simp; first | done | (with_reducible rfl)))
          simp only [Act.put, List.getElem_toArray, List.getElem_cons_zero, List.getElem_cons_succ, List.setIfInBounds_toArray, List.set_cons_zero, List.set_cons_succ]
          refine wpAnyH_done (by kernel_rfl) ?_ _
          refine NoPanic.normal ?_
          clear hHeld
          go_wp2_with (first
            | (refine wpList_load_row rfl 34 (.tmp 5) rfl w1.heap.size rfl _ cs (0, 0) _ B2.out Try.underlying34 rfl HI.out ?_)
            | (refine wpList_store_row rfl 34 (.tmp 2) (.tmp 38) rfl w.heap.size cs rfl rfl _ _ R2.out HI.out HZ.out H1.out ?_))
          refine bodyPost_ret (v := .tuple #[.agg cs, .bool true]) (results_row_tmp Try.results20 _ _ w.heap.size _ _ (0, 0) _ _ rfl rfl (setRow_heap _ _ _ _ _ _ R2.out) Try.underlying34 rfl HI.out) rfl ?_
          exact ⟨_, true, rfl, FF.out⟩
      · have hne : ((txtU pk).toList == (txtU bs).toList) = false := by
          simp only [beq_eq_false_iff_ne, ne_eq]
          intro h
          refine he (txtU_inj HPB.out HB.out ?_)
          unfold txtU strOfNums at h ⊢
          rw [ByteArray.toList_eq, ByteArray.toList_eq] at h
          exact congrArg ByteArray.mk (Array.toList_inj.1 h)
        have FF := hide (F0.out w2 c2 (UnP.no RDW.out (.inl (by rw [HPK.out]; exact he))))
        clear he
        refine wpAnyH_take (i := 19) (v := ?v31) rfl (by kernel_rfl) (by kernel_rfl) (by kernel_rfl) (fun _ _ _ h => h) (Or.inl ⟨by rfl, ?hy31⟩) (by assumption) ?rest31
        case hy31 => ((intro w hSw; (try dsimp only at hSw); (try simp only [List.getElem_toArray, List.getElem_cons_zero, List.getElem_cons_succ]); go_simp; first | done | (with_reducible rfl)))
        simp only [Act.put, List.getElem_toArray, List.getElem_cons_zero, List.getElem_cons_succ, List.setIfInBounds_toArray, List.set_cons_zero, List.set_cons_succ]
        refine wpAnyH_take (i := 20) (v := ?v32) rfl (by kernel_rfl) (by kernel_rfl) (by kernel_rfl) (fun _ _ _ h => h) (Or.inl ⟨by rfl, ?hy32⟩) (by assumption) ?rest32
        case hy32 => ((intro w hSw; (try dsimp only at hSw); (try simp only [List.getElem_toArray, List.getElem_cons_zero, List.getElem_cons_succ]); go_simp; first | done | (with_reducible rfl)))
        simp only [Act.put, List.getElem_toArray, List.getElem_cons_zero, List.getElem_cons_succ, List.setIfInBounds_toArray, List.set_cons_zero, List.set_cons_succ]
        refine wpAnyH_take (i := 21) (v := ?v33) rfl (by kernel_rfl) (by kernel_rfl) (by kernel_rfl) (fun _ _ _ h => h) (Or.inl ⟨by rfl, ?hy33⟩) (by assumption) ?rest33
        case hy33 => ((intro w hSw; (try dsimp only at hSw); (try simp only [List.getElem_toArray, List.getElem_cons_zero, List.getElem_cons_succ]); go_simp; first | done | (with_reducible rfl)))
        simp only [Act.put, List.getElem_toArray, List.getElem_cons_zero, List.getElem_cons_succ, List.setIfInBounds_toArray, List.set_cons_zero, List.set_cons_succ]
        refine wpAnyH_take (i := 22) (v := undef) rfl (by kernel_rfl) (by kernel_rfl) (by kernel_rfl) (fun _ _ _ h => h) (Or.inr ⟨by rfl, rfl⟩) (by assumption) ?_
        simp only [Act.put, List.getElem_toArray, List.getElem_cons_zero, List.getElem_cons_succ, List.setIfInBounds_toArray, List.set_cons_zero, List.set_cons_succ]
        refine wpAnyH_take (i := 23) (v := undef) rfl (by kernel_rfl) (by kernel_rfl) (by kernel_rfl) (fun _ _ _ h => h) (Or.inr ⟨by rfl, rfl⟩) (by assumption) ?_
        simp only [Act.put, List.getElem_toArray, List.getElem_cons_zero, List.getElem_cons_succ, List.setIfInBounds_toArray, List.set_cons_zero, List.set_cons_succ]
        refine wpAnyH_take (i := 24) (v := undef) rfl (by kernel_rfl) (by kernel_rfl) (by kernel_rfl) (fun _ _ _ h => h) (Or.inr ⟨by rfl, rfl⟩) (by assumption) ?_
        simp only [Act.put, List.getElem_toArray, List.getElem_cons_zero, List.getElem_cons_succ, List.setIfInBounds_toArray, List.set_cons_zero, List.set_cons_succ]
        refine wpAnyH_take (i := 25) (v := ?v34) rfl (by kernel_rfl) (by kernel_rfl) (by kernel_rfl) (fun _ _ _ h => h) (Or.inl ⟨by rfl, ?hy34⟩) (by assumption) ?rest34
        case hy34 => ((intro w hSw; (try dsimp only at hSw); (try simp only [List.getElem_toArray, List.getElem_cons_zero, List.getElem_cons_succ]); go_simp; first | done | (with_reducible rfl)))
        simp only [Act.put, List.getElem_toArray, List.getElem_cons_zero, List.getElem_cons_succ, List.setIfInBounds_toArray, List.set_cons_zero, List.set_cons_succ]
        refine wpAnyH_done (by kernel_rfl) ?_ _
        refine NoPanic.normal ?_
        clear hHeld
        go_wp2_with (first
          | (refine wpList_built34z rfl _ rfl rfl ?_)
          | (refine wpList_store_row rfl 34 (.tmp 2) (.tmp 37) rfl w.heap.size _ rfl rfl _ _ R2.out infoWd (show (26 : Nat) = 26 from rfl) (all_of_list rfl) ?_))
        refine bodyPost_ret (v := .tuple #[.agg #[.int .i64 0, .int .i64 0, .int .i64 0, .int .i64 0, .int .i64 0, .int .i64 0, .int .i64 0, .int .i64 0, .int .i64 0, .int .i64 0, .int .i64 0, .int .i64 0, .int .i64 0, .int .i64 0, .int .i64 0, .int .i64 0, .int .i64 0, .int .i64 0, .int .i64 0, .int .i64 0, .int .i64 0, .int .i64 0, .int .i64 0, .int .i64 0, .slice none 0 0, .slice none 0 0], .bool false]) (results_row_tmp Try.results20 _ _ w.heap.size _ _ (0, 0) _ _ rfl rfl (setRow_heap _ _ _ _ _ _ R2.out) Try.underlying34 rfl infoWd) rfl ?_
        exact ⟨_, false, rfl, FF.out⟩
    · have hpe : (((p' : Nat) : Int) != (n : Int)) = true := by simp; omega
      have FF := hide (F0.out V.drew (bDrewB c5) (UnP.no RDW.out (.inr (.inl (by rw [vw_ok]; intro e0; have := congrArg List.length e0; rw [List.length_drop, HL.out] at this; simp at this; omega)))))
      clear hp
      refine wp_region_noPanic ?_
      refine wp_region_held_drew (S := (fun w' => w'.cell? ⟨w.heap.size + 1, 1, none⟩ = some (.int .i64 (p' : Nat)) ∧ w'.cell? ⟨w.heap.size + 1, 2, none⟩ = some (.bool false) ∧ w'.heap[w1.heap.size]? = some (.cells cs 34 (0, 0)) ∧ (convert 38 9 (.slice bo n cap)).run Try.prog w' = .ok (.string (txtU bs)) w')) (by kernel_rfl) ?_ (fun hHeld => ?_)
      · exact ⟨g1, g2, B5.out, HTX.out _ (bDrewB c5)⟩
      refine wpAnyH_take (i := 0) (v := ?v35) rfl (by kernel_rfl) (by kernel_rfl) (by kernel_rfl) (fun _ _ _ h => h) (Or.inl ⟨by rfl, ?hy35⟩) (by assumption) ?rest35
      case hy35 => ((intro w hSw; (try dsimp only at hSw); (try simp only [List.getElem_toArray, List.getElem_cons_zero]); go_simp; first | done | (with_reducible rfl)))
      simp only [Act.put, List.getElem_toArray, List.getElem_cons_zero, List.setIfInBounds_toArray, List.set_cons_zero, List.set_cons_succ]
      refine wpAnyH_take (i := 1) (v := ?v36) rfl (by kernel_rfl) (by kernel_rfl) (by kernel_rfl) (fun _ _ _ h => h) (Or.inl ⟨by rfl, ?hy36⟩) (by assumption) ?rest36
      case hy36 => ((intro w hSw; (try dsimp only at hSw); (try simp only [List.getElem_toArray, List.getElem_cons_zero, List.getElem_cons_succ]); go_simp; first | done | (with_reducible rfl)))
      simp only [Act.put, List.getElem_toArray, List.getElem_cons_zero, List.getElem_cons_succ, List.setIfInBounds_toArray, List.set_cons_zero, List.set_cons_succ]
      refine wpAnyH_take (i := 2) (v := ?v37) rfl (by kernel_rfl) (by kernel_rfl) (by kernel_rfl) (fun _ _ _ h => h) (Or.inl ⟨by rfl, ?hy37⟩) (by assumption) ?rest37
      case hy37 => ((intro w hSw; (try dsimp only at hSw); (try simp only [List.getElem_toArray, List.getElem_cons_zero, List.getElem_cons_succ]); go_simp; first | done | (with_reducible rfl)))
      simp only [Act.put, List.getElem_toArray, List.getElem_cons_zero, List.getElem_cons_succ, List.setIfInBounds_toArray, List.set_cons_zero, List.set_cons_succ]
      refine wpAnyH_take (i := 3) (v := ?v38) rfl (by kernel_rfl) (by kernel_rfl) (by kernel_rfl) (fun _ _ _ h => h) (Or.inl ⟨by rfl, ?hy38⟩) (by assumption) ?rest38
      case hy38 => ((intro w hSw; (try dsimp only at hSw); (try simp only [List.getElem_toArray, List.getElem_cons_zero, List.getElem_cons_succ]); go_simp; first | done | (with_reducible rfl)))
      simp only [Act.put, List.getElem_toArray, List.getElem_cons_zero, List.getElem_cons_succ, List.setIfInBounds_toArray, List.set_cons_zero, List.set_cons_succ]
      refine wpAnyH_take (i := 4) (v := ?v39) rfl (by kernel_rfl) (by kernel_rfl) (by kernel_rfl) (fun _ _ _ h => h) (Or.inl ⟨by rfl, ?hy39⟩) (by assumption) ?rest39
      case hy39 => ((intro w hSw; (try dsimp only at hSw); (try simp only [List.getElem_toArray, List.getElem_cons_zero, List.getElem_cons_succ]); go_simp; first | done | (with_reducible rfl)))
      simp only [Act.put, List.getElem_toArray, List.getElem_cons_zero, List.getElem_cons_succ, List.setIfInBounds_toArray, List.set_cons_zero, List.set_cons_succ]
      refine wpAnyH_take (i := 5) (v := ?v40) rfl (by kernel_rfl) (by kernel_rfl) (by kernel_rfl) (fun _ _ _ h => h) (Or.inl ⟨by rfl, ?hy40⟩) (by assumption) ?rest40
      case hy40 => ((intro w hSw; (try dsimp only at hSw); (try simp only [List.getElem_toArray, List.getElem_cons_zero, List.getElem_cons_succ]); go_simp; first | done | (with_reducible rfl)))
      simp only [Act.put, List.getElem_toArray, List.getElem_cons_zero, List.getElem_cons_succ, List.setIfInBounds_toArray, List.set_cons_zero, List.set_cons_succ]
      refine wpAnyH_take (i := 6) (v := ?v41) rfl (by kernel_rfl) (by kernel_rfl) (by kernel_rfl) (fun _ _ _ h => h) (Or.inl ⟨by rfl, ?hy41⟩) (by assumption) ?rest41
      case hy41 => ((intro w hSw; (try dsimp only at hSw); (try simp only [List.getElem_toArray, List.getElem_cons_zero, List.getElem_cons_succ]); go_simp; first | done | (with_reducible rfl)))
      simp only [Act.put, List.getElem_toArray, List.getElem_cons_zero, List.getElem_cons_succ, List.setIfInBounds_toArray, List.set_cons_zero, List.set_cons_succ]
      refine wpAnyH_take (i := 7) (v := ?v42) rfl (by kernel_rfl) (by kernel_rfl) (by kernel_rfl) (fun _ _ _ h => h) (Or.inl ⟨by rfl, ?hy42⟩) (by assumption) ?rest42
      case hy42 => ((intro w hSw; (try dsimp only at hSw); (try simp only [List.getElem_toArray, List.getElem_cons_zero, List.getElem_cons_succ]); go_simp; first | done | (with_reducible rfl)))
      simp only [Act.put, List.getElem_toArray, List.getElem_cons_zero, List.getElem_cons_succ, List.setIfInBounds_toArray, List.set_cons_zero, List.set_cons_succ]
      refine wpAnyH_take (i := 8) (v := ?v43) rfl (by kernel_rfl) (by kernel_rfl) (by kernel_rfl) (fun _ _ _ h => h) (Or.inl ⟨by rfl, ?hy43⟩) (by assumption) ?rest43
      case hy43 => ((intro w hSw; (try dsimp only at hSw); (try simp only [List.getElem_toArray, List.getElem_cons_zero, List.getElem_cons_succ]); go_simp; first | done | (with_reducible rfl)))
      simp only [Act.put, List.getElem_toArray, List.getElem_cons_zero, List.getElem_cons_succ, List.setIfInBounds_toArray, List.set_cons_zero, List.set_cons_succ]
      refine wpAnyH_take (i := 9) (v := ?v44) rfl (by kernel_rfl) (by kernel_rfl) (by kernel_rfl) (fun _ _ _ h => h) (Or.inl ⟨by rfl, ?hy44⟩) (by assumption) ?rest44
      case hy44 => ((intro w hSw; (try dsimp only at hSw); (try simp only [List.getElem_toArray, List.getElem_cons_zero, List.getElem_cons_succ]); go_simp; first | done | (with_reducible rfl)))
      simp only [Act.put, List.getElem_toArray, List.getElem_cons_zero, List.getElem_cons_succ, List.setIfInBounds_toArray, List.set_cons_zero, List.set_cons_succ]
      refine wpAnyH_take (i := 10) (v := ?v45) rfl (by kernel_rfl) (by kernel_rfl) (by kernel_rfl) (fun _ _ _ h => h) (Or.inl ⟨by rfl, ?hy45⟩) (by assumption) ?rest45
      case hy45 => ((intro w hSw; (try dsimp only at hSw); (try simp only [List.getElem_toArray, List.getElem_cons_zero, List.getElem_cons_succ]); go_simp; first | done | (with_reducible rfl)))
      simp only [Act.put, List.getElem_toArray, List.getElem_cons_zero, List.getElem_cons_succ, List.setIfInBounds_toArray, List.set_cons_zero, List.set_cons_succ]
      refine wpAnyH_take (i := 11) (v := ?v46) rfl (by kernel_rfl) (by kernel_rfl) (by kernel_rfl) (fun _ _ _ h => h) (Or.inl ⟨by rfl, ?hy46⟩) (by assumption) ?rest46
      case hy46 => ((intro w hSw; (try dsimp only at hSw); (try simp only [List.getElem_toArray, List.getElem_cons_zero, List.getElem_cons_succ]); go_simp; first | done | (with_reducible rfl)))
      simp only [Act.put, List.getElem_toArray, List.getElem_cons_zero, List.getElem_cons_succ, List.setIfInBounds_toArray, List.set_cons_zero, List.set_cons_succ]
      refine wpAnyH_take (i := 12) (v := ?v47) rfl (by kernel_rfl) (by kernel_rfl) (by kernel_rfl) (fun _ _ _ h => h) (Or.inl ⟨by rfl, ?hy47⟩) (by assumption) ?rest47
      case hy47 => ((intro w hSw; (try dsimp only at hSw); (try simp only [List.getElem_toArray, List.getElem_cons_zero, List.getElem_cons_succ]); go_simp; first | done | (with_reducible rfl)))
      simp only [Act.put, List.getElem_toArray, List.getElem_cons_zero, List.getElem_cons_succ, List.setIfInBounds_toArray, List.set_cons_zero, List.set_cons_succ]
      refine wpAnyH_take (i := 13) (v := ?v48) rfl (by kernel_rfl) (by kernel_rfl) (by kernel_rfl) (fun _ _ _ h => h) (Or.inl ⟨by rfl, ?hy48⟩) (by assumption) ?rest48
      case hy48 => ((intro w hSw; (try dsimp only at hSw); (try simp only [List.getElem_toArray, List.getElem_cons_zero, List.getElem_cons_succ]); go_simp; first | done | (with_reducible rfl)))
      simp only [Act.put, List.getElem_toArray, List.getElem_cons_zero, List.getElem_cons_succ, List.setIfInBounds_toArray, List.set_cons_zero, List.set_cons_succ]
      refine wpAnyH_take (i := 14) (v := undef) rfl (by kernel_rfl) (by kernel_rfl) (by kernel_rfl) (fun _ _ _ h => h) (Or.inr ⟨by rfl, rfl⟩) (by assumption) ?_
      simp only [Act.put, List.getElem_toArray, List.getElem_cons_zero, List.getElem_cons_succ, List.setIfInBounds_toArray, List.set_cons_zero, List.set_cons_succ]
      refine wpAnyH_take (i := 15) (v := undef) rfl (by kernel_rfl) (by kernel_rfl) (by kernel_rfl) (fun _ _ _ h => h) (Or.inr ⟨by rfl, rfl⟩) (by assumption) ?_
      simp only [Act.put, List.getElem_toArray, List.getElem_cons_zero, List.getElem_cons_succ, List.setIfInBounds_toArray, List.set_cons_zero, List.set_cons_succ]
      refine wpAnyH_take (i := 16) (v := undef) rfl (by kernel_rfl) (by kernel_rfl) (by kernel_rfl) (fun _ _ _ h => h) (Or.inr ⟨by rfl, rfl⟩) (by assumption) ?_
      simp only [Act.put, List.getElem_toArray, List.getElem_cons_zero, List.getElem_cons_succ, List.setIfInBounds_toArray, List.set_cons_zero, List.set_cons_succ]
      refine wpAnyH_take (i := 17) (v := undef) rfl (by kernel_rfl) (by kernel_rfl) (by kernel_rfl) (fun _ _ _ h => h) (Or.inr ⟨by rfl, rfl⟩) (by assumption) ?_
      simp only [Act.put, List.getElem_toArray, List.getElem_cons_zero, List.getElem_cons_succ, List.setIfInBounds_toArray, List.set_cons_zero, List.set_cons_succ]
      refine wpAnyH_take (i := 18) (v := undef) rfl (by kernel_rfl) (by kernel_rfl) (by kernel_rfl) (fun _ _ _ h => h) (Or.inr ⟨by rfl, rfl⟩) (by assumption) ?_
      simp only [Act.put, List.getElem_toArray, List.getElem_cons_zero, List.getElem_cons_succ, List.setIfInBounds_toArray, List.set_cons_zero, List.set_cons_succ]
      refine wpAnyH_take (i := 19) (v := undef) rfl (by kernel_rfl) (by kernel_rfl) (by kernel_rfl) (fun _ _ _ h => h) (Or.inr ⟨by rfl, rfl⟩) (by assumption) ?_
      simp only [Act.put, List.getElem_toArray, List.getElem_cons_zero, List.getElem_cons_succ, List.setIfInBounds_toArray, List.set_cons_zero, List.set_cons_succ]
      refine wpAnyH_take (i := 20) (v := ?v49) rfl (by kernel_rfl) (by kernel_rfl) (by kernel_rfl) (fun _ _ _ h => h) (Or.inl ⟨by rfl, ?hy49⟩) (by assumption) ?rest49
      case hy49 => ((intro w hSw; (try dsimp only at hSw); (try simp only [List.getElem_toArray, List.getElem_cons_zero, List.getElem_cons_succ]); go_simp; first | done | (with_reducible rfl)))
      simp only [Act.put, List.getElem_toArray, List.getElem_cons_zero, List.getElem_cons_succ, List.setIfInBounds_toArray, List.set_cons_zero, List.set_cons_succ]
      refine wpAnyH_take (i := 21) (v := ?v50) rfl (by kernel_rfl) (by kernel_rfl) (by kernel_rfl) (fun _ _ _ h => h) (Or.inl ⟨by rfl, ?hy50⟩) (by assumption) ?rest50
      case hy50 => ((intro w hSw; (try dsimp only at hSw); (try simp only [List.getElem_toArray, List.getElem_cons_zero, List.getElem_cons_succ]); go_simp; first | done | (with_reducible rfl)))
      simp only [Act.put, List.getElem_toArray, List.getElem_cons_zero, List.getElem_cons_succ, List.setIfInBounds_toArray, List.set_cons_zero, List.set_cons_succ]
      refine wpAnyH_take (i := 22) (v := undef) rfl (by kernel_rfl) (by kernel_rfl) (by kernel_rfl) (fun _ _ _ h => h) (Or.inr ⟨by rfl, rfl⟩) (by assumption) ?_
      simp only [Act.put, List.getElem_toArray, List.getElem_cons_zero, List.getElem_cons_succ, List.setIfInBounds_toArray, List.set_cons_zero, List.set_cons_succ]
      refine wpAnyH_take (i := 23) (v := undef) rfl (by kernel_rfl) (by kernel_rfl) (by kernel_rfl) (fun _ _ _ h => h) (Or.inr ⟨by rfl, rfl⟩) (by assumption) ?_
      simp only [Act.put, List.getElem_toArray, List.getElem_cons_zero, List.getElem_cons_succ, List.setIfInBounds_toArray, List.set_cons_zero, List.set_cons_succ]
      refine wpAnyH_take (i := 24) (v := undef) rfl (by kernel_rfl) (by kernel_rfl) (by kernel_rfl) (fun _ _ _ h => h) (Or.inr ⟨by rfl, rfl⟩) (by assumption) ?_
      simp only [Act.put, List.getElem_toArray, List.getElem_cons_zero, List.getElem_cons_succ, List.setIfInBounds_toArray, List.set_cons_zero, List.set_cons_succ]
      refine wpAnyH_take (i := 25) (v := ?v51) rfl (by kernel_rfl) (by kernel_rfl) (by kernel_rfl) (fun _ _ _ h => h) (Or.inl ⟨by rfl, ?hy51⟩) (by assumption) ?rest51
      case hy51 => ((intro w hSw; (try dsimp only at hSw); (try simp only [List.getElem_toArray, List.getElem_cons_zero, List.getElem_cons_succ]); go_simp; first | done | (with_reducible rfl)))
      simp only [Act.put, List.getElem_toArray, List.getElem_cons_zero, List.getElem_cons_succ, List.setIfInBounds_toArray, List.set_cons_zero, List.set_cons_succ]
      refine wpAnyH_done (by kernel_rfl) ?_ _
      refine NoPanic.normal ?_
      clear hHeld
      go_wp2_with (first
        | (refine wpList_built34z rfl _ rfl rfl ?_)
        | (refine wpList_store_row rfl 34 (.tmp 2) (.tmp 37) rfl w.heap.size _ rfl rfl _ _ (bKeeps dV R5.out) infoWd (show (26 : Nat) = 26 from rfl) (all_of_list rfl) ?_))
      refine bodyPost_ret (v := .tuple #[.agg #[.int .i64 0, .int .i64 0, .int .i64 0, .int .i64 0, .int .i64 0, .int .i64 0, .int .i64 0, .int .i64 0, .int .i64 0, .int .i64 0, .int .i64 0, .int .i64 0, .int .i64 0, .int .i64 0, .int .i64 0, .int .i64 0, .int .i64 0, .int .i64 0, .int .i64 0, .int .i64 0, .int .i64 0, .int .i64 0, .int .i64 0, .int .i64 0, .slice none 0 0, .slice none 0 0], .bool false]) (results_row_tmp Try.results20 _ _ w.heap.size _ _ (0, 0) _ _ rfl rfl (setRow_heap _ _ _ _ _ _ (bKeeps dV R5.out)) Try.underlying34 rfl infoWd) rfl ?_
      exact ⟨_, false, rfl, FF.out⟩
  · subst hbd
    obtain ⟨-, g1, g2, -⟩ := box3u G5.out
    have FF := hide (F0.out V.drew (bDrewB c5) (UnP.no RDW.out (.inr (.inl (by rw [vw_bad]; simp)))))
    refine wp_region_noPanic ?_
    refine wp_region_held_drew (S := (fun w' => w'.cell? ⟨w.heap.size + 1, 1, none⟩ = some (.int .i64 (p' : Nat)) ∧ w'.cell? ⟨w.heap.size + 1, 2, none⟩ = some (.bool true) ∧ w'.heap[w1.heap.size]? = some (.cells cs 34 (0, 0)) ∧ (convert 38 9 (.slice bo n cap)).run Try.prog w' = .ok (.string (txtU bs)) w')) (by kernel_rfl) ?_ (fun hHeld => ?_)
    · exact ⟨g1, g2, B5.out, HTX.out _ (bDrewB c5)⟩
    refine wpAnyH_take (i := 0) (v := ?v52) rfl (by kernel_rfl) (by kernel_rfl) (by kernel_rfl) (fun _ _ _ h => h) (Or.inl ⟨by rfl, ?hy52⟩) (by assumption) ?rest52
    case hy52 => ((intro w hSw; (try dsimp only at hSw); (try simp only [List.getElem_toArray, List.getElem_cons_zero]); go_simp; first | done | (with_reducible rfl)))
    simp only [Act.put, List.getElem_toArray, List.getElem_cons_zero, List.setIfInBounds_toArray, List.set_cons_zero, List.set_cons_succ]
    refine wpAnyH_take (i := 1) (v := ?v53) rfl (by kernel_rfl) (by kernel_rfl) (by kernel_rfl) (fun _ _ _ h => h) (Or.inl ⟨by rfl, ?hy53⟩) (by assumption) ?rest53
    case hy53 => ((intro w hSw; (try dsimp only at hSw); (try simp only [List.getElem_toArray, List.getElem_cons_zero, List.getElem_cons_succ]); go_simp; first | done | (with_reducible rfl)))
    simp only [Act.put, List.getElem_toArray, List.getElem_cons_zero, List.getElem_cons_succ, List.setIfInBounds_toArray, List.set_cons_zero, List.set_cons_succ]
    refine wpAnyH_take (i := 2) (v := ?v54) rfl (by kernel_rfl) (by kernel_rfl) (by kernel_rfl) (fun _ _ _ h => h) (Or.inl ⟨by rfl, ?hy54⟩) (by assumption) ?rest54
    case hy54 => ((intro w hSw; (try dsimp only at hSw); (try simp only [List.getElem_toArray, List.getElem_cons_zero, List.getElem_cons_succ]); go_simp; first | done | (with_reducible rfl)))
    simp only [Act.put, List.getElem_toArray, List.getElem_cons_zero, List.getElem_cons_succ, List.setIfInBounds_toArray, List.set_cons_zero, List.set_cons_succ]
    refine wpAnyH_take (i := 3) (v := ?v55) rfl (by kernel_rfl) (by kernel_rfl) (by kernel_rfl) (fun _ _ _ h => h) (Or.inl ⟨by rfl, ?hy55⟩) (by assumption) ?rest55
    case hy55 => ((intro w hSw; (try dsimp only at hSw); (try simp only [List.getElem_toArray, List.getElem_cons_zero, List.getElem_cons_succ]); go_simp; first | done | (with_reducible rfl)))
    simp only [Act.put, List.getElem_toArray, List.getElem_cons_zero, List.getElem_cons_succ, List.setIfInBounds_toArray, List.set_cons_zero, List.set_cons_succ]
    refine wpAnyH_take (i := 4) (v := ?v56) rfl (by kernel_rfl) (by kernel_rfl) (by kernel_rfl) (fun _ _ _ h => h) (Or.inl ⟨by rfl, ?hy56⟩) (by assumption) ?rest56
    case hy56 => ((intro w hSw; (try dsimp only at hSw); (try simp only [List.getElem_toArray, List.getElem_cons_zero, List.getElem_cons_succ]); go_simp; first | done | (with_reducible rfl)))
    simp only [Act.put, List.getElem_toArray, List.getElem_cons_zero, List.getElem_cons_succ, List.setIfInBounds_toArray, List.set_cons_zero, List.set_cons_succ]
    refine wpAnyH_take (i := 5) (v := undef) rfl (by kernel_rfl) (by kernel_rfl) (by kernel_rfl) (fun _ _ _ h => h) (Or.inr ⟨by rfl, rfl⟩) (by assumption) ?_
    simp only [Act.put, List.getElem_toArray, List.getElem_cons_zero, List.getElem_cons_succ, List.setIfInBounds_toArray, List.set_cons_zero, List.set_cons_succ]
    refine wpAnyH_take (i := 6) (v := undef) rfl (by kernel_rfl) (by kernel_rfl) (by kernel_rfl) (fun _ _ _ h => h) (Or.inr ⟨by rfl, rfl⟩) (by assumption) ?_
    simp only [Act.put, List.getElem_toArray, List.getElem_cons_zero, List.getElem_cons_succ, List.setIfInBounds_toArray, List.set_cons_zero, List.set_cons_succ]
    refine wpAnyH_take (i := 7) (v := undef) rfl (by kernel_rfl) (by kernel_rfl) (by kernel_rfl) (fun _ _ _ h => h) (Or.inr ⟨by rfl, rfl⟩) (by assumption) ?_
    simp only [Act.put, List.getElem_toArray, List.getElem_cons_zero, List.getElem_cons_succ, List.setIfInBounds_toArray, List.set_cons_zero, List.set_cons_succ]
    refine wpAnyH_take (i := 8) (v := undef) rfl (by kernel_rfl) (by kernel_rfl) (by kernel_rfl) (fun _ _ _ h => h) (Or.inr ⟨by rfl, rfl⟩) (by assumption) ?_
    simp only [Act.put, List.getElem_toArray, List.getElem_cons_zero, List.getElem_cons_succ, List.setIfInBounds_toArray, List.set_cons_zero, List.set_cons_succ]
    refine wpAnyH_take (i := 9) (v := undef) rfl (by kernel_rfl) (by kernel_rfl) (by kernel_rfl) (fun _ _ _ h => h) (Or.inr ⟨by rfl, rfl⟩) (by assumption) ?_
    simp only [Act.put, List.getElem_toArray, List.getElem_cons_zero, List.getElem_cons_succ, List.setIfInBounds_toArray, List.set_cons_zero, List.set_cons_succ]
    refine wpAnyH_take (i := 10) (v := undef) rfl (by kernel_rfl) (by kernel_rfl) (by kernel_rfl) (fun _ _ _ h => h) (Or.inr ⟨by rfl, rfl⟩) (by assumption) ?_
    simp only [Act.put, List.getElem_toArray, List.getElem_cons_zero, List.getElem_cons_succ, List.setIfInBounds_toArray, List.set_cons_zero, List.set_cons_succ]
    refine wpAnyH_take (i := 11) (v := undef) rfl (by kernel_rfl) (by kernel_rfl) (by kernel_rfl) (fun _ _ _ h => h) (Or.inr ⟨by rfl, rfl⟩) (by assumption) ?_
    simp only [Act.put, List.getElem_toArray, List.getElem_cons_zero, List.getElem_cons_succ, List.setIfInBounds_toArray, List.set_cons_zero, List.set_cons_succ]
    refine wpAnyH_take (i := 12) (v := ?v57) rfl (by kernel_rfl) (by kernel_rfl) (by kernel_rfl) (fun _ _ _ h => h) (Or.inl ⟨by rfl, ?hy57⟩) (by assumption) ?rest57
    case hy57 => ((intro w hSw; (try dsimp only at hSw); (try simp only [List.getElem_toArray, List.getElem_cons_zero, List.getElem_cons_succ]); go_simp; first | done | (with_reducible rfl)))
    simp only [Act.put, List.getElem_toArray, List.getElem_cons_zero, List.getElem_cons_succ, List.setIfInBounds_toArray, List.set_cons_zero, List.set_cons_succ]
    refine wpAnyH_take (i := 13) (v := ?v58) rfl (by kernel_rfl) (by kernel_rfl) (by kernel_rfl) (fun _ _ _ h => h) (Or.inl ⟨by rfl, ?hy58⟩) (by assumption) ?rest58
    case hy58 => ((intro w hSw; (try dsimp only at hSw); (try simp only [List.getElem_toArray, List.getElem_cons_zero, List.getElem_cons_succ]); go_simp; first | done | (with_reducible rfl)))
    simp only [Act.put, List.getElem_toArray, List.getElem_cons_zero, List.getElem_cons_succ, List.setIfInBounds_toArray, List.set_cons_zero, List.set_cons_succ]
    refine wpAnyH_take (i := 14) (v := undef) rfl (by kernel_rfl) (by kernel_rfl) (by kernel_rfl) (fun _ _ _ h => h) (Or.inr ⟨by rfl, rfl⟩) (by assumption) ?_
    simp only [Act.put, List.getElem_toArray, List.getElem_cons_zero, List.getElem_cons_succ, List.setIfInBounds_toArray, List.set_cons_zero, List.set_cons_succ]
    refine wpAnyH_take (i := 15) (v := undef) rfl (by kernel_rfl) (by kernel_rfl) (by kernel_rfl) (fun _ _ _ h => h) (Or.inr ⟨by rfl, rfl⟩) (by assumption) ?_
    simp only [Act.put, List.getElem_toArray, List.getElem_cons_zero, List.getElem_cons_succ, List.setIfInBounds_toArray, List.set_cons_zero, List.set_cons_succ]
    refine wpAnyH_take (i := 16) (v := undef) rfl (by kernel_rfl) (by kernel_rfl) (by kernel_rfl) (fun _ _ _ h => h) (Or.inr ⟨by rfl, rfl⟩) (by assumption) ?_
    simp only [Act.put, List.getElem_toArray, List.getElem_cons_zero, List.getElem_cons_succ, List.setIfInBounds_toArray, List.set_cons_zero, List.set_cons_succ]
    refine wpAnyH_take (i := 17) (v := undef) rfl (by kernel_rfl) (by kernel_rfl) (by kernel_rfl) (fun _ _ _ h => h) (Or.inr ⟨by rfl, rfl⟩) (by assumption) ?_
    simp only [Act.put, List.getElem_toArray, List.getElem_cons_zero, List.getElem_cons_succ, List.setIfInBounds_toArray, List.set_cons_zero, List.set_cons_succ]
    refine wpAnyH_take (i := 18) (v := undef) rfl (by kernel_rfl) (by kernel_rfl) (by kernel_rfl) (fun _ _ _ h => h) (Or.inr ⟨by rfl, rfl⟩) (by assumption) ?_
    simp only [Act.put, List.getElem_toArray, List.getElem_cons_zero, List.getElem_cons_succ, List.setIfInBounds_toArray, List.set_cons_zero, List.set_cons_succ]
    refine wpAnyH_take (i := 19) (v := undef) rfl (by kernel_rfl) (by kernel_rfl) (by kernel_rfl) (fun _ _ _ h => h) (Or.inr ⟨by rfl, rfl⟩) (by assumption) ?_
    simp only [Act.put, List.getElem_toArray, List.getElem_cons_zero, List.getElem_cons_succ, List.setIfInBounds_toArray, List.set_cons_zero, List.set_cons_succ]
    refine wpAnyH_take (i := 20) (v := ?v59) rfl (by kernel_rfl) (by kernel_rfl) (by kernel_rfl) (fun _ _ _ h => h) (Or.inl ⟨by rfl, ?hy59⟩) (by assumption) ?rest59
    case hy59 => ((intro w hSw; (try dsimp only at hSw); (try simp only [List.getElem_toArray, List.getElem_cons_zero, List.getElem_cons_succ]); go_simp; first | done | (with_reducible rfl)))
    simp only [Act.put, List.getElem_toArray, List.getElem_cons_zero, List.getElem_cons_succ, List.setIfInBounds_toArray, List.set_cons_zero, List.set_cons_succ]
    refine wpAnyH_take (i := 21) (v := ?v60) rfl (by kernel_rfl) (by kernel_rfl) (by kernel_rfl) (fun _ _ _ h => h) (Or.inl ⟨by rfl, ?hy60⟩) (by assumption) ?rest60
    case hy60 => ((intro w hSw; (try dsimp only at hSw); (try simp only [List.getElem_toArray, List.getElem_cons_zero, List.getElem_cons_succ]); go_simp; first | done | (with_reducible rfl)))
    simp only [Act.put, List.getElem_toArray, List.getElem_cons_zero, List.getElem_cons_succ, List.setIfInBounds_toArray, List.set_cons_zero, List.set_cons_succ]
    refine wpAnyH_take (i := 22) (v := undef) rfl (by kernel_rfl) (by kernel_rfl) (by kernel_rfl) (fun _ _ _ h => h) (Or.inr ⟨by rfl, rfl⟩) (by assumption) ?_
    simp only [Act.put, List.getElem_toArray, List.getElem_cons_zero, List.getElem_cons_succ, List.setIfInBounds_toArray, List.set_cons_zero, List.set_cons_succ]
    refine wpAnyH_take (i := 23) (v := undef) rfl (by kernel_rfl) (by kernel_rfl) (by kernel_rfl) (fun _ _ _ h => h) (Or.inr ⟨by rfl, rfl⟩) (by assumption) ?_
    simp only [Act.put, List.getElem_toArray, List.getElem_cons_zero, List.getElem_cons_succ, List.setIfInBounds_toArray, List.set_cons_zero, List.set_cons_succ]
    refine wpAnyH_take (i := 24) (v := undef) rfl (by kernel_rfl) (by kernel_rfl) (by kernel_rfl) (fun _ _ _ h => h) (Or.inr ⟨by rfl, rfl⟩) (by assumption) ?_
    simp only [Act.put, List.getElem_toArray, List.getElem_cons_zero, List.getElem_cons_succ, List.setIfInBounds_toArray, List.set_cons_zero, List.set_cons_succ]
    refine wpAnyH_take (i := 25) (v := ?v61) rfl (by kernel_rfl) (by kernel_rfl) (by kernel_rfl) (fun _ _ _ h => h) (Or.inl ⟨by rfl, ?hy61⟩) (by assumption) ?rest61
    case hy61 => ((intro w hSw; (try dsimp only at hSw); (try simp only [List.getElem_toArray, List.getElem_cons_zero, List.getElem_cons_succ]); go_simp; first | done | (with_reducible rfl)))
    simp only [Act.put, List.getElem_toArray, List.getElem_cons_zero, List.getElem_cons_succ, List.setIfInBounds_toArray, List.set_cons_zero, List.set_cons_succ]
    refine wpAnyH_done (by kernel_rfl) ?_ _
    refine NoPanic.normal ?_
    clear hHeld
    go_wp2_with (first
      | (refine wpList_built34z rfl _ rfl rfl ?_)
      | (refine wpList_store_row rfl 34 (.tmp 2) (.tmp 37) rfl w.heap.size _ rfl rfl _ _ (bKeeps dV R5.out) infoWd (show (26 : Nat) = 26 from rfl) (all_of_list rfl) ?_))
    refine bodyPost_ret (v := .tuple #[.agg #[.int .i64 0, .int .i64 0, .int .i64 0, .int .i64 0, .int .i64 0, .int .i64 0, .int .i64 0, .int .i64 0, .int .i64 0, .int .i64 0, .int .i64 0, .int .i64 0, .int .i64 0, .int .i64 0, .int .i64 0, .int .i64 0, .int .i64 0, .int .i64 0, .int .i64 0, .int .i64 0, .int .i64 0, .int .i64 0, .int .i64 0, .int .i64 0, .slice none 0 0, .slice none 0 0], .bool false]) (results_row_tmp Try.results20 _ _ w.heap.size _ _ (0, 0) _ _ rfl rfl (setRow_heap _ _ _ _ _ _ (bKeeps dV R5.out)) Try.underlying34 rfl infoWd) rfl ?_
    exact ⟨_, false, rfl, FF.out⟩

end Go.Proofs.Ytafojnjpllpjjaa

/- What the laws' own helpers do with bytes: contracts; no statement of the seat is proved here. -/
namespace Go.Proofs.Ytafojnjpllpjjaa
open Go.RowKit

theorem byts_at {bs : List Nat} {k b : Nat} (h : bs[k]? = some b) : (byts bs)[k]? = some (.int .u8 (b : Int)) := by simp [byts, h]

set_option maxRecDepth 100000 in
set_option maxHeartbeats 2000000 in
theorem eqByteS_true (va vb : Value) (n : Nat) (bs : List Nat) (w : World) (ha : RowR w 1 va n (byts bs)) (hb : RowR w 1 vb n (byts bs)) :
    Calls Try.prog 16 #[va, vb] w fun e w' => e = .returned (.bool true) ∧ Below w.heap.size w w' := by
  obtain ⟨ao, ca, rfl, hn, hl, ha⟩ := ha
  obtain ⟨bo, cb, rfl, _, _, hb⟩ := hb
  rw [byts_len] at hl
  have HL := hide hl
  have HA := hide ha
  have HB := hide hb
  clear hl ha hb
  go_enter Try.func16, Try.ntmps16
  go_wp2
  go_loopw [5] (fun i wr => ∃ k : Nat, k ≤ n ∧ i = .int .i64 k ∧ Below w.heap.size w wr) (fun i _ => n - (intOf i).toNat)
  case atStart => exact ⟨0, Nat.zero_le _, rfl, Below.refl _ _⟩
  case round =>
    obtain ⟨k, hk, rfl, hbel⟩ := hrel
    by_cases hlt : k < n
    · obtain ⟨b1, o1, rfl, hc1⟩ := HA.out (by omega)
      obtain ⟨b2, o2, rfl, hc2⟩ := HB.out (by omega)
      obtain ⟨x, hx⟩ := getAt bs k (by have := HL.out; omega)
      have g1 := hc1 k _ (byts_at hx)
      have g2 := hc2 k _ (byts_at hx)
      have f1 : wr.cell? ⟨b1, o1 + k, none⟩ = some (.int .u8 (x : Int)) := (hbel.cell (p := ⟨b1, o1 + k, none⟩) (World.block_lt_of_cell? w _ g1)).trans g1
      have f2 : wr.cell? ⟨b2, o2 + k, none⟩ = some (.int .u8 (x : Int)) := (hbel.cell (p := ⟨b2, o2 + k, none⟩) (World.block_lt_of_cell? w _ g2)).trans g2
      have hi : (k : Int) < (n : Int) := by omega
      have F1 := hide f1
      have F2 := hide f2
      clear hc1 hc2 hx g1 g2 f1 f2
      go_wp2
      refine wp_region_noPanic ?_
      refine wp_region_held_drew (S := (fun w' => w'.cell? ⟨b1, o1 + k, none⟩ = some (.int .u8 (x : Int)) ∧ w'.cell? ⟨b2, o2 + k, none⟩ = some (.int .u8 (x : Int)))) (by kernel_rfl) ?_ (fun hHeld => ?_)
      · exact ⟨F1.out, F2.out⟩
      refine wpAnyH_take (i := 0) (v := ?v1) rfl (by kernel_rfl) (by kernel_rfl) (by kernel_rfl) (fun _ _ _ h => h) (Or.inl ⟨by rfl, ?hy1⟩) (by assumption) ?rest1
      case hy1 => ((intro w hSw; (try dsimp only at hSw); (try simp only [List.getElem_toArray, List.getElem_cons_zero]); go_simp; first | done | (with_reducible rfl)))
      simp only [Act.put, List.getElem_toArray, List.getElem_cons_zero, List.setIfInBounds_toArray, List.set_cons_zero, List.set_cons_succ]
      refine wpAnyH_take (i := 1) (v := ?v2) rfl (by kernel_rfl) (by kernel_rfl) (by kernel_rfl) (fun _ _ _ h => h) (Or.inl ⟨by rfl, ?hy2⟩) (by assumption) ?rest2
      case hy2 => ((intro w hSw; (try dsimp only at hSw); (try simp only [List.getElem_toArray, List.getElem_cons_zero, List.getElem_cons_succ]); go_simp; first | done | (with_reducible rfl)))
      simp only [Act.put, List.getElem_toArray, List.getElem_cons_zero, List.getElem_cons_succ, List.setIfInBounds_toArray, List.set_cons_zero, List.set_cons_succ]
      refine wpAnyH_take (i := 2) (v := ?v3) rfl (by kernel_rfl) (by kernel_rfl) (by kernel_rfl) (fun _ _ _ h => h) (Or.inl ⟨by rfl, ?hy3⟩) (by assumption) ?rest3
      case hy3 => ((intro w hSw; (try dsimp only at hSw); (try simp only [List.getElem_toArray, List.getElem_cons_zero, List.getElem_cons_succ]); go_simp; first | done | (with_reducible rfl)))
      simp only [Act.put, List.getElem_toArray, List.getElem_cons_zero, List.getElem_cons_succ, List.setIfInBounds_toArray, List.set_cons_zero, List.set_cons_succ]
      refine wpAnyH_take (i := 3) (v := ?v4) rfl (by kernel_rfl) (by kernel_rfl) (by kernel_rfl) (fun _ _ _ h => h) (Or.inl ⟨by rfl, ?hy4⟩) (by assumption) ?rest4
      case hy4 => ((intro w hSw; (try dsimp only at hSw); (try simp only [List.getElem_toArray, List.getElem_cons_zero, List.getElem_cons_succ]); go_simp; first | done | (with_reducible rfl)))
      simp only [Act.put, List.getElem_toArray, List.getElem_cons_zero, List.getElem_cons_succ, List.setIfInBounds_toArray, List.set_cons_zero, List.set_cons_succ]
      refine wpAnyH_take (i := 4) (v := ?v5) rfl (by kernel_rfl) (by kernel_rfl) (by kernel_rfl) (fun _ _ _ h => h) (Or.inl ⟨by rfl, ?hy5⟩) (by assumption) ?rest5
      case hy5 => ((intro w hSw; (try dsimp only at hSw); (try simp only [List.getElem_toArray, List.getElem_cons_zero, List.getElem_cons_succ]); go_simp; first | done | (with_reducible rfl)))
      simp only [Act.put, List.getElem_toArray, List.getElem_cons_zero, List.getElem_cons_succ, List.setIfInBounds_toArray, List.set_cons_zero, List.set_cons_succ]
      refine wpAnyH_take (i := 5) (v := ?v6) rfl (by kernel_rfl) (by kernel_rfl) (by kernel_rfl) (fun _ _ _ h => h) (Or.inl ⟨by rfl, ?hy6⟩) (by assumption) ?rest6
      case hy6 => ((intro w hSw; (try dsimp only at hSw); (try simp only [List.getElem_toArray, List.getElem_cons_zero, List.getElem_cons_succ]); go_simp; first | done | (with_reducible rfl)))
      simp only [Act.put, List.getElem_toArray, List.getElem_cons_zero, List.getElem_cons_succ, List.setIfInBounds_toArray, List.set_cons_zero, List.set_cons_succ]
      refine wpAnyH_take (i := 6) (v := ?v7) rfl (by kernel_rfl) (by kernel_rfl) (by kernel_rfl) (fun _ _ _ h => h) (Or.inl ⟨by rfl, ?hy7⟩) (by assumption) ?rest7
      case hy7 => ((intro w hSw; (try dsimp only at hSw); (try simp only [List.getElem_toArray, List.getElem_cons_zero, List.getElem_cons_succ]); go_simp; first | done | (with_reducible rfl)))
      simp only [Act.put, List.getElem_toArray, List.getElem_cons_zero, List.getElem_cons_succ, List.setIfInBounds_toArray, List.set_cons_zero, List.set_cons_succ]
      refine wpAnyH_take (i := 7) (v := ?v8) rfl (by kernel_rfl) (by kernel_rfl) (by kernel_rfl) (fun _ _ _ h => h) (Or.inl ⟨by rfl, ?hy8⟩) (by assumption) ?rest8
      case hy8 => ((intro w hSw; (try dsimp only at hSw); (try simp only [List.getElem_toArray, List.getElem_cons_zero, List.getElem_cons_succ]); go_simp; first | done | (with_reducible rfl)))
      simp only [Act.put, List.getElem_toArray, List.getElem_cons_zero, List.getElem_cons_succ, List.setIfInBounds_toArray, List.set_cons_zero, List.set_cons_succ]
      refine wpAnyH_take (i := 8) (v := ?v9) rfl (by kernel_rfl) (by kernel_rfl) (by kernel_rfl) (fun _ _ _ h => h) (Or.inl ⟨by rfl, ?hy9⟩) (by assumption) ?rest9
      case hy9 => ((intro w hSw; (try dsimp only at hSw); (try simp only [List.getElem_toArray, List.getElem_cons_zero, List.getElem_cons_succ]); go_simp; first | done | (with_reducible rfl)))
      simp only [Act.put, List.getElem_toArray, List.getElem_cons_zero, List.getElem_cons_succ, List.setIfInBounds_toArray, List.set_cons_zero, List.set_cons_succ]
      refine wpAnyH_done (by kernel_rfl) ?_ _
      refine NoPanic.normal ?_
      clear hHeld
      go_wp2
      go_roundw
      case rel => exact ⟨k + 1, by omega, by go_num, bDrewB hbel⟩
      case measure => simp [intOf]; omega
    · have hge : ¬ (k : Int) < (n : Int) := by omega
      go_wp2
      go_ret
      exact ⟨rfl, hbel⟩

/-- The marks of n bytes from k on. -/
def mkB (k n : Nat) : List Nat := (List.range n).map fun i => (k + i) % 256
theorem mkB_len (k n : Nat) : (mkB k n).length = n := by simp [mkB]
theorem mkB_get (k n i : Nat) (h : i < n) : (mkB k n)[i]? = some ((k + i) % 256) := by simp [mkB, h]

set_option maxRecDepth 100000 in
set_option maxHeartbeats 2000000 in
theorem markByteS_any (S : Nat → Prop) (v : Value) (n : Nat) (cs : List Value) (k0 : Nat) (w : World) (hr : Row w 5 1 S v n cs) (h1 : 1 ≤ k0) (h2 : k0 + n ≤ 1099511627776) :
    Calls Try.prog 18 #[v, .int .i64 k0] w fun e w' => e = .returned (.int .i64 (k0 + n : Nat)) ∧ Row w' 5 1 S v n (byts (mkB k0 n)) ∧ Upd S w w' := by
  obtain ⟨ao, cap, rfl, hn, hl, hr⟩ := hr
  rcases Nat.eq_zero_or_pos n with rfl | hpos
  · go_enter Try.func18, Try.ntmps18
    go_wp2
    refine wp_loop_rounds 1 ?_
    rw [rounds_succ]
    go_wp2
    go_ret
    exact ⟨rfl, ⟨ao, cap, rfl, hn, by simp [mkB, byts], fun h => by omega⟩, Upd.refl _ _⟩
  · obtain ⟨g, cur, rfl, hS, hg, ht⟩ := hr hpos
    have hcs : n ≤ cur.size := by
      have := congrArg List.length ht
      simp [hl] at this
      omega
    clear hr ht hl
    go_enter Try.func18, Try.ntmps18
    go_wp2
    go_loopw [1, 5] (fun kv i wr => ∃ (k m : Nat) (cur' : Array Value), k ≤ n ∧ m = k0 + k ∧ i = .int .i64 k ∧ kv = .int .i64 (m : Nat) ∧ wr.heap[g]? = some (.cells cur' 5 (0, 0)) ∧ cur'.size = cur.size ∧ (∀ j, j < k → cur'[j]? = some (.int .u8 (((k0 + j) % 256 : Nat) : Int))) ∧ Upd S w wr) (fun _ i _ => n - (intOf i).toNat)
    case atStart => exact ⟨0, k0, cur, Nat.zero_le _, rfl, rfl, rfl, hg, rfl, fun j hj => by omega, Upd.refl _ _⟩
    case round =>
      obtain ⟨k, m, cur', hk, hm, rfl, rfl, hgr, hsz, hmk, hup⟩ := hrel
      have Hm := hide hm
      have hm2 : (m : Int) ≤ 1099511627776 := by omega
      have HM := hide hmk
      have HZ := hide hsz
      have hsz' : n ≤ cur'.size := by omega
      clear hmk hsz hm
      by_cases hlt : k < n
      · have hi : (k : Int) < (n : Int) := by omega
        obtain ⟨u, hu⟩ : ∃ u, cur'[k]? = some u := ⟨cur'[k]'(by omega), by simp [show k < cur'.size by omega]⟩
        have hcw : wr.cell? ⟨g, k, none⟩ = some u := (cell_of_row wr _ _ cur' _ (0, 0) hgr).trans hu
        have hfw : wr.frozen? ⟨g, k, none⟩ = false := frozen_of_row wr _ _ cur' _ hgr
        have Hg := hide hgr
        have hkc : k < cur'.size := by omega
        clear hgr hu
        go_wp2
        go_roundw
        case rel =>
          refine ⟨k + 1, m + 1, _, by omega, by rw [Hm.out]; omega, by go_num, by go_num, row_set _ Hg.out, by simpa using HZ.out, fun j hj => ?_, hup.trans (Upd.setCell _ _ _ _ hS)⟩
          by_cases hjk : j = k
          · subst hjk
            rw [Array.getElem?_setIfInBounds_self_of_lt hkc, ← Hm.out]
            first
              | rfl
              | (congr 1; simp)
              | (congr 2; omega)
          · rw [Array.getElem?_setIfInBounds_ne (by omega)]
            exact HM.out j (by omega)
        case measure => simp [intOf]; omega
      · have hge : ¬ (k : Int) < (n : Int) := by omega
        obtain rfl : k = n := by omega
        have Hg := hide hgr
        clear hgr
        go_wp2
        go_ret
        refine ⟨by rw [Hm.out]; rfl, ⟨_, cap, rfl, hn, by rw [byts_len, mkB_len, Nat.mul_one], fun _ => ⟨g, cur', rfl, hS, Hg.out, ?_⟩⟩, hup⟩
        apply List.ext_getElem?
        intro j
        by_cases hj : j < k
        · rw [List.getElem?_take_of_lt (by omega), Array.getElem?_toList, HM.out j hj, byts_at (mkB_get k0 k j hj)]
        · rw [List.getElem?_eq_none (by simp; omega), List.getElem?_eq_none (by rw [byts_len, mkB_len]; omega)]

set_option maxRecDepth 100000 in
set_option maxHeartbeats 2000000 in
theorem heldByteS_ok (v : Value) (n k0 : Nat) (w : World) (hr : RowR w 1 v n (byts (mkB k0 n))) (h1 : 1 ≤ k0) (h2 : k0 + n ≤ 1099511627776) :
    Calls Try.prog 19 #[v, .int .i64 k0] w fun e w' => e = .returned (.int .i64 (k0 + n : Nat)) ∧ Below w.heap.size w w' := by
  obtain ⟨ao, cap, rfl, hn, hl, hr⟩ := hr
  have HR := hide hr
  clear hl hr
  go_enter Try.func19, Try.ntmps19
  go_wp2
  go_loopw [1, 5] (fun kv i wr => ∃ k m : Nat, k ≤ n ∧ m = k0 + k ∧ i = .int .i64 k ∧ kv = .int .i64 (m : Nat) ∧ Below w.heap.size w wr) (fun _ i _ => n - (intOf i).toNat)
  case atStart => exact ⟨0, k0, Nat.zero_le _, rfl, rfl, rfl, Below.refl _ _⟩
  case round =>
    obtain ⟨k, m, hk, hm, rfl, rfl, hbel⟩ := hrel
    have Hm : Hid (m = k0 + k) := hm
    have hm2 : (m : Int) ≤ 1099511627776 := by omega
    clear hm
    by_cases hlt : k < n
    · obtain ⟨b1, o1, rfl, hc1⟩ := HR.out (by omega)
      have g1 := hc1 k _ (byts_at (mkB_get k0 n k hlt))
      have f1 : wr.cell? ⟨b1, o1 + k, none⟩ = some (.int .u8 (((k0 + k) % 256 : Nat) : Int)) := (hbel.cell (p := ⟨b1, o1 + k, none⟩) (World.block_lt_of_cell? w _ g1)).trans g1
      rw [← Hm.out] at f1
      have f2 : wr.cell? ⟨b1, o1 + k, none⟩ = some (.int .u8 ((m : Int) % 256)) := by simpa using f1
      have hi : (k : Int) < (n : Int) := by omega
      clear hc1 g1 f1
      go_wp2
      go_roundw
      case rel => exact ⟨k + 1, m + 1, by omega, by rw [Hm.out]; omega, by go_num, by go_num, hbel⟩
      case measure => simp [intOf]; omega
    · have hge : ¬ (k : Int) < (n : Int) := by omega
      go_wp2
      go_ret
      obtain rfl : k = n := by omega
      exact ⟨by rw [Hm.out]; rfl, hbel⟩

end Go.Proofs.Ytafojnjpllpjjaa

/- What the laws' own helper does with bytes: a contract; no statement of the seat is proved here. -/
namespace Go.Proofs.Ytafojnjpllpjjaa
open Go.RowKit

set_option maxHeartbeats 1000000 in
theorem toByteS_any (v : Value) (n : Nat) (bs : List Nat) (w : World) (hr : RowR w 1 v n (byts bs)) (hn : n ≤ 1048576) :
    Calls Try.prog 21 #[v] w fun e w' => e = .returned (.slice (some ⟨w.heap.size, 0, none⟩) n n) ∧ Row w' 5 1 (fun k => k = w.heap.size) (.slice (some ⟨w.heap.size, 0, none⟩) n n) n (byts bs) ∧ Below w.heap.size w w' ∧ w.heap.size < w'.heap.size := by
  obtain ⟨ao, cap, rfl, hn', hl, hr⟩ := hr
  rw [byts_len, Nat.mul_one] at hl
  have Hl := hide hl
  clear hl
  have hmk := run_make_row' (P := Try.prog) 38 5 (.int .u8 0) 1 Try.underlying38 infoU8 rfl .i64 .i64 n (by omega) (by omega)
  go_enter Try.func21, Try.ntmps21
  go_wp2
  clear hmk
  go_loopw [4] (fun i wr => ∃ (k : Nat) (cur : Array Value), k ≤ n ∧ i = .int .i64 k ∧ wr.heap[w.heap.size]? = some (.cells cur 5 (0, 0)) ∧ cur.size = n ∧ (∀ j s, j < k → bs[j]? = some s → cur[j]? = some (.int .u8 (s : Nat))) ∧ Below w.heap.size w wr) (fun i _ => n - (intOf i).toNat)
  case atStart => exact ⟨0, _, Nat.zero_le _, rfl, heap_alloc_new w _, size_madeCells _ _, fun j s hj => by omega, (Below.refl _ _).alloc (Nat.le_refl _) _⟩
  case round =>
    obtain ⟨k, cur, hk, rfl, hg, hcs, hmk, hbel⟩ := hrel
    have HM := hide hmk
    have HC := hide hcs
    have hcs' : n ≤ cur.size := by omega
    clear hmk hcs
    by_cases hlt : k < n
    · obtain ⟨b1, o1, rfl, hc1⟩ := hr (by omega)
      obtain ⟨s, hs⟩ := getAt bs k (by have := Hl.out; omega)
      have Hs := hide hs
      have g1 := hc1 k (.int .u8 (s : Int)) (by simp [byts, hs])
      have f1 : wr.cell? ⟨b1, o1 + k, none⟩ = some (.int .u8 (s : Int)) := (hbel.cell (p := ⟨b1, o1 + k, none⟩) (World.block_lt_of_cell? w _ g1)).trans g1
      have hi : (k : Int) < (n : Int) := by omega
      obtain ⟨u, hu⟩ : ∃ u, cur[k]? = some u := ⟨cur[k]'(by omega), by simp [show k < cur.size by omega]⟩
      have hcw : wr.cell? ⟨w.heap.size, k, none⟩ = some u := (cell_of_row wr _ k cur _ (0, 0) hg).trans hu
      have hfw : wr.frozen? ⟨w.heap.size, k, none⟩ = false := frozen_of_row wr _ k cur _ hg
      have Hg := hide hg
      clear hr hc1 g1 hs hg
      go_wp2
      go_roundw
      case rel =>
        refine ⟨k + 1, _, by omega, by go_num, row_set _ Hg.out, by simpa using HC.out, fun j t hj ht => ?_, hbel.setCell (p := ⟨w.heap.size, k, none⟩) (Nat.le_refl _) _⟩
        by_cases hjk : j = k
        · subst hjk
          rw [Hs.out] at ht
          rw [Array.getElem?_setIfInBounds_self_of_lt (by omega)]
          rw [Option.some.inj ht]
        · rw [Array.getElem?_setIfInBounds_ne (by omega)]
          exact HM.out j t (by omega) ht
      case measure => simp [intOf]; omega
    · go_wp2
      go_ret
      obtain rfl : k = n := by omega
      refine ⟨rfl, ⟨_, _, rfl, hn', by simp [byts, Hl.out], fun _ => ⟨_, cur, rfl, rfl, hg, ?_⟩⟩, hbel, heap_lt hg⟩
      apply List.ext_getElem?
      intro j
      have hl := Hl.out
      by_cases hj : j < k
      · rw [List.getElem?_take_of_lt (by omega)]
        obtain ⟨s, hs⟩ := getAt bs j (by omega)
        simpa [byts, hs] using HM.out j s hj hs
      · rw [List.getElem?_eq_none (by simp; omega), List.getElem?_eq_none (by simp [byts]; omega)]

end Go.Proofs.Ytafojnjpllpjjaa

/- What the law FnExactWordPack does: its walk; the statement itself is proved elsewhere. -/
namespace Go.Proofs.Ytafojnjpllpjjaa
open Go.RowKit

theorem Row.inside {w : World} {e : TypeId} {size : Nat} {S : Nat → Prop} {v : Value} {n : Nat} {cs : List Value} (h : Row w e size S v n cs) : Row w e size (fun k => S k ∧ k < w.heap.size) v n cs := by
  obtain ⟨ao, cap, rfl, hn, hl, h⟩ := h
  refine ⟨ao, cap, rfl, hn, hl, fun hp => ?_⟩
  obtain ⟨g, cur, e, hS, hg, ht⟩ := h hp
  exact ⟨g, cur, e, ⟨hS, heap_lt hg⟩, hg, ht⟩
theorem WdO.inside {w : World} {S : Nat → Prop} {v : Value} {x : Wd} (h : WdO w S v x) : WdO w (fun k => S k ∧ k < w.heap.size) v x := by
  obtain ⟨po, pc, lo, lc, e, h1, h2⟩ := h
  exact ⟨po, pc, lo, lc, e, h1.inside, h2.inside⟩

set_option maxRecDepth 100000 in
set_option maxHeartbeats 8000000 in
theorem wordPack_walk (v : Value) (x : Wd) (w : World) (h : WdR w v x) :
    Calls Try.prog 4 #[v] w fun e w' => e = .returned (.bool true) ∧ Below w.heap.size w w' := by
  obtain ⟨pk, hpk⟩ : ∃ pk, packW x = pk := ⟨_, rfl⟩
  have hpl : pk.length ≤ 822 := by rw [← hpk]; exact (packW_len x).2
  have HPK := hide hpk
  clear hpk
  obtain ⟨cs, rfl, hs, h1⟩ := h.agg
  have HX := hide h
  have HI := hide (infoAt infoLw hs)
  clear h hs h1
  have hb0 := bal (Below.refl w.heap.size w) (.cells cs 27)
  have B0 := hide (heap_alloc_new w (.cells cs 27))
  go_enter Try.func4, Try.ntmps4
  go_wp2_with (refine wpList_load_row rfl 27 (.tmp 1) rfl w.heap.size rfl _ cs (0, 0) _ B0.out Try.underlying27 rfl HI.out ?_)
  refine (szWord_at _ x _ _ HX.out).mono ?_
  rintro e w1 ⟨r, rfl, hz, b1⟩
  rcases hz with hneg | ⟨hr, hp, hl⟩
  · go_wp2
    go_ret
    exact ⟨rfl, bAll hb0 b1⟩
  have c1 := bAll hb0 b1
  have B1 := hide (bKeeps b1 B0.out)
  clear hb0 b1 B0
  go_wp2_with (refine wpList_load_row rfl 27 (.tmp 1) rfl w.heap.size rfl _ cs (0, 0) _ B1.out Try.underlying27 rfl HI.out ?_)
  refine (toWord_any _ x _ (HX.out.keep c1) hp hl).mono ?_
  rintro e w2 ⟨v2, rfl, r2, b2⟩
  have c2 := bAll c1 b2
  have B2 := hide (bKeeps b2 B1.out)
  have SC := hide (specWordPack_any v2 x w2 r2.reads)
  rw [HPK.out] at SC
  clear r2 b2 B1 c1
  go_wp2_with fail
  refine SC.out.mono ?_
  rintro e w3 ⟨vo3, co3, rfl, r3, b3⟩
  have c3 := bAll c2 b3
  have B3 := hide (bKeeps b3 B2.out)
  have R3 := hide (r3.row (by omega)).inside
  have z2 := c2.size
  have z3 := b3.size
  have l0 : w.heap.size < w2.heap.size := heap_lt B2.out
  clear SC b3 B2 r3 c2
  go_wp2_with (refine wpList_load_row rfl 27 (.tmp 1) rfl w.heap.size rfl _ cs (0, 0) _ B3.out Try.underlying27 rfl HI.out ?_)
  refine (toWord_any _ x _ (HX.out.keep c3) hp hl).mono ?_
  rintro e w4 ⟨v4, rfl, r4, b4⟩
  have c4 := bAll c3 b4
  obtain ⟨ds, rfl, hds, hd1⟩ := r4.reads.agg
  have al5 := bal (Below.refl w4.heap.size w4) (.cells ds 34)
  have K5 := hide (r4.inside.keepB al5)
  have HI2 := hide (infoAt infoWd hds)
  have HZ2 := hide (zero26.trans hds.symm)
  have H12 := hide hd1
  have c5 := bal c4 (.cells ds 34)
  have E0 := hide (heap_up (.cells ds 34) (bKeeps b4 B3.out))
  have E1 := hide (heap_alloc_new w4 (.cells ds 34))
  have IC := hide (implWordPack_any _ x _ K5.out.reads)
  rw [HPK.out] at IC
  have R5 := hide (R3.out.keepB (bAll b4 al5))
  have z4 := b4.size
  clear r4 b4 B3 hds hd1 c4 R3 c3 al5
  go_wp2_with (first
    | (refine wpList_store_row rfl 34 (.tmp 5) (.tmp 20) rfl w4.heap.size ds rfl rfl _ _ (heap_alloc_new w4 _) HI2.out HZ2.out H12.out ?_; rw [World.setRow_alloc_new])
    | (refine wpList_load_row rfl 34 (.tmp 5) rfl w4.heap.size rfl _ ds (0, 0) _ E1.out Try.underlying34 rfl HI2.out ?_))
  refine IC.out.mono ?_
  rintro e w6 ⟨vo6, co6, rfl, r6, b6⟩
  have c6 := bAll c5 b6
  have F0 := hide (bKeeps b6 E0.out)
  have F1 := hide (bKeeps b6 E1.out)
  have K6 := hide (K5.out.keepB b6)
  have R6 := hide (R5.out.keepB b6)
  have G6 := hide (r6.row (by omega)).inside
  have z6 := b6.size
  simp only [World.size_alloc] at z6
  clear IC E0 E1 K5 R5 c5 b6 r6
  go_wp2_with fail
  refine (eqByteS_true _ _ pk.length pk _ G6.out.reads R6.out.reads).mono ?_
  rintro e w7 ⟨rfl, b7⟩
  have c7 := bAll c6 b7
  have F07 := hide (bKeeps b7 F0.out)
  have F17 := hide (bKeeps b7 F1.out)
  have K7 := hide (K6.out.keepB b7)
  have R7 := hide (R6.out.keepB b7)
  have G7 := hide (G6.out.keepB b7)
  have z7 := b7.size
  clear F0 F1 K6 R6 G6 b7 c6
  go_wp2_with fail
  refine wp_region_noPanic ?_
  refine wp_region_held_drew (S := (fun w' => w'.heap[w.heap.size]? = some (.cells cs 27 (0, 0)) ∧ w'.heap[w4.heap.size]? = some (.cells ds 34 (0, 0)))) (by kernel_rfl) ?_ (fun hHeld => ?_)
  · exact ⟨F07.out, F17.out⟩
  refine wpAnyH_take (i := 0) (v := .agg ds) rfl (by kernel_rfl) (by kernel_rfl) (by kernel_rfl) (fun _ _ _ h => h) (yields_row rfl 34 (.tmp 5) rfl (w4.heap.size) rfl _ ds _ (fun _ h => h.2) Try.underlying34 rfl HI2.out) (by assumption) ?_
  simp only [Act.put, List.getElem_toArray, List.getElem_cons_zero, List.setIfInBounds_toArray, List.set_cons_zero, List.set_cons_succ]
  refine wpAnyH_take (i := 1) (v := .agg cs) rfl (by kernel_rfl) (by kernel_rfl) (by kernel_rfl) (fun _ _ _ h => h) (yields_row rfl 27 (.tmp 1) rfl (w.heap.size) rfl _ cs _ (fun _ h => h.1) Try.underlying27 rfl HI.out) (by assumption) ?_
  simp only [Act.put, List.getElem_toArray, List.getElem_cons_zero, List.getElem_cons_succ, List.setIfInBounds_toArray, List.set_cons_zero, List.set_cons_succ]
  refine wpAnyH_ready (rs := [2]) (by kernel_rfl) (by simp) ?_
  refine AllReadyH.cons rfl (fun K hK => ?_) AllReadyH.nil
  go_simp
  (go_at_call 11; refine (toWord_any _ x _ (HX.out.keep (bDrewB c7)) hp hl).mono ?_; rintro e w8 ⟨v8, rfl, r8, b8⟩; have b8' : Below w7.heap.size w7 w8 := bUndrew b8)
  refine hK.out _ _ ?_ (fun hHeld => ?_)
  · exact ⟨bKeeps b8 F07.out, bKeeps b8 F17.out⟩
  clear hK K
  refine wpAnyH_ready (rs := [3]) (by kernel_rfl) (by simp) ?_
  refine AllReadyH.cons rfl (fun K hK => ?_) AllReadyH.nil
  go_simp
  (go_at_call 13; refine (eqWord_true _ _ x _ (K7.out.reads.keep b8') r8.reads).mono ?_; rintro e w9 ⟨rfl, b9⟩)
  refine hK.out _ _ ?_ (fun hHeld => ?_)
  · exact ⟨bKeeps b9 (bKeeps b8 F07.out), bKeeps b9 (bKeeps b8 F17.out)⟩
  clear hK K
  refine wpAnyH_take (i := 4) (v := ?v1) rfl (by kernel_rfl) (by kernel_rfl) (by kernel_rfl) (fun _ _ _ h => h) (Or.inl ⟨by rfl, ?hy1⟩) (by assumption) ?rest1
  case hy1 => ((intro w hSw; (try dsimp only at hSw); (try simp only [List.getElem_toArray, List.getElem_cons_zero, List.getElem_cons_succ]); go_simp; first | done | (with_reducible rfl)))
  simp only [Act.put, List.getElem_toArray, List.getElem_cons_zero, List.getElem_cons_succ, List.setIfInBounds_toArray, List.set_cons_zero, List.set_cons_succ]
  refine wpAnyH_done (by kernel_rfl) ?_ _
  refine NoPanic.normal ?_
  clear hHeld
  have b79 := bAll b8' b9
  have c9 := bAll c7 b79
  have F09 := hide (bKeeps b79 F07.out)
  have F19 := hide (bKeeps b79 F17.out)
  have K9 := hide (K7.out.keepB b79)
  have R9 := hide (R7.out.keepB b79)
  have G9 := hide (G7.out.keepB b79)
  have z9 := b79.size
  clear F07 F17 K7 R7 G7 b8 b8' b9 r8 c7 b79
  go_wp2_with (refine wpList_load_row rfl 34 (.tmp 5) rfl w4.heap.size rfl _ ds (0, 0) _ F19.out Try.underlying34 rfl HI2.out ?_)
  refine (markWord_any _ _ x 1 _ K9.out (by omega) (by omega)).mono ?_
  rintro e w10 ⟨rfl, k10, u10⟩
  have c10 := c9.trans (u10.below c9.size (fun k h => by have := h.1; omega))
  have F10 := hide (u10.keeps F09.out (fun h => by have := h.1; omega))
  have R10 := hide (R9.out.keep u10 (fun k h1 h2 => by have := h1.2; have := h2.1; omega))
  have G10 := hide (G9.out.keep u10 (fun k h1 h2 => by have h3 := h1.1; have h4 := h2.2; simp only [World.size_alloc] at h3; omega))
  have z10 := u10.size
  obtain ⟨M, hM⟩ : ∃ M : Nat, M = 1 + x.ps.length * 4 + x.ls.length * 2 := ⟨_, rfl⟩
  rw [← hM]
  have hMn : ¬ (M : Int) < 0 := by omega
  clear F09 F19 K9 R9 G9 k10 u10 c9 hM
  go_wp2_with fail
  refine (eqByteS_true _ _ pk.length pk _ G10.out.reads R10.out.reads).mono ?_
  rintro e w11 ⟨rfl, b11⟩
  have c11 := bAll c10 b11
  have F11 := hide (bKeeps b11 F10.out)
  have R11 := hide (R10.out.keepB b11)
  have G11 := hide (G10.out.keepB b11)
  have z11 := b11.size
  obtain ⟨Q, hQ⟩ : ∃ Q : Nat, Q = 1 + pk.length := ⟨_, rfl⟩
  have HQ := hide hQ
  clear hQ
  have CM := hide (markByteS_any _ _ pk.length _ 1 w11 G11.out (by omega) (by omega))
  rw [← HQ.out] at CM
  clear F10 R10 b11 c10 G10
  go_wp2_with fail
  refine CM.out.mono ?_
  rintro e w12 ⟨rfl, g12, u12⟩
  have c12 := c11.trans (u12.below c11.size (fun k h => by have h3 := h.1; simp only [World.size_alloc] at h3; omega))
  have F12 := hide (u12.keeps F11.out (fun h => by have h3 := h.1; simp only [World.size_alloc] at h3; omega))
  have R12 := hide (R11.out.keep u12 (fun k h1 h2 => by have h3 := h1.2; have h4 := h2.1; simp only [World.size_alloc] at h4; omega))
  have G12 := hide g12
  have CH := hide (heldByteS_ok _ pk.length 1 w12 G12.out.reads (by omega) (by omega))
  rw [← HQ.out] at CH
  have hQn : ¬ (Q : Int) < 0 := by omega
  clear CM F11 R11 G11 u12 g12 c11
  go_wp2_with fail
  refine CH.out.mono ?_
  rintro e w13 ⟨rfl, b13⟩
  have c13 := bAll c12 b13
  have F13 := hide (bKeeps b13 F12.out)
  have R13 := hide (R12.out.keepB b13)
  have G13 := hide (G12.out.keepB b13)
  clear CH F12 R12 G12 b13 c12
  go_wp2_with (refine wpList_load_row rfl 27 (.tmp 1) rfl w.heap.size rfl _ cs (0, 0) _ F13.out Try.underlying27 rfl HI.out ?_)
  refine (toWord_any _ x _ (HX.out.keep c13) hp hl).mono ?_
  rintro e w14 ⟨v14, rfl, r14, b14⟩
  have c14 := bAll c13 b14
  have IC := hide (implWordPack_any v14 x w14 r14.reads)
  rw [HPK.out] at IC
  have R14 := hide (R13.out.keepB b14)
  have G14 := hide (G13.out.keepB b14)
  clear R13 G13 b14 r14 c13 F13
  go_wp2_with fail
  refine IC.out.mono ?_
  rintro e w15 ⟨vo15, co15, rfl, r15, b15⟩
  have c15 := bAll c14 b15
  have R15 := hide (R14.out.keepB b15)
  have G15 := hide (G14.out.keepB b15)
  have H15 := hide (r15.row (by omega))
  clear R14 G14 b15 r15 c14 IC
  go_wp2_with fail
  refine (eqByteS_true _ _ pk.length pk _ H15.out.reads R15.out.reads).mono ?_
  rintro e w16 ⟨rfl, b16⟩
  have c16 := bAll c15 b16
  have CH := hide (heldByteS_ok _ pk.length 1 w16 (G15.out.keepB b16).reads (by omega) (by omega))
  rw [← HQ.out] at CH
  clear R15 G15 H15 b16 c15 HQ
  go_wp2_with fail
  refine CH.out.mono ?_
  rintro e w17 ⟨rfl, b17⟩
  have c17 := bAll c16 b17
  clear CH c16 b17
  go_wp2
  go_ret
  exact ⟨rfl, c17⟩

end Go.Proofs.Ytafojnjpllpjjaa
