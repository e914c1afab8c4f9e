/- Contracts and plain facts that this claim leans on (texts XUN); no statement of the seat is proved here. -/
import Derived.Test.YtdnojnkcmncffaaWk31
import Derived.Test.YtdnojnkcmncffaaWk26
import Derived.Test.YtdnojnkcmncffaaWk32

/- The specification's reader of numbers: contracts; no statement of the seat is proved here. -/
namespace Go.Proofs.Ytdnojnkcmncffaa
open Go.RowKit

/-- What a reader has still to read: nothing that could be read, once it was bad. -/
def vw (bs : List Nat) (p : Nat) (bad : Bool) : List Nat := if bad then [256] else bs.drop p
theorem vw_bad (bs : List Nat) (p : Nat) : vw bs p true = [256] := rfl
theorem vw_ok (bs : List Nat) (p : Nat) : vw bs p false = bs.drop p := rfl
theorem vw_no {bs rest : List Nat} {p m : Nat} (h : vw bs p true = encN m ++ rest) : False := by
  rw [vw_bad] at h
  by_cases h1 : m < 128
  · rw [encN_lt h1] at h
    injection h with h2 h3
    omega
  · rw [encN_ge (by omega)] at h
    injection h with h2 h3
    omega

/-- A reader of numbers at a place. -/
def Rg (w0 w : World) (R : Nat) (bo : Option Addr) (n cap : Nat) (bs : List Nat) (p : Nat) (bad : Bool) : Prop :=
  n ≤ 1048576 ∧ p ≤ n ∧ RowR w0 1 (.slice bo n cap) n (byts bs) ∧ (∀ b ∈ bs, b < 256) ∧
    w.heap[R]? = some (.cells #[.slice bo n cap, .int .i64 (p : Nat), .bool bad] 75 (0, 0)) ∧ w0.heap.size ≤ R ∧ Below w0.heap.size w0 w

theorem Rg.keep {w0 w w' : World} {R n cap p : Nat} {bo : Option Addr} {bs : List Nat} {bad : Bool} {T : Nat → Prop} (h : Rg w0 w R bo n cap bs p bad) (hu : Upd T w w') (hR : ¬ T R) (hT : ∀ k, T k → w0.heap.size ≤ k) : Rg w0 w' R bo n cap bs p bad := by
  obtain ⟨h1, h1', h2, h3, h4, h5, h6⟩ := h
  exact ⟨h1, h1', h2, h3, hu.keeps h4 hR, h5, h6.trans (hu.below h6.size hT)⟩

theorem Rg.keepB {w0 w w' : World} {R n cap p : Nat} {bo : Option Addr} {bs : List Nat} {bad : Bool} (h : Rg w0 w R bo n cap bs p bad) (hu : Below w.heap.size w w') : Rg w0 w' R bo n cap bs p bad :=
  h.keep (T := fun _ => False) (Upd.ofBelow hu) (fun h => h) (fun _ h => h.elim)

theorem Rg.len {w0 w : World} {R n cap p : Nat} {bo : Option Addr} {bs : List Nat} {bad : Bool} (h : Rg w0 w R bo n cap bs p bad) : bs.length = n := by
  obtain ⟨_, _, ⟨_, _, e, _, hl, _⟩, _⟩ := h
  rw [byts_len] at hl
  omega

theorem box3u {w : World} {g : Nat} {a b c : Value} {t : TypeId} (h : w.heap[g]? = some (.cells #[a, b, c] t (0, 0))) :
    w.cell? ⟨g, 0, none⟩ = some a ∧ w.cell? ⟨g, 1, none⟩ = some b ∧ w.cell? ⟨g, 2, none⟩ = some c ∧ g < w.heap.size :=
  ⟨(cell_of_row w g 0 _ _ _ h).trans rfl, (cell_of_row w g 1 _ _ _ h).trans rfl, (cell_of_row w g 2 _ _ _ h).trans rfl, heap_lt h⟩

theorem box3f {w : World} {g : Nat} {a b c : Value} {t : TypeId} (h : w.heap[g]? = some (.cells #[a, b, c] t (0, 0))) : w.frozen? ⟨g, 1, none⟩ = false ∧ w.frozen? ⟨g, 2, none⟩ = false :=
  ⟨frozen_of_row w g 1 _ _ h, frozen_of_row w g 2 _ _ h⟩

theorem updDrew {S : Nat → Prop} {w w' : World} (h : Upd S w w') (k : Nat) : Upd S w (w'.drewN k) := ⟨h.os, h.tape, h.output, h.size, h.block⟩

/-- What is known in the midst of a number. -/
def Mid (kk pp : Int) (pl n : Nat) : Prop := (kk = 0 ∧ pp = 1 ∧ pl = 1 ∧ n < 1) ∨ (kk = 1 ∧ pp = 128 ∧ pl = 128 ∧ n < 128) ∨ (kk = 2 ∧ pp = 16384 ∧ pl = 16384 ∧ n < 16384) ∨ (kk = 3 ∧ pp = 2097152 ∧ pl = 2097152 ∧ n < 2097152)

/-- What reading a number gives: that number, the reader behind it. -/
def Num1 (w0 w : World) (R : Nat) (bo : Option Addr) (n cap : Nat) (bs : List Nat) (p : Nat) (bad : Bool) (a : Int) (w' : World) : Prop :=
  ∃ (p' : Nat) (bad' : Bool), -1 ≤ a ∧ a ≤ 2097150 ∧ Rg w0 w' R bo n cap bs p' bad' ∧ Rdn (vw bs p bad) [a] (vw bs p' bad') ∧ Upd (fun j => j = R) w w'

theorem bad_end {w0 w wr : World} {R n cap p q : Nat} {bo : Option Addr} {bs : List Nat} {bad : Bool} (HG : Rg w0 wr R bo n cap bs q bad) (HU : Upd (fun j => j = R) w wr) (hno : ∀ m rest, m ≤ 100000 → vw bs p bad = encN m ++ rest → False) :
    Num1 w0 w R bo n cap bs p bad 0 (wr.setCell ⟨R, 2, none⟩ (.bool true)) := by
  have hu := Upd.setCell (S := fun j => j = R) wr R 2 (.bool true) rfl
  have h5 := HG.2.2.2.2.2.1
  exact ⟨q, true, by omega, by omega, ⟨HG.1, HG.2.1, HG.2.2.1, HG.2.2.2.1, row_set _ HG.2.2.2.2.1, h5, HG.2.2.2.2.2.2.trans (hu.below HG.2.2.2.2.2.2.size (fun k h => by omega))⟩, Rdn.one (fun m rest hm e => (hno m rest hm e).elim), HU.trans hu⟩

theorem go_on {w0 w wr : World} {R n cap q : Nat} {bo : Option Addr} {bs : List Nat} {bad : Bool} (HG : Rg w0 wr R bo n cap bs q bad) (HU : Upd (fun j => j = R) w wr) (hq : q < n) :
    Rg w0 (wr.setCell ⟨R, 1, none⟩ (.int .i64 ((q + 1 : Nat) : Int))) R bo n cap bs (q + 1) bad ∧ Upd (fun j => j = R) w (wr.setCell ⟨R, 1, none⟩ (.int .i64 ((q + 1 : Nat) : Int))) := by
  have hu := Upd.setCell (S := fun j => j = R) wr R 1 (.int .i64 ((q + 1 : Nat) : Int)) rfl
  have h5 := HG.2.2.2.2.2.1
  exact ⟨⟨HG.1, by omega, HG.2.2.1, HG.2.2.2.1, row_set _ HG.2.2.2.2.1, h5, HG.2.2.2.2.2.2.trans (hu.below HG.2.2.2.2.2.2.size (fun k h => by omega))⟩, HU.trans hu⟩

theorem Rg.drewN {w0 w : World} {R n cap p : Nat} {bo : Option Addr} {bs : List Nat} {bad : Bool} (h : Rg w0 w R bo n cap bs p bad) (k : Nat) : Rg w0 (w.drewN k) R bo n cap bs p bad := h.keepB (below_drewN (Below.refl _ _) _)

theorem num_last {bs : List Nat} {p q u pl y : Nat} {bad : Bool} (hT : bad = false → ∀ m rest, vw bs p bad = encN m ++ rest → Lft (bs.drop q) u pl m rest) (hc : bs.drop q = y :: bs.drop (q + 1)) (hy : y < 128) {a : Int} (ha : a = ((u + y % 128 * pl : Nat) : Int) - 1) : Rdn (vw bs p bad) [a] (vw bs (q + 1) bad) := by
  refine Rdn.one (fun m rest hm e => ?_)
  cases bad
  · have := hT rfl m rest e
    rw [hc] at this
    obtain ⟨e1, e2⟩ := this.last hy
    exact ⟨by rw [ha, e1], e2⟩
  · exact (vw_no e).elim

set_option maxRecDepth 100000 in
set_option maxHeartbeats 4000000 in
theorem num_any (w0 w : World) (R p n cap : Nat) (bo : Option Addr) (bs : List Nat) (bad : Bool) (h : Rg w0 w R bo n cap bs p bad) :
    Calls Try.prog 64 #[.pointer (some ⟨R, 0, none⟩)] w fun e w' => ∃ (a : Int), e = .returned (.int .i64 a) ∧ Num1 w0 w R bo n cap bs p bad a w' := by
  have HN := hide h.len
  have HR := hide h
  have hn := h.1
  have hw0 := h.2.2.2.2.2.1
  clear h
  go_enter Try.func64, Try.ntmps64
  go_wp2
  go_loopw [3, 4, 5] (fun nv pv kv wr => ∃ (q u pl : Nat) (kk pp : Int), nv = .int .i64 u ∧ pv = .int .i64 pp ∧ kv = .int .i64 kk ∧ Mid kk pp pl u ∧ Rg w0 wr R bo n cap bs q bad ∧ Upd (fun j => j = R) w wr ∧ (bad = false → ∀ m rest, vw bs p bad = encN m ++ rest → Lft (bs.drop q) u pl m rest)) (fun _ _ kv _ => 3 - (intOf kv).toNat)
  case atStart => exact ⟨p, 0, 1, 0, 1, rfl, rfl, rfl, .inl ⟨rfl, rfl, rfl, by omega⟩, HR.out, Upd.refl _ _, fun hb m rest e => Lft.start (by rw [← e, hb]; rfl)⟩
  case round =>
    obtain ⟨q, u, pl, kk, pp, rfl, rfl, rfl, hmid, hrg, hupd, htg⟩ := hrel
    have HT := hide htg
    have HG := hide hrg
    obtain ⟨-, hq, hrow, hby, hbox, -, hbel⟩ := hrg
    obtain ⟨p0, p1, p2, plt⟩ := box3u hbox
    obtain ⟨p3, p4⟩ := box3f hbox
    have HU := hide hupd
    clear htg hupd hbox
    by_cases h3 : kk < 3
    · by_cases hlt : q < n
      · have hlt' : ¬ (q : Int) ≥ (n : Int) := by omega
        obtain ⟨y, hy⟩ := getAt bs q (by have := HN.out; omega)
        have hy2 : y < 256 := hby y (List.mem_of_getElem? hy)
        obtain ⟨_, _, e0, -, -, hc0⟩ := hrow
        injection e0 with e1 e2 e3
        subst e1 e3
        obtain ⟨kb, koff, rfl, hc⟩ := hc0 (by omega)
        have hcu := hc q (.int .u8 (y : Int)) (by simp [byts, hy])
        have hkb := World.block_lt_of_cell? w0 _ hcu
        have fy : wr.cell? ⟨kb, koff + q, none⟩ = some (.int .u8 (y : Int)) := (hbel.cell (p := ⟨kb, koff + q, none⟩) hkb).trans hcu
        have hne : ¬ kb = R := by simp at hkb; omega
        have hcons : bs.drop q = y :: bs.drop (q + 1) := by
          rw [List.drop_eq_getElem_cons (by have := HN.out; omega)]
          congr 1
          have := List.getElem?_eq_getElem (l := bs) (i := q) (by have := HN.out; omega)
          rw [hy] at this
          injection this with this
          exact this.symm
        have HC := hide hcons
        clear hcu hc hc0 e2 hcons hy
        by_cases hs : y < 128
        · have hs' : (y : Int) < 128 := by omega
          have fin : ∀ (nd : Nat) (a : Int) (W : World), W = (wr.drewN nd).setCell ⟨R, 1, none⟩ (.int .i64 ((q + 1 : Nat) : Int)) → a = ((u + y % 128 * pl : Nat) : Int) - 1 → -1 ≤ a → a ≤ 2097150 → Num1 w0 w R (some ⟨kb, koff, none⟩) n cap bs p bad a W := by
            intro nd a W hW ha h1 h2
            obtain ⟨g1, g2⟩ := go_on (HG.out.drewN nd) (updDrew HU.out nd) hlt
            rw [hW]
            exact ⟨q + 1, bad, h1, h2, g1, num_last HT.out HC.out hs ha, g2⟩
          rcases hmid with ⟨rfl, rfl, rfl, hu⟩ | ⟨rfl, rfl, rfl, hu⟩ | ⟨rfl, rfl, rfl, hu⟩ | ⟨rfl, rfl, rfl, hu⟩
          · go_wp2
            go_quiet (fail)
            go_wp2
            go_quiet (fail)
            go_wp2
            go_ret
            exact ⟨_, rfl, fin _ _ _ rfl (by push_cast; omega) (by omega) (by omega)⟩
          · go_wp2
            go_quiet (fail)
            go_wp2
            go_quiet (fail)
            go_wp2
            go_ret
            exact ⟨_, rfl, fin _ _ _ rfl (by push_cast; omega) (by omega) (by omega)⟩
          · go_wp2
            go_quiet (fail)
            go_wp2
            go_quiet (fail)
            go_wp2
            go_ret
            exact ⟨_, rfl, fin _ _ _ rfl (by push_cast; omega) (by omega) (by omega)⟩
          · omega
        · have hs' : ¬ (y : Int) < 128 := by omega
          have more : ∀ nd : Nat, Rg w0 ((wr.drewN nd).setCell ⟨R, 1, none⟩ (.int .i64 ((q + 1 : Nat) : Int))) R (some ⟨kb, koff, none⟩) n cap bs (q + 1) bad ∧ Upd (fun j => j = R) w ((wr.drewN nd).setCell ⟨R, 1, none⟩ (.int .i64 ((q + 1 : Nat) : Int))) ∧ (bad = false → ∀ m rest, vw bs p bad = encN m ++ rest → Lft (bs.drop (q + 1)) (u + y % 128 * pl) (pl * 128) m rest) := by
            intro nd
            obtain ⟨g1, g2⟩ := go_on (HG.out.drewN nd) (updDrew HU.out nd) hlt
            refine ⟨g1, g2, fun hb m rest e => ?_⟩
            have := HT.out hb m rest e
            rw [HC.out] at this
            exact this.more (by omega)
          rcases hmid with ⟨rfl, rfl, rfl, hu⟩ | ⟨rfl, rfl, rfl, hu⟩ | ⟨rfl, rfl, rfl, hu⟩ | ⟨rfl, rfl, rfl, hu⟩
          · go_wp2
            go_quiet (fail)
            go_wp2
            go_quiet (fail)
            go_wp2
            go_roundw
            case rel =>
              obtain ⟨g1, g2, g3⟩ := more _
              exact ⟨q + 1, u + y % 128 * 1, 128, _, _, by push_cast; first | rfl | (congr 1; omega), rfl, rfl, .inr (.inl ⟨rfl, rfl, rfl, by omega⟩), g1, g2, g3⟩
            case measure => decide
          · go_wp2
            go_quiet (fail)
            go_wp2
            go_quiet (fail)
            go_wp2
            go_roundw
            case rel =>
              obtain ⟨g1, g2, g3⟩ := more _
              exact ⟨q + 1, u + y % 128 * 128, 16384, _, _, by push_cast; first | rfl | (congr 1; omega), rfl, rfl, .inr (.inr (.inl ⟨rfl, rfl, rfl, by omega⟩)), g1, g2, g3⟩
            case measure => decide
          · go_wp2
            go_quiet (fail)
            go_wp2
            go_quiet (fail)
            go_wp2
            go_roundw
            case rel =>
              obtain ⟨g1, g2, g3⟩ := more _
              exact ⟨q + 1, u + y % 128 * 16384, 2097152, _, _, by push_cast; first | rfl | (congr 1; omega), rfl, rfl, .inr (.inr (.inr ⟨rfl, rfl, rfl, by omega⟩)), g1, g2, g3⟩
            case measure => decide
          · omega
      · obtain rfl : q = n := by omega
        have hno : ∀ m rest, m ≤ 100000 → vw bs p bad = encN m ++ rest → False := by
          intro m rest hm e
          cases bad
          · have := (HT.out rfl m rest e).ne
            rw [List.drop_eq_nil_of_le (by have := HN.out; omega)] at this
            exact this rfl
          · exact vw_no e
        go_wp2
        go_quiet (fail)
        go_wp2
        go_ret
        exact ⟨0, rfl, bad_end (HG.out.drewN _) (updDrew HU.out _) hno⟩
    · obtain ⟨rfl, rfl, rfl, hu⟩ : kk = 3 ∧ pp = 2097152 ∧ pl = 2097152 ∧ u < 2097152 := by
        rcases hmid with h | h | h | h <;> first | exact h | omega
      have hno : ∀ m rest, m ≤ 100000 → vw bs p bad = encN m ++ rest → False := by
        intro m rest hm e
        cases bad
        · have := (HT.out rfl m rest e).big (by omega)
          omega
        · exact vw_no e
      go_wp2
      go_ret
      exact ⟨0, rfl, bad_end HG.out HU.out hno⟩

end Go.Proofs.Ytdnojnkcmncffaa
