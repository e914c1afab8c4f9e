/- Contracts and plain facts that this claim leans on (texts Rd); no statement of the seat is proved here. -/
import Derived.Test.YtdnojnkcmncffaaWk2
import Derived.Laws.Bits64

/- The specification's reader of bytes, from which inputs are drawn: contracts; no statement of the seat is proved here. -/
namespace Go.Proofs.Ytdnojnkcmncffaa
open Go.RowKit

/-- A reader at a place: it reads bytes that lay there when the law began. -/
def Rd (w0 w : World) (R p : Nat) : Prop :=
  ∃ (bo : Option Addr) (n cap : Nat) (bs : List Nat), n ≤ 2000 ∧ RowR w0 1 (.slice bo n cap) n (bs.map fun b : Nat => Value.int .u8 (b : Int)) ∧ (∀ b ∈ bs, b < 256) ∧
    w.heap[R]? = some (.cells #[.slice bo n cap, .int .i64 (p : Nat)] 130 (0, 0)) ∧ w0.heap.size ≤ R ∧ Below w0.heap.size w0 w

theorem Rd.keep {w0 w w' : World} {R p : Nat} {T : Nat → Prop} (h : Rd w0 w R p) (hu : Upd T w w') (hR : ¬ T R) (hT : ∀ k, T k → w0.heap.size ≤ k) : Rd w0 w' R p := by
  obtain ⟨bo, n, cap, bs, h1, h2, h3, h4, h5, h6⟩ := h
  exact ⟨bo, n, cap, bs, h1, h2, h3, hu.keeps h4 hR, h5, h6.trans (hu.below h6.size hT)⟩

theorem Rd.keepB {w0 w w' : World} {R p : Nat} (h : Rd w0 w R p) (hu : Below w.heap.size w w') : Rd w0 w' R p :=
  h.keep (T := fun _ => False) (Upd.ofBelow hu) (fun h => h) (fun _ h => h.elim)

theorem i64_xor_bound (a b : Nat) (ha : a < 4611686018427387904) (hb : b < 4611686018427387904) : ∃ c : Nat, c < 4611686018427387904 ∧ bits .xor .i64 (a : Int) (b : Int) = (c : Int) := by
  have hx : a ^^^ b < 2 ^ 62 := Nat.xor_lt_two_pow ha hb
  refine ⟨a ^^^ b, hx, ?_⟩
  have h1 : (BitVec.ofInt 64 (a : Int)).toNat = a := by
    rw [BitVec.ofInt_natCast, BitVec.toNat_ofNat]; exact Nat.mod_eq_of_lt (by omega)
  have h2 : (BitVec.ofInt 64 (b : Int)).toNat = b := by
    rw [BitVec.ofInt_natCast, BitVec.toNat_ofNat]; exact Nat.mod_eq_of_lt (by omega)
  show IntKind.i64.wrap ((BitVec.ofInt 64 (a : Int) ^^^ BitVec.ofInt 64 (b : Int)).toNat : Int) = _
  rw [BitVec.toNat_xor, h1, h2]
  generalize a ^^^ b = c at hx
  simp [IntKind.wrap, IntKind.bits, IntKind.signed]
  omega

set_option maxRecDepth 100000 in
set_option maxHeartbeats 2000000 in
theorem pick_any (w0 w : World) (R p k : Nat) (hr : Rd w0 w R p) (hk : 1 ≤ k) (hk' : k ≤ 1073741824) (hp : p ≤ 1073741824) :
    Calls Try.prog 57 #[.pointer (some ⟨R, 0, none⟩), .int .i64 k] w fun e w' => ∃ q : Nat, e = .returned (.int .i64 q) ∧ q < k ∧ Rd w0 w' R (p + 1) ∧ Upd (fun j => j = R) w w' := by
  obtain ⟨bo, n, cap, bs, h1, h2, h3, h4, h5, h6⟩ := hr
  obtain ⟨p0, p1, pl⟩ := box2 h4
  obtain ⟨p2, p3⟩ := box2f h4
  have hu := Upd.setCell (S := fun j => j = R) w R 1 (.int .i64 ((p + 1 : Nat) : Int)) rfl
  have HR : Hid (Rd w0 (w.setCell ⟨R, 1, none⟩ (.int .i64 ((p + 1 : Nat) : Int))) R (p + 1)) := ⟨bo, n, cap, bs, h1, h2, h3, row_set _ h4, h5, h6.trans (hu.below h6.size (fun k h => by omega))⟩
  have H2 := hide h2
  have H3 := hide h3
  have H6 := hide h6
  clear h2 h3 h4 h6
  by_cases hn : n = 0
  · subst hn
    go_enter Try.func57, Try.ntmps57
    go_wp2
    go_ret
    exact ⟨0, rfl, by omega, by simpa using HR.out, by simpa using hu⟩
  · by_cases hpn : p < n
    · obtain ⟨kb, koff, kcap, u, ev, hkb, hu0, hcu⟩ : ∃ b off cap' u, Value.slice bo n cap = .slice (some ⟨b, off, none⟩) n cap' ∧ b < w0.heap.size ∧ (bs.map fun b : Nat => Value.int .u8 (b : Int))[p]? = some u ∧ w0.cell? ⟨b, off + p, none⟩ = some u := by
        obtain ⟨ao, cap', e, _, hl, h⟩ := H2.out
        simp only [Value.slice.injEq, true_and] at e
        obtain ⟨rfl, rfl⟩ := e
        obtain ⟨b, off, rfl, hc⟩ := h (by omega)
        obtain ⟨u, hu⟩ := getAt (bs.map fun b : Nat => Value.int .u8 (b : Int)) p (by omega)
        exact ⟨b, off, cap, u, rfl, World.block_lt_of_cell? w0 _ (hc p u hu), hu, hc p u hu⟩
      simp only [Value.slice.injEq, true_and] at ev
      obtain ⟨rfl, rfl⟩ := ev
      obtain ⟨y, hy, rfl⟩ : ∃ y : Nat, y < 256 ∧ u = .int .u8 (y : Int) := by
        rw [List.getElem?_map] at hu0
        cases hb : bs[p]? with
        | none => simp [hb] at hu0
        | some y => exact ⟨y, H3.out y (List.mem_of_getElem? hb), by simpa [hb] using hu0.symm⟩
      have hne : ¬ kb = R := by omega
      have fy : w.cell? ⟨kb, koff + p, none⟩ = some (.int .u8 (y : Int)) := (H6.out.cell (p := ⟨kb, koff + p, none⟩) hkb).trans hcu
      clear hu0 hcu
      have hi : (p : Int) < (n : Int) := by omega
      have hn' : ((n : Int) == 0) = false := by simpa using hn
      have hk1 : decide ((k : Int) < 1) = false := by simp; omega
      go_enter Try.func57, Try.ntmps57
      go_wp2
      go_ret
      exact ⟨y % k, by simp, Nat.mod_lt _ (by omega), by simpa using HR.out, by simpa using hu⟩
    · have cellAt : ∀ j, j < n → ∃ b off y : Nat, bo = some ⟨b, off, none⟩ ∧ b < w0.heap.size ∧ y < 256 ∧ w.cell? ⟨b, off + j, none⟩ = some (.int .u8 (y : Int)) := by
        intro j hj
        obtain ⟨ao, cap', e, _, hl, h⟩ := H2.out
        simp only [Value.slice.injEq, true_and] at e
        obtain ⟨rfl, rfl⟩ := e
        obtain ⟨b, off, rfl, hc⟩ := h (by omega)
        obtain ⟨u, hu⟩ := getAt (bs.map fun b : Nat => Value.int .u8 (b : Int)) j (by omega)
        have hb := World.block_lt_of_cell? w0 _ (hc j u hu)
        obtain ⟨y, hy, rfl⟩ : ∃ y : Nat, y < 256 ∧ u = .int .u8 (y : Int) := by
          rw [List.getElem?_map] at hu
          cases hb : bs[j]? with
          | none => simp [hb] at hu
          | some y => exact ⟨y, H3.out y (List.mem_of_getElem? hb), by simpa [hb] using hu.symm⟩
        exact ⟨b, off, y, rfl, hb, hy, (H6.out.cell (p := ⟨b, off + j, none⟩) hb).trans (hc j _ hu)⟩
      obtain ⟨j1, hj1, ej1⟩ : ∃ j1 : Nat, j1 < n ∧ (p : Int) % (n : Int) = (j1 : Int) := ⟨p % n, Nat.mod_lt _ (by omega), by simp⟩
      obtain ⟨j2, hj2, ej2⟩ : ∃ j2 : Nat, j2 < n ∧ ((p : Int) * 7 + 3) % (n : Int) = (j2 : Int) := ⟨(p * 7 + 3) % n, Nat.mod_lt _ (by omega), by simp⟩
      obtain ⟨d, hd, ed⟩ : ∃ d : Nat, d ≤ p ∧ (p : Int) / (n : Int) = (d : Int) := ⟨p / n, Nat.div_le_self _ _, by simp⟩
      obtain ⟨kb, koff, y1, rfl, hkb, hy1, f1⟩ := cellAt j1 hj1
      obtain ⟨kb', koff', y2, e, -, hy2, f2⟩ := cellAt j2 hj2
      simp only [Option.some.injEq, Addr.mk.injEq, and_true] at e
      obtain ⟨rfl, rfl⟩ := e
      have hne : ¬ kb = R := by omega
      clear cellAt
      have hi : ¬ (p : Int) < (n : Int) := by omega
      have hn' : ((n : Int) == 0) = false := by simpa using hn
      have hk1 : decide ((k : Int) < 1) = false := by simp; omega
      have hj1' : (j1 : Int) < (n : Int) := by omega
      have hj2' : (j2 : Int) < (n : Int) := by omega
      go_enter Try.func57, Try.ntmps57
      go_wp2
      go_quiet (fail)
      go_wp2
      obtain ⟨c, hc, hx⟩ := i64_xor_bound (y1 * 131 + y2 * 1117 + p * 29 + d * 53) ((y1 * 131 + y2 * 1117 + p * 29 + d * 53) / 64) (by omega) (by omega)
      push_cast at hx
      go_ret
      refine ⟨c % k, ?_, Nat.mod_lt _ (by omega), (by simpa using HR.out : Rd w0 _ R (p + 1)).keepB (below_drewN (Below.refl _ _) _), ⟨hu.os, hu.tape, hu.output, by simp, fun j hj hS => by simpa using hu.block j hj hS⟩⟩
      rw [hx, ← Int.ofNat_tmod]
      rfl

end Go.Proofs.Ytdnojnkcmncffaa
