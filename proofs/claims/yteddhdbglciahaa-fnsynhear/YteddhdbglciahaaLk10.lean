/- Contracts and plain facts that this claim leans on (texts Rd, Rd2, SpecA, Draw, BD, BD2, BT9, BD3); no statement of the seat is proved here. -/
import Derived.Test.YteddhdbglciahaaLk1
import Derived.Laws.Bits64
import Derived.Test.YteddhdbglciahaaLk8
import Derived.Test.YteddhdbglciahaaLk6
import Derived.Test.YteddhdbglciahaaLk7

/- The specification's reader of bytes, from which inputs are drawn: contracts; no statement of the seat is proved here. -/
namespace Go.Proofs.Yteddhdbglciahaa
open Go.RowKit

/-- A reader at a place: it reads bytes that lay there when the law began. -/
def Rd (w0 w : World) (R p : Nat) : Prop :=
  ∃ (bo : Option Addr) (n cap : Nat) (bs : List Nat), n ≤ 2000 ∧ RowR w0 1 (.slice bo n cap) n (bs.map fun b : Nat => Value.int .u8 (b : Int)) ∧ (∀ b ∈ bs, b < 256) ∧
    w.heap[R]? = some (.cells #[.slice bo n cap, .int .i64 (p : Nat)] 168 (0, 0)) ∧ w0.heap.size ≤ R ∧ Below w0.heap.size w0 w

theorem Rd.keep {w0 w w' : World} {R p : Nat} {T : Nat → Prop} (h : Rd w0 w R p) (hu : Upd T w w') (hR : ¬ T R) (hT : ∀ k, T k → w0.heap.size ≤ k) : Rd w0 w' R p := by
  obtain ⟨bo, n, cap, bs, h1, h2, h3, h4, h5, h6⟩ := h
  exact ⟨bo, n, cap, bs, h1, h2, h3, hu.keeps h4 hR, h5, h6.trans (hu.below h6.size hT)⟩

theorem Rd.keepB {w0 w w' : World} {R p : Nat} (h : Rd w0 w R p) (hu : Below w.heap.size w w') : Rd w0 w' R p :=
  h.keep (T := fun _ => False) (Upd.ofBelow hu) (fun h => h) (fun _ h => h.elim)

theorem i64_xor_bound (a b : Nat) (ha : a < 4611686018427387904) (hb : b < 4611686018427387904) : ∃ c : Nat, c < 4611686018427387904 ∧ bits .xor .i64 (a : Int) (b : Int) = (c : Int) := by
  have hx : a ^^^ b < 2 ^ 62 := Nat.xor_lt_two_pow ha hb
  refine ⟨a ^^^ b, hx, ?_⟩
  have h1 : (BitVec.ofInt 64 (a : Int)).toNat = a := by
    rw [BitVec.ofInt_natCast, BitVec.toNat_ofNat]; exact Nat.mod_eq_of_lt (by omega)
  have h2 : (BitVec.ofInt 64 (b : Int)).toNat = b := by
    rw [BitVec.ofInt_natCast, BitVec.toNat_ofNat]; exact Nat.mod_eq_of_lt (by omega)
  show IntKind.i64.wrap ((BitVec.ofInt 64 (a : Int) ^^^ BitVec.ofInt 64 (b : Int)).toNat : Int) = _
  rw [BitVec.toNat_xor, h1, h2]
  generalize a ^^^ b = c at hx
  simp [IntKind.wrap, IntKind.bits, IntKind.signed]
  omega

set_option maxRecDepth 100000 in
set_option maxHeartbeats 2000000 in
theorem pick_any (w0 w : World) (R p k : Nat) (hr : Rd w0 w R p) (hk : 1 ≤ k) (hk' : k ≤ 1073741824) (hp : p ≤ 1073741824) :
    Calls Try.prog 67 #[.pointer (some ⟨R, 0, none⟩), .int .i64 k] w fun e w' => ∃ q : Nat, e = .returned (.int .i64 q) ∧ q < k ∧ Rd w0 w' R (p + 1) ∧ Upd (fun j => j = R) w w' := by
  obtain ⟨bo, n, cap, bs, h1, h2, h3, h4, h5, h6⟩ := hr
  obtain ⟨p0, p1, pl⟩ := box2 h4
  obtain ⟨p2, p3⟩ := box2f h4
  have hu := Upd.setCell (S := fun j => j = R) w R 1 (.int .i64 ((p + 1 : Nat) : Int)) rfl
  have HR : Hid (Rd w0 (w.setCell ⟨R, 1, none⟩ (.int .i64 ((p + 1 : Nat) : Int))) R (p + 1)) := ⟨bo, n, cap, bs, h1, h2, h3, row_set _ h4, h5, h6.trans (hu.below h6.size (fun k h => by omega))⟩
  have H2 := hide h2
  have H3 := hide h3
  have H6 := hide h6
  clear h2 h3 h4 h6
  by_cases hn : n = 0
  · subst hn
    go_enter Try.func67, Try.ntmps67
    go_wp2
    go_ret
    exact ⟨0, rfl, by omega, by simpa using HR.out, by simpa using hu⟩
  · by_cases hpn : p < n
    · obtain ⟨kb, koff, kcap, u, ev, hkb, hu0, hcu⟩ : ∃ b off cap' u, Value.slice bo n cap = .slice (some ⟨b, off, none⟩) n cap' ∧ b < w0.heap.size ∧ (bs.map fun b : Nat => Value.int .u8 (b : Int))[p]? = some u ∧ w0.cell? ⟨b, off + p, none⟩ = some u := by
        obtain ⟨ao, cap', e, _, hl, h⟩ := H2.out
        simp only [Value.slice.injEq, true_and] at e
        obtain ⟨rfl, rfl⟩ := e
        obtain ⟨b, off, rfl, hc⟩ := h (by omega)
        obtain ⟨u, hu⟩ := getAt (bs.map fun b : Nat => Value.int .u8 (b : Int)) p (by omega)
        exact ⟨b, off, cap, u, rfl, World.block_lt_of_cell? w0 _ (hc p u hu), hu, hc p u hu⟩
      simp only [Value.slice.injEq, true_and] at ev
      obtain ⟨rfl, rfl⟩ := ev
      obtain ⟨y, hy, rfl⟩ : ∃ y : Nat, y < 256 ∧ u = .int .u8 (y : Int) := by
        rw [List.getElem?_map] at hu0
        cases hb : bs[p]? with
        | none => simp [hb] at hu0
        | some y => exact ⟨y, H3.out y (List.mem_of_getElem? hb), by simpa [hb] using hu0.symm⟩
      have hne : ¬ kb = R := by omega
      have fy : w.cell? ⟨kb, koff + p, none⟩ = some (.int .u8 (y : Int)) := (H6.out.cell (p := ⟨kb, koff + p, none⟩) hkb).trans hcu
      clear hu0 hcu
      have hi : (p : Int) < (n : Int) := by omega
      have hn' : ((n : Int) == 0) = false := by simpa using hn
      have hk1 : decide ((k : Int) < 1) = false := by simp; omega
      go_enter Try.func67, Try.ntmps67
      go_wp2
      go_ret
      exact ⟨y % k, by simp, Nat.mod_lt _ (by omega), by simpa using HR.out, by simpa using hu⟩
    · have cellAt : ∀ j, j < n → ∃ b off y : Nat, bo = some ⟨b, off, none⟩ ∧ b < w0.heap.size ∧ y < 256 ∧ w.cell? ⟨b, off + j, none⟩ = some (.int .u8 (y : Int)) := by
        intro j hj
        obtain ⟨ao, cap', e, _, hl, h⟩ := H2.out
        simp only [Value.slice.injEq, true_and] at e
        obtain ⟨rfl, rfl⟩ := e
        obtain ⟨b, off, rfl, hc⟩ := h (by omega)
        obtain ⟨u, hu⟩ := getAt (bs.map fun b : Nat => Value.int .u8 (b : Int)) j (by omega)
        have hb := World.block_lt_of_cell? w0 _ (hc j u hu)
        obtain ⟨y, hy, rfl⟩ : ∃ y : Nat, y < 256 ∧ u = .int .u8 (y : Int) := by
          rw [List.getElem?_map] at hu
          cases hb : bs[j]? with
          | none => simp [hb] at hu
          | some y => exact ⟨y, H3.out y (List.mem_of_getElem? hb), by simpa [hb] using hu.symm⟩
        exact ⟨b, off, y, rfl, hb, hy, (H6.out.cell (p := ⟨b, off + j, none⟩) hb).trans (hc j _ hu)⟩
      obtain ⟨j1, hj1, ej1⟩ : ∃ j1 : Nat, j1 < n ∧ (p : Int) % (n : Int) = (j1 : Int) := ⟨p % n, Nat.mod_lt _ (by omega), by simp⟩
      obtain ⟨j2, hj2, ej2⟩ : ∃ j2 : Nat, j2 < n ∧ ((p : Int) * 7 + 3) % (n : Int) = (j2 : Int) := ⟨(p * 7 + 3) % n, Nat.mod_lt _ (by omega), by simp⟩
      obtain ⟨d, hd, ed⟩ : ∃ d : Nat, d ≤ p ∧ (p : Int) / (n : Int) = (d : Int) := ⟨p / n, Nat.div_le_self _ _, by simp⟩
      obtain ⟨kb, koff, y1, rfl, hkb, hy1, f1⟩ := cellAt j1 hj1
      obtain ⟨kb', koff', y2, e, -, hy2, f2⟩ := cellAt j2 hj2
      simp only [Option.some.injEq, Addr.mk.injEq, and_true] at e
      obtain ⟨rfl, rfl⟩ := e
      have hne : ¬ kb = R := by omega
      clear cellAt
      have hi : ¬ (p : Int) < (n : Int) := by omega
      have hn' : ((n : Int) == 0) = false := by simpa using hn
      have hk1 : decide ((k : Int) < 1) = false := by simp; omega
      have hj1' : (j1 : Int) < (n : Int) := by omega
      have hj2' : (j2 : Int) < (n : Int) := by omega
      go_enter Try.func67, Try.ntmps67
      go_wp2
      go_quiet (fail)
      go_wp2
      obtain ⟨c, hc, hx⟩ := i64_xor_bound (y1 * 131 + y2 * 1117 + p * 29 + d * 53) ((y1 * 131 + y2 * 1117 + p * 29 + d * 53) / 64) (by omega) (by omega)
      push_cast at hx
      go_ret
      refine ⟨c % k, ?_, Nat.mod_lt _ (by omega), (by simpa using HR.out : Rd w0 _ R (p + 1)).keepB (below_drewN (Below.refl _ _) _), ⟨hu.os, hu.tape, hu.output, by simp, fun j hj hS => by simpa using hu.block j hj hS⟩⟩
      rw [hx, ← Int.ofNat_tmod]
      rfl

end Go.Proofs.Yteddhdbglciahaa

/- The specification's reader of bytes: how it is opened, texts that are drawn; contracts; no statement of the seat is proved here. -/
namespace Go.Proofs.Yteddhdbglciahaa
open Go.RowKit

/-- Bytes that came in. -/
structure BytesIn (w : World) (bo : Option Addr) (n cap : Nat) (bs : List Nat) : Prop where
  reads : RowR w 1 (.slice bo n cap) n (bs.map fun b : Nat => Value.int .u8 (b : Int))
  small : ∀ b ∈ bs, b < 256
  room : n ≤ cap

theorem BytesIn.keep {w w' : World} {bo : Option Addr} {n cap : Nat} {bs : List Nat} (h : BytesIn w bo n cap bs) (hb : Below w.heap.size w w') : BytesIn w' bo n cap bs := ⟨h.reads.keep hb, h.small, h.room⟩

set_option maxHeartbeats 1000000 in
theorem l6Open_any (w : World) (bo : Option Addr) (n cap : Nat) (bs : List Nat) (h : BytesIn w bo n cap bs) (hn : n ≤ 1048576) :
    Calls Try.prog 65 #[.slice bo n cap] w fun e w' => e = .returned (.pointer (some ⟨w.heap.size, 0, none⟩)) ∧ Rd w w' w.heap.size 0 ∧ Below w.heap.size w w' := by
  obtain ⟨h1, h2, h3⟩ := h
  have hal := fun o : Obj => (Below.refl w.heap.size w).alloc (Nat.le_refl _) o
  by_cases hbig : (n : Int) > 2000
  · have hR : RowR w 1 (.slice bo 2000 cap) 2000 ((bs.take 2000).map fun b : Nat => Value.int .u8 (b : Int)) := by
      obtain ⟨ao, cap', e, _, hl, h⟩ := h1
      simp only [Value.slice.injEq, true_and] at e
      obtain ⟨rfl, rfl⟩ := e
      refine ⟨bo, cap, rfl, by omega, by simp at hl ⊢; omega, fun _ => ?_⟩
      obtain ⟨b, off, rfl, hc⟩ := h (by omega)
      refine ⟨b, off, rfl, fun j u hj => hc j u ?_⟩
      have hj' := (List.getElem?_eq_some_iff.1 hj).1
      simp at hj'
      rw [List.getElem?_map, List.getElem?_take_of_lt (by omega)] at hj
      rw [List.getElem?_map]
      exact hj
    have hS : Hid (∀ b ∈ bs.take 2000, b < 256) := fun b hb => h2 b (List.mem_of_mem_take hb)
    obtain ⟨b, off, rfl⟩ : ∃ b off, bo = some ⟨b, off, none⟩ := by
      obtain ⟨ao, cap', e, _, hl, h⟩ := h1
      simp only [Value.slice.injEq, true_and] at e
      obtain ⟨rfl, rfl⟩ := e
      obtain ⟨b, off, rfl, _⟩ := h (by omega)
      exact ⟨b, off, rfl⟩
    have HRR := hide hR
    clear hR h1 h2
    have hc : (2000 : Int) ≤ (cap : Int) := by omega
    go_enter Try.func65, Try.ntmps65
    go_wp2
    go_ret
    exact ⟨rfl, ⟨_, 2000, cap, bs.take 2000, by omega, HRR.out, hS.out, al1_0 w _, Nat.le_refl _, hal _⟩, hal _⟩
  · have H1 := hide h1
    have H2 := hide h2
    clear h1 h2
    go_enter Try.func65, Try.ntmps65
    go_wp2
    go_ret
    exact ⟨rfl, ⟨_, n, cap, bs, by omega, H1.out, H2.out, al1_0 w _, Nat.le_refl _, hal _⟩, hal _⟩

end Go.Proofs.Yteddhdbglciahaa

/- The specification's functions on disks, told so that what they give may be appended to: contracts; no statement of the seat is proved here. -/
namespace Go.Proofs.Yteddhdbglciahaa
open Go.RowKit

theorem RowA.at {w : World} {base : Nat} {e : TypeId} {v : Value} {n : Nat} {cs : List Value} (h : RowA w base e 1 v n cs) (i : Nat) (hi : i < n) :
    ∃ g cap u cur, v = .slice (some ⟨g, 0, none⟩) n cap ∧ base ≤ g ∧ w.heap[g]? = some (.cells cur e (0, 0)) ∧ w.cell? ⟨g, i, none⟩ = some u ∧ w.frozen? ⟨g, i, none⟩ = false ∧
      ∀ x, RowA (w.setCell ⟨g, i, none⟩ x) base e 1 v n (cs.set i x) := by
  rcases h with ⟨hl, ⟨rfl, rfl⟩ | ⟨g, cap, cur, rfl, hg, hh, h1, h2, h3, h4⟩⟩ | ⟨rfl, _⟩
  · omega
  · obtain ⟨u, hu⟩ : ∃ u, cur[i]? = some u := ⟨cur[i]'(by omega), by simp [show i < cur.size by omega]⟩
    refine ⟨g, cap, u, cur, rfl, hg, hh, (cell_of_row w g i cur e (0, 0) hh).trans hu, frozen_of_row w g i cur e hh, fun x => .inl ⟨by simpa using hl, .inr ⟨g, cap, _, rfl, hg, heap_setCell_same w g i cur e x hh, h1, h2, by simpa using h3, ?_⟩⟩⟩
    rw [Array.toList_setIfInBounds, ← h4, List.take_set]
  · omega

end Go.Proofs.Yteddhdbglciahaa

/- Disks that are drawn: contracts; no statement of the seat is proved here. -/
namespace Go.Proofs.Yteddhdbglciahaa
open Go.RowKit

/-- Short enough for every walk. -/
structure Small (d : Nat) (kept : List ByteArray) (wait : List (Int × ByteArray)) : Prop where
  kl : kept.length ≤ 512 + d
  ks : ∀ s ∈ kept, s.size ≤ 1000
  wl : wait.length ≤ 600 + d
  ws : ∀ x ∈ wait, x.2.size ≤ 1000

theorem Small.put {d : Nat} {kept : List ByteArray} {wait : List (Int × ByteArray)} (h : Small d kept wait) (a : Int) (s : ByteArray) (hs : s.size ≤ 1000) : Small d (putK kept wait) (putW kept wait a s) := by
  unfold putK putW
  by_cases hok : okB kept wait = true
  · rw [if_pos hok, if_pos hok]
    refine ⟨h.kl, h.ks, ?_, ?_⟩
    · split
      · rename_i hp
        simp only [putB, Bool.and_eq_true, decide_eq_true_eq] at hp
        simp
        omega
      · exact h.wl
    · split
      · intro x hx
        rcases List.mem_append.1 hx with hx | hx
        · exact h.ws x hx
        · rw [List.mem_singleton] at hx
          subst hx
          exact hs
      · exact h.ws
  · rw [if_neg hok, if_neg hok]
    exact ⟨by simp, by simp, by simp, by simp⟩

theorem Upd.transN {S T : Nat → Prop} {a b c : World} (h : Upd S a b) (k : Upd T b c) (hT : ∀ i, T i → a.heap.size ≤ i) : Upd S a c :=
  ⟨k.os.trans h.os, k.tape.trans h.tape, k.output.trans h.output, Nat.le_trans h.size k.size,
    fun i hi hS => (k.block i (Nat.lt_of_lt_of_le hi h.size) (fun ht => by have := hT i ht; omega)).trans (h.block i hi hS)⟩

theorem Rd.lt {w0 w : World} {R p : Nat} (h : Rd w0 w R p) : R < w.heap.size ∧ w0.heap.size ≤ R ∧ w0.heap.size ≤ w.heap.size := by
  obtain ⟨_, _, _, _, _, _, _, h1, h2, h3⟩ := h
  exact ⟨heap_lt h1, h2, h3.size⟩

end Go.Proofs.Yteddhdbglciahaa

/- Pieces that are drawn: contracts; no statement of the seat is proved here. -/
namespace Go.Proofs.Yteddhdbglciahaa
open Go.RowKit

theorem RowA.room {w : World} {base : Nat} {e : TypeId} {size : Nat} {v : Value} {n : Nat} {cs : List Value} (h : RowA w base e size v n cs) : ∃ ao ca, v = .slice ao n ca ∧ n ≤ ca := by
  rcases h with h | ⟨rfl, _, ao, rfl⟩
  · exact owns_shape h
  · exact ⟨ao, 0, rfl, Nat.le_refl _⟩

set_option maxRecDepth 100000 in
set_option maxHeartbeats 2000000 in
theorem l72Pieces_any (w0 w : World) (R p m : Nat) (hr : Rd w0 w R p) (hp : p ≤ 900000) (hm : 1 ≤ m) (hm' : m ≤ 100) :
    Calls Try.prog 135 #[.pointer (some ⟨R, 0, none⟩), .int .i64 m] w fun e w' => ∃ v xs p', e = .returned v ∧ RowA w' w.heap.size 152 4 v xs.length (pcells xs) ∧ xs.length ≤ 60 ∧ Rd w0 w' R p' ∧ p' ≤ p + 1000 ∧ Upd (fun j => j = R) w w' := by
  obtain ⟨hRl, hR0, hw0⟩ := hr.lt
  have al0 : Below w.heap.size w (w.alloc (.cells #[] 152)) := (Below.refl _ _).alloc (Nat.le_refl _) _
  have hr0 := hr.keepB al0
  go_enter Try.func135, Try.ntmps135
  go_wp2_with fail
  refine (pick_any w0 _ R p m hr0 hm (by omega) (by omega)).mono ?_
  rintro e w1 ⟨q, rfl, hq, hr1, hu1⟩
  have U1 : Upd (fun j => j = R) w w1 := (Upd.ofBelow al0).trans hu1
  go_wp2
  go_loopw [5, 6] (fun o n wr => ∃ (xs : List Pc) (p' k : Nat), n = .int .i64 k ∧ k ≤ 100 ∧ RowA wr w.heap.size 152 4 o xs.length (pcells xs) ∧ xs.length ≤ 60 ∧ Rd w0 wr R p' ∧ p' + 4 * k ≤ p + 1000 ∧ Upd (fun j => j = R) w wr) (fun _ n _ => (intOf n).toNat)
  case atStart => exact ⟨[], p + 1, q, rfl, by omega, .inr ⟨rfl, rfl, _, rfl⟩, by simp, hr1, by omega, U1⟩
  case round =>
    obtain ⟨xs, p', k, rfl, hk, hrow, hl, hrr, hpp, hu⟩ := hrel
    have hT : ∀ j, w.heap.size ≤ j → ¬ j = R := fun j h e => by omega
    cases k with
    | zero =>
      go_wp2
      go_ret
      exact ⟨_, xs, p', rfl, hrow, hl, hrr, by omega, hu⟩
    | succ k =>
      have HW := hide hrow
      have HL := hide hl
      obtain ⟨ao, ca, rfl⟩ := hrow.shape
      clear hrow hl
      go_wp2_with fail
      refine (pick_any w0 _ R p' 3 hrr (by omega) (by omega) (by omega)).mono ?_
      rintro e w2 ⟨q2, rfl, hq2, hr2, hu2⟩
      go_wp2_with fail
      refine (pick_any w0 _ R (p' + 1) 3 hr2 (by omega) (by omega) (by omega)).mono ?_
      rintro e w3 ⟨q3, rfl, hq3, hr3, hu3⟩
      go_wp2_with fail
      refine (pick_any w0 _ R (p' + 1 + 1) 3 hr3 (by omega) (by omega) (by omega)).mono ?_
      rintro e w4 ⟨q4, rfl, hq4, hr4, hu4⟩
      go_wp2_with fail
      refine (pick_any w0 _ R (p' + 1 + 1 + 1) 100 hr4 (by omega) (by omega) (by omega)).mono ?_
      rintro e w5 ⟨q5, rfl, hq5, hr5, hu5⟩
      have u5 : Upd (fun j => j = R) wr w5 := hu2.trans (hu3.trans (hu4.trans hu5))
      have z5 := u5.size
      have zw := hu.size
      have HR := hide ((HW.out.keep u5 hT).row (by have := HL.out; omega)).reads
      go_wp2_with fail
      refine (specBlkPut_any ao ca xs _ _ _ _ w5 HR.out).mono ?_
      rintro e w6 ⟨v6, rfl, hrow6, b6⟩
      go_wp2
      go_roundw
      case rel => exact ⟨_, p' + 1 + 1 + 1 + 1, k, by first | go_num | (simp; omega), by omega, hrow6.mono (by omega), putR_len _ _, hr5.keepB b6, by omega, (hu.trans u5).trans (Upd.ofBelow b6)⟩
      case measure => first | (simp [intOf]; done) | (simp [intOf]; omega)

theorem ten_cells (w : World) (a b c d x f g h i j : Int) (t : TypeId) :
    ∀ k, k < 10 → ∃ y : Int, (w.alloc (.cells #[.int .i64 a, .int .i64 b, .int .i64 c, .int .i64 d, .int .i64 x, .int .i64 f, .int .i64 g, .int .i64 h, .int .i64 i, .int .i64 j] t)).cell? ⟨w.heap.size, k, none⟩ = some (.int .i64 y) := by
  intro k hk
  have h := fun k => cell_of_row _ w.heap.size k _ _ (0, 0) (al1_0 w (.cells #[.int .i64 a, .int .i64 b, .int .i64 c, .int .i64 d, .int .i64 x, .int .i64 f, .int .i64 g, .int .i64 h, .int .i64 i, .int .i64 j] t))
  rcases (by omega : k = 0 ∨ k = 1 ∨ k = 2 ∨ k = 3 ∨ k = 4 ∨ k = 5 ∨ k = 6 ∨ k = 7 ∨ k = 8 ∨ k = 9) with rfl | rfl | rfl | rfl | rfl | rfl | rfl | rfl | rfl | rfl
  · exact ⟨_, (h 0).trans rfl⟩
  · exact ⟨_, (h 1).trans rfl⟩
  · exact ⟨_, (h 2).trans rfl⟩
  · exact ⟨_, (h 3).trans rfl⟩
  · exact ⟨_, (h 4).trans rfl⟩
  · exact ⟨_, (h 5).trans rfl⟩
  · exact ⟨_, (h 6).trans rfl⟩
  · exact ⟨_, (h 7).trans rfl⟩
  · exact ⟨_, (h 8).trans rfl⟩
  · exact ⟨_, (h 9).trans rfl⟩

set_option maxRecDepth 100000 in
set_option maxHeartbeats 2000000 in
theorem l72Num_any (w0 w : World) (R p : Nat) (hr : Rd w0 w R p) (hp : p ≤ 900000) :
    Calls Try.prog 117 #[.pointer (some ⟨R, 0, none⟩)] w fun e w' => ∃ x : Int, e = .returned (.int .i64 x) ∧ Rd w0 w' R (p + 3) ∧ Upd (fun j => j = R) w w' := by
  go_enter Try.func117, Try.ntmps117
  go_wp2_with fail
  refine (pick_any w0 _ R p 200 hr (by omega) (by omega) (by omega)).mono ?_
  rintro e w1 ⟨q1, rfl, hq1, hr1, hu1⟩
  go_wp2_with fail
  refine (pick_any w0 _ R (p + 1) 30000 hr1 (by omega) (by omega) (by omega)).mono ?_
  rintro e w2 ⟨q2, rfl, hq2, hr2, hu2⟩
  have hRl := hr2.lt.1
  have al := fun o : Obj => (Below.refl w2.heap.size w2).alloc (Nat.le_refl _) o
  have T := fun a b c d x f g h i j t => hide (ten_cells w2 a b c d x f g h i j t)
  go_wp2_with fail
  refine (pick_any w0 _ R (p + 1 + 1) 10 (hr2.keepB (al _)) (by omega) (by omega) (by omega)).mono ?_
  rintro e w3 ⟨q3, rfl, hq3, hr3, hu3⟩
  obtain ⟨y, hy⟩ := (T _ _ _ _ _ _ _ _ _ _ _).out q3 hq3
  have f1 : w3.cell? ⟨w2.heap.size, q3, none⟩ = some (.int .i64 y) := (World.cell?_of_block (a := ⟨w2.heap.size, q3, none⟩) (hu3.block w2.heap.size (by simp) (by omega))).trans hy
  have hi : (q3 : Int) < 10 := by omega
  clear hy T
  go_wp2
  go_ret
  exact ⟨y, rfl, hr3, (hu1.trans hu2).trans ((Upd.ofBelow (al _)).trans hu3)⟩

end Go.Proofs.Yteddhdbglciahaa

/- What the laws on pieces are drawn from: contracts; no statement of the seat is proved here. -/
namespace Go.Proofs.Yteddhdbglciahaa
open Go.RowKit

set_option maxRecDepth 100000 in
set_option maxHeartbeats 2000000 in
theorem l72PiecesAny_any (w0 w : World) (R p : Nat) (hr : Rd w0 w R p) (hp : p ≤ 800000) :
    Calls Try.prog 118 #[.pointer (some ⟨R, 0, none⟩)] w fun e w' => ∃ v xs p', e = .returned v ∧ RowA w' w.heap.size 152 4 v xs.length (pcells xs) ∧ xs.length ≤ 61 ∧ Rd w0 w' R p' ∧ p' ≤ p + 2000 ∧ Upd (fun j => j = R) w w' := by
  obtain ⟨i1, gi, gz0, gz1, gz2⟩ := info_parts infoPc
  obtain ⟨hRl, hR0, hw0⟩ := hr.lt
  have hT : ∀ j, w.heap.size ≤ j → ¬ j = R := fun j h e => by omega
  go_enter Try.func118, Try.ntmps118
  go_wp2_with fail
  refine (l72Pieces_any w0 w R p 9 hr (by omega) (by omega) (by omega)).mono ?_
  rintro e w1 ⟨v1, xs, p1, rfl, hrow1, hl1, hr1, hp1, hu1⟩
  have z1 := hu1.size
  go_wp2_with fail
  refine (pick_any w0 _ R p1 14 hr1 (by omega) (by omega) (by omega)).mono ?_
  rintro e w2 ⟨q, rfl, hq, hr2, hu2⟩
  have u2 : Upd (fun j => j = R) w w2 := hu1.trans hu2
  have hrow2 := hrow1.keep hu2 hT
  have z2 := u2.size
  clear hrow1
  have HW := hide hrow2
  have HL := hide hl1
  clear hrow2 hl1
  by_cases h0 : q = 0
  · subst h0
    have al := (Below.refl w2.heap.size w2).alloc (Nat.le_refl _) (.cells #[.int .i64 1, .int .i64 0, .int .i64 1, .int .i64 0] 152)
    go_wp2_with (at_builtin; refine wpList_appendW w2 _ rfl _ _ 44 rfl w.heap.size 152 i1 (.agg #[.int .i64 0, .int .i64 0, .int .i64 0, .int .i64 0]) 4 32 Try.underlying44 gi gz0 gz1 gz2 rfl (by decide) _ xs.length (pcells xs) rfl HW.out ?qb ⟨w2.heap.size, 0, none⟩ 1 1 (pcell (1, 0, 1, 0)) rfl rfl ?qn (pcell_one _) (by decide) ?q63 ?qby ?_)
    case qb => exact ⟨al, z2⟩
    case qn => first | exact fun _ _ h => h | exact newP_cells _ _ _
    case q63 => have := HL.out; unfold maxLen; omega
    case qby => have := HL.out; omega
    intro v4 w4 hown u4
    go_wp2
    go_ret
    have U4 : Upd (fun j => w.heap.size ≤ j) w2 w4 := (Upd.ofBelow al).trans (u4.mono (fun _ h => h.1))
    refine ⟨v4, xs ++ [(1, 0, 1, 0)], p1 + 1, rfl, .inl (by rw [List.length_append, pcells_snoc]; exact hown), by have := HL.out; simp; omega, hr2.keep U4 (by omega) (fun k h => by omega), by omega, u2.transN U4 (fun i h => h)⟩
  · have e0 : ((q : Int) == 0) = false := by simpa using h0
    by_cases h1 : q = 1
    · subst h1
      have al := (Below.refl w2.heap.size w2).alloc (Nat.le_refl _) (.cells #[.int .i64 99, .int .i64 (-1), .int .i64 1, .int .i64 0] 152)
      go_wp2_with (at_builtin; refine wpList_appendW w2 _ rfl _ _ 44 rfl w.heap.size 152 i1 (.agg #[.int .i64 0, .int .i64 0, .int .i64 0, .int .i64 0]) 4 32 Try.underlying44 gi gz0 gz1 gz2 rfl (by decide) _ xs.length (pcells xs) rfl HW.out ?qb ⟨w2.heap.size, 0, none⟩ 1 1 (pcell (99, -1, 1, 0)) rfl rfl ?qn (pcell_one _) (by decide) ?q63 ?qby ?_)
      case qb => exact ⟨al, z2⟩
      case qn => first | exact fun _ _ h => h | exact newP_cells _ _ _
      case q63 => have := HL.out; unfold maxLen; omega
      case qby => have := HL.out; omega
      intro v4 w4 hown u4
      go_wp2
      go_ret
      have U4 : Upd (fun j => w.heap.size ≤ j) w2 w4 := (Upd.ofBelow al).trans (u4.mono (fun _ h => h.1))
      refine ⟨v4, xs ++ [(99, -1, 1, 0)], p1 + 1, rfl, .inl (by rw [List.length_append, pcells_snoc]; exact hown), by have := HL.out; simp; omega, hr2.keep U4 (by omega) (fun k h => by omega), by omega, u2.transN U4 (fun i h => h)⟩
    · have e1 : ((q : Int) == 1) = false := by simp; omega
      by_cases h2 : q = 2
      · subst h2
        have al := (Below.refl w2.heap.size w2).alloc (Nat.le_refl _) (.cells #[] 152)
        clear HW HL
        go_wp2
        go_loopw [3, 4] (fun o n wr => ∃ (ys : List Pc) (p' k : Nat), n = .int .i64 k ∧ k ≤ 61 ∧ ys.length = k ∧ RowA wr w.heap.size 152 4 o ys.length (pcells ys) ∧ Rd w0 wr R p' ∧ p' = p1 + 1 + k ∧ Upd (fun j => j = R) w wr) (fun _ n _ => 62 - (intOf n).toNat)
        case atStart => exact ⟨[], p1 + 1, 0, rfl, by omega, rfl, .inr ⟨rfl, rfl, _, rfl⟩, hr2.keepB al, rfl, u2.trans (Upd.ofBelow al)⟩
        case round =>
          obtain ⟨ys, p', k, rfl, hk, hl, hrow, hrr, hpp, hu⟩ := hrel
          have hpb : p' ≤ 900000 := by omega
          have Hpp := hide hpp
          have HL := hide hl
          have HW := hide hrow
          clear hl hrow hpp
          go_wp2_with fail
          refine (pick_any w0 _ R p' 2 hrr (by omega) (by omega) (by omega)).mono ?_
          rintro e w3 ⟨q3, rfl, hq3, hr3, hu3⟩
          have U3 := hu.trans hu3
          have z3 := U3.size
          by_cases hlt : k < 60 + q3
          · have hi : (k : Int) < 60 + (q3 : Int) := by omega
            have al3 := (Below.refl w3.heap.size w3).alloc (Nat.le_refl _) (.cells #[.int .i64 1, .int .i64 (k : Int), .int .i64 1, .int .i64 (k : Int)] 152)
            have HW3 := hide (HW.out.keep hu3 hT)
            go_wp2_with (at_builtin; refine wpList_appendW w3 _ rfl _ _ 44 rfl w.heap.size 152 i1 (.agg #[.int .i64 0, .int .i64 0, .int .i64 0, .int .i64 0]) 4 32 Try.underlying44 gi gz0 gz1 gz2 rfl (by decide) _ ys.length (pcells ys) rfl HW3.out ?qb ⟨w3.heap.size, 0, none⟩ 1 1 (pcell (1, (k : Int), 1, (k : Int))) rfl rfl ?qn (pcell_one _) (by decide) ?q63 ?qby ?_)
            case qb => exact ⟨al3, z3⟩
            case qn => first | exact fun _ _ h => h | exact newP_cells _ _ _
            case q63 => have := HL.out; unfold maxLen; omega
            case qby => have := HL.out; omega
            intro v4 w4 hown u4
            have U4 : Upd (fun j => w.heap.size ≤ j) w3 w4 := (Upd.ofBelow al3).trans (u4.mono (fun _ h => h.1))
            go_wp2
            go_roundw
            case rel =>
              have hlo := HL.out
              have hpo := Hpp.out
              exact ⟨ys ++ [(1, (k : Int), 1, (k : Int))], p' + 1, k + 1, by go_num, by omega, by simp; omega, .inl (by rw [List.length_append, pcells_snoc]; exact hown), hr3.keep U4 (by omega) (fun k h => by omega), by omega, U3.transN U4 (fun i h => h)⟩
            case measure => simp [intOf]; omega
          · have hi : ¬ (k : Int) < 60 + (q3 : Int) := by omega
            go_wp2
            go_ret
            have hlo := HL.out
            have hpo := Hpp.out
            exact ⟨_, ys, p' + 1, rfl, HW.out.keep hu3 hT, by omega, hr3, by omega, U3⟩
      · have e2 : ((q : Int) == 2) = false := by simp; omega
        go_wp2
        go_ret
        exact ⟨v1, xs, p1 + 1, rfl, HW.out, by have := HL.out; omega, hr2, by omega, u2⟩

end Go.Proofs.Yteddhdbglciahaa

/- BlkMark of the specification: a contract; no statement of the seat is proved here. -/
namespace Go.Proofs.Yteddhdbglciahaa
open Go.RowKit

set_option maxRecDepth 100000 in
set_option maxHeartbeats 1500000 in
theorem specBlkMark_any (ao : Option Addr) (ca : Nat) (xs : List Lc) (d b : Int) (w : World) (hr : RowR w 2 (.slice ao xs.length ca) xs.length (lcells xs)) :
    Calls Try.prog 136 #[.slice ao xs.length ca, .int .i64 d, .int .i64 b] w fun e w' => ∃ v', e = .returned v' ∧ RowA w' w.heap.size 156 2 v' (markR xs d b).length (lcells (markR xs d b)) ∧ Below w.heap.size w w' := by
  obtain ⟨i1, gi, gz0, gz1, gz2⟩ := info_parts infoLc
  have al0 : Below w.heap.size w (w.alloc (.cells #[] 156)) := (Below.refl _ _).alloc (Nat.le_refl _) _
  have Hr := hide hr
  have cK := l3LastOk_any _ xs _ (hr.keep al0)
  cases hok : okC xs
  · have HR : Hid (markR xs d b = []) := by show _ = _; simp [markR, hok]
    rw [hok] at cK
    go_enter Try.func136, Try.ntmps136
    go_wp2_with fail
    refine cK.mono ?_
    rintro e w1 ⟨rfl, b1⟩
    go_wp2
    go_ret
    exact ⟨_, rfl, by rw [HR.out]; exact .inr ⟨rfl, rfl, _, rfl⟩, bAll al0 b1⟩
  · have hl : xs.length ≤ 4 := ok_len hok
    have HOK := hide hok
    rw [hok] at cK
    obtain ⟨g, hg⟩ : ∃ g, callL xs d = g := ⟨_, rfl⟩
    obtain ⟨j1, h1⟩ : ∃ i, inI d 0 3 = i := ⟨_, rfl⟩
    obtain ⟨j2, h2⟩ : ∃ i, inI b 1 99999 = i := ⟨_, rfl⟩
    have HM : Hid (markR xs d b = if (j1 && (j2 && decide (g < b))) = true then insL ordL xs (d, b) else xs) := by show _ = _; rw [markR, if_pos hok, h1, h2, hg]
    have c1 := fun w => l6In_inI d 0 3 w
    have c2 := fun w => l6In_inI b 1 99999 w
    have cC := fun w h => specBlkCall_any ao ca xs d w h
    have hgr : callR xs d = g := by rw [callR, if_pos hok, hg]
    rw [hgr] at cC
    rw [h1] at c1
    rw [h2] at c2
    have H1 := hide h1
    have H2 := hide h2
    clear hgr h1 h2 hg hok
    by_cases hall : (j1 && (j2 && decide (g < b))) = true
    · rw [if_pos hall] at HM
      rw [Bool.and_eq_true, Bool.and_eq_true, decide_eq_true_eq] at hall
      obtain ⟨rfl, rfl, hgb⟩ := hall
      have hin := inI_iff.1 H1.out
      have hin2 := inI_iff.1 H2.out
      have HB := hide (bld_ins HOK.out hin hin2.1)
      have e1 : decide (g ≥ b) = false := by simp; omega
      have e2 : decide (b ≤ g) = false := by simp; omega
      have hn0 := hide (fun c => okC_nonneg HOK.out c)
      clear hin hin2
      go_enter Try.func136, Try.ntmps136
      go_wp2_with fail
      refine cK.mono ?_
      rintro e w1 ⟨rfl, b1⟩
      go_wp2_with fail
      refine (c1 _).mono ?_
      rintro e w' ⟨rfl, rfl⟩
      go_wp2_with fail
      refine (c2 _).mono ?_
      rintro e w' ⟨rfl, rfl⟩
      go_wp2_with fail
      refine (cC _ (Hr.out.keep (bAll al0 b1))).mono ?_
      rintro e w2 ⟨rfl, b2⟩
      clear cK cC c1 c2
      go_wp2
      go_loopw [7, 8] (fun o i wr => ∃ k : Nat, k ≤ 4 ∧ i = .int .i64 k ∧ RowA wr w.heap.size 156 2 o (bldL xs d b k).length (lcells (bldL xs d b k)) ∧ Below w.heap.size w wr) (fun _ i _ => 4 - (intOf i).toNat)
      case atStart => exact ⟨0, Nat.zero_le _, rfl, .inr ⟨rfl, rfl, _, rfl⟩, bAll al0 (bAll b1 b2)⟩
      case round =>
        obtain ⟨k, hk, rfl, hrow, hbel⟩ := hrel
        have HW := hide hrow
        clear hrow
        have hzr := hbel.size
        by_cases hlt : k < 4
        · have hi : (k : Int) < 4 := by omega
          have hol := hide (bld_len xs d b k)
          obtain ⟨u, hu⟩ : ∃ u, callR xs (k : Int) = u := ⟨_, rfl⟩
          have hu' : callL xs (k : Int) = u := by rw [← hu, callR, if_pos HOK.out]
          have cC := specBlkCall_any ao ca xs (k : Int) wr (Hr.out.keep hbel)
          rw [hu] at cC
          have HS : Hid (bldL xs d b (k + 1) = bldL xs d b k ++ (if 0 < (if (k : Int) = d then b else u) then [((k : Int), (if (k : Int) = d then b else u))] else [])) := by show _ = _; rw [bldL]; simp only [nOf, hu']
          clear hu hu'
          by_cases hkd : (k : Int) = d
          · rw [if_pos hkd] at HS
            by_cases hp : 0 < b
            · rw [if_pos hp] at HS
              subst hkd
              go_wp2_with fail
              refine cC.mono ?_
              rintro e w3 ⟨rfl, b3⟩
              have hz3 := b3.size
              go_wp2_with (at_builtin; refine wpList_appendW wr _ rfl _ _ 45 rfl w.heap.size 156 i1 (.agg #[.int .i64 0, .int .i64 0]) 2 16 Try.underlying45 gi gz0 gz1 gz2 rfl (by decide) _ (bldL xs (k : Int) b k).length (lcells (bldL xs (k : Int) b k)) rfl HW.out ?qb ⟨w3.heap.size, 0, none⟩ 1 1 (lcell ((k : Int), b)) rfl rfl ?qn (lcell_one _) (by decide) ?q63 ?qby ?_)
              case qb => first | exact ⟨bAlloc b3 _, hzr⟩ | exact bAlloc b3 _
              case qn => first | exact fun _ _ h => h | exact newC_cells _ _ _
              case q63 => have := hol.out; unfold maxLen; omega
              case qby => have := hol.out; omega
              intro v4 w4 hown u4
              have b4 : Below w.heap.size w w4 := (bAll hbel (bAlloc b3 _)).trans (u4.below (by simp; omega) (fun _ h => h.1))
              go_wp2
              go_roundw
              case rel => exact ⟨k + 1, by omega, by go_num, by rw [HS.out, lcells_snoc, List.length_append]; exact .inl hown, b4⟩
              case measure => simp [intOf]; omega
            · exact absurd (inI_iff.1 H2.out).1 (by omega)
          · rw [if_neg hkd] at HS
            have e3 : ((k : Int) == d) = false := by simpa using hkd
            by_cases hp : 0 < u
            · rw [if_pos hp] at HS
              go_wp2_with fail
              refine cC.mono ?_
              rintro e w3 ⟨rfl, b3⟩
              have hz3 := b3.size
              go_wp2_with (at_builtin; refine wpList_appendW wr _ rfl _ _ 45 rfl w.heap.size 156 i1 (.agg #[.int .i64 0, .int .i64 0]) 2 16 Try.underlying45 gi gz0 gz1 gz2 rfl (by decide) _ (bldL xs d b k).length (lcells (bldL xs d b k)) rfl HW.out ?qb ⟨w3.heap.size, 0, none⟩ 1 1 (lcell ((k : Int), u)) rfl rfl ?qn (lcell_one _) (by decide) ?q63 ?qby ?_)
              case qb => first | exact ⟨bAlloc b3 _, hzr⟩ | exact bAlloc b3 _
              case qn => first | exact fun _ _ h => h | exact newC_cells _ _ _
              case q63 => have := hol.out; unfold maxLen; omega
              case qby => have := hol.out; omega
              intro v4 w4 hown u4
              have b4 : Below w.heap.size w w4 := (bAll hbel (bAlloc b3 _)).trans (u4.below (by simp; omega) (fun _ h => h.1))
              go_wp2
              go_roundw
              case rel => exact ⟨k + 1, by omega, by go_num, by rw [HS.out, lcells_snoc, List.length_append]; exact .inl hown, b4⟩
              case measure => simp [intOf]; omega
            · rw [if_neg hp, List.append_nil] at HS
              have e4 : decide (u > 0) = false := by simp; omega
              have e5 : decide (0 < u) = false := by simp; omega
              go_wp2_with fail
              refine cC.mono ?_
              rintro e w3 ⟨rfl, b3⟩
              go_wp2
              go_roundw
              case rel => exact ⟨k + 1, by omega, by go_num, by rw [HS.out]; exact HW.out.keepB b3, bAll hbel b3⟩
              case measure => simp [intOf]; omega
        · go_wp2
          go_ret
          obtain rfl : k = 4 := by omega
          exact ⟨_, rfl, by rw [HM.out, ← HB.out]; exact HW.out, hbel⟩
    · rw [if_neg hall] at HM
      have hcase : j1 = false ∨ (j1 = true ∧ j2 = false) ∨ (j1 = true ∧ j2 = true ∧ ¬ g < b) := by
        cases j1 <;> cases j2 <;> simp_all
      clear hall
      rcases hcase with rfl | ⟨rfl, rfl⟩ | ⟨rfl, rfl, hge⟩
      · go_enter Try.func136, Try.ntmps136
        go_wp2_with fail
        refine cK.mono ?_
        rintro e w1 ⟨rfl, b1⟩
        go_wp2_with fail
        refine (c1 _).mono ?_
        rintro e w' ⟨rfl, rfl⟩
        have b2' := b1
        go_wp2_with (at_builtin; refine wpList_copyA0 _ rfl _ _ 45 rfl w.heap.size 156 i1 (.agg #[.int .i64 0, .int .i64 0]) 2 16 Try.underlying45 gi gz0 gz1 gz2 rfl (by decide) (some ⟨w.heap.size, 0, none⟩) rfl _ xs.length (lcells xs) rfl ?qrow (lcells_one _) (by omega) (by omega) ?qbase ?_)
        case qrow => exact Hr.out.keep (bAll al0 b2')
        case qbase => have := (bAll al0 b2').size; omega
        intro v6 w6 r6 u6
        have b6 : Below w.heap.size w w6 := bAll3 (bAll al0 b2') u6
        go_wp2
        go_ret
        exact ⟨_, rfl, by rw [HM.out]; exact r6, b6⟩
      · go_enter Try.func136, Try.ntmps136
        go_wp2_with fail
        refine cK.mono ?_
        rintro e w1 ⟨rfl, b1⟩
        go_wp2_with fail
        refine (c1 _).mono ?_
        rintro e w' ⟨rfl, rfl⟩
        go_wp2_with fail
        refine (c2 _).mono ?_
        rintro e w' ⟨rfl, rfl⟩
        have b2' := b1
        go_wp2_with (at_builtin; refine wpList_copyA0 _ rfl _ _ 45 rfl w.heap.size 156 i1 (.agg #[.int .i64 0, .int .i64 0]) 2 16 Try.underlying45 gi gz0 gz1 gz2 rfl (by decide) (some ⟨w.heap.size, 0, none⟩) rfl _ xs.length (lcells xs) rfl ?qrow (lcells_one _) (by omega) (by omega) ?qbase ?_)
        case qrow => exact Hr.out.keep (bAll al0 b2')
        case qbase => have := (bAll al0 b2').size; omega
        intro v6 w6 r6 u6
        have b6 : Below w.heap.size w w6 := bAll3 (bAll al0 b2') u6
        go_wp2
        go_ret
        exact ⟨_, rfl, by rw [HM.out]; exact r6, b6⟩
      · have e1 : decide (g ≥ b) = true := by simp; omega
        have e2 : decide (b ≤ g) = true := by simp; omega
        go_enter Try.func136, Try.ntmps136
        go_wp2_with fail
        refine cK.mono ?_
        rintro e w1 ⟨rfl, b1⟩
        go_wp2_with fail
        refine (c1 _).mono ?_
        rintro e w' ⟨rfl, rfl⟩
        go_wp2_with fail
        refine (c2 _).mono ?_
        rintro e w' ⟨rfl, rfl⟩
        go_wp2_with fail
        refine (cC _ (Hr.out.keep (bAll al0 b1))).mono ?_
        rintro e w2 ⟨rfl, b2⟩
        have b2' := bAll b1 b2
        go_wp2_with (at_builtin; refine wpList_copyA0 _ rfl _ _ 45 rfl w.heap.size 156 i1 (.agg #[.int .i64 0, .int .i64 0]) 2 16 Try.underlying45 gi gz0 gz1 gz2 rfl (by decide) (some ⟨w.heap.size, 0, none⟩) rfl _ xs.length (lcells xs) rfl ?qrow (lcells_one _) (by omega) (by omega) ?qbase ?_)
        case qrow => exact Hr.out.keep (bAll al0 b2')
        case qbase => have := (bAll al0 b2').size; omega
        intro v6 w6 r6 u6
        have b6 : Below w.heap.size w w6 := bAll3 (bAll al0 b2') u6
        go_wp2
        go_ret
        exact ⟨_, rfl, by rw [HM.out]; exact r6, b6⟩

end Go.Proofs.Yteddhdbglciahaa

/- Last calls that are drawn; the laws' comparison of two lists: contracts; no statement of the seat is proved here. -/
namespace Go.Proofs.Yteddhdbglciahaa
open Go.RowKit

set_option maxRecDepth 100000 in
set_option maxHeartbeats 2000000 in
theorem l72Last_any (w0 w : World) (R p : Nat) (hr : Rd w0 w R p) (hp : p ≤ 800000) :
    Calls Try.prog 119 #[.pointer (some ⟨R, 0, none⟩)] w fun e w' => ∃ v xs p', e = .returned v ∧ RowA w' w.heap.size 156 2 v xs.length (lcells xs) ∧ xs.length ≤ 61 ∧ Rd w0 w' R p' ∧ p' ≤ p + 1000 ∧ Upd (fun j => j = R) w w' := by
  obtain ⟨i1, gi, gz0, gz1, gz2⟩ := info_parts infoLc
  obtain ⟨hRl, hR0, hw0⟩ := hr.lt
  have hT : ∀ j, w.heap.size ≤ j → ¬ j = R := fun j h e => by omega
  have al0 : Below w.heap.size w (w.alloc (.cells #[] 156)) := (Below.refl _ _).alloc (Nat.le_refl _) _
  have hr0 := hr.keepB al0
  go_enter Try.func119, Try.ntmps119
  go_wp2_with fail
  refine (pick_any w0 _ R p 5 hr0 (by omega) (by omega) (by omega)).mono ?_
  rintro e w1 ⟨q, rfl, hq, hr1, hu1⟩
  have U1 : Upd (fun j => j = R) w w1 := (Upd.ofBelow al0).trans hu1
  go_wp2
  go_loopw [3, 4] (fun o n wr => ∃ (xs : List Lc) (p' k : Nat), n = .int .i64 k ∧ k ≤ 100 ∧ RowA wr w.heap.size 156 2 o xs.length (lcells xs) ∧ xs.length ≤ 60 ∧ Rd w0 wr R p' ∧ p' + 4 * k ≤ p + 900 ∧ Upd (fun j => j = R) w wr) (fun _ n _ => (intOf n).toNat)
  case atStart => exact ⟨[], p + 1, q, rfl, by omega, .inr ⟨rfl, rfl, _, rfl⟩, by simp, hr1, by omega, U1⟩
  case round =>
    obtain ⟨xs, p', k, rfl, hk, hrow, hl, hrr, hpp, hu⟩ := hrel
    cases k with
    | zero =>
      have HW := hide hrow
      have HL := hide hl
      clear hrow hl
      go_wp2_with fail
      refine (pick_any w0 _ R p' 14 hrr (by omega) (by omega) (by omega)).mono ?_
      rintro e w2 ⟨q2, rfl, hq2, hr2, hu2⟩
      have U2 := hu.trans hu2
      by_cases h0 : q2 = 0
      · subst h0
        go_wp2_with fail
        refine (pick_any w0 _ R (p' + 1) 5 hr2 (by omega) (by omega) (by omega)).mono ?_
        rintro e w3 ⟨q3, rfl, hq3, hr3, hu3⟩
        go_wp2_with fail
        refine (pick_any w0 _ R (p' + 1 + 1) 2 hr3 (by omega) (by omega) (by omega)).mono ?_
        rintro e w4 ⟨q4, rfl, hq4, hr4, hu4⟩
        have U4 := U2.trans (hu3.trans hu4)
        have z4 := U4.size
        have HW4 := hide (HW.out.keep (hu2.trans (hu3.trans hu4)) hT)
        have al := (Below.refl w4.heap.size w4).alloc (Nat.le_refl _) (.cells #[.int .i64 (q3 : Int), .int .i64 (q4 : Int)] 156)
        go_wp2_with (at_builtin; refine wpList_appendW w4 _ rfl _ _ 45 rfl w.heap.size 156 i1 (.agg #[.int .i64 0, .int .i64 0]) 2 16 Try.underlying45 gi gz0 gz1 gz2 rfl (by decide) _ xs.length (lcells xs) rfl HW4.out ?qb ⟨w4.heap.size, 0, none⟩ 1 1 (lcell ((q3 : Int), (q4 : Int))) rfl rfl ?qn (lcell_one _) (by decide) ?q63 ?qby ?_)
        case qb => exact ⟨al, z4⟩
        case qn => first | exact fun _ _ h => h | exact newC_cells _ _ _
        case q63 => have := HL.out; unfold maxLen; omega
        case qby => have := HL.out; omega
        intro v5 w5 hown u5
        have U5 : Upd (fun j => w.heap.size ≤ j) w4 w5 := (Upd.ofBelow al).trans (u5.mono (fun _ h => h.1))
        go_wp2
        go_ret
        exact ⟨v5, xs ++ [((q3 : Int), (q4 : Int))], p' + 1 + 1 + 1, rfl, .inl (by rw [List.length_append, lcells_snoc]; exact hown), by have := HL.out; simp; omega, hr4.keep U5 (by omega) (fun k h => by omega), by omega, U4.transN U5 (fun i h => h)⟩
      · have e0 : ((q2 : Int) == 0) = false := by simpa using h0
        go_wp2
        go_ret
        exact ⟨_, xs, p' + 1, rfl, HW.out.keep hu2 hT, by have := HL.out; omega, hr2, by omega, U2⟩
    | succ k =>
      have HW := hide hrow
      have HL := hide hl
      obtain ⟨ao, ca, rfl⟩ := hrow.shape
      clear hrow hl
      go_wp2_with fail
      refine (pick_any w0 _ R p' 4 hrr (by omega) (by omega) (by omega)).mono ?_
      rintro e w2 ⟨q2, rfl, hq2, hr2, hu2⟩
      go_wp2_with fail
      refine (pick_any w0 _ R (p' + 1) 9 hr2 (by omega) (by omega) (by omega)).mono ?_
      rintro e w3 ⟨q3, rfl, hq3, hr3, hu3⟩
      have u3 : Upd (fun j => j = R) wr w3 := hu2.trans hu3
      have z3 := u3.size
      have zw := hu.size
      have HR := hide ((HW.out.keep u3 hT).row (by have := HL.out; omega)).reads
      go_wp2_with fail
      refine (specBlkMark_any ao ca xs _ _ w3 HR.out).mono ?_
      rintro e w6 ⟨v6, rfl, hrow6, b6⟩
      go_wp2
      go_roundw
      case rel => exact ⟨_, p' + 1 + 1, k, by first | go_num | (simp; omega), by omega, hrow6.mono (by omega), markR_len _ _ _, hr3.keepB b6, by omega, (hu.trans u3).trans (Upd.ofBelow b6)⟩
      case measure => first | (simp [intOf]; done) | (simp [intOf]; omega)

set_option maxHeartbeats 1000000 in
theorem lpPieces_true (va vb : Value) (n : Nat) (xs : List Pc) (w : World) (ha : RowR w 4 va n (pcells xs)) (hb : RowR w 4 vb n (pcells xs)) :
    Calls Try.prog 120 #[va, vb] w fun e w' => e = .returned (.bool true) ∧ Below w.heap.size w w' := by
  obtain ⟨ao, ca, rfl, hn, hl, ha⟩ := ha
  obtain ⟨bo, cb, rfl, _, _, hb⟩ := hb
  rw [pcells_len] at hl
  go_enter Try.func120, Try.ntmps120
  go_wp2
  go_loopw [5] (fun i wr => ∃ k : Nat, k ≤ n ∧ i = .int .i64 k ∧ Below w.heap.size w wr) (fun i _ => n - (intOf i).toNat)
  case atStart => exact ⟨0, Nat.zero_le _, rfl, Below.refl _ _⟩
  case round =>
    obtain ⟨k, hk, rfl, hbel⟩ := hrel
    by_cases hlt : k < n
    · obtain ⟨b1, o1, rfl, hc1⟩ := ha (by omega)
      obtain ⟨b2, o2, rfl, hc2⟩ := hb (by omega)
      obtain ⟨x, hx⟩ := getAt xs k (by omega)
      obtain ⟨f0, f1, f2, f3, l1⟩ := pc_cells hc1 hx hbel
      obtain ⟨g0, g1, g2, g3, l2⟩ := pc_cells hc2 hx hbel
      obtain ⟨d, b, p, t⟩ := x
      have hi : (k : Int) < (n : Int) := by omega
      clear ha hb hc1 hc2 hx hl
      go_wp2
      go_region
      all_goals
        go_wp2
        go_roundw
        case rel => exact ⟨k + 1, by omega, by go_num, hbel.drew⟩
        case measure => simp [intOf]; omega
    · go_wp2
      go_ret
      exact ⟨rfl, hbel⟩

set_option maxHeartbeats 1000000 in
theorem lpLast_true (va vb : Value) (n : Nat) (xs : List Lc) (w : World) (ha : RowR w 2 va n (lcells xs)) (hb : RowR w 2 vb n (lcells xs)) :
    Calls Try.prog 121 #[va, vb] w fun e w' => e = .returned (.bool true) ∧ Below w.heap.size w w' := by
  obtain ⟨ao, ca, rfl, hn, hl, ha⟩ := ha
  obtain ⟨bo, cb, rfl, _, _, hb⟩ := hb
  rw [lcells_len] at hl
  go_enter Try.func121, Try.ntmps121
  go_wp2
  go_loopw [5] (fun i wr => ∃ k : Nat, k ≤ n ∧ i = .int .i64 k ∧ Below w.heap.size w wr) (fun i _ => n - (intOf i).toNat)
  case atStart => exact ⟨0, Nat.zero_le _, rfl, Below.refl _ _⟩
  case round =>
    obtain ⟨k, hk, rfl, hbel⟩ := hrel
    by_cases hlt : k < n
    · obtain ⟨b1, o1, rfl, hc1⟩ := ha (by omega)
      obtain ⟨b2, o2, rfl, hc2⟩ := hb (by omega)
      obtain ⟨x, hx⟩ := getAt xs k (by omega)
      obtain ⟨f0, f1, l1⟩ := lc_cells hc1 hx hbel
      obtain ⟨g0, g1, l2⟩ := lc_cells hc2 hx hbel
      obtain ⟨d, b⟩ := x
      have hi : (k : Int) < (n : Int) := by omega
      clear ha hb hc1 hc2 hx hl
      go_wp2
      go_region
      all_goals
        go_wp2
        go_roundw
        case rel => exact ⟨k + 1, by omega, by go_num, hbel.drew⟩
        case measure => simp [intOf]; omega
    · go_wp2
      go_ret
      exact ⟨rfl, hbel⟩

end Go.Proofs.Yteddhdbglciahaa
