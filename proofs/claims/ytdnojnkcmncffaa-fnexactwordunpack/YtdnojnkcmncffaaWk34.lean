/- Contracts and plain facts that this claim leans on (texts XUT); no statement of the seat is proved here. -/
import Derived.Test.YtdnojnkcmncffaaWk33
import Derived.Test.YtdnojnkcmncffaaWk28
import Derived.Laws.Shifts

/- The program's reader of numbers: contracts; no statement of the seat is proved here. -/
namespace Go.Proofs.Ytdnojnkcmncffaa
open Go.RowKit

/-- Bytes that are still to be taken, behind a pointer. -/
def Tk (w0 w : World) (G : Nat) (bs : List Nat) : Prop :=
  ∃ (so : Option Addr) (ns sc : Nat), RowR w0 1 (.slice so ns sc) ns (byts bs) ∧ ns ≤ sc ∧ ns ≤ 1048576 ∧ (∀ b ∈ bs, b < 256) ∧
    w.heap[G]? = some (.cells #[.slice so ns sc] 69 (0, 0)) ∧ w0.heap.size ≤ G ∧ Below w0.heap.size w0 w

theorem Tk.keep {w0 w w' : World} {G : Nat} {bs : List Nat} {T : Nat → Prop} (h : Tk w0 w G bs) (hu : Upd T w w') (hG : ¬ T G) (hT : ∀ k, T k → w0.heap.size ≤ k) : Tk w0 w' G bs := by
  obtain ⟨so, ns, sc, h1, h2, h3, h4, h5, h6, h7⟩ := h
  exact ⟨so, ns, sc, h1, h2, h3, h4, hu.keeps h5 hG, h6, h7.trans (hu.below h7.size hT)⟩
theorem Tk.keepB {w0 w w' : World} {G : Nat} {bs : List Nat} (h : Tk w0 w G bs) (hu : Below w.heap.size w w') : Tk w0 w' G bs :=
  h.keep (T := fun _ => False) (Upd.ofBelow hu) (fun h => h) (fun _ h => h.elim)
theorem Tk.lt {w0 w : World} {G : Nat} {bs : List Nat} (h : Tk w0 w G bs) : G < w.heap.size ∧ w0.heap.size ≤ G ∧ w0.heap.size ≤ w.heap.size := by
  obtain ⟨so, ns, sc, h1, h2, h3, h4, h5, h6, h7⟩ := h
  exact ⟨heap_lt h5, h6, h7.size⟩

theorem RowR.from {w : World} {b off n cap j : Nat} {bs : List Nat} (h : RowR w 1 (.slice (some ⟨b, off, none⟩) n cap) n (byts bs)) (hj : j ≤ n) : RowR w 1 (.slice (some ⟨b, off + j, none⟩) (n - j) (cap - j)) (n - j) (byts (bs.drop j)) := by
  obtain ⟨ao, cap', e, hn, hl, h⟩ := h
  injection e with e1 e2 e3
  subst e1 e3
  rw [byts_len] at hl
  refine ⟨_, _, rfl, by omega, by rw [byts_len, List.length_drop]; omega, fun h0 => ⟨b, off + j, rfl, fun i u hi => ?_⟩⟩
  obtain ⟨b', off', e, hc⟩ := h (by omega)
  simp only [Option.some.injEq, Addr.mk.injEq, and_true] at e
  obtain ⟨rfl, rfl⟩ := e
  rw [Nat.add_assoc]
  refine hc (j + i) u ?_
  rw [← hi]
  simp [byts]

/-- What taking a number gives. -/
def Tk1 (w0 w : World) (G : Nat) (bs : List Nat) (xs : List Int) (w' : World) : Prop := ∃ bs', Tk w0 w' G bs' ∧ Rdn bs xs bs' ∧ Upd (fun j => j = G) w w'

def Mid2 (bs : List Nat) (k : Nat) (s : Int) : Prop := ∀ m rest, m ≤ 100000 → bs = encN m ++ rest → ∃ u pl : Nat, s = (u : Int) ∧ ((k = 0 ∧ pl = 1 ∧ u < 1) ∨ (k = 1 ∧ pl = 128 ∧ u < 128) ∨ (k = 2 ∧ pl = 16384 ∧ u < 16384)) ∧ Lft (bs.drop k) u pl m rest

theorem shl_small (y k pl : Nat) (hy : y < 128) (hk : (k = 0 ∧ pl = 1) ∨ (k = 1 ∧ pl = 128) ∨ (k = 2 ∧ pl = 16384)) : IntKind.i64.wrap ((y : Int) * 2 ^ min (7 * (k : Int)).toNat IntKind.i64.bits) = ((y * pl : Nat) : Int) := by
  rcases hk with ⟨rfl, rfl⟩ | ⟨rfl, rfl⟩ | ⟨rfl, rfl⟩
  · simp [IntKind.wrap, IntKind.bits, IntKind.signed]; omega
  · simp [IntKind.wrap, IntKind.bits, IntKind.signed]; omega
  · simp [IntKind.wrap, IntKind.bits, IntKind.signed]; omega

theorem or_small (u x i pl : Nat) (hp : pl = 2 ^ i) (hu : u < pl) (hb : x * pl + u < 4611686018427387904) : bits .or .i64 (u : Int) ((x * pl : Nat) : Int) = ((u + x * pl : Nat) : Int) := by
  have h1 : (BitVec.ofInt 64 (u : Int)).toNat = u := by
    rw [BitVec.ofInt_natCast, BitVec.toNat_ofNat]; exact Nat.mod_eq_of_lt (by omega)
  have h2 : (BitVec.ofInt 64 ((x * pl : Nat) : Int)).toNat = x * pl := by
    rw [BitVec.ofInt_natCast, BitVec.toNat_ofNat]; exact Nat.mod_eq_of_lt (by omega)
  have h3 : u ||| x * pl = u + x * pl := by
    have := Nat.shiftLeft_add_eq_or_of_lt (b := u) (i := i) (by rw [← hp]; exact hu) x
    rw [Nat.shiftLeft_eq, ← hp] at this
    rw [Nat.or_comm, ← this, Nat.add_comm]
  show IntKind.i64.wrap ((BitVec.ofInt 64 (u : Int) ||| BitVec.ofInt 64 ((x * pl : Nat) : Int)).toNat : Int) = _
  rw [BitVec.toNat_or, h1, h2, h3]
  have hb' : u + x * pl < 4611686018427387904 := by omega
  clear hb h1 h2 h3
  generalize u + x * pl = c at hb' ⊢
  simp [IntKind.wrap, IntKind.bits, IntKind.signed]
  omega

/-- One byte more of a number. -/
theorem Mid2.sum {bs : List Nat} {k y : Nat} {s X : Int} (h : Mid2 bs k s) (hX : X = IntKind.i64.wrap (((y : Int) % 128) * 2 ^ min (7 * (k : Int)).toNat IntKind.i64.bits)) {m : Nat} {rest : List Nat} (hm : m ≤ 100000) (e : bs = encN m ++ rest) :
    ∃ u pl : Nat, bits .or .i64 s X = ((u + y % 128 * pl : Nat) : Int) ∧ ((k = 0 ∧ pl = 1 ∧ u < 1) ∨ (k = 1 ∧ pl = 128 ∧ u < 128) ∨ (k = 2 ∧ pl = 16384 ∧ u < 16384)) ∧ Lft (bs.drop k) u pl m rest := by
  obtain ⟨u, pl, rfl, hp, hl⟩ := h m rest hm e
  refine ⟨u, pl, ?_, hp, hl⟩
  have hX2 := shl_small (y % 128) k pl (by omega) (by omega)
  rw [show ((y % 128 : Nat) : Int) = (y : Int) % 128 by omega] at hX2
  rw [hX, hX2]
  rcases hp with ⟨-, rfl, hu⟩ | ⟨-, rfl, hu⟩ | ⟨-, rfl, hu⟩
  · exact or_small u (y % 128) 0 1 rfl hu (by omega)
  · exact or_small u (y % 128) 7 128 rfl hu (by omega)
  · exact or_small u (y % 128) 14 16384 rfl hu (by omega)

theorem Mid2.last {bs : List Nat} {k y : Nat} {s X : Int} (h : Mid2 bs k s) (hy : y < 128) (hX : X = IntKind.i64.wrap (((y : Int) % 128) * 2 ^ min (7 * (k : Int)).toNat IntKind.i64.bits)) (hc : bs.drop k = y :: bs.drop (k + 1)) : Rdn bs [wrap64 (bits .or .i64 s X - 1)] (bs.drop (k + 1)) := by
  refine Rdn.one (fun m rest hm e => ?_)
  obtain ⟨u, pl, e1, hp, hl⟩ := h.sum hX hm e
  rw [hc] at hl
  obtain ⟨g1, g2⟩ := hl.last hy
  refine ⟨?_, g2⟩
  rw [e1, ← g1]
  simp [wrap64]
  omega

theorem Mid2.more {bs : List Nat} {k y : Nat} {s X : Int} (h : Mid2 bs k s) (hy : 128 ≤ y) (hX : X = IntKind.i64.wrap (((y : Int) % 128) * 2 ^ min (7 * (k : Int)).toNat IntKind.i64.bits)) (hc : bs.drop k = y :: bs.drop (k + 1)) : Mid2 bs (k + 1) (bits .or .i64 s X) := by
  intro m rest hm e
  obtain ⟨u, pl, e1, hp, hl⟩ := h.sum hX hm e
  rw [hc] at hl
  have hl2 := hl.more hy
  refine ⟨_, _, e1, ?_, hl2⟩
  rcases hp with ⟨rfl, rfl, hu⟩ | ⟨rfl, rfl, hu⟩ | ⟨rfl, rfl, hu⟩
  · exact .inr (.inl ⟨rfl, rfl, by omega⟩)
  · exact .inr (.inr ⟨rfl, rfl, by omega⟩)
  · exfalso
    have := hl2.big (by omega)
    omega

theorem takeEnd {w0 w : World} {G n' c' : Nat} {so' : Option Addr} {bs bs' : List Nat} (h : Tk w0 w G bs) (hr : RowR w0 1 (.slice so' n' c') n' (byts bs')) (hc : n' ≤ c') (hn : n' ≤ 1048576) (hb : ∀ b ∈ bs', b ∈ bs) :
    Tk w0 (w.setCell ⟨G, 0, none⟩ (.slice so' n' c')) G bs' ∧ Upd (fun j => j = G) w (w.setCell ⟨G, 0, none⟩ (.slice so' n' c')) := by
  obtain ⟨so, ns, sc, h1, h2, h3, h4, h5, h6, h7⟩ := h
  have hu := Upd.setCell (S := fun j => j = G) w G 0 (.slice so' n' c') rfl
  exact ⟨⟨so', n', c', hr, hc, hn, fun b h => h4 b (hb b h), row_set _ h5, h6, h7.trans (hu.below h7.size (fun k h => by omega))⟩, hu⟩

set_option maxRecDepth 100000 in
set_option maxHeartbeats 4000000 in
theorem takeNumber_any (w0 w : World) (G : Nat) (bs : List Nat) (h : Tk w0 w G bs) :
    Calls Try.prog 78 #[.pointer (some ⟨G, 0, none⟩)] w fun e w' => ∃ (a : Int), e = .returned (.int .i64 a) ∧ Tk1 w0 w G bs [a] w' := by
  have HT := hide h
  obtain ⟨so, ns, sc, h1, h2, h3, h4, h5, h6, h7⟩ := h
  have H1 := hide h1
  have H4 := hide h4
  have H5 := hide h5
  have H7 := hide h7
  have c0 : w.cell? ⟨G, 0, none⟩ = some (.slice so ns sc) := boxAt h5 0
  have c1 : w.frozen? ⟨G, 0, none⟩ = false := boxFz h5 0
  have hlen : bs.length = ns := by
    obtain ⟨_, _, _, _, hl, _⟩ := h1
    rw [byts_len] at hl
    omega
  have HL := hide hlen
  clear h1 h4 h5 h7 hlen
  go_enter Try.func78, Try.ntmps78
  go_wp2
  go_loopw [3, 10] (fun sv iv wr => ∃ (k : Nat) (s : Int), k ≤ ns ∧ iv = .int .i64 k ∧ sv = .int .i64 s ∧ Mid2 bs k s ∧ wr = w) (fun _ iv _ => ns - (intOf iv).toNat)
  case atStart => exact ⟨0, 0, Nat.zero_le _, rfl, rfl, fun m rest hm e => ⟨0, 1, rfl, .inl ⟨rfl, rfl, by omega⟩, Lft.start e⟩, rfl⟩
  case round =>
    obtain ⟨k, s, hk, rfl, rfl, hmid, rfl⟩ := hrel
    have HM := hide hmid
    clear hmid
    by_cases hlt : k < ns
    · have hi : (k : Int) < (ns : Int) := by omega
      obtain ⟨y, hy⟩ := getAt bs k (by have := HL.out; omega)
      have hy2 : y < 256 := H4.out y (List.mem_of_getElem? hy)
      obtain ⟨_, _, e0, -, -, hc0⟩ := H1.out
      injection e0 with e1 e2 e3
      subst e1 e3
      obtain ⟨kb, koff, rfl, hc⟩ := hc0 (by omega)
      have hcu := hc k (.int .u8 (y : Int)) (by simp [byts, hy])
      have hkb := World.block_lt_of_cell? w0 _ hcu
      have fy : wr.cell? ⟨kb, koff + k, none⟩ = some (.int .u8 (y : Int)) := (H7.out.cell (p := ⟨kb, koff + k, none⟩) hkb).trans hcu
      have hne : ¬ kb = G := by simp at hkb; omega
      have hcons : bs.drop k = y :: bs.drop (k + 1) := by
        rw [List.drop_eq_getElem_cons (by have := HL.out; omega)]
        congr 1
        have := List.getElem?_eq_getElem (l := bs) (i := k) (by have := HL.out; omega)
        rw [hy] at this
        injection this with this
        exact this.symm
      have HC := hide hcons
      clear hcu hc hc0 e2 hcons hy
      obtain ⟨X, hXe, hX⟩ : ∃ X, X = IntKind.i64.wrap (((y : Int) % 128) * 2 ^ min (7 * (k : Int)).toNat IntKind.i64.bits) ∧ Op.shift .shl .i64 ((y : Int) % 128) .i64 (7 * (k : Int)) = pure (.int .i64 X) := ⟨_, rfl, shift_shl_any .i64 .i64 _ _ (by omega)⟩
      have HX := hide hXe
      clear hXe
      obtain ⟨Y, hY⟩ : ∃ Y, bits .or .i64 s X = Y := ⟨_, rfl⟩
      have HY := hide hY
      by_cases hs : y < 128
      · have hs' : (y : Int) < 128 := by omega
        by_cases hcap : sc = k + 1
        · obtain rfl : ns = k + 1 := by omega
          subst hcap
          have hnil : bs.drop (k + 1) = [] := List.drop_eq_nil_of_le (by have := HL.out; omega)
          have hrd := HM.out.last hs HX.out HC.out
          rw [HY.out, hnil] at hrd
          have HRD := hide hrd
          clear hnil hrd
          go_wp2
          go_ret
          obtain ⟨g1, g2⟩ := takeEnd (so' := some ⟨kb, koff, none⟩) (n' := k + 1 - (k + 1)) (c' := 0) (bs' := []) HT.out ⟨_, _, rfl, by omega, by simp [byts], fun h => by omega⟩ (by omega) (by omega) (by simp)
          exact ⟨_, rfl, [], by first | exact g1 | simpa using g1, HRD.out, by first | exact g2 | simpa using g2⟩
        · have hrd := HM.out.last hs HX.out HC.out
          rw [HY.out] at hrd
          have HRD := hide hrd
          have HRF := hide (RowR.from (j := k + 1) H1.out (by omega))
          clear hrd
          go_wp2
          go_ret
          obtain ⟨g1, g2⟩ := takeEnd HT.out HRF.out (by omega) (by omega) (fun b hb => List.mem_of_mem_drop hb)
          exact ⟨_, rfl, _, g1, HRD.out, g2⟩
      · have hs' : ¬ (y : Int) < 128 := by omega
        have hmo := HM.out.more (by omega) HX.out HC.out
        rw [HY.out] at hmo
        have HMO := hide hmo
        clear hmo
        go_wp2
        go_roundw
        case rel => exact ⟨k + 1, Y, by omega, by go_num, rfl, HMO.out, by simp⟩
        case measure => simp [intOf]; omega
    · obtain rfl : k = ns := by omega
      have hrd : Rdn bs [-1] [] := Rdn.one (fun m rest hm e => by
        obtain ⟨u, pl, -, -, hl⟩ := HM.out m rest hm e
        have := hl.ne
        rw [List.drop_eq_nil_of_le (by have := HL.out; omega)] at this
        exact absurd rfl this)
      have HRD := hide hrd
      clear hrd
      go_wp2
      go_ret
      obtain ⟨g1, g2⟩ := takeEnd (so' := none) (n' := 0) (c' := 0) (bs' := []) HT.out (RowR.nil _ _) (by omega) (by omega) (by simp)
      exact ⟨_, rfl, [], g1, HRD.out, g2⟩

theorem setNext {pre : List Int} {cur : List Value} {k : Nat} {c : Value} {rest : List Value} (hk : pre.length = k) (hc : cur.drop k = c :: rest) (a : Int) :
    ((pre.map (Value.int .i64)) ++ cur.drop k).toArray.setIfInBounds k (.int .i64 a) = ((pre ++ [a]).map (Value.int .i64) ++ cur.drop (k + 1)).toArray := by
  have h1 : cur.drop (k + 1) = rest := by
    have := congrArg List.tail hc
    rwa [List.tail_drop] at this
  rw [h1, hc, List.setIfInBounds_toArray, List.set_append, if_neg (by simp; omega)]
  simp [hk]

set_option maxRecDepth 100000 in
set_option maxHeartbeats 4000000 in
theorem take_any (w0 w : World) (G D pb po n cap : Nat) (t : TypeId) (cur : Array Value) (bs : List Nat) (h : Tk w0 w G bs) (hD : w.heap[D]? = some (.cells cur t (0, 0))) (hn : n ≤ cur.size) (hn' : n ≤ 1000) (h0 : w0.heap.size ≤ D) (hDG : D ≠ G) (hpG : pb ≠ G) (hpD : pb ≠ D)
    (hp : ∀ k, k < n → w.cell? ⟨pb, po + k, none⟩ = some (.pointer (some ⟨D, k, none⟩))) :
    Calls Try.prog 67 #[.pointer (some ⟨G, 0, none⟩), .slice (some ⟨pb, po, none⟩) n cap] w fun e w' => e = .returned (.tuple #[]) ∧ ∃ (xs : List Int) (bs' : List Nat), xs.length = n ∧ Tk w0 w' G bs' ∧ Rdn bs xs bs' ∧ w'.heap[D]? = some (.cells (xs.map (Value.int .i64) ++ cur.toList.drop n).toArray t (0, 0)) ∧ Upd (fun j => j = G ∨ j = D) w w' := by
  have HT := hide h
  have HD := hide hD
  have HP := hide hp
  clear h hD hp
  go_enter Try.func67, Try.ntmps67
  go_wp2
  go_loopw [8] (fun iv wr => ∃ (k : Nat) (xs : List Int) (bs' : List Nat), k ≤ n ∧ iv = .int .i64 k ∧ xs.length = k ∧ Tk w0 wr G bs' ∧ Rdn bs xs bs' ∧ wr.heap[D]? = some (.cells (xs.map (Value.int .i64) ++ cur.toList.drop k).toArray t (0, 0)) ∧ Upd (fun j => j = G ∨ j = D) w wr) (fun iv _ => n - (intOf iv).toNat)
  case atStart => exact ⟨0, [], bs, Nat.zero_le _, rfl, rfl, HT.out, Rdn.nil _, by simpa using HD.out, Upd.refl _ _⟩
  case round =>
    obtain ⟨k, xs, bs', hk, rfl, hxl, htk, hrd, hbx, hupd⟩ := hrel
    by_cases hlt : k < n
    · have hi : (k : Int) < (n : Int) := by omega
      have f0 : wr.cell? ⟨pb, po + k, none⟩ = some (.pointer (some ⟨D, k, none⟩)) := updCell hupd (HP.out k hlt) (by omega)
      obtain ⟨c, hc⟩ : ∃ c, cur.toList[k]? = some c := getAt _ _ (by simp; omega)
      have hdr : cur.toList.drop k = c :: cur.toList.drop (k + 1) := by
        obtain ⟨hl, e⟩ := List.getElem?_eq_some_iff.1 hc
        rw [List.drop_eq_getElem_cons hl, e]
      have HX := hide hxl
      have HR := hide hrd
      have HB := hide hbx
      have HU := hide hupd
      have HDR := hide hdr
      clear hxl hrd hbx hupd hc hdr
      go_wp2_with fail
      refine (takeNumber_any w0 wr G bs' htk).mono ?_
      rintro e w1 ⟨a, rfl, b1, tk1, rd1, u1⟩
      have B1 := hide (u1.keeps HB.out hDG)
      have c0 : w1.cell? ⟨D, k, none⟩ = some c := by
        rw [boxAt B1.out k]
        simp [HX.out, HDR.out]
      have c1 : w1.frozen? ⟨D, k, none⟩ = false := boxFz B1.out k
      have us := Upd.setCell (S := fun j => j = D) w1 D k (.int .i64 a) rfl
      go_wp2
      go_roundw
      case rel =>
        refine ⟨k + 1, xs ++ [a], b1, by omega, by go_num, by rw [List.length_append, HX.out]; rfl, tk1.keep us (fun h => hDG h.symm) (fun k h => by omega), HR.out.append rd1, ?_, (HU.out.trans (u1.mono (fun k h => .inl h))).trans (us.mono (fun k h => .inr h))⟩
        rw [← setNext HX.out HDR.out a]
        exact row_set _ B1.out
      case measure => simp [intOf]; omega
    · obtain rfl : k = n := by omega
      go_wp2
      go_end0
      exact ⟨rfl, xs, bs', hxl, htk, hrd, hbx, hupd⟩

end Go.Proofs.Ytdnojnkcmncffaa
