/- Contracts and plain facts that the claims of this seat lean on (texts ArgD, ArgB, MarkT2, St, CutLaw); no statement of the seat is proved here. -/
import Derived.Test.YtapflnabiobonaaDoorPk16
import Derived.Test.YtapflnabiobonaaDoorPk3
import Derived.ChangeSlices
import Derived.Test.YtapflnabiobonaaDoorPk5
import Derived.Test.YtapflnabiobonaaDoorPk1

/- How a disk that is an argument is opened; no statement of the seat is proved here. -/
namespace Go.Proofs.YtapflnabiobonaaDoor
open Go.ChangeShapes Go.WideShapes Go.ChangeAt Go.RowKit Go.Deep Go.Joins

theorem seat_own : ownKnob Tryd.prog.godebug = none := by kernel_rfl
theorem seat_laidOut : laidOutB Tryd.prog = true := by kernel_rfl

set_option maxRecDepth 100000 in
theorem diskIn_of {H : Type} {enc : TypeId × Value → H} {w : World} {base : Nat} {spare : Nat → Bool} {held : Bool} {r : Reach} {b0 : Nat} {v : Value} {d : DataW H} {p : List MemPlace}
    (hv : Value.okWide Tryd.prog w r b0 25 v) (h : DataW.Trod enc Tryd.prog w base spare held 25 v d p) : ∃ kept wait, DiskIn w v kept wait := by
  obtain ⟨c0, c1, y0, y1, m, rfl, -, -, h0, h1⟩ := open_agg2 Tryd.underlying25 (by kernel_rfl) (by kernel_rfl) hv h
  obtain ⟨kept, k1, k2⟩ := rowR_of_strs Tryd.underlying22 Tryd.underlying9 (by kernel_rfl) h0
  obtain ⟨wait, w1, w2⟩ := rowR_of_pairs Tryd.underlying23 Tryd.underlying101 (by kernel_rfl) rfl rfl (by kernel_rfl) (by kernel_rfl) Tryd.underlying3 Tryd.underlying9 h1
  exact ⟨kept, wait, ⟨_, _, rfl, k1, w1⟩, k2, w2⟩

end Go.Proofs.YtapflnabiobonaaDoor

/- How an argument that is a slice of bytes is opened; no statement of the seat is proved here. -/
namespace Go.Proofs.YtapflnabiobonaaDoor
open Go.ChangeShapes Go.WideShapes Go.ChangeAt Go.RowKit Go.Deep Go.Joins

section
variable {H : Type} {enc : TypeId × Value → H} {P : Program} {w : World} {base : Nat} {spare : Nat → Bool} {held : Bool}

theorem u8_wf {n : Int} (h : (Lit.int .u8 n).wf = true) : 0 ≤ n ∧ n < 256 := by
  simp only [Lit.wf, Bool.and_eq_true, decide_eq_true_eq] at h
  have h1 : IntKind.u8.min = 0 := by decide
  have h2 : IntKind.u8.max = 255 := by decide
  rw [h1, h2] at h
  omega

theorem bytesIn_of {t e : TypeId} {fuel : Nat} {v : Value} {x : DataW H × List MemPlace} (ht : P.underlying t = some (.slice e)) (he : P.underlying e = some (.int .u8)) (hc : P.cellsOf e = 1)
    (h : DataW.trod enc P w base spare held fuel t [v] = some x) : ∃ (bo : Option Addr) (n cap : Nat) (bs : List Nat), v = .slice bo n cap ∧ BytesIn w bo n cap bs := by
  rcases open_ints ht he hc h with ⟨hcs, _⟩ | ⟨a, len, cap, zs, hcs, _, hl, hm, hmm, _, hx, hwf⟩
  · obtain rfl : v = .slice none 0 0 := by simpa using hcs
    exact ⟨none, 0, 0, [], rfl, RowR.nil _ _, by simp, Nat.le_refl _⟩
  · obtain rfl : v = .slice (some a) len cap := by simpa using hcs
    have hlm : len ≤ zs.length := by rw [hmm]; split <;> omega
    unfold maxLen at hm
    refine ⟨some a, len, cap, (zs.take len).map Int.toNat, rfl, ⟨some a, cap, rfl, by omega, by simp; omega, fun h0 => ?_⟩, ?_, hl⟩
    · have h1 := hx 0 (by omega)
      obtain ⟨b, off, spot⟩ := a
      have hspot : spot = none := by simpa [Addr.add] using World.cell?_spot h1
      subst hspot
      refine ⟨b, off, rfl, fun j u hj => ?_⟩
      have hj' : j < len := by have := (List.getElem?_eq_some_iff.1 hj).1; simp at this; omega
      have h2 := hx j (by omega)
      rw [Addr.add_lit] at h2
      rw [h2]
      obtain ⟨z, hz⟩ := getAt zs j (by omega)
      have hb := u8_wf (hwf z (List.mem_of_getElem? hz))
      have e0 : (z.toNat : Int) = z := by omega
      rw [List.getElem?_map, List.getElem?_map, List.getElem?_take_of_lt hj', hz] at hj
      simp only [Option.map_some, e0] at hj
      simpa [List.getD, hz] using hj
    · intro b hb
      obtain ⟨z, hz, rfl⟩ := List.mem_map.1 hb
      have := u8_wf (hwf z (List.mem_of_mem_take hz))
      omega
end

end Go.Proofs.YtapflnabiobonaaDoor

/- Marks in steps: contracts; no statement of the seat is proved here. -/
namespace Go.Proofs.YtapflnabiobonaaDoor
open Go.RowKit

/-- The steps that marking leaves. -/
def mkT (k n : Nat) : List Stp := (List.range n).map fun i => ((k + 3 * i) % 3 == 0, ((k + 3 * i + 1 : Nat) : Int), mtxt (k + 3 * i + 2))
theorem mkT_get (k n i : Nat) (h : i < n) : (mkT k n)[i]? = some ((k + 3 * i) % 3 == 0, ((k + 3 * i + 1 : Nat) : Int), mtxt (k + 3 * i + 2)) := by simp [mkT, h]
theorem mkT_len (k n : Nat) : (mkT k n).length = n := by simp [mkT]

set_option maxHeartbeats 2000000 in
theorem markSecStepS_any (S : Nat → Prop) (v : Value) (n : Nat) (cs : List Value) (k0 : Nat) (w : World) (hr : Row w 50 3 S v n cs) (h1 : 1 ≤ k0) (h2 : k0 + 3 * n ≤ 1099511627776) :
    Calls Tryd.prog 21 #[v, .int .i64 k0] w fun e w' => e = .returned (.int .i64 (k0 + 3 * n : Nat)) ∧ Row w' 50 3 S v n (scells (mkT k0 n)) ∧ Upd S w w' := by
  obtain ⟨ao, cap, rfl, hn, hl, hr⟩ := hr
  rcases Nat.eq_zero_or_pos n with rfl | hpos
  · go_enter Tryd.func21, Tryd.ntmps21
    go_wp2
    refine wp_loop_rounds 1 ?_
    rw [rounds_succ]
    go_wp2
    go_ret
    exact ⟨rfl, ⟨ao, cap, rfl, hn, by simp [mkT, scells], fun h => by omega⟩, Upd.refl _ _⟩
  · obtain ⟨g, cur, rfl, hS, hg, ht⟩ := hr hpos
    have hcs : n * 3 ≤ cur.size := by
      have := congrArg List.length ht
      rw [hl] at this
      simp at this
      omega
    clear hr ht hl
    go_enter Tryd.func21, Tryd.ntmps21
    go_wp2
    go_loopw [1, 5] (fun kv i wr => ∃ (k m : Nat) (cur' : Array Value), k ≤ n ∧ m = k0 + 3 * k ∧ i = .int .i64 k ∧ kv = .int .i64 (m : Nat) ∧ wr.heap[g]? = some (.cells cur' 50 (0, 0)) ∧ cur'.size = cur.size ∧ (∀ j, j < k → cur'[3 * j]? = some (.bool ((k0 + 3 * j) % 3 == 0)) ∧ cur'[3 * j + 1]? = some (.int .i64 (k0 + 3 * j + 1 : Nat)) ∧ cur'[3 * j + 2]? = some (.string (mtxt (k0 + 3 * j + 2)))) ∧ Upd S w wr) (fun _ i _ => n - (intOf i).toNat)
    case atStart => exact ⟨0, k0, cur, Nat.zero_le _, rfl, rfl, rfl, hg, rfl, fun j hj => by omega, Upd.refl _ _⟩
    case round =>
      obtain ⟨k, m, cur', hk, hm, rfl, rfl, hgr, hsz, hmk, hup⟩ := hrel
      have HMK : Hid (∀ j, j < k → cur'[3 * j]? = some (.bool ((k0 + 3 * j) % 3 == 0)) ∧ cur'[3 * j + 1]? = some (.int .i64 (k0 + 3 * j + 1 : Nat)) ∧ cur'[3 * j + 2]? = some (.string (mtxt (k0 + 3 * j + 2)))) := hmk
      clear hmk
      have Hm : Hid (m = k0 + 3 * k) := hm
      have HS : Hid (cur'.size = cur.size) := hsz
      have hs1 : n * 3 ≤ cur'.size := by omega
      by_cases hlt : k < n
      · have hi : (k : Int) < (n : Int) := by omega
        have hm1 : 1 ≤ m := by omega
        have hm2 : m + 2 ≤ 1099511627776 := by omega
        clear hm hsz
        obtain ⟨u, hu⟩ : ∃ u, cur'[k * 3]? = some u := ⟨cur'[k * 3]'(by omega), by simp [show k * 3 < cur'.size by omega]⟩
        obtain ⟨u2, hu2⟩ : ∃ u2, cur'[k * 3 + 1]? = some u2 := ⟨cur'[k * 3 + 1]'(by omega), by simp [show k * 3 + 1 < cur'.size by omega]⟩
        obtain ⟨u3, hu3⟩ : ∃ u3, cur'[k * 3 + 2]? = some u3 := ⟨cur'[k * 3 + 2]'(by omega), by simp [show k * 3 + 2 < cur'.size by omega]⟩
        have hcw : wr.cell? ⟨g, k * 3, none⟩ = some u := (cell_of_row wr g _ cur' _ (0, 0) hgr).trans hu
        have hcw2 : wr.cell? ⟨g, k * 3 + 1, none⟩ = some u2 := (cell_of_row wr g _ cur' _ (0, 0) hgr).trans hu2
        have hfw : wr.frozen? ⟨g, k * 3, none⟩ = false := frozen_of_row wr g _ cur' _ hgr
        have hfw2 : wr.frozen? ⟨g, k * 3 + 1, none⟩ = false := frozen_of_row wr g _ cur' _ hgr
        have Hg := hide hgr
        have Hu3 := hide hu3
        clear hgr hu hu2 hu3
        have HMOD : Hid (((m : Int) % 3 == 0) = (m % 3 == 0)) := by show _ = _; rw [Bool.eq_iff_iff]; simp only [beq_iff_eq]; omega
        go_wp2_with fail
        refine (markText_at _ (m + 2) _ (by omega) (by omega) (by omega)).mono ?_
        rintro e w1 ⟨rfl, hbm⟩
        have hgw := bKeeps hbm (row_set _ (row_set _ Hg.out))
        have hcw1 : w1.cell? ⟨g, k * 3 + 2, none⟩ = some u3 := by rw [cell_of_row w1 g _ _ _ (0, 0) hgw, Array.getElem?_setIfInBounds_ne (by omega), Array.getElem?_setIfInBounds_ne (by omega)]; exact Hu3.out
        have hfw1 : w1.frozen? ⟨g, k * 3 + 2, none⟩ = false := frozen_of_row w1 g _ _ _ hgw
        have Hgw := hide hgw
        clear hgw hcw hfw hcw2 hfw2
        go_wp2
        go_roundw
        case rel =>
          refine ⟨k + 1, m + 3, _, by omega, by rw [Hm.out]; omega, by go_num, by go_num, row_set _ Hgw.out, by simpa using HS.out, fun j hj => ?_, (((hup.trans (Upd.setCell _ _ _ _ hS)).trans (Upd.setCell _ _ _ _ hS)).trans (Upd.ofBelow hbm)).trans (Upd.setCell _ _ _ _ hS)⟩
          have h3 := set3 (cur := cur') (j := j) (k := k) (.bool (m % 3 == 0)) (.int .i64 (m + 1 : Nat)) (.string (mtxt (m + 2))) (by have := HS.out; omega)
          have hmm := Hm.out
          rw [HMOD.out, show (m : Int) + 1 = ((m + 1 : Nat) : Int) by omega]
          by_cases hjk : j = k
          · have := h3.1 hjk
            subst hjk
            rw [show k0 + 3 * j = m by omega]
            exact this
          · obtain ⟨q1, q2, q3⟩ := h3.2 hjk
            obtain ⟨r1, r2, r3⟩ := HMK.out j (by omega)
            exact ⟨q1.trans r1, q2.trans r2, q3.trans r3⟩
        case measure => simp [intOf]; omega
      · go_wp2
        go_ret
        obtain rfl : k = n := by omega
        refine ⟨by rw [Hm.out]; rfl, ⟨_, cap, rfl, hn, by rw [scells_len, mkT_len], fun _ => ⟨g, cur', rfl, hS, hgr, ?_⟩⟩, hup⟩
        refine scells_ext _ _ (by rw [mkT_len]; simp; omega) (fun j x hx => ?_)
        have hj : j < k := by rcases Nat.lt_or_ge j k with h | h; exact h; rw [List.getElem?_eq_none (by rw [mkT_len]; exact h)] at hx; cases hx
        rw [mkT_get k0 k j hj] at hx
        obtain rfl := Option.some.inj hx
        rw [List.getElem?_take_of_lt (by omega), List.getElem?_take_of_lt (by omega), List.getElem?_take_of_lt (by omega)]
        simpa using HMK.out j hj

set_option maxHeartbeats 2000000 in
theorem heldSecStepS_ok (v : Value) (n k0 : Nat) (w : World) (hr : RowR w 3 v n (scells (mkT k0 n))) (h1 : 1 ≤ k0) (h2 : k0 + 3 * n ≤ 1099511627776) :
    Calls Tryd.prog 22 #[v, .int .i64 k0] w fun e w' => e = .returned (.int .i64 (k0 + 3 * n : Nat)) ∧ Below w.heap.size w w' := by
  obtain ⟨ao, cap, rfl, hn, hl, hr⟩ := hr
  clear hl
  go_enter Tryd.func22, Tryd.ntmps22
  go_wp2
  go_loopw [1, 5] (fun kv i wr => ∃ k m : Nat, k ≤ n ∧ m = k0 + 3 * k ∧ i = .int .i64 k ∧ kv = .int .i64 (m : Nat) ∧ Below w.heap.size w wr) (fun _ i _ => n - (intOf i).toNat)
  case atStart => exact ⟨0, k0, Nat.zero_le _, rfl, rfl, rfl, Below.refl _ _⟩
  case round =>
    obtain ⟨k, m, hk, hm, rfl, rfl, hbel⟩ := hrel
    have Hm : Hid (m = k0 + 3 * k) := hm
    by_cases hlt : k < n
    · have hm1 : 1 ≤ m := by omega
      have hm2 : m + 2 ≤ 1099511627776 := by omega
      have hmod : ((m : Int) % 3 == 0) = (m % 3 == 0) := by rw [Bool.eq_iff_iff]; simp only [beq_iff_eq]; omega
      obtain ⟨b1, o1, rfl, hc1⟩ := hr (by omega)
      obtain ⟨e0, e1, e2⟩ := scells_at _ k _ (mkT_get k0 n k hlt)
      have g1 := hc1 _ _ e0
      have g2 := hc1 _ _ e1
      have g3 := hc1 _ _ e2
      simp only at g1 g2 g3
      rw [← hm] at g1 g2 g3
      have hlb : b1 < w.heap.size := World.block_lt_of_cell? w _ g1
      obtain ⟨q, hq⟩ : ∃ q, ((m : Int) % 3 == 0) = q := ⟨_, rfl⟩
      rw [← hmod, hq] at g1
      have f1 : wr.cell? ⟨b1, o1 + k * 3, none⟩ = some (.bool q) := by rw [Nat.mul_comm k 3]; exact (hbel.cell (p := ⟨b1, o1 + 3 * k, none⟩) hlb).trans g1
      have f2 : wr.cell? ⟨b1, o1 + k * 3 + 1, none⟩ = some (.int .i64 ((m : Int) + 1)) := by rw [Nat.mul_comm k 3]; exact (hbel.cell (p := ⟨b1, o1 + (3 * k + 1), none⟩) hlb).trans (by rw [g2]; rfl)
      have f3 : wr.cell? ⟨b1, o1 + k * 3 + 2, none⟩ = some (.string (mtxt (m + 2))) := by rw [Nat.mul_comm k 3]; exact (hbel.cell (p := ⟨b1, o1 + (3 * k + 2), none⟩) hlb).trans g3
      have hi : (k : Int) < (n : Int) := by omega
      have hsz := hbel.size
      clear hr hc1 g1 g2 g3 e0 e1 e2 hm hmod
      cases q <;> (
        go_wp2
        go_region_with (go_at_call 42; refine (markText_at _ (m + 2) _ (by omega) (by omega) (by omega)).mono ?_; rintro e w1 ⟨rfl, hbm⟩; have hbm' : Below wr.heap.size wr w1 := bUndrew hbm; have f4 : w1.cell? ⟨b1, o1 + k * 3 + 2, none⟩ = some (.string (mtxt (m + 2))) := (hbm'.cell (p := ⟨b1, o1 + k * 3 + 2, none⟩) (by show b1 < wr.heap.size; omega)).trans f3)
        all_goals
          go_wp2
          go_roundw
          case rel => exact ⟨k + 1, m + 3, by omega, by rw [Hm.out]; omega, by go_num, by go_num, bAllTo hbel hbm'⟩
          case measure => simp [intOf]; omega)
    · clear hm
      go_wp2
      go_ret
      obtain rfl : k = n := by omega
      exact ⟨by rw [Hm.out]; rfl, hbel⟩

end Go.Proofs.YtapflnabiobonaaDoor

/- What a law keeps in hand between its calls: variables of two cells, and disks of its own; no statement of the seat is proved here. -/
namespace Go.Proofs.YtapflnabiobonaaDoor
open Go.RowKit

/-- A variable that holds a disk. -/
structure Bx where
  at_ : Nat
  x : Value
  y : Value
  t : TypeId
/-- A disk of the law's own. -/
structure Dk where
  v : Value
  S : Nat → Prop
  kept : List ByteArray
  wait : List (Int × ByteArray)

def St (w : World) (bs : List Bx) (ds : List Dk) : Prop :=
  (∀ b ∈ bs, w.heap[b.at_]? = some (.cells #[b.x, b.y] b.t (0, 0))) ∧ ∀ d ∈ ds, DiskO w d.S d.v d.kept d.wait

theorem St.keepB {w w' : World} {bs : List Bx} {ds : List Dk} (h : St w bs ds) (hb : Below w.heap.size w w') : St w' bs ds :=
  ⟨fun b hm => bKeeps hb (h.1 b hm), fun d hm => (h.2 d hm).keepB hb⟩

theorem St.keepU {w w' : World} {bs : List Bx} {ds : List Dk} {T : Nat → Prop} (h : St w bs ds) (hb : Upd T w w') (h1 : ∀ b ∈ bs, ¬ T b.at_) (h2 : ∀ d ∈ ds, ∀ k, d.S k → ¬ T k) : St w' bs ds :=
  ⟨fun b hm => hb.keeps (h.1 b hm) (h1 b hm), fun d hm => (h.2 d hm).keep hb (h2 d hm)⟩

theorem St.box {w : World} {bs : List Bx} {ds : List Dk} (h : St w bs ds) (b : Bx) (hm : b ∈ bs) : w.cell? ⟨b.at_, 0, none⟩ = some b.x ∧ w.cell? ⟨b.at_, 1, none⟩ = some b.y ∧ b.at_ < w.heap.size := box2 (h.1 b hm)

theorem St.addB {w : World} {bs : List Bx} {ds : List Dk} (h : St w bs ds) (x y : Value) (t : TypeId) : St (w.alloc (.cells #[x, y] t)) (⟨w.heap.size, x, y, t⟩ :: bs) ds := by
  have h' := h.keepB ((Below.refl _ _).alloc (Nat.le_refl _) (.cells #[x, y] t))
  refine ⟨fun b hm => ?_, h'.2⟩
  rcases List.mem_cons.1 hm with rfl | hm
  · exact al1_0 w _
  · exact h'.1 b hm

theorem St.addD {w : World} {bs : List Bx} {ds : List Dk} (h : St w bs ds) (d : Dk) (hd : DiskO w d.S d.v d.kept d.wait) : St w bs (d :: ds) := by
  refine ⟨h.1, fun e hm => ?_⟩
  rcases List.mem_cons.1 hm with rfl | hm
  · exact hd
  · exact h.2 e hm

theorem St.dropD {w : World} {bs : List Bx} {ds : List Dk} {d : Dk} (h : St w bs (d :: ds)) : St w bs ds := ⟨h.1, fun e hm => h.2 e (List.mem_cons_of_mem _ hm)⟩

theorem St.drop2 {w : World} {bs : List Bx} {ds : List Dk} {c d : Dk} (h : St w bs (c :: d :: ds)) : St w bs (c :: ds) :=
  ⟨h.1, fun e hm => h.2 e (by rcases List.mem_cons.1 hm with rfl | hm; exact List.mem_cons_self; exact List.mem_cons_of_mem _ (List.mem_cons_of_mem _ hm))⟩

theorem DiskO.within {w : World} {lo : Nat} {v : Value} {kept : List ByteArray} {wait : List (Int × ByteArray)} (h : DiskO w (fun k => lo ≤ k) v kept wait) (hi : Nat) (he : hi = w.heap.size) : DiskO w (fun k => lo ≤ k ∧ k < hi) v kept wait := by
  subst he
  exact h.upto

end Go.Proofs.YtapflnabiobonaaDoor

/- What the law FnExactSecCut does: its walk; the statement itself is proved elsewhere. -/
namespace Go.Proofs.YtapflnabiobonaaDoor
open Go.RowKit

theorem cutK_len (kept : List ByteArray) (wait : List (Int × ByteArray)) (ks : List Int) : (cutK kept wait ks).length ≤ 512 := by
  unfold cutK
  split
  · rw [cutL_len]
    exact (okB_parts ‹_›).1
  · simp

theorem Row.within {w : World} {e : TypeId} {size : Nat} {v : Value} {n lo : Nat} {cs : List Value} (h : Row w e size (fun k => lo ≤ k) v n cs) (hi : Nat) (he : hi = w.heap.size) : Row w e size (fun k => lo ≤ k ∧ k < hi) v n cs := by
  subst he
  exact h.mono (fun k hk h => ⟨h, hk⟩)

end Go.Proofs.YtapflnabiobonaaDoor
