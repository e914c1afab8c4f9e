/- Contracts and plain facts that this claim leans on (texts ArgW, XB, SPut); no statement of the seat is proved here. -/
import Derived.Test.YtdnojnkcmncffaaWk25
import Derived.Test.YtdnojnkcmncffaaWk5
import Derived.Test.YtdnojnkcmncffaaWk2

/- How a word that is an argument is opened; no statement of the seat is proved here. -/
namespace Go.Proofs.Ytdnojnkcmncffaa
open Go.ChangeShapes Go.WideShapes Go.ChangeAt Go.RowKit Go.Deep Go.Joins

theorem at_of {l : List Value} {o : Nat} {u : Value} (e : (l.drop o).take 1 = [u]) : l[o]? = some u := by
  have := congrArg (fun m => m[0]?) e
  simpa using this
theorem of_at {l : List Value} {o : Nat} {u : Value} (h : l[o]? = some u) : (l.drop o).take 1 = [u] := by
  obtain ⟨hl, e⟩ := List.getElem?_eq_some_iff.1 h
  rw [List.drop_eq_getElem_cons hl, e]
  rfl

section
variable {H : Type} {enc : TypeId × Value → H} {P : Program} {w : World} {base : Nat} {spare : Nat → Bool} {held : Bool}

theorem intAt {n o i : Nat} {t : TypeId} {l : List Value} {xs : List (DataW H × List MemPlace)} (ht : P.underlying t = some (.int .i64)) (hc : P.cellsOf t = 1)
    (hq : DataW.trod enc P w base spare held n t ((l.drop o).take (P.cellsOf t)) = xs[i]?) (hi : i < xs.length) : ∃ z : Int, l[o]? = some (.int .i64 z) := by
  rw [hc, List.getElem?_eq_getElem hi] at hq
  obtain ⟨z, e, _, _⟩ := DataW.trod_int ht hq
  exact ⟨z, at_of e⟩
end

set_option maxRecDepth 100000 in
set_option maxHeartbeats 4000000 in
theorem wdR_of {H : Type} {enc : TypeId × Value → H} {w : World} {base : Nat} {spare : Nat → Bool} {held : Bool} {r : Reach} {b0 : Nat} {v : Value} {d : DataW H} {p : List MemPlace}
    (hv : Value.okWide Try.prog w r b0 27 v) (h : DataW.Trod enc Try.prog w base spare held 27 v d p) : ∃ x, WdR w v x := by
  obtain ⟨cs, rfl, hsz⟩ := okWide_struct Try.underlying27 hv
  obtain ⟨fuel, hf⟩ := h
  have hc26 : Try.prog.cellsOf 27 = 26 := by kernel_rfl
  have hc10 : Try.prog.cellsOf 23 = 10 := by kernel_rfl
  have hc1 : Try.prog.cellsOf 3 = 1 := by kernel_rfl
  have hcp : Try.prog.cellsOf 24 = 1 := by kernel_rfl
  have hcl : Try.prog.cellsOf 25 = 1 := by kernel_rfl
  rw [hc26] at hsz
  obtain ⟨xs, n, -, -, -, hxl, hq⟩ := DataW.trod_struct Try.underlying27 hf
  have hxl' : xs.length = 17 := hxl
  clear hxl
  obtain ⟨a0, ha0⟩ := intAt (o := 0) (i := 0) Try.underlying3 hc1 (hq 0 _ rfl) (by omega)
  obtain ⟨a1, ha1⟩ := intAt (o := 1) (i := 1) Try.underlying3 hc1 (hq 1 _ rfl) (by omega)
  obtain ⟨a2, ha2⟩ := intAt (o := 2) (i := 2) Try.underlying3 hc1 (hq 2 _ rfl) (by omega)
  obtain ⟨a3, ha3⟩ := intAt (o := 3) (i := 3) Try.underlying3 hc1 (hq 3 _ rfl) (by omega)
  obtain ⟨a4, ha4⟩ := intAt (o := 4) (i := 4) Try.underlying3 hc1 (hq 4 _ rfl) (by omega)
  obtain ⟨a5, ha5⟩ := intAt (o := 5) (i := 5) Try.underlying3 hc1 (hq 5 _ rfl) (by omega)
  obtain ⟨b0, hb0⟩ := intAt (o := 16) (i := 7) Try.underlying3 hc1 (hq 7 _ rfl) (by omega)
  obtain ⟨b1, hb1⟩ := intAt (o := 17) (i := 8) Try.underlying3 hc1 (hq 8 _ rfl) (by omega)
  obtain ⟨b2, hb2⟩ := intAt (o := 18) (i := 9) Try.underlying3 hc1 (hq 9 _ rfl) (by omega)
  obtain ⟨b3, hb3⟩ := intAt (o := 19) (i := 10) Try.underlying3 hc1 (hq 10 _ rfl) (by omega)
  obtain ⟨b4, hb4⟩ := intAt (o := 20) (i := 11) Try.underlying3 hc1 (hq 11 _ rfl) (by omega)
  obtain ⟨b5, hb5⟩ := intAt (o := 21) (i := 12) Try.underlying3 hc1 (hq 12 _ rfl) (by omega)
  obtain ⟨b6, hb6⟩ := intAt (o := 22) (i := 13) Try.underlying3 hc1 (hq 13 _ rfl) (by omega)
  obtain ⟨b7, hb7⟩ := intAt (o := 23) (i := 14) Try.underlying3 hc1 (hq 14 _ rfl) (by omega)
  have q6 : DataW.trod enc Try.prog w base spare held n 23 ((cs.toList.drop 6).take (Try.prog.cellsOf 23)) = xs[6]? := hq 6 _ rfl
  obtain ⟨y6, hy6⟩ : ∃ y, xs[6]? = some y := ⟨xs[6]'(by omega), List.getElem?_eq_getElem _⟩
  rw [hc10, hy6] at q6
  obtain ⟨zs, n2, -, -, -, hzl, hz⟩ := DataW.trod_struct Try.underlying23 q6
  have hzl' : zs.length = 10 := hzl
  clear hzl
  have sub : ∀ k u, k < 10 → ((cs.toList.drop 6).take 10)[k]? = some u → cs.toList[6 + k]? = some u := by
    intro k u hk hu
    rw [List.getElem?_take_of_lt hk, List.getElem?_drop] at hu
    exact hu
  obtain ⟨c0, hc_0⟩ := intAt (o := 0) (i := 0) Try.underlying3 hc1 (hz 0 _ rfl) (by omega)
  obtain ⟨c1, hc_1⟩ := intAt (o := 1) (i := 1) Try.underlying3 hc1 (hz 1 _ rfl) (by omega)
  obtain ⟨c2, hc_2⟩ := intAt (o := 2) (i := 2) Try.underlying3 hc1 (hz 2 _ rfl) (by omega)
  obtain ⟨c3, hc_3⟩ := intAt (o := 3) (i := 3) Try.underlying3 hc1 (hz 3 _ rfl) (by omega)
  obtain ⟨c4, hc_4⟩ := intAt (o := 4) (i := 4) Try.underlying3 hc1 (hz 4 _ rfl) (by omega)
  obtain ⟨c5, hc_5⟩ := intAt (o := 5) (i := 5) Try.underlying3 hc1 (hz 5 _ rfl) (by omega)
  obtain ⟨c6, hc_6⟩ := intAt (o := 6) (i := 6) Try.underlying3 hc1 (hz 6 _ rfl) (by omega)
  obtain ⟨c7, hc_7⟩ := intAt (o := 7) (i := 7) Try.underlying3 hc1 (hz 7 _ rfl) (by omega)
  obtain ⟨c8, hc_8⟩ := intAt (o := 8) (i := 8) Try.underlying3 hc1 (hz 8 _ rfl) (by omega)
  obtain ⟨c9, hc_9⟩ := intAt (o := 9) (i := 9) Try.underlying3 hc1 (hz 9 _ rfl) (by omega)
  obtain ⟨vp, hvp⟩ : ∃ u, cs.toList[24]? = some u := ⟨cs.toList[24]'(by simp; omega), List.getElem?_eq_getElem _⟩
  obtain ⟨vl, hvl⟩ : ∃ u, cs.toList[25]? = some u := ⟨cs.toList[25]'(by simp; omega), List.getElem?_eq_getElem _⟩
  have qp := hq 15 _ rfl
  obtain ⟨yp, hyp⟩ : ∃ y, xs[15]? = some y := ⟨xs[15]'(by omega), List.getElem?_eq_getElem _⟩
  have ql := hq 16 _ rfl
  obtain ⟨yl, hyl⟩ : ∃ y, xs[16]? = some y := ⟨xs[16]'(by omega), List.getElem?_eq_getElem _⟩
  have qp' : DataW.trod enc Try.prog w base spare held n 24 ((cs.toList.drop 24).take (Try.prog.cellsOf 24)) = xs[15]? := qp
  have ql' : DataW.trod enc Try.prog w base spare held n 25 ((cs.toList.drop 25).take (Try.prog.cellsOf 25)) = xs[16]? := ql
  rw [hcp, of_at hvp, hyp] at qp'
  rw [hcl, of_at hvl, hyl] at ql'
  obtain ⟨po, pc, ps, rfl, -, hps⟩ := rowR_of_pieces Try.underlying24 Try.underlying88 (by kernel_rfl) rfl rfl rfl rfl (by kernel_rfl) (by kernel_rfl) (by kernel_rfl) (by kernel_rfl) Try.underlying3 Try.underlying3 Try.underlying3 Try.underlying3 qp'
  obtain ⟨lo, lc, ls, rfl, -, hls⟩ := rowR_of_lasts Try.underlying25 Try.underlying90 (by kernel_rfl) rfl rfl (by kernel_rfl) (by kernel_rfl) Try.underlying3 Try.underlying3 ql'
  refine ⟨⟨a0, a1, a2, a3, a4, a5, c0, c1, c2, c3, c4, c5, c6, c7, c8, c9, b0, b1, b2, b3, b4, b5, b6, b7, ps, ls⟩, po, pc, lo, lc, ?_, hps, hls⟩
  congr 1
  apply Array.ext_getElem?
  intro j
  rw [← Array.getElem?_toList]
  by_cases hj : j < 26
  · rcases (by omega : j = 0 ∨ j = 1 ∨ j = 2 ∨ j = 3 ∨ j = 4 ∨ j = 5 ∨ j = 6 ∨ j = 7 ∨ j = 8 ∨ j = 9 ∨ j = 10 ∨ j = 11 ∨ j = 12 ∨ j = 13 ∨ j = 14 ∨ j = 15 ∨ j = 16 ∨ j = 17 ∨ j = 18 ∨ j = 19 ∨ j = 20 ∨ j = 21 ∨ j = 22 ∨ j = 23 ∨ j = 24 ∨ j = 25) with rfl | rfl | rfl | rfl | rfl | rfl | rfl | rfl | rfl | rfl | rfl | rfl | rfl | rfl | rfl | rfl | rfl | rfl | rfl | rfl | rfl | rfl | rfl | rfl | rfl | rfl
    · exact ha0
    · exact ha1
    · exact ha2
    · exact ha3
    · exact ha4
    · exact ha5
    · exact sub 0 _ (by omega) hc_0
    · exact sub 1 _ (by omega) hc_1
    · exact sub 2 _ (by omega) hc_2
    · exact sub 3 _ (by omega) hc_3
    · exact sub 4 _ (by omega) hc_4
    · exact sub 5 _ (by omega) hc_5
    · exact sub 6 _ (by omega) hc_6
    · exact sub 7 _ (by omega) hc_7
    · exact sub 8 _ (by omega) hc_8
    · exact sub 9 _ (by omega) hc_9
    · exact hb0
    · exact hb1
    · exact hb2
    · exact hb3
    · exact hb4
    · exact hb5
    · exact hb6
    · exact hb7
    · exact hvp
    · exact hvl
  · rw [List.getElem?_eq_none (by simp; omega), Array.getElem?_eq_none (by show 26 ≤ j; omega)]

end Go.Proofs.Ytdnojnkcmncffaa

/- The bytes of numbers, as the specification writes them: a contract; no statement of the seat is proved here. -/
namespace Go.Proofs.Ytdnojnkcmncffaa
open Go.RowKit

def byts (bs : List Nat) : List Value := bs.map fun b : Nat => Value.int .u8 (b : Int)
theorem byts_len (bs : List Nat) : (byts bs).length = bs.length := by simp [byts]
theorem byts_append (cs bs : List Nat) : byts (cs ++ bs) = byts cs ++ byts bs := by simp [byts]
theorem infoU8 : (Try.prog.info? 5).map (fun i => (i.zero, i.size, i.bytes)) = some (some (.int .u8 0), 1, 1) := by kernel_rfl
theorem new_byte (w : World) (a : Int) (e : TypeId) : ∀ j u, [Value.int .u8 a][j]? = some u → (w.alloc (.cells #[.int .u8 a] e)).cell? ((⟨w.heap.size, 0, none⟩ : Addr).add j) = some u := by
  intro j u h
  cases j with
  | zero =>
    rw [Addr.add_lit, cell_of_row _ _ _ _ _ (0, 0) (al1_0 w _)]
    simpa using h
  | succ j => simp at h
theorem byte_one (a : Int) : ∀ u ∈ [Value.int .u8 a], u.oneCell' = true := by
  intro u hu
  rw [List.mem_singleton] at hu
  subst hu
  rfl
theorem take_enc (xs : List Int) (k : Nat) (a : Int) (h : xs[k]? = some a) : enc (xs.take (k + 1)) = enc (xs.take k) ++ encI a := by
  rw [List.take_add_one, h]
  simp [enc]

set_option maxRecDepth 100000 in
set_option maxHeartbeats 4000000 in
theorem l11Byte_any (v : Value) (n : Nat) (xs : List Int) (w : World) (hr : RowR w 1 v n (xs.map (Value.int .i64))) (hn : n ≤ 1000) (hb : ∀ a ∈ xs, -1 ≤ a ∧ a ≤ 99999) :
    Calls Try.prog 43 #[v] w fun e w' => ∃ vo m co, e = .returned (.slice vo m co) ∧ RowA w' w.heap.size 5 1 (.slice vo m co) m (byts (enc xs)) ∧ m = (enc xs).length ∧ Below w.heap.size w w' := by
  obtain ⟨so, sc, rfl, hn', hl, hr⟩ := hr
  have Hl := hide (show xs.length = n by simpa using hl)
  have HB := hide hb
  have HR := hide hr
  obtain ⟨i1, gi, gz0, gz1, gz2⟩ := info_parts infoU8
  clear hl hb hr hn'
  go_enter Try.func43, Try.ntmps43
  go_wp2
  go_loopw [3, 4] (fun ov i wr => ∃ (k m : Nat) (ao : Option Addr) (ca : Nat), k ≤ n ∧ i = .int .i64 k ∧ ov = .slice ao m ca ∧ m = (enc (xs.take k)).length ∧ RowA wr w.heap.size 5 1 (.slice ao m ca) m (byts (enc (xs.take k))) ∧ Below w.heap.size w wr) (fun _ i _ => n - (intOf i).toNat)
  case atStart => exact ⟨0, 0, _, 0, Nat.zero_le _, rfl, rfl, by simp [enc], .inr ⟨rfl, by simp [enc, byts], _, rfl⟩, by first | exact Below.refl _ _ | exact (Below.refl _ _).alloc (Nat.le_refl _) _⟩
  case round =>
    obtain ⟨k, m, ao, ca, hk, rfl, rfl, hm, hrow, hbel⟩ := hrel
    by_cases hlt : k < n
    · obtain ⟨b1, o1, rfl, hc1⟩ := HR.out (by omega)
      obtain ⟨a, ha⟩ := getAt xs k (by have := Hl.out; omega)
      have f0 : wr.cell? ⟨b1, o1 + k, none⟩ = some (.int .i64 a) := by
        have g := hc1 k (.int .i64 a) (by simp [ha])
        exact (hbel.cell (p := ⟨b1, o1 + k, none⟩) (World.block_lt_of_cell? w _ g)).trans g
      obtain ⟨h1, h2⟩ := HB.out a (List.mem_of_getElem? ha)
      obtain ⟨q, hq⟩ : ∃ q : Nat, a = (q : Int) - 1 := ⟨(a + 1).toNat, by omega⟩
      have hq2 : q ≤ 100000 := by omega
      have hi : (k : Int) < (n : Int) := by omega
      have HT := hide (take_enc xs k a ha)
      have HE := hide (show encI a = encN q by rw [hq]; unfold encI; congr 1; omega)
      have HL3 := hide (enc_len (xs.take k) (fun b hb => (HB.out b (List.mem_of_mem_take hb)).2)).2
      have HM := hide hm
      have HQ := hide hq
      have hq3 : (q : Int) - 1 + 1 = (q : Int) := by omega
      rw [hq] at f0
      clear ha hc1 h1 h2 hm hq
      go_wp2
      go_loopw [3, 5] (fun ov rv wr => ∃ (r m : Nat) (pre : List Nat) (ao : Option Addr) (ca : Nat), r ≤ 100000 ∧ rv = .int .i64 r ∧ ov = .slice ao m ca ∧ m = pre.length ∧ pre ++ encN r = enc (xs.take k) ++ encN q ∧ RowA wr w.heap.size 5 1 (.slice ao m ca) m (byts pre) ∧ Below w.heap.size w wr) (fun _ rv _ => (intOf rv).toNat)
      case atStart => exact ⟨q, m, enc (xs.take k), ao, ca, hq2, by first | rfl | (congr 1), rfl, HM.out, rfl, hrow, hbel⟩
      case round =>
        obtain ⟨r, m', pre, ao', ca', hr2, rfl, rfl, hm', hpre, hrow', hbel'⟩ := hrel
        have hlen : pre.length + (encN r).length ≤ 3 * k + 3 := by
          have h1 := congrArg List.length hpre
          rw [List.length_append, List.length_append] at h1
          have h2 := HL3.out
          rw [List.length_take] at h2
          have h3 := (encN_len q hq2).2
          omega
        have hz := hbel'.size
        have HP := hide hpre
        have HM' := hide hm'
        have hmb : m' ≤ 3003 := by omega
        clear hpre hm' hlen hrow hbel f0
        by_cases hbig : 127 < r
        · have hbig' : (127 : Int) < (r : Int) := by omega
          have al3 : Below wr.heap.size wr (wr.alloc (.cells #[.int .u8 (128 + (r : Int) % 128)] 5)) := (Below.refl _ _).alloc (Nat.le_refl _) _
          have row3 := hrow'.keepB al3
          have N3 := hide (new_byte wr (128 + (r : Int) % 128) 5)
          go_wp2_with (at_builtin; refine wpList_appendA _ rfl _ _ 38 rfl w.heap.size 5 i1 (.int .u8 0) 1 1 Try.underlying38 gi gz0 gz1 gz2 rfl (by decide) _ m' (byts pre) rfl row3 ⟨wr.heap.size, 0, none⟩ 1 1 [.int .u8 (128 + (r : Int) % 128)] rfl rfl N3.out (byte_one _) (by decide) ?q63 ?qby ?qbase ?_)
          case q63 => unfold maxLen; omega
          case qby => omega
          case qbase => first | omega | (simp; omega)
          intro v4 w4 hown u4
          obtain ⟨mo, cm, rfl⟩ := (Row.ofOwns hown (by omega)).shape
          go_wp2
          go_roundw
          case rel =>
            refine ⟨r / 128, m' + 1, pre ++ [128 + r % 128], mo, cm, by omega, by first | rfl | go_num | (congr 1; omega), rfl, by rw [HM'.out]; simp, ?_, ?_, ?_⟩
            · rw [List.append_assoc, List.singleton_append, ← encN_ge (by omega)]
              exact HP.out
            · rw [byts_append]
              have : byts [128 + r % 128] = [.int .u8 (128 + (r : Int) % 128)] := by simp [byts]
              rw [this]
              exact .inl hown
            · exact (bAll hbel' al3).trans (u4.below (by simp; omega) (fun k h => h.1))
          case measure => simp [intOf]; omega
        · have hbig' : ¬ (127 : Int) < (r : Int) := by omega
          have al3 : Below wr.heap.size wr (wr.alloc (.cells #[.int .u8 (r : Int)] 5)) := (Below.refl _ _).alloc (Nat.le_refl _) _
          have row3 := hrow'.keepB al3
          have N3 := hide (new_byte wr (r : Int) 5)
          have hr256 : (r : Int) < 256 := by omega
          go_wp2_with (at_builtin; refine wpList_appendA _ rfl _ _ 38 rfl w.heap.size 5 i1 (.int .u8 0) 1 1 Try.underlying38 gi gz0 gz1 gz2 rfl (by decide) _ m' (byts pre) rfl row3 ⟨wr.heap.size, 0, none⟩ 1 1 [.int .u8 (r : Int)] rfl rfl N3.out (byte_one _) (by decide) ?q63 ?qby ?qbase ?_)
          case q63 => unfold maxLen; omega
          case qby => omega
          case qbase => first | omega | (simp; omega)
          intro v4 w4 hown u4
          obtain ⟨mo, cm, rfl⟩ := (Row.ofOwns hown (by omega)).shape
          go_wp2
          go_roundw
          case rel =>
            have e1 : enc (xs.take (k + 1)) = pre ++ [r] := by rw [HT.out, HE.out, ← HP.out, encN_lt (by omega)]
            refine ⟨k + 1, m' + 1, mo, cm, by omega, by go_num, rfl, by rw [e1, HM'.out]; simp, ?_, ?_⟩
            · rw [e1, byts_append]
              exact .inl hown
            · exact (bAll hbel' al3).trans (u4.below (by simp; omega) (fun k h => h.1))
          case measure => simp [intOf]; omega
    · have hge : ¬ (k : Int) < (n : Int) := by omega
      have hm2 := hm
      have HM := hide hm
      have e1 : xs.take k = xs := List.take_of_length_le (by have := Hl.out; omega)
      rw [e1] at hrow hm2
      have HMM := hide hm2
      clear hm hm2 e1
      go_wp2
      go_ret
      exact ⟨_, _, _, rfl, hrow, HMM.out, hbel⟩

end Go.Proofs.Ytdnojnkcmncffaa

/- What SecPut of the specification does: a contract; no statement of the seat is proved here. -/
namespace Go.Proofs.Ytdnojnkcmncffaa
open Go.RowKit

/-- Whether a write may wait. -/
def putB (kept : List ByteArray) (wait : List (Int × ByteArray)) (a : Int) (s : ByteArray) : Bool := okB kept wait && (writeOkB kept.length (a, s) && decide (wait.length < 600))
/-- What is kept, and what waits, behind a write. -/
def putK (kept : List ByteArray) (wait : List (Int × ByteArray)) : List ByteArray := if okB kept wait = true then kept else []
def putW (kept : List ByteArray) (wait : List (Int × ByteArray)) (a : Int) (s : ByteArray) : List (Int × ByteArray) :=
  if okB kept wait = true then (if putB kept wait a s = true then wait ++ [(a, s)] else wait) else []

theorem typed_box {w W : World} {S : Nat → Prop} {e t : TypeId} {B : Nat} {xs : Array Value} (h : w.heap[B]? = some (.cells xs t (0, 0))) (he : t ≠ e) (hW : W.heap[B]? = w.heap[B]?) : ¬ typed W S e B := by
  rintro ⟨_, c, hc⟩
  rw [hW, h] at hc
  simp at hc
  exact he hc.2

end Go.Proofs.Ytdnojnkcmncffaa
