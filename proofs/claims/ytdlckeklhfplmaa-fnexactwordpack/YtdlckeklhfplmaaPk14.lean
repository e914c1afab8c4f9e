/- Contracts and plain facts that the claims of this seat lean on (texts XB, SPut, XA, XQ, XP, XQ2, XQ3, XBy, XLPack); no statement of the seat is proved here. -/
import Derived.Test.YtdlckeklhfplmaaPk4
import Derived.Test.YtdlckeklhfplmaaPk2
import Derived.Test.YtdlckeklhfplmaaPk11
import Derived.Test.YtdlckeklhfplmaaPk12

/- The bytes of numbers, as the specification writes them: a contract; no statement of the seat is proved here. -/
namespace Go.Proofs.Ytdlckeklhfplmaa
open Go.RowKit

def byts (bs : List Nat) : List Value := bs.map fun b : Nat => Value.int .u8 (b : Int)
theorem byts_len (bs : List Nat) : (byts bs).length = bs.length := by simp [byts]
theorem byts_append (cs bs : List Nat) : byts (cs ++ bs) = byts cs ++ byts bs := by simp [byts]
theorem infoU8 : (Try.prog.info? 5).map (fun i => (i.zero, i.size, i.bytes)) = some (some (.int .u8 0), 1, 1) := by kernel_rfl
theorem new_byte (w : World) (a : Int) (e : TypeId) : ∀ j u, [Value.int .u8 a][j]? = some u → (w.alloc (.cells #[.int .u8 a] e)).cell? ((⟨w.heap.size, 0, none⟩ : Addr).add j) = some u := by
  intro j u h
  cases j with
  | zero =>
    rw [Addr.add_lit, cell_of_row _ _ _ _ _ (0, 0) (al1_0 w _)]
    simpa using h
  | succ j => simp at h
theorem byte_one (a : Int) : ∀ u ∈ [Value.int .u8 a], u.oneCell' = true := by
  intro u hu
  rw [List.mem_singleton] at hu
  subst hu
  rfl
theorem take_enc (xs : List Int) (k : Nat) (a : Int) (h : xs[k]? = some a) : enc (xs.take (k + 1)) = enc (xs.take k) ++ encI a := by
  rw [List.take_add_one, h]
  simp [enc]

set_option maxRecDepth 100000 in
set_option maxHeartbeats 4000000 in
theorem l11Byte_any (v : Value) (n : Nat) (xs : List Int) (w : World) (hr : RowR w 1 v n (xs.map (Value.int .i64))) (hn : n ≤ 1000) (hb : ∀ a ∈ xs, -1 ≤ a ∧ a ≤ 99999) :
    Calls Try.prog 43 #[v] w fun e w' => ∃ vo m co, e = .returned (.slice vo m co) ∧ RowA w' w.heap.size 5 1 (.slice vo m co) m (byts (enc xs)) ∧ m = (enc xs).length ∧ Below w.heap.size w w' := by
  obtain ⟨so, sc, rfl, hn', hl, hr⟩ := hr
  have Hl := hide (show xs.length = n by simpa using hl)
  have HB := hide hb
  have HR := hide hr
  obtain ⟨i1, gi, gz0, gz1, gz2⟩ := info_parts infoU8
  clear hl hb hr hn'
  go_enter Try.func43, Try.ntmps43
  go_wp2
  go_loopw [3, 4] (fun ov i wr => ∃ (k m : Nat) (ao : Option Addr) (ca : Nat), k ≤ n ∧ i = .int .i64 k ∧ ov = .slice ao m ca ∧ m = (enc (xs.take k)).length ∧ RowA wr w.heap.size 5 1 (.slice ao m ca) m (byts (enc (xs.take k))) ∧ Below w.heap.size w wr) (fun _ i _ => n - (intOf i).toNat)
  case atStart => exact ⟨0, 0, _, 0, Nat.zero_le _, rfl, rfl, by simp [enc], .inr ⟨rfl, by simp [enc, byts], _, rfl⟩, by first | exact Below.refl _ _ | exact (Below.refl _ _).alloc (Nat.le_refl _) _⟩
  case round =>
    obtain ⟨k, m, ao, ca, hk, rfl, rfl, hm, hrow, hbel⟩ := hrel
    by_cases hlt : k < n
    · obtain ⟨b1, o1, rfl, hc1⟩ := HR.out (by omega)
      obtain ⟨a, ha⟩ := getAt xs k (by have := Hl.out; omega)
      have f0 : wr.cell? ⟨b1, o1 + k, none⟩ = some (.int .i64 a) := by
        have g := hc1 k (.int .i64 a) (by simp [ha])
        exact (hbel.cell (p := ⟨b1, o1 + k, none⟩) (World.block_lt_of_cell? w _ g)).trans g
      obtain ⟨h1, h2⟩ := HB.out a (List.mem_of_getElem? ha)
      obtain ⟨q, hq⟩ : ∃ q : Nat, a = (q : Int) - 1 := ⟨(a + 1).toNat, by omega⟩
      have hq2 : q ≤ 100000 := by omega
      have hi : (k : Int) < (n : Int) := by omega
      have HT := hide (take_enc xs k a ha)
      have HE := hide (show encI a = encN q by rw [hq]; unfold encI; congr 1; omega)
      have HL3 := hide (enc_len (xs.take k) (fun b hb => (HB.out b (List.mem_of_mem_take hb)).2)).2
      have HM := hide hm
      have HQ := hide hq
      have hq3 : (q : Int) - 1 + 1 = (q : Int) := by omega
      rw [hq] at f0
      clear ha hc1 h1 h2 hm hq
      go_wp2
      go_loopw [3, 5] (fun ov rv wr => ∃ (r m : Nat) (pre : List Nat) (ao : Option Addr) (ca : Nat), r ≤ 100000 ∧ rv = .int .i64 r ∧ ov = .slice ao m ca ∧ m = pre.length ∧ pre ++ encN r = enc (xs.take k) ++ encN q ∧ RowA wr w.heap.size 5 1 (.slice ao m ca) m (byts pre) ∧ Below w.heap.size w wr) (fun _ rv _ => (intOf rv).toNat)
      case atStart => exact ⟨q, m, enc (xs.take k), ao, ca, hq2, by first | rfl | (congr 1), rfl, HM.out, rfl, hrow, hbel⟩
      case round =>
        obtain ⟨r, m', pre, ao', ca', hr2, rfl, rfl, hm', hpre, hrow', hbel'⟩ := hrel
        have hlen : pre.length + (encN r).length ≤ 3 * k + 3 := by
          have h1 := congrArg List.length hpre
          rw [List.length_append, List.length_append] at h1
          have h2 := HL3.out
          rw [List.length_take] at h2
          have h3 := (encN_len q hq2).2
          omega
        have hz := hbel'.size
        have HP := hide hpre
        have HM' := hide hm'
        have hmb : m' ≤ 3003 := by omega
        clear hpre hm' hlen hrow hbel f0
        by_cases hbig : 127 < r
        · have hbig' : (127 : Int) < (r : Int) := by omega
          have al3 : Below wr.heap.size wr (wr.alloc (.cells #[.int .u8 (128 + (r : Int) % 128)] 5)) := (Below.refl _ _).alloc (Nat.le_refl _) _
          have row3 := hrow'.keepB al3
          have N3 := hide (new_byte wr (128 + (r : Int) % 128) 5)
          go_wp2_with (at_builtin; refine wpList_appendA _ rfl _ _ 38 rfl w.heap.size 5 i1 (.int .u8 0) 1 1 Try.underlying38 gi gz0 gz1 gz2 rfl (by decide) _ m' (byts pre) rfl row3 ⟨wr.heap.size, 0, none⟩ 1 1 [.int .u8 (128 + (r : Int) % 128)] rfl rfl N3.out (byte_one _) (by decide) ?q63 ?qby ?qbase ?_)
          case q63 => unfold maxLen; omega
          case qby => omega
          case qbase => first | omega | (simp; omega)
          intro v4 w4 hown u4
          obtain ⟨mo, cm, rfl⟩ := (Row.ofOwns hown (by omega)).shape
          go_wp2
          go_roundw
          case rel =>
            refine ⟨r / 128, m' + 1, pre ++ [128 + r % 128], mo, cm, by omega, by first | rfl | go_num | (congr 1; omega), rfl, by rw [HM'.out]; simp, ?_, ?_, ?_⟩
            · rw [List.append_assoc, List.singleton_append, ← encN_ge (by omega)]
              exact HP.out
            · rw [byts_append]
              have : byts [128 + r % 128] = [.int .u8 (128 + (r : Int) % 128)] := by simp [byts]
              rw [this]
              exact .inl hown
            · exact (bAll hbel' al3).trans (u4.below (by simp; omega) (fun k h => h.1))
          case measure => simp [intOf]; omega
        · have hbig' : ¬ (127 : Int) < (r : Int) := by omega
          have al3 : Below wr.heap.size wr (wr.alloc (.cells #[.int .u8 (r : Int)] 5)) := (Below.refl _ _).alloc (Nat.le_refl _) _
          have row3 := hrow'.keepB al3
          have N3 := hide (new_byte wr (r : Int) 5)
          have hr256 : (r : Int) < 256 := by omega
          go_wp2_with (at_builtin; refine wpList_appendA _ rfl _ _ 38 rfl w.heap.size 5 i1 (.int .u8 0) 1 1 Try.underlying38 gi gz0 gz1 gz2 rfl (by decide) _ m' (byts pre) rfl row3 ⟨wr.heap.size, 0, none⟩ 1 1 [.int .u8 (r : Int)] rfl rfl N3.out (byte_one _) (by decide) ?q63 ?qby ?qbase ?_)
          case q63 => unfold maxLen; omega
          case qby => omega
          case qbase => first | omega | (simp; omega)
          intro v4 w4 hown u4
          obtain ⟨mo, cm, rfl⟩ := (Row.ofOwns hown (by omega)).shape
          go_wp2
          go_roundw
          case rel =>
            have e1 : enc (xs.take (k + 1)) = pre ++ [r] := by rw [HT.out, HE.out, ← HP.out, encN_lt (by omega)]
            refine ⟨k + 1, m' + 1, mo, cm, by omega, by go_num, rfl, by rw [e1, HM'.out]; simp, ?_, ?_⟩
            · rw [e1, byts_append]
              exact .inl hown
            · exact (bAll hbel' al3).trans (u4.below (by simp; omega) (fun k h => h.1))
          case measure => simp [intOf]; omega
    · have hge : ¬ (k : Int) < (n : Int) := by omega
      have hm2 := hm
      have HM := hide hm
      have e1 : xs.take k = xs := List.take_of_length_le (by have := Hl.out; omega)
      rw [e1] at hrow hm2
      have HMM := hide hm2
      clear hm hm2 e1
      go_wp2
      go_ret
      exact ⟨_, _, _, rfl, hrow, HMM.out, hbel⟩

end Go.Proofs.Ytdlckeklhfplmaa

/- What SecPut of the specification does: a contract; no statement of the seat is proved here. -/
namespace Go.Proofs.Ytdlckeklhfplmaa
open Go.RowKit

/-- Whether a write may wait. -/
def putB (kept : List ByteArray) (wait : List (Int × ByteArray)) (a : Int) (s : ByteArray) : Bool := okB kept wait && (writeOkB kept.length (a, s) && decide (wait.length < 600))
/-- What is kept, and what waits, behind a write. -/
def putK (kept : List ByteArray) (wait : List (Int × ByteArray)) : List ByteArray := if okB kept wait = true then kept else []
def putW (kept : List ByteArray) (wait : List (Int × ByteArray)) (a : Int) (s : ByteArray) : List (Int × ByteArray) :=
  if okB kept wait = true then (if putB kept wait a s = true then wait ++ [(a, s)] else wait) else []

theorem wcells_snoc (xs : List (Int × ByteArray)) (a : Int) (s : ByteArray) : wcells (xs ++ [(a, s)]) = wcells xs ++ [.int .i64 a, .string s] := by simp [wcells, wcell]

theorem new_cells (w : World) (a : Int) (s : ByteArray) (e : TypeId) : ∀ j u, [Value.int .i64 a, .string s][j]? = some u → (w.alloc (.cells #[.int .i64 a, .string s] e)).cell? ((⟨w.heap.size, 0, none⟩ : Addr).add j) = some u := by
  intro j u h
  rw [Addr.add_lit, Nat.zero_add, cell_of_row _ _ j _ _ (0, 0) (al1_0 w _)]
  simpa using h

theorem new_one (a : Int) (s : ByteArray) : ∀ u ∈ [Value.int .i64 a, .string s], u.oneCell' = true := by
  intro u hu
  simp only [List.mem_cons, List.not_mem_nil, or_false] at hu
  rcases hu with rfl | rfl <;> rfl

theorem typed_box {w W : World} {S : Nat → Prop} {e t : TypeId} {B : Nat} {xs : Array Value} (h : w.heap[B]? = some (.cells xs t (0, 0))) (he : t ≠ e) (hW : W.heap[B]? = w.heap[B]?) : ¬ typed W S e B := by
  rintro ⟨_, c, hc⟩
  rw [hW, h] at hc
  simp at hc
  exact he hc.2

end Go.Proofs.Ytdlckeklhfplmaa

/- All numbers of a word, as the specification lists them: a contract; no statement of the seat is proved here. -/
namespace Go.Proofs.Ytdlckeklhfplmaa
open Go.RowKit

theorem infoI64 : (Try.prog.info? 3).map (fun i => (i.zero, i.size, i.bytes)) = some (some (.int .i64 0), 1, 8) := by kernel_rfl
def intsV (xs : List Int) : List Value := xs.map (Value.int .i64)
theorem intsV_one (xs : List Int) : ∀ u ∈ intsV xs, u.oneCell' = true := by
  intro u hu
  obtain ⟨a, _, rfl⟩ := List.mem_map.1 hu
  rfl
theorem intsV_append (xs ys : List Int) : intsV (xs ++ ys) = intsV xs ++ intsV ys := by simp [intsV]
theorem new_ints (w : World) (xs : List Int) (e : TypeId) : ∀ j u, (intsV xs)[j]? = some u → (w.alloc (.cells (intsV xs).toArray e)).cell? ((⟨w.heap.size, 0, none⟩ : Addr).add j) = some u := by
  intro j u h
  rw [Addr.add_lit, cell_of_row _ _ _ _ _ (0, 0) (al1_0 w _)]
  simpa using h

theorem RowA.base {w : World} {b b' : Nat} {e : TypeId} {size : Nat} {v : Value} {n : Nat} {cs : List Value} (h : RowA w b e size v n cs) (hb : b' ≤ b) : RowA w b' e size v n cs := by
  rcases h with h | h
  · exact .inl ⟨h.1, h.2.imp id (fun ⟨g, cap, cur, e, hg, rest⟩ => ⟨g, cap, cur, e, Nat.le_trans hb hg, rest⟩)⟩
  · exact .inr h
theorem updCell {S : Nat → Prop} {w w' : World} {b o : Nat} {v : Value} (u : Upd S w w') (h : w.cell? ⟨b, o, none⟩ = some v) (hS : ¬ S b) : w'.cell? ⟨b, o, none⟩ = some v :=
  (World.cell?_of_block (a := ⟨b, o, none⟩) (u.block b (World.block_lt_of_cell? w _ h) hS)).trans h

theorem wp_appendA {P : Program} {o : Oper} {a : Act} {w : World} {K : Act → World → Prop} {Q : Exit → Act → World → Prop}
    (s x : Operand) (t : TypeId) (ho : o.op = Op.call { callee := Callee.builtin Builtin.append, args := #[s, x], argTypes := #[t, t] })
    (base : Nat) (e : TypeId) (i : TypeInfo) (z : Value) (size bytes : Nat) (ht : P.underlying t = some (.slice e)) (hi : P.info? e = some i) (hz : i.zero = some z)
    (hsize : i.size = size) (hby : i.bytes = bytes) (hzs : z.cells.size = size) (hsz : 0 < size)
    (v : Value) (n : Nat) (xs : List Value) (hs : a.eval s = v) (hown : RowA w base e size v n xs)
    (ad : Addr) (m c : Nat) (news : List Value) (hx : a.eval x = .slice (some ad) m c) (hl : news.length = m * size) (hnews : ∀ j u, news[j]? = some u → w.cell? (ad.add j) = some u) (h1 : ∀ u ∈ news, u.oneCell' = true)
    (hm : 0 < m) (h63 : n + m ≤ maxLen) (hbytes : (n + m) * bytes ≤ 140737488355328) (hbase : base ≤ w.heap.size)
    (hK : ∀ v' w', w'.ownsRow base e size v' (n + m) (xs ++ news) → Upd (typed w (fun k => base ≤ k) e) w w' → K (a.put o.dst v') w') : Oper.wp P o a w K Q := by
  obtain ⟨v', w', hrun, r1, r2⟩ := run_appendA (P := P) (w := w) base t o.type e i z size bytes ht hi hz hsize hby hzs hsz v n xs hown ad m c news hl hnews h1 hm h63 hbytes hbase
  unfold Oper.wp
  simp [execOp, ho, resolve, invoke, builtin, hs, hx, hrun, Result.andThen]
  exact hK v' w' r1 r2

theorem l11Nums_own (x : Wd) (po lo : Option Addr) (pn pc ln lc : Nat) (w : World) :
    Calls Try.prog 29 #[ .agg #[.int .i64 x.a0, .int .i64 x.a1, .int .i64 x.a2, .int .i64 x.a3, .int .i64 x.a4, .int .i64 x.a5, .int .i64 x.c0, .int .i64 x.c1, .int .i64 x.c2, .int .i64 x.c3, .int .i64 x.c4, .int .i64 x.c5, .int .i64 x.c6, .int .i64 x.c7, .int .i64 x.c8, .int .i64 x.c9, .int .i64 x.b0, .int .i64 x.b1, .int .i64 x.b2, .int .i64 x.b3, .int .i64 x.b4, .int .i64 x.b5, .int .i64 x.b6, .int .i64 x.b7, .slice po pn pc, .slice lo ln lc] ] w fun e w' => ∃ so, e = .returned (.slice so 24 24) ∧ w'.ownsRow w.heap.size 3 1 (.slice so 24 24) 24 (intsV x.nums) ∧ Below w.heap.size w w' := by
  refine (l11Nums_any x po lo pn pc ln lc w).mono ?_
  rintro e w' ⟨rfl, rfl⟩
  refine ⟨_, rfl, ?_, bal (bal (bal (Below.refl _ _) _) _) _⟩
  have := World.ownsRow_lit (base := w.heap.size) (e := 3) (size := 1) ((w.alloc (.cells (#[.int .i64 x.a0, .int .i64 x.a1, .int .i64 x.a2, .int .i64 x.a3, .int .i64 x.a4, .int .i64 x.a5, .int .i64 x.c0, .int .i64 x.c1, .int .i64 x.c2, .int .i64 x.c3, .int .i64 x.c4, .int .i64 x.c5, .int .i64 x.c6, .int .i64 x.c7, .int .i64 x.c8, .int .i64 x.c9, .int .i64 x.b0, .int .i64 x.b1, .int .i64 x.b2, .int .i64 x.b3, .int .i64 x.b4, .int .i64 x.b5, .int .i64 x.b6, .int .i64 x.b7, .slice po pn pc, .slice lo ln lc] : Array Value) 34)).alloc (.cells #[.int .i64 x.c0, .int .i64 x.c1, .int .i64 x.c2, .int .i64 x.c3, .int .i64 x.c4, .int .i64 x.c5, .int .i64 x.c6, .int .i64 x.c7, .int .i64 x.c8, .int .i64 x.c9] 30)) (x.nums.map (Value.int .i64)).toArray 24 (by simp; omega) (by unfold maxLen; omega) rfl
  simp only [World.size_alloc] at this
  exact this

set_option maxRecDepth 100000 in
set_option maxHeartbeats 8000000 in
theorem l11All_any (v : Value) (x : Wd) (w : World) (h : WdR w v x) (hp : x.ps.length ≤ 60) (hl : x.ls.length ≤ 4) :
    Calls Try.prog 44 #[v] w fun e w' => ∃ so n sc, e = .returned (.slice so n sc) ∧ n = (allW x).length ∧ RowR w' 1 (.slice so n sc) n ((allW x).map (Value.int .i64)) ∧ Below w.heap.size w w' := by
  obtain ⟨po, pc, lo, lc, rfl, a1, a2⟩ := h
  obtain ⟨i1, gi, gz0, gz1, gz2⟩ := info_parts infoI64
  have A1 := hide a1
  have A2 := hide a2
  clear a1 a2
  go_enter Try.func44, Try.ntmps44
  go_wp2
  generalize hW : World.alloc _ _ = W
  have hal : Below w.heap.size w W := by rw [← hW]; exact bal (Below.refl _ _) _
  have B0 : Hid (W.heap[w.heap.size]? = some (.cells (#[.int .i64 x.a0, .int .i64 x.a1, .int .i64 x.a2, .int .i64 x.a3, .int .i64 x.a4, .int .i64 x.a5, .int .i64 x.c0, .int .i64 x.c1, .int .i64 x.c2, .int .i64 x.c3, .int .i64 x.c4, .int .i64 x.c5, .int .i64 x.c6, .int .i64 x.c7, .int .i64 x.c8, .int .i64 x.c9, .int .i64 x.b0, .int .i64 x.b1, .int .i64 x.b2, .int .i64 x.b3, .int .i64 x.b4, .int .i64 x.b5, .int .i64 x.b6, .int .i64 x.b7, .slice po x.ps.length pc, .slice lo x.ls.length lc] : Array Value) 34 (0, 0))) := by rw [← hW]; exact heap_alloc_new w _
  clear hW
  have z0 := hal.size
  refine wp_region_noPanic ?_
  refine wp_region_held_drew (S := (fun w' => w'.heap[w.heap.size]? = some (.cells (#[.int .i64 x.a0, .int .i64 x.a1, .int .i64 x.a2, .int .i64 x.a3, .int .i64 x.a4, .int .i64 x.a5, .int .i64 x.c0, .int .i64 x.c1, .int .i64 x.c2, .int .i64 x.c3, .int .i64 x.c4, .int .i64 x.c5, .int .i64 x.c6, .int .i64 x.c7, .int .i64 x.c8, .int .i64 x.c9, .int .i64 x.b0, .int .i64 x.b1, .int .i64 x.b2, .int .i64 x.b3, .int .i64 x.b4, .int .i64 x.b5, .int .i64 x.b6, .int .i64 x.b7, .slice po x.ps.length pc, .slice lo x.ls.length lc] : Array Value) 34 (0, 0)) ∧ w'.cell? ⟨w.heap.size, 24, none⟩ = some (.slice po x.ps.length pc))) (by kernel_rfl) ?_ (fun hHeld => ?_)
  · exact ⟨B0.out, boxAt B0.out 24⟩
  refine wpAnyH_take (i := 0) (v := .agg (#[.int .i64 x.a0, .int .i64 x.a1, .int .i64 x.a2, .int .i64 x.a3, .int .i64 x.a4, .int .i64 x.a5, .int .i64 x.c0, .int .i64 x.c1, .int .i64 x.c2, .int .i64 x.c3, .int .i64 x.c4, .int .i64 x.c5, .int .i64 x.c6, .int .i64 x.c7, .int .i64 x.c8, .int .i64 x.c9, .int .i64 x.b0, .int .i64 x.b1, .int .i64 x.b2, .int .i64 x.b3, .int .i64 x.b4, .int .i64 x.b5, .int .i64 x.b6, .int .i64 x.b7, .slice po x.ps.length pc, .slice lo x.ls.length lc] : Array Value)) rfl (by kernel_rfl) (by kernel_rfl) (by kernel_rfl) (fun _ _ _ h => h) (yields_row rfl 34 (.tmp 1) rfl (w.heap.size) rfl _ (#[.int .i64 x.a0, .int .i64 x.a1, .int .i64 x.a2, .int .i64 x.a3, .int .i64 x.a4, .int .i64 x.a5, .int .i64 x.c0, .int .i64 x.c1, .int .i64 x.c2, .int .i64 x.c3, .int .i64 x.c4, .int .i64 x.c5, .int .i64 x.c6, .int .i64 x.c7, .int .i64 x.c8, .int .i64 x.c9, .int .i64 x.b0, .int .i64 x.b1, .int .i64 x.b2, .int .i64 x.b3, .int .i64 x.b4, .int .i64 x.b5, .int .i64 x.b6, .int .i64 x.b7, .slice po x.ps.length pc, .slice lo x.ls.length lc] : Array Value) _ (fun _ h => h.1) Try.underlying34 rfl infoWd) (by assumption) ?_
  simp only [Act.put, List.getElem_toArray, List.getElem_cons_zero, List.setIfInBounds_toArray, List.set_cons_zero, List.set_cons_succ]
  refine wpAnyH_take (i := 2) (v := ?v1) rfl (by kernel_rfl) (by kernel_rfl) (by kernel_rfl) (fun _ _ _ h => h) (Or.inl ⟨by rfl, ?hy1⟩) (by assumption) ?rest1
  case hy1 => ((intro w hSw; (try dsimp only at hSw); (try simp only [List.getElem_toArray, List.getElem_cons_zero, List.getElem_cons_succ]); go_simp; first | done | (with_reducible rfl)))
  simp only [Act.put, List.getElem_toArray, List.getElem_cons_zero, List.getElem_cons_succ, List.setIfInBounds_toArray, List.set_cons_zero, List.set_cons_succ]
  refine wpAnyH_take (i := 3) (v := ?v2) rfl (by kernel_rfl) (by kernel_rfl) (by kernel_rfl) (fun _ _ _ h => h) (Or.inl ⟨by rfl, ?hy2⟩) (by assumption) ?rest2
  case hy2 => ((intro w hSw; (try dsimp only at hSw); (try simp only [List.getElem_toArray, List.getElem_cons_zero, List.getElem_cons_succ]); go_simp; first | done | (with_reducible rfl)))
  simp only [Act.put, List.getElem_toArray, List.getElem_cons_zero, List.getElem_cons_succ, List.setIfInBounds_toArray, List.set_cons_zero, List.set_cons_succ]
  refine wpAnyH_take (i := 4) (v := ?v3) rfl (by kernel_rfl) (by kernel_rfl) (by kernel_rfl) (fun _ _ _ h => h) (Or.inl ⟨by rfl, ?hy3⟩) (by assumption) ?rest3
  case hy3 => ((intro w hSw; (try dsimp only at hSw); (try simp only [List.getElem_toArray, List.getElem_cons_zero, List.getElem_cons_succ]); go_simp; first | done | (with_reducible rfl)))
  simp only [Act.put, List.getElem_toArray, List.getElem_cons_zero, List.getElem_cons_succ, List.setIfInBounds_toArray, List.set_cons_zero, List.set_cons_succ]
  refine wpAnyH_ready (rs := [1, 5]) (by kernel_rfl) (by simp) ?_
  refine AllReadyH.cons rfl (fun K hK => ?_) (AllReadyH.cons rfl (fun K hK => ?_) AllReadyH.nil)
  · go_simp
    go_at_call 29
    refine (l11Nums_own x _ _ _ _ _ _ _).mono ?_
    rintro e w1 ⟨so1, rfl, o1, b1⟩
    have b1' : Below W.heap.size W w1 := bUndrew b1
    have B1 := hide (bKeeps b1' B0.out)
    refine hK.out _ _ ⟨B1.out, boxAt B1.out 24⟩ (fun hHeld => ?_)
    clear hK K
    have al := bal (Below.refl w1.heap.size w1) (.cells (intsV [(x.ps.length : Int)]).toArray 3)
    have B2 := hide (bKeeps al B1.out)
    have row := (RowA.base (.inl o1) (b' := w.heap.size) (by show w.heap.size ≤ W.heap.size; omega)).keepB al
    have zz := b1'.size
    refine wpAnyH_ready (rs := [5]) (by kernel_rfl) (by simp) ?_
    refine AllReadyH.cons rfl (fun K hK => ?_) AllReadyH.nil
    go_simp
    (skip)
    refine hK.out _ _ ?_ (fun hHeld => ?_)
    · exact ⟨B2.out, boxAt B2.out 24⟩
    clear hK K
    refine wpAnyH_ready (rs := [6]) (by kernel_rfl) (by simp) ?_
    refine AllReadyH.cons rfl (fun K hK => ?_) AllReadyH.nil
    (refine wp_appendA _ _ 50 rfl w.heap.size 3 i1 (.int .i64 0) 1 8 Try.underlying50 gi gz0 gz1 gz2 rfl (by decide) _ 24 (intsV x.nums) rfl row ⟨w1.heap.size, 0, none⟩ 1 1 (intsV [(x.ps.length : Int)]) rfl rfl (new_ints w1 _ _) (intsV_one _) (by decide) (by unfold maxLen; omega) (by omega) (by simp; omega) ?_; intro v4 w4 hown u4; obtain ⟨mo, cm, rfl⟩ := (Row.ofOwns hown (by omega)).shape; have B4 := hide (u4.keeps B2.out (typed_box B2.out (by decide) rfl)))
    refine hK.out _ _ ?_ (fun hHeld => ?_)
    · exact ⟨B4.out, boxAt B4.out 24⟩
    clear hK K
    refine wpAnyH_take (i := 7) (v := ?v4) rfl (by kernel_rfl) (by kernel_rfl) (by kernel_rfl) (fun _ _ _ h => h) (Or.inl ⟨by rfl, ?hy4⟩) (by assumption) ?rest4
    case hy4 => ((intro w hSw; (try dsimp only at hSw); (try simp only [List.getElem_toArray, List.getElem_cons_zero, List.getElem_cons_succ]); go_simp; first | done | (with_reducible rfl)))
    simp only [Act.put, List.getElem_toArray, List.getElem_cons_zero, List.getElem_cons_succ, List.setIfInBounds_toArray, List.set_cons_zero, List.set_cons_succ]
    refine wpAnyH_done (by kernel_rfl) ?_ _
    refine NoPanic.normal ?_
    have c4 : Below w.heap.size w w4 := (bAll (bAll hal b1') al).trans (u4.below (by simp; omega) (fun k h => h.1))
    clear o1 b1 b1' B1 al B2 row zz u4 B0 z0 hal
    revert hown B4 c4
    generalize w4 = V
    intro hown B4 c4
    clear hHeld
    simp only [Nat.reduceAdd] at hown ⊢
    go_wp2
    go_loopw [3, 4] (fun ov i wr => ∃ (k n : Nat) (ao : Option Addr) (ca : Nat), k ≤ x.ps.length ∧ i = .int .i64 k ∧ ov = .slice ao n ca ∧ n = 25 + k * 4 ∧ RowA wr w.heap.size 3 1 (.slice ao n ca) n (intsV (x.nums ++ ((x.ps.length : Int) :: (x.ps.take k).flatMap pnum))) ∧ Below w.heap.size w wr ∧ wr.heap[w.heap.size]? = some (.cells (#[.int .i64 x.a0, .int .i64 x.a1, .int .i64 x.a2, .int .i64 x.a3, .int .i64 x.a4, .int .i64 x.a5, .int .i64 x.c0, .int .i64 x.c1, .int .i64 x.c2, .int .i64 x.c3, .int .i64 x.c4, .int .i64 x.c5, .int .i64 x.c6, .int .i64 x.c7, .int .i64 x.c8, .int .i64 x.c9, .int .i64 x.b0, .int .i64 x.b1, .int .i64 x.b2, .int .i64 x.b3, .int .i64 x.b4, .int .i64 x.b5, .int .i64 x.b6, .int .i64 x.b7, .slice po x.ps.length pc, .slice lo x.ls.length lc] : Array Value) 34 (0, 0))) (fun _ i _ => x.ps.length - (intOf i).toNat)
    case atStart =>
      refine ⟨0, 25, mo, cm, Nat.zero_le _, rfl, rfl, rfl, .inl ?_, c4, B4.out⟩
      rw [show intsV (x.nums ++ ((x.ps.length : Int) :: (x.ps.take 0).flatMap pnum)) = intsV x.nums ++ intsV [(x.ps.length : Int)] by simp [intsV]]
      exact hown
    case round =>
      clear hown c4 B4
      obtain ⟨k, n, ao, ca, hk, rfl, rfl, hn, hrow, hbel, hbx⟩ := hrel
      have HN := hide hn
      have hn2 : n ≤ 300 := by omega
      have hzw := hbel.size
      clear hn
      by_cases hlt : k < x.ps.length
      · obtain ⟨b1, o1, hpo, hc1⟩ : ∃ b1 o1, po = some ⟨b1, o1, none⟩ ∧ ∀ j u, (pcells x.ps)[j]? = some u → w.cell? ⟨b1, o1 + j, none⟩ = some u := by
          obtain ⟨ao', cap', e, _, _, hr⟩ := A1.out
          obtain ⟨b1, o1, e2, hc⟩ := hr (by omega)
          simp only [Value.slice.injEq, true_and] at e
          exact ⟨b1, o1, e.1.trans e2, hc⟩
        subst hpo
        obtain ⟨⟨d, b, p, t⟩, hx⟩ := getAt x.ps k hlt
        obtain ⟨f0, f1, f2, f3, l1⟩ := pc_cells hc1 hx hbel
        have d24 : wr.cell? ⟨w.heap.size, 24, none⟩ = some (.slice (some ⟨b1, o1, none⟩) x.ps.length pc) := boxAt hbx 24
        have Hbx := hide hbx
        have Hx := hide hx
        have hi : (k : Int) < (x.ps.length : Int) := by omega
        have al3 := bal (bal (Below.refl wr.heap.size wr) (.cells #[.int .i64 d, .int .i64 b, .int .i64 p, .int .i64 t] 83)) (.cells (intsV [d, b, p, t]).toArray 3)
        have row3 := hrow.keepB al3
        have N3 := new_ints (wr.alloc (.cells #[.int .i64 d, .int .i64 b, .int .i64 p, .int .i64 t] 83)) [d, b, p, t] 3
        simp only [World.size_alloc] at N3
        have HN3 := hide N3
        clear hc1 hx hbx N3
        go_wp2_with (at_builtin; refine wpList_appendA _ rfl _ _ 50 rfl w.heap.size 3 i1 (.int .i64 0) 1 8 Try.underlying50 gi gz0 gz1 gz2 rfl (by decide) _ n (intsV (x.nums ++ ((x.ps.length : Int) :: (x.ps.take k).flatMap pnum))) rfl row3 ⟨wr.heap.size + 1, 0, none⟩ 4 4 (intsV [d, b, p, t]) rfl rfl HN3.out (intsV_one _) (by decide) ?q63 ?qby ?qbase ?_)
        case q63 => unfold maxLen; omega
        case qby => omega
        case qbase => first | omega | (simp; omega)
        intro v4 w4 hown u4
        obtain ⟨mo', cm', rfl⟩ := (Row.ofOwns hown (by omega)).shape
        go_wp2
        have Hb2 := bKeeps al3 Hbx.out
        go_roundw
        case rel =>
          refine ⟨k + 1, n + 4, mo', cm', by omega, by go_num, rfl, by rw [HN.out]; omega, .inl ?_, (bAll hbel al3).trans (u4.below (by first | omega | (simp; omega)) (fun k h => h.1)), u4.keeps Hb2 (typed_box Hb2 (by decide) rfl)⟩
          rw [show x.ps.take (k + 1) = x.ps.take k ++ [(d, b, p, t)] by rw [List.take_add_one, Hx.out]; rfl, List.flatMap_append, ← List.cons_append, ← List.append_assoc, intsV_append]
          exact hown
        case measure => simp [intOf]; omega
      · obtain rfl : k = x.ps.length := by omega
        rw [List.take_length] at hrow
        have hge : ¬ ((x.ps.length : Nat) : Int) < (x.ps.length : Int) := by omega
        have d24 : wr.cell? ⟨w.heap.size, 24, none⟩ = some (.slice po x.ps.length pc) := boxAt hbx 24
        have d25 : wr.cell? ⟨w.heap.size, 25, none⟩ = some (.slice lo x.ls.length lc) := boxAt hbx 25
        have al3 := bal (Below.refl wr.heap.size wr) (.cells (intsV [(x.ls.length : Int)]).toArray 3)
        have row3 := hrow.keepB al3
        have HN3 := hide (new_ints wr [(x.ls.length : Int)] 3)
        have Hb2 := hide (bKeeps al3 hbx)
        clear hbx hrow
        go_wp2_with (at_builtin; refine wpList_appendA _ rfl _ _ 50 rfl w.heap.size 3 i1 (.int .i64 0) 1 8 Try.underlying50 gi gz0 gz1 gz2 rfl (by decide) _ n (intsV (x.nums ++ ((x.ps.length : Int) :: x.ps.flatMap pnum))) rfl row3 ⟨wr.heap.size, 0, none⟩ 1 1 (intsV [(x.ls.length : Int)]) rfl rfl HN3.out (intsV_one _) (by decide) ?q63 ?qby ?qbase ?_)
        case q63 => unfold maxLen; omega
        case qby => omega
        case qbase => first | omega | (simp; omega)
        intro v4 w4 hown u4
        obtain ⟨mo', cm', rfl⟩ := (Row.ofOwns hown (by omega)).shape
        have c5 := (bAll hbel al3).trans (u4.below (by first | omega | (simp; omega)) (fun k h => h.1))
        have B5 := hide (u4.keeps Hb2.out (typed_box Hb2.out (by decide) rfl))
        clear d24 d25 al3 row3 HN3 Hb2 hbel u4 hzw
        go_wp2
        go_loopw [3, 6] (fun ov i wr => ∃ (k m : Nat) (ao : Option Addr) (ca : Nat), k ≤ x.ls.length ∧ i = .int .i64 k ∧ ov = .slice ao m ca ∧ m = n + 1 + k * 2 ∧ RowA wr w.heap.size 3 1 (.slice ao m ca) m (intsV (x.nums ++ ((x.ps.length : Int) :: x.ps.flatMap pnum) ++ ((x.ls.length : Int) :: (x.ls.take k).flatMap lnum))) ∧ Below w.heap.size w wr ∧ wr.heap[w.heap.size]? = some (.cells (#[.int .i64 x.a0, .int .i64 x.a1, .int .i64 x.a2, .int .i64 x.a3, .int .i64 x.a4, .int .i64 x.a5, .int .i64 x.c0, .int .i64 x.c1, .int .i64 x.c2, .int .i64 x.c3, .int .i64 x.c4, .int .i64 x.c5, .int .i64 x.c6, .int .i64 x.c7, .int .i64 x.c8, .int .i64 x.c9, .int .i64 x.b0, .int .i64 x.b1, .int .i64 x.b2, .int .i64 x.b3, .int .i64 x.b4, .int .i64 x.b5, .int .i64 x.b6, .int .i64 x.b7, .slice po x.ps.length pc, .slice lo x.ls.length lc] : Array Value) 34 (0, 0))) (fun _ i _ => x.ls.length - (intOf i).toNat)
        case atStart =>
          refine ⟨0, n + 1, mo', cm', Nat.zero_le _, rfl, rfl, rfl, .inl ?_, c5, B5.out⟩
          rw [intsV_append]
          exact hown
        case round =>
          clear hown c5 B5
          obtain ⟨k, m, ao, ca, hk, rfl, rfl, hm, hrow, hbel, hbx⟩ := hrel
          have HM := hide hm
          have hm2 : m ≤ 320 := by omega
          have hzw := hbel.size
          clear hm
          by_cases hlt : k < x.ls.length
          · obtain ⟨b1, o1, hpo, hc1⟩ : ∃ b1 o1, lo = some ⟨b1, o1, none⟩ ∧ ∀ j u, (lcells x.ls)[j]? = some u → w.cell? ⟨b1, o1 + j, none⟩ = some u := by
              obtain ⟨ao', cap', e, _, _, hr⟩ := A2.out
              obtain ⟨b1, o1, e2, hc⟩ := hr (by omega)
              simp only [Value.slice.injEq, true_and] at e
              exact ⟨b1, o1, e.1.trans e2, hc⟩
            subst hpo
            obtain ⟨⟨d, b⟩, hx⟩ := getAt x.ls k hlt
            obtain ⟨f0, f1, l1⟩ := lc_cells hc1 hx hbel
            have d25 : wr.cell? ⟨w.heap.size, 25, none⟩ = some (.slice (some ⟨b1, o1, none⟩) x.ls.length lc) := boxAt hbx 25
            have Hbx := hide hbx
            have Hx := hide hx
            have hi : (k : Int) < (x.ls.length : Int) := by omega
            have al3 := bal (Below.refl wr.heap.size wr) (.cells (intsV [d, b]).toArray 3)
            have al3d := bDrewB al3
            have row3 := hrow.keepB al3
            have HN3 := hide (new_ints wr [d, b] 3)
            have Hb2 := hide (bKeeps al3 Hbx.out)
            have F0 := hide f0
            have F1 := hide f1
            have zw := heap_lt Hbx.out
            clear hc1 hx hbx
            go_wp2
            refine wp_region_noPanic ?_
            refine wp_region_held_drew (S := (fun w' => w'.cell? ⟨w.heap.size, 25, none⟩ = some (.slice (some ⟨b1, o1, none⟩) x.ls.length lc) ∧ w'.cell? ⟨b1, o1 + k * 2, none⟩ = some (.int .i64 d) ∧ w'.cell? ⟨b1, o1 + k * 2 + 1, none⟩ = some (.int .i64 b))) (by kernel_rfl) ?_ (fun hHeld => ?_)
            · exact ⟨d25, F0.out, F1.out⟩
            clear f0 f1 d25
            refine wpAnyH_take (i := 0) (v := ?v5) rfl (by kernel_rfl) (by kernel_rfl) (by kernel_rfl) (fun _ _ _ h => h) (Or.inl ⟨by rfl, ?hy5⟩) (by assumption) ?rest5
            case hy5 => ((intro w hSw; (try dsimp only at hSw); (try simp only [List.getElem_toArray, List.getElem_cons_zero]); go_simp; first | done | (with_reducible rfl)))
            simp only [Act.put, List.getElem_toArray, List.getElem_cons_zero, List.setIfInBounds_toArray, List.set_cons_zero, List.set_cons_succ]
            refine wpAnyH_take (i := 1) (v := ?v6) rfl (by kernel_rfl) (by kernel_rfl) (by kernel_rfl) (fun _ _ _ h => h) (Or.inl ⟨by rfl, ?hy6⟩) (by assumption) ?rest6
            case hy6 => ((intro w hSw; (try dsimp only at hSw); (try simp only [List.getElem_toArray, List.getElem_cons_zero, List.getElem_cons_succ]); go_simp; first | done | (with_reducible rfl)))
            simp only [Act.put, List.getElem_toArray, List.getElem_cons_zero, List.getElem_cons_succ, List.setIfInBounds_toArray, List.set_cons_zero, List.set_cons_succ]
            refine wpAnyH_take (i := 2) (v := ?v7) rfl (by kernel_rfl) (by kernel_rfl) (by kernel_rfl) (fun _ _ _ h => h) (Or.inl ⟨by rfl, ?hy7⟩) (by assumption) ?rest7
            case hy7 => ((intro w hSw; (try dsimp only at hSw); (try simp only [List.getElem_toArray, List.getElem_cons_zero, List.getElem_cons_succ]); go_simp; first | done | (with_reducible rfl)))
            simp only [Act.put, List.getElem_toArray, List.getElem_cons_zero, List.getElem_cons_succ, List.setIfInBounds_toArray, List.set_cons_zero, List.set_cons_succ]
            refine wpAnyH_take (i := 3) (v := ?v8) rfl (by kernel_rfl) (by kernel_rfl) (by kernel_rfl) (fun _ _ _ h => h) (Or.inl ⟨by rfl, ?hy8⟩) (by assumption) ?rest8
            case hy8 => ((intro w hSw; (try dsimp only at hSw); (try simp only [List.getElem_toArray, List.getElem_cons_zero, List.getElem_cons_succ]); go_simp; first | done | (with_reducible rfl)))
            simp only [Act.put, List.getElem_toArray, List.getElem_cons_zero, List.getElem_cons_succ, List.setIfInBounds_toArray, List.set_cons_zero, List.set_cons_succ]
            refine wpAnyH_take (i := 4) (v := ?v9) rfl (by kernel_rfl) (by kernel_rfl) (by kernel_rfl) (fun _ _ _ h => h) (Or.inl ⟨by rfl, ?hy9⟩) (by assumption) ?rest9
            case hy9 => ((intro w hSw; (try dsimp only at hSw); (try simp only [List.getElem_toArray, List.getElem_cons_zero, List.getElem_cons_succ]); go_simp; first | done | (with_reducible rfl)))
            simp only [Act.put, List.getElem_toArray, List.getElem_cons_zero, List.getElem_cons_succ, List.setIfInBounds_toArray, List.set_cons_zero, List.set_cons_succ]
            refine wpAnyH_take (i := 5) (v := ?v10) rfl (by kernel_rfl) (by kernel_rfl) (by kernel_rfl) (fun _ _ _ h => h) (Or.inl ⟨by rfl, ?hy10⟩) (by assumption) ?rest10
            case hy10 => ((intro w hSw; (try dsimp only at hSw); (try simp only [List.getElem_toArray, List.getElem_cons_zero, List.getElem_cons_succ]); go_simp; first | done | (with_reducible rfl)))
            simp only [Act.put, List.getElem_toArray, List.getElem_cons_zero, List.getElem_cons_succ, List.setIfInBounds_toArray, List.set_cons_zero, List.set_cons_succ]
            refine wpAnyH_take (i := 6) (v := ?v11) rfl (by kernel_rfl) (by kernel_rfl) (by kernel_rfl) (fun _ _ _ h => h) (Or.inl ⟨by rfl, ?hy11⟩) (by assumption) ?rest11
            case hy11 => ((intro w hSw; (try dsimp only at hSw); (try simp only [List.getElem_toArray, List.getElem_cons_zero, List.getElem_cons_succ]); go_simp; first | done | (with_reducible rfl)))
            simp only [Act.put, List.getElem_toArray, List.getElem_cons_zero, List.getElem_cons_succ, List.setIfInBounds_toArray, List.set_cons_zero, List.set_cons_succ]
            refine wpAnyH_take (i := 7) (v := ?v12) rfl (by kernel_rfl) (by kernel_rfl) (by kernel_rfl) (fun _ _ _ h => h) (Or.inl ⟨by rfl, ?hy12⟩) (by assumption) ?rest12
            case hy12 => ((intro w hSw; (try dsimp only at hSw); (try simp only [List.getElem_toArray, List.getElem_cons_zero, List.getElem_cons_succ]); go_simp; first | done | (with_reducible rfl)))
            simp only [Act.put, List.getElem_toArray, List.getElem_cons_zero, List.getElem_cons_succ, List.setIfInBounds_toArray, List.set_cons_zero, List.set_cons_succ]
            refine wpAnyH_take (i := 8) (v := ?v13) rfl (by kernel_rfl) (by kernel_rfl) (by kernel_rfl) (fun _ _ _ h => h) (Or.inl ⟨by rfl, ?hy13⟩) (by assumption) ?rest13
            case hy13 => ((intro w hSw; (try dsimp only at hSw); (try simp only [List.getElem_toArray, List.getElem_cons_zero, List.getElem_cons_succ]); go_simp; first | done | (with_reducible rfl)))
            simp only [Act.put, List.getElem_toArray, List.getElem_cons_zero, List.getElem_cons_succ, List.setIfInBounds_toArray, List.set_cons_zero, List.set_cons_succ]
            refine wpAnyH_take (i := 9) (v := ?v14) rfl (by kernel_rfl) (by kernel_rfl) (by kernel_rfl) (fun _ _ _ h => h) (Or.inl ⟨by rfl, ?hy14⟩) (by assumption) ?rest14
            case hy14 => ((intro w hSw; (try dsimp only at hSw); (try simp only [List.getElem_toArray, List.getElem_cons_zero, List.getElem_cons_succ]); go_simp; first | done | (with_reducible rfl)))
            simp only [Act.put, List.getElem_toArray, List.getElem_cons_zero, List.getElem_cons_succ, List.setIfInBounds_toArray, List.set_cons_zero, List.set_cons_succ]
            refine wpAnyH_take (i := 10) (v := ?v15) rfl (by kernel_rfl) (by kernel_rfl) (by kernel_rfl) (fun _ _ _ h => h) (Or.inl ⟨by rfl, ?hy15⟩) (by assumption) ?rest15
            case hy15 => ((intro w hSw; (try dsimp only at hSw); (try simp only [List.getElem_toArray, List.getElem_cons_zero, List.getElem_cons_succ]); go_simp; first | done | (with_reducible rfl)))
            simp only [Act.put, List.getElem_toArray, List.getElem_cons_zero, List.getElem_cons_succ, List.setIfInBounds_toArray, List.set_cons_zero, List.set_cons_succ]
            refine wpAnyH_take (i := 11) (v := ?v16) rfl (by kernel_rfl) (by kernel_rfl) (by kernel_rfl) (fun _ _ _ h => h) (Or.inl ⟨by rfl, ?hy16⟩) (by assumption) ?rest16
            case hy16 => ((intro w hSw; (try dsimp only at hSw); (try simp only [List.getElem_toArray, List.getElem_cons_zero, List.getElem_cons_succ]); go_simp; first | done | (with_reducible rfl)))
            simp only [Act.put, List.getElem_toArray, List.getElem_cons_zero, List.getElem_cons_succ, List.setIfInBounds_toArray, List.set_cons_zero, List.set_cons_succ]
            refine wpAnyH_take (i := 12) (v := ?v17) rfl (by kernel_rfl) (by kernel_rfl) (by kernel_rfl) (fun _ _ _ h => h) (Or.inl ⟨by rfl, ?hy17⟩) (by assumption) ?rest17
            case hy17 => ((intro w hSw; (try dsimp only at hSw); (try simp only [List.getElem_toArray, List.getElem_cons_zero, List.getElem_cons_succ]); go_simp; first | done | (with_reducible rfl)))
            simp only [Act.put, List.getElem_toArray, List.getElem_cons_zero, List.getElem_cons_succ, List.setIfInBounds_toArray, List.set_cons_zero, List.set_cons_succ]
            refine wpAnyH_ready (rs := [13]) (by kernel_rfl) (by simp) ?_
            refine AllReadyH.cons rfl (fun K hK => ?_) AllReadyH.nil
            go_simp
            (skip)
            refine hK.out _ _ ?_ (fun hHeld => ?_)
            · exact ⟨boxAt Hb2.out 25, updCell (Upd.ofBelow al3d (S := fun _ => False)) F0.out (fun h => h), updCell (Upd.ofBelow al3d (S := fun _ => False)) F1.out (fun h => h)⟩
            clear hK K
            refine wpAnyH_ready (rs := [14]) (by kernel_rfl) (by simp) ?_
            refine AllReadyH.cons rfl (fun K hK => ?_) AllReadyH.nil
            (refine wp_appendA _ _ 50 rfl w.heap.size 3 i1 (.int .i64 0) 1 8 Try.underlying50 gi gz0 gz1 gz2 rfl (by decide) _ m _ rfl row3 ⟨wr.heap.size, 0, none⟩ 2 2 (intsV [d, b]) rfl rfl HN3.out (intsV_one _) (by decide) (by unfold maxLen; omega) (by omega) (by show _ ≤ (wr.alloc _).heap.size; simp; omega) ?_; intro v4 w4 hown u4; obtain ⟨mo2, cm2, rfl⟩ := (Row.ofOwns hown (by omega)).shape)
            refine hK.out _ _ ?_ (fun hHeld => ?_)
            · exact ⟨boxAt (u4.keeps Hb2.out (typed_box Hb2.out (by decide) rfl)) 25, updCell u4 (updCell (Upd.ofBelow al3d (S := fun _ => False)) F0.out (fun h => h)) (fun h => by have := h.1; omega), updCell u4 (updCell (Upd.ofBelow al3d (S := fun _ => False)) F1.out (fun h => h)) (fun h => by have := h.1; omega)⟩
            clear hK K
            refine wpAnyH_take (i := 15) (v := ?v18) rfl (by kernel_rfl) (by kernel_rfl) (by kernel_rfl) (fun _ _ _ h => h) (Or.inl ⟨by rfl, ?hy18⟩) (by assumption) ?rest18
            case hy18 => ((intro w hSw; (try dsimp only at hSw); (try simp only [List.getElem_toArray, List.getElem_cons_zero, List.getElem_cons_succ]); go_simp; first | done | (with_reducible rfl)))
            simp only [Act.put, List.getElem_toArray, List.getElem_cons_zero, List.getElem_cons_succ, List.setIfInBounds_toArray, List.set_cons_zero, List.set_cons_succ]
            refine wpAnyH_done (by kernel_rfl) ?_ _
            refine NoPanic.normal ?_
            clear hHeld
            go_wp2
            go_roundw
            case rel =>
              refine ⟨k + 1, m + 2, mo2, cm2, by omega, by go_num, rfl, by rw [HM.out]; omega, .inl ?_, (bAll hbel al3d).trans (u4.below (by show _ ≤ (wr.alloc _).heap.size; simp; omega) (fun k h => h.1)), u4.keeps Hb2.out (typed_box Hb2.out (by decide) rfl)⟩
              rw [show x.ls.take (k + 1) = x.ls.take k ++ [(d, b)] by rw [List.take_add_one, Hx.out]; rfl, List.flatMap_append, ← List.cons_append, ← List.append_assoc, intsV_append]
              exact hown
            case measure => simp [intOf]; omega
          · obtain rfl : k = x.ls.length := by omega
            rw [List.take_length] at hrow
            have hge : ¬ ((x.ls.length : Nat) : Int) < (x.ls.length : Int) := by omega
            have d25 : wr.cell? ⟨w.heap.size, 25, none⟩ = some (.slice lo x.ls.length lc) := boxAt hbx 25
            have e1 : intsV (x.nums ++ ((x.ps.length : Int) :: x.ps.flatMap pnum) ++ ((x.ls.length : Int) :: x.ls.flatMap lnum)) = (allW x).map (Value.int .i64) := by simp only [allW, allP, allL, intsV, List.append_assoc]
            have hlen : Hid (m = (allW x).length) := by show _ = _; rw [allW_len, HM.out, HN.out]; omega
            rw [e1] at hrow
            have RR := hide (hrow.row (by omega)).reads
            clear hbx hrow e1
            go_wp2
            go_ret
            exact ⟨_, _, _, rfl, hlen.out, RR.out, hbel⟩
  · go_simp
    have al := bal (Below.refl W.heap.size W) (.cells (intsV [(x.ps.length : Int)]).toArray 3)
    have B1 := hide (bKeeps al B0.out)
    refine hK.out _ _ ⟨B1.out, boxAt B1.out 24⟩ (fun hHeld => ?_)
    clear hK K
    refine wpAnyH_ready (rs := [1]) (by kernel_rfl) (by simp) ?_
    refine AllReadyH.cons rfl (fun K hK => ?_) AllReadyH.nil
    go_simp
    (go_at_call 29; refine (l11Nums_own x _ _ _ _ _ _ _).mono ?_; rintro e w1 ⟨so1, rfl, o1, b1⟩; have b1' : Below (W.alloc (.cells (intsV [(x.ps.length : Int)]).toArray 3)).heap.size (W.alloc (.cells (intsV [(x.ps.length : Int)]).toArray 3)) w1 := bUndrew b1; have B2 := hide (bKeeps b1' B1.out))
    refine hK.out _ _ ?_ (fun hHeld => ?_)
    · exact ⟨B2.out, boxAt B2.out 24⟩
    clear hK K
    have zz := b1'.size
    simp only [World.size_alloc] at zz
    have row := RowA.base (.inl o1) (b' := w.heap.size) (by show w.heap.size ≤ (W.alloc _).heap.size; simp; omega)
    have hnew : ∀ j u, (intsV [(x.ps.length : Int)])[j]? = some u → w1.cell? ((⟨W.heap.size, 0, none⟩ : Addr).add j) = some u := by
      intro j u h
      have g := new_ints W [(x.ps.length : Int)] 3 j u h
      rw [Addr.add_lit] at g ⊢
      exact (b1'.cell (p := ⟨W.heap.size, 0 + j, none⟩) (by simp)).trans g
    refine wpAnyH_ready (rs := [6]) (by kernel_rfl) (by simp) ?_
    refine AllReadyH.cons rfl (fun K hK => ?_) AllReadyH.nil
    (refine wp_appendA _ _ 50 rfl w.heap.size 3 i1 (.int .i64 0) 1 8 Try.underlying50 gi gz0 gz1 gz2 rfl (by decide) _ 24 (intsV x.nums) rfl row ⟨W.heap.size, 0, none⟩ 1 1 (intsV [(x.ps.length : Int)]) rfl rfl hnew (intsV_one _) (by decide) (by unfold maxLen; omega) (by omega) (by omega) ?_; intro v4 w4 hown u4; obtain ⟨mo, cm, rfl⟩ := (Row.ofOwns hown (by omega)).shape; have B4 := hide (u4.keeps B2.out (typed_box B2.out (by decide) rfl)))
    refine hK.out _ _ ?_ (fun hHeld => ?_)
    · exact ⟨B4.out, boxAt B4.out 24⟩
    clear hK K
    refine wpAnyH_take (i := 7) (v := ?v19) rfl (by kernel_rfl) (by kernel_rfl) (by kernel_rfl) (fun _ _ _ h => h) (Or.inl ⟨by rfl, ?hy19⟩) (by assumption) ?rest19
    case hy19 => ((intro w hSw; (try dsimp only at hSw); (try simp only [List.getElem_toArray, List.getElem_cons_zero, List.getElem_cons_succ]); go_simp; first | done | (with_reducible rfl)))
    simp only [Act.put, List.getElem_toArray, List.getElem_cons_zero, List.getElem_cons_succ, List.setIfInBounds_toArray, List.set_cons_zero, List.set_cons_succ]
    refine wpAnyH_done (by kernel_rfl) ?_ _
    refine NoPanic.normal ?_
    have c4 : Below w.heap.size w w4 := (bAll (bAll hal al) b1').trans (u4.below (by omega) (fun k h => h.1))
    clear o1 b1 b1' B1 al B2 row zz u4 B0 z0 hal hnew
    revert hown B4 c4
    generalize w4 = V
    intro hown B4 c4
    clear hHeld
    simp only [Nat.reduceAdd] at hown ⊢
    go_wp2
    go_loopw [3, 4] (fun ov i wr => ∃ (k n : Nat) (ao : Option Addr) (ca : Nat), k ≤ x.ps.length ∧ i = .int .i64 k ∧ ov = .slice ao n ca ∧ n = 25 + k * 4 ∧ RowA wr w.heap.size 3 1 (.slice ao n ca) n (intsV (x.nums ++ ((x.ps.length : Int) :: (x.ps.take k).flatMap pnum))) ∧ Below w.heap.size w wr ∧ wr.heap[w.heap.size]? = some (.cells (#[.int .i64 x.a0, .int .i64 x.a1, .int .i64 x.a2, .int .i64 x.a3, .int .i64 x.a4, .int .i64 x.a5, .int .i64 x.c0, .int .i64 x.c1, .int .i64 x.c2, .int .i64 x.c3, .int .i64 x.c4, .int .i64 x.c5, .int .i64 x.c6, .int .i64 x.c7, .int .i64 x.c8, .int .i64 x.c9, .int .i64 x.b0, .int .i64 x.b1, .int .i64 x.b2, .int .i64 x.b3, .int .i64 x.b4, .int .i64 x.b5, .int .i64 x.b6, .int .i64 x.b7, .slice po x.ps.length pc, .slice lo x.ls.length lc] : Array Value) 34 (0, 0))) (fun _ i _ => x.ps.length - (intOf i).toNat)
    case atStart =>
      refine ⟨0, 25, mo, cm, Nat.zero_le _, rfl, rfl, rfl, .inl ?_, c4, B4.out⟩
      rw [show intsV (x.nums ++ ((x.ps.length : Int) :: (x.ps.take 0).flatMap pnum)) = intsV x.nums ++ intsV [(x.ps.length : Int)] by simp [intsV]]
      exact hown
    case round =>
      clear hown c4 B4
      obtain ⟨k, n, ao, ca, hk, rfl, rfl, hn, hrow, hbel, hbx⟩ := hrel
      have HN := hide hn
      have hn2 : n ≤ 300 := by omega
      have hzw := hbel.size
      clear hn
      by_cases hlt : k < x.ps.length
      · obtain ⟨b1, o1, hpo, hc1⟩ : ∃ b1 o1, po = some ⟨b1, o1, none⟩ ∧ ∀ j u, (pcells x.ps)[j]? = some u → w.cell? ⟨b1, o1 + j, none⟩ = some u := by
          obtain ⟨ao', cap', e, _, _, hr⟩ := A1.out
          obtain ⟨b1, o1, e2, hc⟩ := hr (by omega)
          simp only [Value.slice.injEq, true_and] at e
          exact ⟨b1, o1, e.1.trans e2, hc⟩
        subst hpo
        obtain ⟨⟨d, b, p, t⟩, hx⟩ := getAt x.ps k hlt
        obtain ⟨f0, f1, f2, f3, l1⟩ := pc_cells hc1 hx hbel
        have d24 : wr.cell? ⟨w.heap.size, 24, none⟩ = some (.slice (some ⟨b1, o1, none⟩) x.ps.length pc) := boxAt hbx 24
        have Hbx := hide hbx
        have Hx := hide hx
        have hi : (k : Int) < (x.ps.length : Int) := by omega
        have al3 := bal (bal (Below.refl wr.heap.size wr) (.cells #[.int .i64 d, .int .i64 b, .int .i64 p, .int .i64 t] 83)) (.cells (intsV [d, b, p, t]).toArray 3)
        have row3 := hrow.keepB al3
        have N3 := new_ints (wr.alloc (.cells #[.int .i64 d, .int .i64 b, .int .i64 p, .int .i64 t] 83)) [d, b, p, t] 3
        simp only [World.size_alloc] at N3
        have HN3 := hide N3
        clear hc1 hx hbx N3
        go_wp2_with (at_builtin; refine wpList_appendA _ rfl _ _ 50 rfl w.heap.size 3 i1 (.int .i64 0) 1 8 Try.underlying50 gi gz0 gz1 gz2 rfl (by decide) _ n (intsV (x.nums ++ ((x.ps.length : Int) :: (x.ps.take k).flatMap pnum))) rfl row3 ⟨wr.heap.size + 1, 0, none⟩ 4 4 (intsV [d, b, p, t]) rfl rfl HN3.out (intsV_one _) (by decide) ?q63 ?qby ?qbase ?_)
        case q63 => unfold maxLen; omega
        case qby => omega
        case qbase => first | omega | (simp; omega)
        intro v4 w4 hown u4
        obtain ⟨mo', cm', rfl⟩ := (Row.ofOwns hown (by omega)).shape
        go_wp2
        have Hb2 := bKeeps al3 Hbx.out
        go_roundw
        case rel =>
          refine ⟨k + 1, n + 4, mo', cm', by omega, by go_num, rfl, by rw [HN.out]; omega, .inl ?_, (bAll hbel al3).trans (u4.below (by first | omega | (simp; omega)) (fun k h => h.1)), u4.keeps Hb2 (typed_box Hb2 (by decide) rfl)⟩
          rw [show x.ps.take (k + 1) = x.ps.take k ++ [(d, b, p, t)] by rw [List.take_add_one, Hx.out]; rfl, List.flatMap_append, ← List.cons_append, ← List.append_assoc, intsV_append]
          exact hown
        case measure => simp [intOf]; omega
      · obtain rfl : k = x.ps.length := by omega
        rw [List.take_length] at hrow
        have hge : ¬ ((x.ps.length : Nat) : Int) < (x.ps.length : Int) := by omega
        have d24 : wr.cell? ⟨w.heap.size, 24, none⟩ = some (.slice po x.ps.length pc) := boxAt hbx 24
        have d25 : wr.cell? ⟨w.heap.size, 25, none⟩ = some (.slice lo x.ls.length lc) := boxAt hbx 25
        have al3 := bal (Below.refl wr.heap.size wr) (.cells (intsV [(x.ls.length : Int)]).toArray 3)
        have row3 := hrow.keepB al3
        have HN3 := hide (new_ints wr [(x.ls.length : Int)] 3)
        have Hb2 := hide (bKeeps al3 hbx)
        clear hbx hrow
        go_wp2_with (at_builtin; refine wpList_appendA _ rfl _ _ 50 rfl w.heap.size 3 i1 (.int .i64 0) 1 8 Try.underlying50 gi gz0 gz1 gz2 rfl (by decide) _ n (intsV (x.nums ++ ((x.ps.length : Int) :: x.ps.flatMap pnum))) rfl row3 ⟨wr.heap.size, 0, none⟩ 1 1 (intsV [(x.ls.length : Int)]) rfl rfl HN3.out (intsV_one _) (by decide) ?q63 ?qby ?qbase ?_)
        case q63 => unfold maxLen; omega
        case qby => omega
        case qbase => first | omega | (simp; omega)
        intro v4 w4 hown u4
        obtain ⟨mo', cm', rfl⟩ := (Row.ofOwns hown (by omega)).shape
        have c5 := (bAll hbel al3).trans (u4.below (by first | omega | (simp; omega)) (fun k h => h.1))
        have B5 := hide (u4.keeps Hb2.out (typed_box Hb2.out (by decide) rfl))
        clear d24 d25 al3 row3 HN3 Hb2 hbel u4 hzw
        go_wp2
        go_loopw [3, 6] (fun ov i wr => ∃ (k m : Nat) (ao : Option Addr) (ca : Nat), k ≤ x.ls.length ∧ i = .int .i64 k ∧ ov = .slice ao m ca ∧ m = n + 1 + k * 2 ∧ RowA wr w.heap.size 3 1 (.slice ao m ca) m (intsV (x.nums ++ ((x.ps.length : Int) :: x.ps.flatMap pnum) ++ ((x.ls.length : Int) :: (x.ls.take k).flatMap lnum))) ∧ Below w.heap.size w wr ∧ wr.heap[w.heap.size]? = some (.cells (#[.int .i64 x.a0, .int .i64 x.a1, .int .i64 x.a2, .int .i64 x.a3, .int .i64 x.a4, .int .i64 x.a5, .int .i64 x.c0, .int .i64 x.c1, .int .i64 x.c2, .int .i64 x.c3, .int .i64 x.c4, .int .i64 x.c5, .int .i64 x.c6, .int .i64 x.c7, .int .i64 x.c8, .int .i64 x.c9, .int .i64 x.b0, .int .i64 x.b1, .int .i64 x.b2, .int .i64 x.b3, .int .i64 x.b4, .int .i64 x.b5, .int .i64 x.b6, .int .i64 x.b7, .slice po x.ps.length pc, .slice lo x.ls.length lc] : Array Value) 34 (0, 0))) (fun _ i _ => x.ls.length - (intOf i).toNat)
        case atStart =>
          refine ⟨0, n + 1, mo', cm', Nat.zero_le _, rfl, rfl, rfl, .inl ?_, c5, B5.out⟩
          rw [intsV_append]
          exact hown
        case round =>
          clear hown c5 B5
          obtain ⟨k, m, ao, ca, hk, rfl, rfl, hm, hrow, hbel, hbx⟩ := hrel
          have HM := hide hm
          have hm2 : m ≤ 320 := by omega
          have hzw := hbel.size
          clear hm
          by_cases hlt : k < x.ls.length
          · obtain ⟨b1, o1, hpo, hc1⟩ : ∃ b1 o1, lo = some ⟨b1, o1, none⟩ ∧ ∀ j u, (lcells x.ls)[j]? = some u → w.cell? ⟨b1, o1 + j, none⟩ = some u := by
              obtain ⟨ao', cap', e, _, _, hr⟩ := A2.out
              obtain ⟨b1, o1, e2, hc⟩ := hr (by omega)
              simp only [Value.slice.injEq, true_and] at e
              exact ⟨b1, o1, e.1.trans e2, hc⟩
            subst hpo
            obtain ⟨⟨d, b⟩, hx⟩ := getAt x.ls k hlt
            obtain ⟨f0, f1, l1⟩ := lc_cells hc1 hx hbel
            have d25 : wr.cell? ⟨w.heap.size, 25, none⟩ = some (.slice (some ⟨b1, o1, none⟩) x.ls.length lc) := boxAt hbx 25
            have Hbx := hide hbx
            have Hx := hide hx
            have hi : (k : Int) < (x.ls.length : Int) := by omega
            have al3 := bal (Below.refl wr.heap.size wr) (.cells (intsV [d, b]).toArray 3)
            have al3d := bDrewB al3
            have row3 := hrow.keepB al3
            have HN3 := hide (new_ints wr [d, b] 3)
            have Hb2 := hide (bKeeps al3 Hbx.out)
            have F0 := hide f0
            have F1 := hide f1
            have zw := heap_lt Hbx.out
            clear hc1 hx hbx
            go_wp2
            refine wp_region_noPanic ?_
            refine wp_region_held_drew (S := (fun w' => w'.cell? ⟨w.heap.size, 25, none⟩ = some (.slice (some ⟨b1, o1, none⟩) x.ls.length lc) ∧ w'.cell? ⟨b1, o1 + k * 2, none⟩ = some (.int .i64 d) ∧ w'.cell? ⟨b1, o1 + k * 2 + 1, none⟩ = some (.int .i64 b))) (by kernel_rfl) ?_ (fun hHeld => ?_)
            · exact ⟨d25, F0.out, F1.out⟩
            clear f0 f1 d25
            refine wpAnyH_take (i := 0) (v := ?v20) rfl (by kernel_rfl) (by kernel_rfl) (by kernel_rfl) (fun _ _ _ h => h) (Or.inl ⟨by rfl, ?hy20⟩) (by assumption) ?rest20
            case hy20 => ((intro w hSw; (try dsimp only at hSw); (try simp only [List.getElem_toArray, List.getElem_cons_zero]); go_simp; first | done | (with_reducible rfl)))
            simp only [Act.put, List.getElem_toArray, List.getElem_cons_zero, List.setIfInBounds_toArray, List.set_cons_zero, List.set_cons_succ]
            refine wpAnyH_take (i := 1) (v := ?v21) rfl (by kernel_rfl) (by kernel_rfl) (by kernel_rfl) (fun _ _ _ h => h) (Or.inl ⟨by rfl, ?hy21⟩) (by assumption) ?rest21
            case hy21 => ((intro w hSw; (try dsimp only at hSw); (try simp only [List.getElem_toArray, List.getElem_cons_zero, List.getElem_cons_succ]); go_simp; first | done | (with_reducible rfl)))
            simp only [Act.put, List.getElem_toArray, List.getElem_cons_zero, List.getElem_cons_succ, List.setIfInBounds_toArray, List.set_cons_zero, List.set_cons_succ]
            refine wpAnyH_take (i := 2) (v := ?v22) rfl (by kernel_rfl) (by kernel_rfl) (by kernel_rfl) (fun _ _ _ h => h) (Or.inl ⟨by rfl, ?hy22⟩) (by assumption) ?rest22
            case hy22 => ((intro w hSw; (try dsimp only at hSw); (try simp only [List.getElem_toArray, List.getElem_cons_zero, List.getElem_cons_succ]); go_simp; first | done | (with_reducible rfl)))
            simp only [Act.put, List.getElem_toArray, List.getElem_cons_zero, List.getElem_cons_succ, List.setIfInBounds_toArray, List.set_cons_zero, List.set_cons_succ]
            refine wpAnyH_take (i := 3) (v := ?v23) rfl (by kernel_rfl) (by kernel_rfl) (by kernel_rfl) (fun _ _ _ h => h) (Or.inl ⟨by rfl, ?hy23⟩) (by assumption) ?rest23
            case hy23 => ((intro w hSw; (try dsimp only at hSw); (try simp only [List.getElem_toArray, List.getElem_cons_zero, List.getElem_cons_succ]); go_simp; first | done | (with_reducible rfl)))
            simp only [Act.put, List.getElem_toArray, List.getElem_cons_zero, List.getElem_cons_succ, List.setIfInBounds_toArray, List.set_cons_zero, List.set_cons_succ]
            refine wpAnyH_take (i := 4) (v := ?v24) rfl (by kernel_rfl) (by kernel_rfl) (by kernel_rfl) (fun _ _ _ h => h) (Or.inl ⟨by rfl, ?hy24⟩) (by assumption) ?rest24
            case hy24 => ((intro w hSw; (try dsimp only at hSw); (try simp only [List.getElem_toArray, List.getElem_cons_zero, List.getElem_cons_succ]); go_simp; first | done | (with_reducible rfl)))
            simp only [Act.put, List.getElem_toArray, List.getElem_cons_zero, List.getElem_cons_succ, List.setIfInBounds_toArray, List.set_cons_zero, List.set_cons_succ]
            refine wpAnyH_take (i := 5) (v := ?v25) rfl (by kernel_rfl) (by kernel_rfl) (by kernel_rfl) (fun _ _ _ h => h) (Or.inl ⟨by rfl, ?hy25⟩) (by assumption) ?rest25
            case hy25 => ((intro w hSw; (try dsimp only at hSw); (try simp only [List.getElem_toArray, List.getElem_cons_zero, List.getElem_cons_succ]); go_simp; first | done | (with_reducible rfl)))
            simp only [Act.put, List.getElem_toArray, List.getElem_cons_zero, List.getElem_cons_succ, List.setIfInBounds_toArray, List.set_cons_zero, List.set_cons_succ]
            refine wpAnyH_take (i := 6) (v := ?v26) rfl (by kernel_rfl) (by kernel_rfl) (by kernel_rfl) (fun _ _ _ h => h) (Or.inl ⟨by rfl, ?hy26⟩) (by assumption) ?rest26
            case hy26 => ((intro w hSw; (try dsimp only at hSw); (try simp only [List.getElem_toArray, List.getElem_cons_zero, List.getElem_cons_succ]); go_simp; first | done | (with_reducible rfl)))
            simp only [Act.put, List.getElem_toArray, List.getElem_cons_zero, List.getElem_cons_succ, List.setIfInBounds_toArray, List.set_cons_zero, List.set_cons_succ]
            refine wpAnyH_take (i := 7) (v := ?v27) rfl (by kernel_rfl) (by kernel_rfl) (by kernel_rfl) (fun _ _ _ h => h) (Or.inl ⟨by rfl, ?hy27⟩) (by assumption) ?rest27
            case hy27 => ((intro w hSw; (try dsimp only at hSw); (try simp only [List.getElem_toArray, List.getElem_cons_zero, List.getElem_cons_succ]); go_simp; first | done | (with_reducible rfl)))
            simp only [Act.put, List.getElem_toArray, List.getElem_cons_zero, List.getElem_cons_succ, List.setIfInBounds_toArray, List.set_cons_zero, List.set_cons_succ]
            refine wpAnyH_take (i := 8) (v := ?v28) rfl (by kernel_rfl) (by kernel_rfl) (by kernel_rfl) (fun _ _ _ h => h) (Or.inl ⟨by rfl, ?hy28⟩) (by assumption) ?rest28
            case hy28 => ((intro w hSw; (try dsimp only at hSw); (try simp only [List.getElem_toArray, List.getElem_cons_zero, List.getElem_cons_succ]); go_simp; first | done | (with_reducible rfl)))
            simp only [Act.put, List.getElem_toArray, List.getElem_cons_zero, List.getElem_cons_succ, List.setIfInBounds_toArray, List.set_cons_zero, List.set_cons_succ]
            refine wpAnyH_take (i := 9) (v := ?v29) rfl (by kernel_rfl) (by kernel_rfl) (by kernel_rfl) (fun _ _ _ h => h) (Or.inl ⟨by rfl, ?hy29⟩) (by assumption) ?rest29
            case hy29 => ((intro w hSw; (try dsimp only at hSw); (try simp only [List.getElem_toArray, List.getElem_cons_zero, List.getElem_cons_succ]); go_simp; first | done | (with_reducible rfl)))
            simp only [Act.put, List.getElem_toArray, List.getElem_cons_zero, List.getElem_cons_succ, List.setIfInBounds_toArray, List.set_cons_zero, List.set_cons_succ]
            refine wpAnyH_take (i := 10) (v := ?v30) rfl (by kernel_rfl) (by kernel_rfl) (by kernel_rfl) (fun _ _ _ h => h) (Or.inl ⟨by rfl, ?hy30⟩) (by assumption) ?rest30
            case hy30 => ((intro w hSw; (try dsimp only at hSw); (try simp only [List.getElem_toArray, List.getElem_cons_zero, List.getElem_cons_succ]); go_simp; first | done | (with_reducible rfl)))
            simp only [Act.put, List.getElem_toArray, List.getElem_cons_zero, List.getElem_cons_succ, List.setIfInBounds_toArray, List.set_cons_zero, List.set_cons_succ]
            refine wpAnyH_take (i := 11) (v := ?v31) rfl (by kernel_rfl) (by kernel_rfl) (by kernel_rfl) (fun _ _ _ h => h) (Or.inl ⟨by rfl, ?hy31⟩) (by assumption) ?rest31
            case hy31 => ((intro w hSw; (try dsimp only at hSw); (try simp only [List.getElem_toArray, List.getElem_cons_zero, List.getElem_cons_succ]); go_simp; first | done | (with_reducible rfl)))
            simp only [Act.put, List.getElem_toArray, List.getElem_cons_zero, List.getElem_cons_succ, List.setIfInBounds_toArray, List.set_cons_zero, List.set_cons_succ]
            refine wpAnyH_take (i := 12) (v := ?v32) rfl (by kernel_rfl) (by kernel_rfl) (by kernel_rfl) (fun _ _ _ h => h) (Or.inl ⟨by rfl, ?hy32⟩) (by assumption) ?rest32
            case hy32 => ((intro w hSw; (try dsimp only at hSw); (try simp only [List.getElem_toArray, List.getElem_cons_zero, List.getElem_cons_succ]); go_simp; first | done | (with_reducible rfl)))
            simp only [Act.put, List.getElem_toArray, List.getElem_cons_zero, List.getElem_cons_succ, List.setIfInBounds_toArray, List.set_cons_zero, List.set_cons_succ]
            refine wpAnyH_ready (rs := [13]) (by kernel_rfl) (by simp) ?_
            refine AllReadyH.cons rfl (fun K hK => ?_) AllReadyH.nil
            go_simp
            (skip)
            refine hK.out _ _ ?_ (fun hHeld => ?_)
            · exact ⟨boxAt Hb2.out 25, updCell (Upd.ofBelow al3d (S := fun _ => False)) F0.out (fun h => h), updCell (Upd.ofBelow al3d (S := fun _ => False)) F1.out (fun h => h)⟩
            clear hK K
            refine wpAnyH_ready (rs := [14]) (by kernel_rfl) (by simp) ?_
            refine AllReadyH.cons rfl (fun K hK => ?_) AllReadyH.nil
            (refine wp_appendA _ _ 50 rfl w.heap.size 3 i1 (.int .i64 0) 1 8 Try.underlying50 gi gz0 gz1 gz2 rfl (by decide) _ m _ rfl row3 ⟨wr.heap.size, 0, none⟩ 2 2 (intsV [d, b]) rfl rfl HN3.out (intsV_one _) (by decide) (by unfold maxLen; omega) (by omega) (by show _ ≤ (wr.alloc _).heap.size; simp; omega) ?_; intro v4 w4 hown u4; obtain ⟨mo2, cm2, rfl⟩ := (Row.ofOwns hown (by omega)).shape)
            refine hK.out _ _ ?_ (fun hHeld => ?_)
            · exact ⟨boxAt (u4.keeps Hb2.out (typed_box Hb2.out (by decide) rfl)) 25, updCell u4 (updCell (Upd.ofBelow al3d (S := fun _ => False)) F0.out (fun h => h)) (fun h => by have := h.1; omega), updCell u4 (updCell (Upd.ofBelow al3d (S := fun _ => False)) F1.out (fun h => h)) (fun h => by have := h.1; omega)⟩
            clear hK K
            refine wpAnyH_take (i := 15) (v := ?v33) rfl (by kernel_rfl) (by kernel_rfl) (by kernel_rfl) (fun _ _ _ h => h) (Or.inl ⟨by rfl, ?hy33⟩) (by assumption) ?rest33
            case hy33 => ((intro w hSw; (try dsimp only at hSw); (try simp only [List.getElem_toArray, List.getElem_cons_zero, List.getElem_cons_succ]); go_simp; first | done | (with_reducible rfl)))
            simp only [Act.put, List.getElem_toArray, List.getElem_cons_zero, List.getElem_cons_succ, List.setIfInBounds_toArray, List.set_cons_zero, List.set_cons_succ]
            refine wpAnyH_done (by kernel_rfl) ?_ _
            refine NoPanic.normal ?_
            clear hHeld
            go_wp2
            go_roundw
            case rel =>
              refine ⟨k + 1, m + 2, mo2, cm2, by omega, by go_num, rfl, by rw [HM.out]; omega, .inl ?_, (bAll hbel al3d).trans (u4.below (by show _ ≤ (wr.alloc _).heap.size; simp; omega) (fun k h => h.1)), u4.keeps Hb2.out (typed_box Hb2.out (by decide) rfl)⟩
              rw [show x.ls.take (k + 1) = x.ls.take k ++ [(d, b)] by rw [List.take_add_one, Hx.out]; rfl, List.flatMap_append, ← List.cons_append, ← List.append_assoc, intsV_append]
              exact hown
            case measure => simp [intOf]; omega
          · obtain rfl : k = x.ls.length := by omega
            rw [List.take_length] at hrow
            have hge : ¬ ((x.ls.length : Nat) : Int) < (x.ls.length : Int) := by omega
            have d25 : wr.cell? ⟨w.heap.size, 25, none⟩ = some (.slice lo x.ls.length lc) := boxAt hbx 25
            have e1 : intsV (x.nums ++ ((x.ps.length : Int) :: x.ps.flatMap pnum) ++ ((x.ls.length : Int) :: x.ls.flatMap lnum)) = (allW x).map (Value.int .i64) := by simp only [allW, allP, allL, intsV, List.append_assoc]
            have hlen : Hid (m = (allW x).length) := by show _ = _; rw [allW_len, HM.out, HN.out]; omega
            rw [e1] at hrow
            have RR := hide (hrow.row (by omega)).reads
            clear hbx hrow e1
            go_wp2
            go_ret
            exact ⟨_, _, _, rfl, hlen.out, RR.out, hbel⟩

end Go.Proofs.Ytdlckeklhfplmaa

/- Numbers written as bytes, in the program: contracts; no statement of the seat is proved here. -/
namespace Go.Proofs.Ytdlckeklhfplmaa
open Go.RowKit

/-- The slice that a block of one cell holds: bytes that were written, ready to be grown. -/
def Out (w : World) (base B : Nat) (bs : List Nat) : Prop :=
  ∃ ao ca, w.heap[B]? = some (.cells #[.slice ao bs.length ca] 69 (0, 0)) ∧ RowA w base 5 1 (.slice ao bs.length ca) bs.length (byts bs) ∧ base ≤ B

/-- What turns when bytes are written: the block of the slice, and blocks of bytes. -/
def turns (w : World) (base B : Nat) : Nat → Prop := fun k => k = B ∨ typed w (fun k => base ≤ k) 5 k

theorem RowA.keepTy8 {w w' : World} {base : Nat} {e : TypeId} {size : Nat} {T : Nat → Prop} {v : Value} {n : Nat} {cs : List Value} (h : RowA w base e size v n cs) (hb : Upd T w w') (hT : ∀ k, typed w (fun k => base ≤ k) e k → ¬ T k) : RowA w' base e size v n cs := by
  rcases h with ⟨hl, h⟩ | h
  · refine .inl ⟨hl, ?_⟩
    rcases h with h | ⟨g, cap, cur, rfl, hg, hh, h1, h2, h3, h4⟩
    · exact .inl h
    · exact .inr ⟨g, cap, cur, rfl, hg, hb.keeps hh (hT g ⟨hg, cur, hh⟩), h1, h2, h3, h4⟩
  · exact .inr h

set_option maxRecDepth 100000 in
set_option maxHeartbeats 4000000 in
theorem putNumber_any (base B : Nat) (a : Int) (bs : List Nat) (w : World) (h : Out w base B bs) (hbase : base ≤ w.heap.size) (ha : -1 ≤ a) (ha2 : a ≤ 99999) (hl : bs.length ≤ 10000) :
    Calls Try.prog 114 #[.pointer (some ⟨B, 0, none⟩), .int .i64 a] w fun e w' => e = .returned (.tuple #[]) ∧ Out w' base B (bs ++ encI a) ∧ (∀ k o, k < w.heap.size → k ≠ B → w.heap[k]? = some o → (∀ c, o ≠ .cells c 5 (0, 0)) → w'.heap[k]? = some o) ∧ Below base w w' := by
  obtain ⟨q, hq⟩ : ∃ q : Nat, a = (q : Int) - 1 := ⟨(a + 1).toNat, by omega⟩
  have hq2 : q ≤ 100000 := by omega
  have HE := hide (show encI a = encN q by rw [hq]; unfold encI; congr 1; omega)
  obtain ⟨i1, gi, gz0, gz1, gz2⟩ := info_parts infoU8
  subst hq
  have hq3 : (q : Int) - 1 + 1 = (q : Int) := by omega
  have H := hide h
  clear h ha ha2
  go_enter Try.func114, Try.ntmps114
  go_wp2
  go_loopw [4] (fun rv wr => ∃ (r : Nat) (pre : List Nat), r ≤ 100000 ∧ rv = .int .i64 r ∧ pre ++ encN r = bs ++ encN q ∧ Out wr base B pre ∧ (∀ k o, k < w.heap.size → k ≠ B → w.heap[k]? = some o → (∀ c, o ≠ .cells c 5 (0, 0)) → wr.heap[k]? = some o) ∧ Below base w wr) (fun rv _ => (intOf rv).toNat)
  case atStart => exact ⟨q, bs, hq2, rfl, rfl, H.out, fun _ _ _ _ h _ => h, Below.refl _ _⟩
  case round =>
    obtain ⟨r, pre, hr2, rfl, hpre, ho, hkeep, hbel⟩ := hrel
    have hlen : pre.length ≤ 10003 := by
      have h1 := congrArg List.length hpre
      rw [List.length_append, List.length_append] at h1
      have h3 := (encN_len q hq2).2
      omega
    have HP := hide hpre
    obtain ⟨ao, ca, hB, hrow, hbB⟩ := ho
    obtain ⟨p0, pl⟩ : wr.cell? ⟨B, 0, none⟩ = some (.slice ao pre.length ca) ∧ wr.frozen? ⟨B, 0, none⟩ = false := ⟨boxAt hB 0, boxFz hB 0⟩
    have HB := hide hB
    have HK := hide hkeep
    have hz := hbel.size
    have hBl := heap_lt hB
    clear hpre hB hkeep
    by_cases hbig : 128 ≤ r
    · have hbig' : (128 : Int) ≤ (r : Int) := by omega
      have al3 := bal (Below.refl wr.heap.size wr) (.cells #[.int .u8 ((r : Int) % 128 + 128)] 5)
      have row3 := hrow.keepB al3
      have N3 := hide (new_byte wr ((r : Int) % 128 + 128) 5)
      have HB2 := hide (bKeeps al3 HB.out)
      go_wp2_with (at_builtin; refine wpList_appendA _ rfl _ _ 69 rfl base 5 i1 (.int .u8 0) 1 1 Try.underlying69 gi gz0 gz1 gz2 rfl (by decide) _ pre.length (byts pre) rfl row3 ⟨wr.heap.size, 0, none⟩ 1 1 [.int .u8 ((r : Int) % 128 + 128)] rfl rfl N3.out (byte_one _) (by decide) ?q63 ?qby ?qbase ?_)
      case q63 => unfold maxLen; omega
      case qby => omega
      case qbase => first | omega | (simp; omega)
      intro v4 w4 hown u4
      obtain ⟨mo, cm, rfl⟩ := (Row.ofOwns hown (by omega)).shape
      have HB4 := hide (u4.keeps HB2.out (typed_box HB2.out (by decide) rfl))
      have q0 : w4.cell? ⟨B, 0, none⟩ = some (.slice ao pre.length ca) := boxAt HB4.out 0
      have q1 : w4.frozen? ⟨B, 0, none⟩ = false := boxFz HB4.out 0
      clear p0 pl
      go_wp2
      have u5 := Upd.setCell (S := fun j => j = B) w4 B 0 (.slice mo (pre.length + 1) cm) rfl
      go_roundw
      case rel =>
        refine ⟨r / 128, pre ++ [r % 128 + 128], by omega, by first | rfl | go_num | (congr 1; omega), ?_, ⟨mo, cm, ?_, ?_, hbB⟩, ?_, ?_⟩
        · rw [List.append_assoc, List.singleton_append, Nat.add_comm (r % 128) 128, ← encN_ge (by omega)]
          exact HP.out
        · rw [show (pre ++ [r % 128 + 128]).length = pre.length + 1 by simp]
          exact row_set _ HB4.out
        · rw [show (pre ++ [r % 128 + 128]).length = pre.length + 1 by simp, byts_append, show byts [r % 128 + 128] = [.int .u8 ((r : Int) % 128 + 128)] by simp [byts]]
          exact (RowA.keepTy8 (.inl hown) u5 (fun k h1 h2 => by subst h2; exact typed_box HB4.out (by decide) rfl h1))
        · intro k o hk hkB ho hno
          have g := HK.out k o hk hkB ho hno
          refine u5.keeps (u4.keeps (bKeeps al3 g) ?_) hkB
          rintro ⟨_, c, hc⟩
          rw [bKeeps al3 g] at hc
          exact hno c (Option.some.inj hc)
        · exact ((hbel.trans (al3.mono (by omega))).trans (u4.below (by first | omega | (simp; omega)) (fun k h => h.1))).trans (u5.below (by have := u4.size; simp at this; omega) (fun k h => by omega))
      case measure => simp [intOf]; omega
    · have hbig' : ¬ (128 : Int) ≤ (r : Int) := by omega
      have hr256 : (r : Int) < 256 := by omega
      have al3 := bal (Below.refl wr.heap.size wr) (.cells #[.int .u8 (r : Int)] 5)
      have row3 := hrow.keepB al3
      have N3 := hide (new_byte wr (r : Int) 5)
      have HB2 := hide (bKeeps al3 HB.out)
      go_wp2_with (at_builtin; refine wpList_appendA _ rfl _ _ 69 rfl base 5 i1 (.int .u8 0) 1 1 Try.underlying69 gi gz0 gz1 gz2 rfl (by decide) _ pre.length (byts pre) rfl row3 ⟨wr.heap.size, 0, none⟩ 1 1 [.int .u8 (r : Int)] rfl rfl N3.out (byte_one _) (by decide) ?q63 ?qby ?qbase ?_)
      case q63 => unfold maxLen; omega
      case qby => omega
      case qbase => first | omega | (simp; omega)
      intro v4 w4 hown u4
      obtain ⟨mo, cm, rfl⟩ := (Row.ofOwns hown (by omega)).shape
      have HB4 := hide (u4.keeps HB2.out (typed_box HB2.out (by decide) rfl))
      have q0 : w4.cell? ⟨B, 0, none⟩ = some (.slice ao pre.length ca) := boxAt HB4.out 0
      have q1 : w4.frozen? ⟨B, 0, none⟩ = false := boxFz HB4.out 0
      clear p0 pl
      go_wp2
      have u5 := Upd.setCell (S := fun j => j = B) w4 B 0 (.slice mo (pre.length + 1) cm) rfl
      have e1 : bs ++ encI ((q : Int) - 1) = pre ++ [r] := by rw [HE.out, ← HP.out, encN_lt (by omega)]
      go_end0
      refine ⟨rfl, ⟨mo, cm, ?_, ?_, hbB⟩, ?_, ?_⟩
      · rw [e1, show (pre ++ [r]).length = pre.length + 1 by simp]
        exact row_set _ HB4.out
      · rw [e1, show (pre ++ [r]).length = pre.length + 1 by simp, byts_append]
        exact (RowA.keepTy8 (.inl hown) u5 (fun k h1 h2 => by subst h2; exact typed_box HB4.out (by decide) rfl h1))
      · intro k o hk hkB ho hno
        have g := HK.out k o hk hkB ho hno
        refine u5.keeps (u4.keeps (bKeeps al3 g) ?_) hkB
        rintro ⟨_, c, hc⟩
        rw [bKeeps al3 g] at hc
        exact hno c (Option.some.inj hc)
      · exact ((hbel.trans (al3.mono (by omega))).trans (u4.below (by first | omega | (simp; omega)) (fun k h => h.1))).trans (u5.below (by have := u4.size; simp at this; omega) (fun k h => by omega))

/-- What writing of bytes leaves as it was: all blocks that hold no bytes, but that of the slice. -/
def Still (w w' : World) (B : Nat) : Prop := ∀ k o, k < w.heap.size → k ≠ B → w.heap[k]? = some o → (∀ c, o ≠ .cells c 5 (0, 0)) → w'.heap[k]? = some o
theorem Still.trans {w w' w'' : World} {B : Nat} (h : Still w w' B) (g : Still w' w'' B) (hs : w.heap.size ≤ w'.heap.size) : Still w w'' B := fun k o hk hB ho hno => g k o (by omega) hB (h k o hk hB ho hno) hno

set_option maxRecDepth 100000 in
set_option maxHeartbeats 4000000 in
theorem put_numbers (base B N b o n c : Nat) (xs : List Int) (bs : List Nat) (cs ds : Array Value) (t1 t2 : TypeId) (w : World) (h : Out w base B bs) (hbase : base ≤ w.heap.size) (hx : ∀ a ∈ xs, -1 ≤ a ∧ a ≤ 99999) (hl : bs.length + 3 * xs.length ≤ 10000) (hn : xs.length = n)
    (hN : w.heap[N]? = some (.cells cs t1 (0, 0))) (h1 : t1 ≠ 5) (hNB : N ≠ B) (hb : w.heap[b]? = some (.cells ds t2 (0, 0))) (h2 : t2 ≠ 5) (hbB : b ≠ B)
    (hcs : ∀ k, k < n → cs[k]? = some (.pointer (some ⟨b, o + k, none⟩))) (hds : ∀ k a, xs[k]? = some a → ds[o + k]? = some (.int .i64 a)) :
    Calls Try.prog 105 #[.pointer (some ⟨B, 0, none⟩), .slice (some ⟨N, 0, none⟩) n c] w fun e w' => e = .returned (.tuple #[]) ∧ Out w' base B (bs ++ enc xs) ∧ Still w w' B ∧ Below base w w' := by
  have H := hide h
  have HN := hide hN
  have Hb := hide hb
  have HX := hide hx
  have Hn := hide hn
  have HCS := hide hcs
  have HDS := hide hds
  have hnl : bs.length + 3 * n ≤ 10000 := by omega
  have hNl := heap_lt hN
  have hbl := heap_lt hb
  clear h hN hb hx hn hcs hds hl
  go_enter Try.func105, Try.ntmps105
  go_wp2
  go_loopw [8] (fun i wr => ∃ k : Nat, k ≤ n ∧ i = .int .i64 k ∧ Out wr base B (bs ++ enc (xs.take k)) ∧ Still w wr B ∧ Below base w wr) (fun i _ => n - (intOf i).toNat)
  case atStart => exact ⟨0, Nat.zero_le _, rfl, by simpa [enc] using H.out, fun _ _ _ _ h _ => h, Below.refl _ _⟩
  case round =>
    obtain ⟨k, hk, rfl, ho, hst, hbel⟩ := hrel
    have HO := hide ho
    have HST := hide hst
    clear ho hst
    by_cases hlt : k < n
    · obtain ⟨a, ha⟩ := getAt xs k (by have := Hn.out; omega)
      obtain ⟨a1, a2⟩ := HX.out a (List.mem_of_getElem? ha)
      have f0 : wr.cell? ⟨N, k, none⟩ = some (.pointer (some ⟨b, o + k, none⟩)) := (boxAt (HST.out N _ hNl hNB HN.out (fun c h => by cases h; exact h1 rfl)) k).trans (HCS.out k hlt)
      have f1 : wr.cell? ⟨b, o + k, none⟩ = some (.int .i64 a) := (boxAt (HST.out b _ hbl hbB Hb.out (fun c h => by cases h; exact h2 rfl)) (o + k)).trans (HDS.out k a ha)
      have hi : (k : Int) < (n : Int) := by omega
      have Ha := hide (take_enc xs k a ha)
      have hlen : (bs ++ enc (xs.take k)).length ≤ 10000 := by
        have g := (enc_len (xs.take k) (fun b hb => (HX.out b (List.mem_of_mem_take hb)).2)).2
        rw [List.length_take] at g
        rw [List.length_append]
        omega
      have hz := hbel.size
      have CP := hide (putNumber_any base B a (bs ++ enc (xs.take k)) wr HO.out (by omega) a1 a2 hlen)
      clear ha hlen
      go_wp2_with fail
      refine CP.out.mono ?_
      rintro e w1 ⟨rfl, o1, s1, b1⟩
      have s1' : Still wr w1 B := s1
      have O1 := hide o1
      have S1 := hide (HST.out.trans s1' hz)
      clear o1 s1 s1' CP f0 f1
      go_wp2
      go_roundw
      case rel => exact ⟨k + 1, by omega, by go_num, by rw [Ha.out, ← List.append_assoc]; exact O1.out, S1.out, hbel.trans b1⟩
      case measure => simp [intOf]; omega
    · have hge : ¬ (k : Int) < (n : Int) := by omega
      have e1 : xs.take k = xs := List.take_of_length_le (by have := Hn.out; omega)
      rw [e1] at HO
      clear e1
      go_wp2
      go_end0
      exact ⟨rfl, HO.out, HST.out, hbel⟩

end Go.Proofs.Ytdlckeklhfplmaa

/- WordPack of the specification: a contract; no statement of the seat is proved here. -/
namespace Go.Proofs.Ytdlckeklhfplmaa
open Go.RowKit

set_option maxRecDepth 100000 in
set_option maxHeartbeats 4000000 in
theorem specWordPack_any (v : Value) (x : Wd) (w : World) (h : WdR w v x) :
    Calls Try.prog 14 #[v] w fun e w' => ∃ vo co, e = .returned (.slice vo (packW x).length co) ∧ RowA w' w.heap.size 5 1 (.slice vo (packW x).length co) (packW x).length (byts (packW x)) ∧ Below w.heap.size w w' := by
  obtain ⟨pk, hpk⟩ : ∃ pk, packW x = pk := ⟨_, rfl⟩
  rw [hpk]
  have HPK := hide hpk
  clear hpk
  obtain ⟨cs, rfl, hs, h1⟩ := h.agg
  have HX := hide h
  have HI := hide (infoAt infoWd hs)
  have hb0 := bal (Below.refl w.heap.size w) (.cells cs 34)
  have B0 := hide (heap_alloc_new w (.cells cs 34))
  clear h hs h1
  go_enter Try.func14, Try.ntmps14
  go_wp2_with (refine wpList_load_row rfl 34 (.tmp 1) rfl w.heap.size rfl _ cs (0, 0) _ B0.out Try.underlying34 rfl HI.out ?_)
  refine (specWordOk_any _ x _ (HX.out.keep hb0)).mono ?_
  rintro e w1 ⟨rfl, b1⟩
  have c1 := bAll hb0 b1
  have B1 := hide (bKeeps b1 B0.out)
  clear B0 b1 hb0
  rcases hk : okW x with _ | _
  · have e0 : pk = [] := by rw [← HPK.out]; unfold packW; rw [hk]; rfl
    subst e0
    go_wp2
    go_ret
    exact ⟨_, _, rfl, .inr ⟨rfl, rfl, _, rfl⟩, by first | exact c1 | exact bal c1 _⟩
  · have e0 : pk = enc (allW x) := by rw [← HPK.out]; unfold packW; rw [hk]; rfl
    have E0 := hide e0
    have HP := hide (okL_mem (okW_ps hk)).1
    have HL := hide (okL_mem (okW_ls hk)).1
    have HN := hide (allW_num hk)
    have HLn := hide (allW_len x)
    have HK := hide hk
    go_wp2_with (refine wpList_load_row rfl 34 (.tmp 1) rfl w.heap.size rfl _ cs (0, 0) _ B1.out Try.underlying34 rfl HI.out ?_)
    refine (l11All_any _ x _ (HX.out.keep c1) HP.out HL.out).mono ?_
    rintro e w2 ⟨so, n, sc, rfl, hn, r2, b2⟩
    have c2 := bAll c1 b2
    have hn2 : n ≤ 1000 := by have := HP.out; have := HL.out; have := HLn.out; omega
    clear hk hn
    go_wp2_with fail
    refine (l11Byte_any _ n (allW x) _ r2 hn2 HN.out).mono ?_
    rintro e w3 ⟨vo, m, co, rfl, r3, hm, b3⟩
    have r4 := hide (r3.base (b' := w.heap.size) c2.size)
    have hm' : m = pk.length := by rw [E0.out]; exact hm
    rw [← E0.out] at r4
    subst hm'
    clear r3 r2 hm
    go_wp2
    go_ret
    exact ⟨_, _, by rw [E0.out]; rfl, r4.out, bAll c2 b3⟩

end Go.Proofs.Ytdlckeklhfplmaa

/- Lists of a word written as bytes, and WordPack, in the program: contracts; no statement of the seat is proved here. -/
namespace Go.Proofs.Ytdlckeklhfplmaa
open Go.RowKit

set_option maxRecDepth 100000 in
set_option maxHeartbeats 2000000 in
theorem pieceNumbers_any (b : Nat) (w : World) :
    Calls Try.prog 69 #[.pointer (some ⟨b, 0, none⟩)] w fun e w' => e = .returned (.slice (some ⟨w.heap.size, 0, none⟩) 4 4) ∧ w' = (w.alloc (.cells (#[.pointer (some ⟨b, 0, none⟩), .pointer (some ⟨b, 1, none⟩), .pointer (some ⟨b, 2, none⟩), .pointer (some ⟨b, 3, none⟩)] : Array Value) 115)).drew := by
  go_enter Try.func69, Try.ntmps69
  go_wp2
  refine wp_region_noPanic ?_
  refine wp_region_held_drew (S := (fun _ => True)) (by kernel_rfl) ?_ (fun hHeld => ?_)
  · trivial
  refine wpAnyH_take (i := 0) (v := ?v1) rfl (by kernel_rfl) (by kernel_rfl) (by kernel_rfl) (fun _ _ _ h => h) (Or.inl ⟨by rfl, ?hy1⟩) (by assumption) ?rest1
  case hy1 => ((intro w hSw; (try dsimp only at hSw); (try simp only [List.getElem_toArray, List.getElem_cons_zero]); go_simp; first | done | (with_reducible rfl)))
  simp only [Act.put, List.getElem_toArray, List.getElem_cons_zero, List.setIfInBounds_toArray, List.set_cons_zero, List.set_cons_succ]
  refine wpAnyH_take (i := 1) (v := ?v2) rfl (by kernel_rfl) (by kernel_rfl) (by kernel_rfl) (fun _ _ _ h => h) (Or.inl ⟨by rfl, ?hy2⟩) (by assumption) ?rest2
  case hy2 => ((intro w hSw; (try dsimp only at hSw); (try simp only [List.getElem_toArray, List.getElem_cons_zero, List.getElem_cons_succ]); go_simp; first | done | (with_reducible rfl)))
  simp only [Act.put, List.getElem_toArray, List.getElem_cons_zero, List.getElem_cons_succ, List.setIfInBounds_toArray, List.set_cons_zero, List.set_cons_succ]
  refine wpAnyH_take (i := 2) (v := ?v3) rfl (by kernel_rfl) (by kernel_rfl) (by kernel_rfl) (fun _ _ _ h => h) (Or.inl ⟨by rfl, ?hy3⟩) (by assumption) ?rest3
  case hy3 => ((intro w hSw; (try dsimp only at hSw); (try simp only [List.getElem_toArray, List.getElem_cons_zero, List.getElem_cons_succ]); go_simp; first | done | (with_reducible rfl)))
  simp only [Act.put, List.getElem_toArray, List.getElem_cons_zero, List.getElem_cons_succ, List.setIfInBounds_toArray, List.set_cons_zero, List.set_cons_succ]
  refine wpAnyH_take (i := 3) (v := ?v4) rfl (by kernel_rfl) (by kernel_rfl) (by kernel_rfl) (fun _ _ _ h => h) (Or.inl ⟨by rfl, ?hy4⟩) (by assumption) ?rest4
  case hy4 => ((intro w hSw; (try dsimp only at hSw); (try simp only [List.getElem_toArray, List.getElem_cons_zero, List.getElem_cons_succ]); go_simp; first | done | (with_reducible rfl)))
  simp only [Act.put, List.getElem_toArray, List.getElem_cons_zero, List.getElem_cons_succ, List.setIfInBounds_toArray, List.set_cons_zero, List.set_cons_succ]
  refine wpAnyH_take (i := 4) (v := ?v5) rfl (by kernel_rfl) (by kernel_rfl) (by kernel_rfl) (fun _ _ _ h => h) (Or.inl ⟨by rfl, ?hy5⟩) (by assumption) ?rest5
  case hy5 => ((intro w hSw; (try dsimp only at hSw); (try simp only [List.getElem_toArray, List.getElem_cons_zero, List.getElem_cons_succ]); go_simp; first | done | (with_reducible rfl)))
  simp only [Act.put, List.getElem_toArray, List.getElem_cons_zero, List.getElem_cons_succ, List.setIfInBounds_toArray, List.set_cons_zero, List.set_cons_succ]
  refine wpAnyH_take (i := 5) (v := ?v6) rfl (by kernel_rfl) (by kernel_rfl) (by kernel_rfl) (fun _ _ _ h => h) (Or.inl ⟨by rfl, ?hy6⟩) (by assumption) ?rest6
  case hy6 => ((intro w hSw; (try dsimp only at hSw); (try simp only [List.getElem_toArray, List.getElem_cons_zero, List.getElem_cons_succ]); go_simp; first | done | (with_reducible rfl)))
  simp only [Act.put, List.getElem_toArray, List.getElem_cons_zero, List.getElem_cons_succ, List.setIfInBounds_toArray, List.set_cons_zero, List.set_cons_succ]
  refine wpAnyH_take (i := 6) (v := ?v7) rfl (by kernel_rfl) (by kernel_rfl) (by kernel_rfl) (fun _ _ _ h => h) (Or.inl ⟨by rfl, ?hy7⟩) (by assumption) ?rest7
  case hy7 => ((intro w hSw; (try dsimp only at hSw); (try simp only [List.getElem_toArray, List.getElem_cons_zero, List.getElem_cons_succ]); go_simp; first | done | (with_reducible rfl)))
  simp only [Act.put, List.getElem_toArray, List.getElem_cons_zero, List.getElem_cons_succ, List.setIfInBounds_toArray, List.set_cons_zero, List.set_cons_succ]
  refine wpAnyH_take (i := 7) (v := ?v8) rfl (by kernel_rfl) (by kernel_rfl) (by kernel_rfl) (fun _ _ _ h => h) (Or.inl ⟨by rfl, ?hy8⟩) (by assumption) ?rest8
  case hy8 => ((intro w hSw; (try dsimp only at hSw); (try simp only [List.getElem_toArray, List.getElem_cons_zero, List.getElem_cons_succ]); go_simp; first | done | (with_reducible rfl)))
  simp only [Act.put, List.getElem_toArray, List.getElem_cons_zero, List.getElem_cons_succ, List.setIfInBounds_toArray, List.set_cons_zero, List.set_cons_succ]
  refine wpAnyH_take (i := 8) (v := ?v9) rfl (by kernel_rfl) (by kernel_rfl) (by kernel_rfl) (fun _ _ _ h => h) (Or.inl ⟨by rfl, ?hy9⟩) (by assumption) ?rest9
  case hy9 => ((intro w hSw; (try dsimp only at hSw); (try simp only [List.getElem_toArray, List.getElem_cons_zero, List.getElem_cons_succ]); go_simp; first | done | (with_reducible rfl)))
  simp only [Act.put, List.getElem_toArray, List.getElem_cons_zero, List.getElem_cons_succ, List.setIfInBounds_toArray, List.set_cons_zero, List.set_cons_succ]
  refine wpAnyH_take (i := 9) (v := ?v10) rfl (by kernel_rfl) (by kernel_rfl) (by kernel_rfl) (fun _ _ _ h => h) (Or.inl ⟨by rfl, ?hy10⟩) (by assumption) ?rest10
  case hy10 => ((intro w hSw; (try dsimp only at hSw); (try simp only [List.getElem_toArray, List.getElem_cons_zero, List.getElem_cons_succ]); go_simp; first | done | (with_reducible rfl)))
  simp only [Act.put, List.getElem_toArray, List.getElem_cons_zero, List.getElem_cons_succ, List.setIfInBounds_toArray, List.set_cons_zero, List.set_cons_succ]
  refine wpAnyH_take (i := 10) (v := ?v11) rfl (by kernel_rfl) (by kernel_rfl) (by kernel_rfl) (fun _ _ _ h => h) (Or.inl ⟨by rfl, ?hy11⟩) (by assumption) ?rest11
  case hy11 => ((intro w hSw; (try dsimp only at hSw); (try simp only [List.getElem_toArray, List.getElem_cons_zero, List.getElem_cons_succ]); go_simp; first | done | (with_reducible rfl)))
  simp only [Act.put, List.getElem_toArray, List.getElem_cons_zero, List.getElem_cons_succ, List.setIfInBounds_toArray, List.set_cons_zero, List.set_cons_succ]
  refine wpAnyH_take (i := 11) (v := ?v12) rfl (by kernel_rfl) (by kernel_rfl) (by kernel_rfl) (fun _ _ _ h => h) (Or.inl ⟨by rfl, ?hy12⟩) (by assumption) ?rest12
  case hy12 => ((intro w hSw; (try dsimp only at hSw); (try simp only [List.getElem_toArray, List.getElem_cons_zero, List.getElem_cons_succ]); go_simp; first | done | (with_reducible rfl)))
  simp only [Act.put, List.getElem_toArray, List.getElem_cons_zero, List.getElem_cons_succ, List.setIfInBounds_toArray, List.set_cons_zero, List.set_cons_succ]
  refine wpAnyH_ready (rs := [12]) (by kernel_rfl) (by simp) ?_
  refine AllReadyH.cons rfl (fun K hK => ?_) AllReadyH.nil
  go_simp
  (skip)
  refine hK.out _ _ ?_ (fun hHeld => ?_)
  · trivial
  clear hK K
  refine wpAnyH_take (i := 13) (v := ?v13) rfl (by kernel_rfl) (by kernel_rfl) (by kernel_rfl) (fun _ _ _ h => h) (Or.inl ⟨by rfl, ?hy13⟩) (by assumption) ?rest13
  case hy13 => ((intro w hSw; (try dsimp only at hSw); (try simp only [List.getElem_toArray, List.getElem_cons_zero, List.getElem_cons_succ]); go_simp; first | done | (with_reducible rfl)))
  simp only [Act.put, List.getElem_toArray, List.getElem_cons_zero, List.getElem_cons_succ, List.setIfInBounds_toArray, List.set_cons_zero, List.set_cons_succ]
  refine wpAnyH_done (by kernel_rfl) ?_ _
  refine NoPanic.normal ?_
  go_wp2
  go_ret
  exact ⟨rfl, rfl⟩

set_option maxRecDepth 100000 in
set_option maxHeartbeats 4000000 in
theorem put_pieces (w0 : World) (B : Nat) (so : Option Addr) (sc : Nat) (xs : List Pc) (bs : List Nat) (w : World) (h : Out w w0.heap.size B bs) (hb : Below w0.heap.size w0 w) (hr : RowR w0 4 (.slice so xs.length sc) xs.length (pcells xs)) (hx : ∀ a ∈ allP xs, -1 ≤ a ∧ a ≤ 99999) (hl : bs.length + 3 * (1 + 4 * xs.length) ≤ 10000) :
    Calls Try.prog 106 #[.pointer (some ⟨B, 0, none⟩), .slice so xs.length sc, .func (.func 69) #[] #[]] w fun e w' => e = .returned (.tuple #[]) ∧ Out w' w0.heap.size B (bs ++ enc (allP xs)) ∧ Still w w' B ∧ Below w0.heap.size w w' := by
  have H := hide h
  have HR := hide hr
  have HX := hide hx
  have hBl : B < w.heap.size := by obtain ⟨_, _, g, _⟩ := h; exact heap_lt g
  have hz0 := hb.size
  have hxn : xs.length ≤ 10000 := by omega
  have hx0 := hx (xs.length : Int) (by simp [allP])
  have CP := hide (putNumber_any w0.heap.size B (xs.length : Int) bs w h hz0 hx0.1 hx0.2 (by omega))
  clear h hr hx hx0
  go_enter Try.func106, Try.ntmps106
  go_wp2_with fail
  refine CP.out.mono ?_
  rintro e w1 ⟨rfl, o1, s1, b1⟩
  have S1 : Hid (Still w w1 B) := s1
  have O1 := hide o1
  clear CP o1 s1
  go_wp2
  go_loopw [14] (fun i wr => ∃ k : Nat, k ≤ xs.length ∧ i = .int .i64 k ∧ Out wr w0.heap.size B (bs ++ encI (xs.length : Int) ++ enc ((xs.take k).flatMap pnum)) ∧ Still w wr B ∧ Below w0.heap.size w wr) (fun i _ => xs.length - (intOf i).toNat)
  case atStart => exact ⟨0, Nat.zero_le _, rfl, by simpa [enc] using O1.out, S1.out, b1⟩
  case round =>
    obtain ⟨k, hk, rfl, ho, hst, hbel⟩ := hrel
    have HO := hide ho
    have HST := hide hst
    have hzw := hbel.size
    clear ho hst O1 S1 b1
    by_cases hlt : k < xs.length
    · obtain ⟨b1, o1, hpo, hc1⟩ : ∃ b1 o1, so = some ⟨b1, o1, none⟩ ∧ ∀ j u, (pcells xs)[j]? = some u → w0.cell? ⟨b1, o1 + j, none⟩ = some u := by
        obtain ⟨ao', cap', e, _, _, hr⟩ := HR.out
        obtain ⟨b1, o1, e2, hc⟩ := hr (by omega)
        simp only [Value.slice.injEq, true_and] at e
        exact ⟨b1, o1, e.1.trans e2, hc⟩
      subst hpo
      obtain ⟨⟨d, b, p, t⟩, hx⟩ := getAt xs k hlt
      obtain ⟨f0, f1, f2, f3, l1⟩ := pc_cells hc1 hx (hb.trans hbel)
      have hi : (k : Int) < (xs.length : Int) := by omega
      have Hx := hide hx
      have hmem : ∀ a ∈ pnum (d, b, p, t), -1 ≤ a ∧ a ≤ 99999 := fun a ha => HX.out a (List.mem_cons_of_mem _ (List.mem_flatMap.2 ⟨_, List.mem_of_getElem? hx, ha⟩))
      have HM := hide hmem
      have hlen : (bs ++ encI (xs.length : Int) ++ enc ((xs.take k).flatMap pnum)).length + 3 * (pnum (d, b, p, t)).length ≤ 10000 := by
        have g1 := (enc_len ((xs.take k).flatMap pnum) (fun a ha => (HX.out a (by
          obtain ⟨y, hy, hay⟩ := List.mem_flatMap.1 ha
          exact List.mem_cons_of_mem _ (List.mem_flatMap.2 ⟨y, List.mem_of_mem_take hy, hay⟩))).2)).2
        have g2 := (encN_len ((xs.length : Int) + 1).toNat (by have := (HX.out (xs.length : Int) (by simp [allP])).2; omega)).2
        have g3 : ((xs.take k).flatMap pnum).length = (xs.take k).length * 4 := by
          generalize xs.take k = ys
          induction ys with
          | nil => rfl
          | cons y ys ih => rw [List.flatMap_cons, List.length_append, ih, List.length_cons]; simp; omega
        have g4 : (encI (xs.length : Int)).length ≤ 3 := g2
        have g5 : (pnum (d, b, p, t)).length = 4 := rfl
        rw [List.length_append, List.length_append, g5]
        rw [g3, List.length_take] at g1
        omega
      have HLn := hide hlen
      clear hc1 hx hmem hlen
      go_wp2_with fail
      refine (pieceNumbers_any wr.heap.size _).mono ?_
      rintro e w2 ⟨rfl, rfl⟩
      have hO2 : Hid (Out ((wr.alloc (.cells #[.int .i64 d, .int .i64 b, .int .i64 p, .int .i64 t] 83)).alloc (.cells (#[.pointer (some ⟨wr.heap.size, 0, none⟩), .pointer (some ⟨wr.heap.size, 1, none⟩), .pointer (some ⟨wr.heap.size, 2, none⟩), .pointer (some ⟨wr.heap.size, 3, none⟩)] : Array Value) 115)).drew w0.heap.size B (bs ++ encI (xs.length : Int) ++ enc ((xs.take k).flatMap pnum))) := by
        obtain ⟨ao, ca, g1, g2, g3⟩ := HO.out
        exact ⟨ao, ca, heap_up _ (heap_up _ g1), (g2.keepB (bal (Below.refl _ _) _)).keepB (bDrewB (bal (Below.refl _ _) _)), g3⟩
      have hBw : B < wr.heap.size := by omega
      have CP := hide (put_numbers w0.heap.size B (wr.heap.size + 1) wr.heap.size 0 4 4 (pnum (d, b, p, t)) _ (#[.pointer (some ⟨wr.heap.size, 0, none⟩), .pointer (some ⟨wr.heap.size, 1, none⟩), .pointer (some ⟨wr.heap.size, 2, none⟩), .pointer (some ⟨wr.heap.size, 3, none⟩)] : Array Value) #[.int .i64 d, .int .i64 b, .int .i64 p, .int .i64 t] 115 83 _ hO2.out (by show _ ≤ ((wr.alloc _).alloc _).heap.size; simp; omega) HM.out HLn.out rfl (al2_1 wr _ _) (by decide) (by omega) (al2_0 wr _ _) (by decide) (by omega)
        (fun k hk => by rcases (by omega : k = 0 ∨ k = 1 ∨ k = 2 ∨ k = 3) with rfl | rfl | rfl | rfl <;> rfl) (fun k a h => by
          have hk : k < 4 := (List.getElem?_eq_some_iff.1 h).1
          rcases (by omega : k = 0 ∨ k = 1 ∨ k = 2 ∨ k = 3) with rfl | rfl | rfl | rfl <;> (obtain rfl := Option.some.inj h; rfl)))
      simp only [World.size_alloc]
      go_wp2_with fail
      refine CP.out.mono ?_
      rintro e w3 ⟨rfl, o3, s3, b3⟩
      have O3 := hide o3
      have S3 : Hid (Still w w3 B) := by
        intro j o hj hjB hjo hno
        have g := HST.out j o hj hjB hjo hno
        exact s3 j o (by show _ < ((wr.alloc _).alloc _).heap.size; simp; omega) hjB (heap_up _ (heap_up _ g)) hno
      have c3 : Below w0.heap.size w w3 := (hbel.trans ((bDrewB (bal (bal (Below.refl wr.heap.size wr) _) _)).mono (by omega))).trans b3
      clear CP o3 s3 b3 hO2
      go_wp2
      go_roundw
      case rel =>
        refine ⟨k + 1, by omega, by go_num, ?_, S3.out, c3⟩
        rw [show xs.take (k + 1) = xs.take k ++ [(d, b, p, t)] by rw [List.take_add_one, Hx.out]; rfl, List.flatMap_append, enc_append, ← List.append_assoc]
        exact O3.out
      case measure => simp [intOf]; omega
    · obtain rfl : k = xs.length := by omega
      rw [List.take_length] at HO
      have e1 : bs ++ enc (allP xs) = bs ++ encI (xs.length : Int) ++ enc (xs.flatMap pnum) := by rw [allP, enc_cons, List.append_assoc]
      rw [← e1] at HO
      have hge : ¬ ((xs.length : Nat) : Int) < (xs.length : Int) := by omega
      clear e1
      go_wp2
      go_end0
      exact ⟨rfl, HO.out, HST.out, hbel⟩

set_option maxRecDepth 100000 in
set_option maxHeartbeats 2000000 in
theorem lastNumbers_any (b : Nat) (w : World) :
    Calls Try.prog 71 #[.pointer (some ⟨b, 0, none⟩)] w fun e w' => e = .returned (.slice (some ⟨w.heap.size, 0, none⟩) 2 2) ∧ w' = (w.alloc (.cells (#[.pointer (some ⟨b, 0, none⟩), .pointer (some ⟨b, 1, none⟩)] : Array Value) 115)).drew := by
  go_enter Try.func71, Try.ntmps71
  go_wp2
  refine wp_region_noPanic ?_
  refine wp_region_held_drew (S := (fun _ => True)) (by kernel_rfl) ?_ (fun hHeld => ?_)
  · trivial
  refine wpAnyH_take (i := 0) (v := ?v14) rfl (by kernel_rfl) (by kernel_rfl) (by kernel_rfl) (fun _ _ _ h => h) (Or.inl ⟨by rfl, ?hy14⟩) (by assumption) ?rest14
  case hy14 => ((intro w hSw; (try dsimp only at hSw); (try simp only [List.getElem_toArray, List.getElem_cons_zero]); go_simp; first | done | (with_reducible rfl)))
  simp only [Act.put, List.getElem_toArray, List.getElem_cons_zero, List.setIfInBounds_toArray, List.set_cons_zero, List.set_cons_succ]
  refine wpAnyH_take (i := 1) (v := ?v15) rfl (by kernel_rfl) (by kernel_rfl) (by kernel_rfl) (fun _ _ _ h => h) (Or.inl ⟨by rfl, ?hy15⟩) (by assumption) ?rest15
  case hy15 => ((intro w hSw; (try dsimp only at hSw); (try simp only [List.getElem_toArray, List.getElem_cons_zero, List.getElem_cons_succ]); go_simp; first | done | (with_reducible rfl)))
  simp only [Act.put, List.getElem_toArray, List.getElem_cons_zero, List.getElem_cons_succ, List.setIfInBounds_toArray, List.set_cons_zero, List.set_cons_succ]
  refine wpAnyH_take (i := 2) (v := ?v16) rfl (by kernel_rfl) (by kernel_rfl) (by kernel_rfl) (fun _ _ _ h => h) (Or.inl ⟨by rfl, ?hy16⟩) (by assumption) ?rest16
  case hy16 => ((intro w hSw; (try dsimp only at hSw); (try simp only [List.getElem_toArray, List.getElem_cons_zero, List.getElem_cons_succ]); go_simp; first | done | (with_reducible rfl)))
  simp only [Act.put, List.getElem_toArray, List.getElem_cons_zero, List.getElem_cons_succ, List.setIfInBounds_toArray, List.set_cons_zero, List.set_cons_succ]
  refine wpAnyH_take (i := 3) (v := ?v17) rfl (by kernel_rfl) (by kernel_rfl) (by kernel_rfl) (fun _ _ _ h => h) (Or.inl ⟨by rfl, ?hy17⟩) (by assumption) ?rest17
  case hy17 => ((intro w hSw; (try dsimp only at hSw); (try simp only [List.getElem_toArray, List.getElem_cons_zero, List.getElem_cons_succ]); go_simp; first | done | (with_reducible rfl)))
  simp only [Act.put, List.getElem_toArray, List.getElem_cons_zero, List.getElem_cons_succ, List.setIfInBounds_toArray, List.set_cons_zero, List.set_cons_succ]
  refine wpAnyH_take (i := 4) (v := ?v18) rfl (by kernel_rfl) (by kernel_rfl) (by kernel_rfl) (fun _ _ _ h => h) (Or.inl ⟨by rfl, ?hy18⟩) (by assumption) ?rest18
  case hy18 => ((intro w hSw; (try dsimp only at hSw); (try simp only [List.getElem_toArray, List.getElem_cons_zero, List.getElem_cons_succ]); go_simp; first | done | (with_reducible rfl)))
  simp only [Act.put, List.getElem_toArray, List.getElem_cons_zero, List.getElem_cons_succ, List.setIfInBounds_toArray, List.set_cons_zero, List.set_cons_succ]
  refine wpAnyH_take (i := 5) (v := ?v19) rfl (by kernel_rfl) (by kernel_rfl) (by kernel_rfl) (fun _ _ _ h => h) (Or.inl ⟨by rfl, ?hy19⟩) (by assumption) ?rest19
  case hy19 => ((intro w hSw; (try dsimp only at hSw); (try simp only [List.getElem_toArray, List.getElem_cons_zero, List.getElem_cons_succ]); go_simp; first | done | (with_reducible rfl)))
  simp only [Act.put, List.getElem_toArray, List.getElem_cons_zero, List.getElem_cons_succ, List.setIfInBounds_toArray, List.set_cons_zero, List.set_cons_succ]
  refine wpAnyH_ready (rs := [6]) (by kernel_rfl) (by simp) ?_
  refine AllReadyH.cons rfl (fun K hK => ?_) AllReadyH.nil
  go_simp
  (skip)
  refine hK.out _ _ ?_ (fun hHeld => ?_)
  · trivial
  clear hK K
  refine wpAnyH_take (i := 7) (v := ?v20) rfl (by kernel_rfl) (by kernel_rfl) (by kernel_rfl) (fun _ _ _ h => h) (Or.inl ⟨by rfl, ?hy20⟩) (by assumption) ?rest20
  case hy20 => ((intro w hSw; (try dsimp only at hSw); (try simp only [List.getElem_toArray, List.getElem_cons_zero, List.getElem_cons_succ]); go_simp; first | done | (with_reducible rfl)))
  simp only [Act.put, List.getElem_toArray, List.getElem_cons_zero, List.getElem_cons_succ, List.setIfInBounds_toArray, List.set_cons_zero, List.set_cons_succ]
  refine wpAnyH_done (by kernel_rfl) ?_ _
  refine NoPanic.normal ?_
  go_wp2
  go_ret
  exact ⟨rfl, rfl⟩

set_option maxRecDepth 100000 in
set_option maxHeartbeats 4000000 in
theorem put_lasts (w0 : World) (B : Nat) (so : Option Addr) (sc : Nat) (xs : List Lc) (bs : List Nat) (w : World) (h : Out w w0.heap.size B bs) (hb : Below w0.heap.size w0 w) (hr : RowR w0 2 (.slice so xs.length sc) xs.length (lcells xs)) (hx : ∀ a ∈ allL xs, -1 ≤ a ∧ a ≤ 99999) (hl : bs.length + 3 * (1 + 2 * xs.length) ≤ 10000) :
    Calls Try.prog 107 #[.pointer (some ⟨B, 0, none⟩), .slice so xs.length sc, .func (.func 71) #[] #[]] w fun e w' => e = .returned (.tuple #[]) ∧ Out w' w0.heap.size B (bs ++ enc (allL xs)) ∧ Still w w' B ∧ Below w0.heap.size w w' := by
  have H := hide h
  have HR := hide hr
  have HX := hide hx
  have hBl : B < w.heap.size := by obtain ⟨_, _, g, _⟩ := h; exact heap_lt g
  have hz0 := hb.size
  have hxn : xs.length ≤ 10000 := by omega
  have hx0 := hx (xs.length : Int) (by simp [allL])
  have CP := hide (putNumber_any w0.heap.size B (xs.length : Int) bs w h hz0 hx0.1 hx0.2 (by omega))
  clear h hr hx hx0
  go_enter Try.func107, Try.ntmps107
  go_wp2_with fail
  refine CP.out.mono ?_
  rintro e w1 ⟨rfl, o1, s1, b1⟩
  have S1 : Hid (Still w w1 B) := s1
  have O1 := hide o1
  clear CP o1 s1
  go_wp2
  go_loopw [14] (fun i wr => ∃ k : Nat, k ≤ xs.length ∧ i = .int .i64 k ∧ Out wr w0.heap.size B (bs ++ encI (xs.length : Int) ++ enc ((xs.take k).flatMap lnum)) ∧ Still w wr B ∧ Below w0.heap.size w wr) (fun i _ => xs.length - (intOf i).toNat)
  case atStart => exact ⟨0, Nat.zero_le _, rfl, by simpa [enc] using O1.out, S1.out, b1⟩
  case round =>
    obtain ⟨k, hk, rfl, ho, hst, hbel⟩ := hrel
    have HO := hide ho
    have HST := hide hst
    have hzw := hbel.size
    clear ho hst O1 S1 b1
    by_cases hlt : k < xs.length
    · obtain ⟨b1, o1, hpo, hc1⟩ : ∃ b1 o1, so = some ⟨b1, o1, none⟩ ∧ ∀ j u, (lcells xs)[j]? = some u → w0.cell? ⟨b1, o1 + j, none⟩ = some u := by
        obtain ⟨ao', cap', e, _, _, hr⟩ := HR.out
        obtain ⟨b1, o1, e2, hc⟩ := hr (by omega)
        simp only [Value.slice.injEq, true_and] at e
        exact ⟨b1, o1, e.1.trans e2, hc⟩
      subst hpo
      obtain ⟨⟨d, b⟩, hx⟩ := getAt xs k hlt
      obtain ⟨f0, f1, l1⟩ := lc_cells hc1 hx (hb.trans hbel)
      have hi : (k : Int) < (xs.length : Int) := by omega
      have Hx := hide hx
      have hmem : ∀ a ∈ lnum (d, b), -1 ≤ a ∧ a ≤ 99999 := fun a ha => HX.out a (List.mem_cons_of_mem _ (List.mem_flatMap.2 ⟨_, List.mem_of_getElem? hx, ha⟩))
      have HM := hide hmem
      have hlen : (bs ++ encI (xs.length : Int) ++ enc ((xs.take k).flatMap lnum)).length + 3 * (lnum (d, b)).length ≤ 10000 := by
        have g1 := (enc_len ((xs.take k).flatMap lnum) (fun a ha => (HX.out a (by
          obtain ⟨y, hy, hay⟩ := List.mem_flatMap.1 ha
          exact List.mem_cons_of_mem _ (List.mem_flatMap.2 ⟨y, List.mem_of_mem_take hy, hay⟩))).2)).2
        have g2 := (encN_len ((xs.length : Int) + 1).toNat (by have := (HX.out (xs.length : Int) (by simp [allL])).2; omega)).2
        have g3 : ((xs.take k).flatMap lnum).length = (xs.take k).length * 2 := by
          generalize xs.take k = ys
          induction ys with
          | nil => rfl
          | cons y ys ih => rw [List.flatMap_cons, List.length_append, ih, List.length_cons]; simp; omega
        have g4 : (encI (xs.length : Int)).length ≤ 3 := g2
        have g5 : (lnum (d, b)).length = 2 := rfl
        rw [List.length_append, List.length_append, g5]
        rw [g3, List.length_take] at g1
        omega
      have HLn := hide hlen
      clear hc1 hx hmem hlen
      go_wp2_with fail
      refine (lastNumbers_any wr.heap.size _).mono ?_
      rintro e w2 ⟨rfl, rfl⟩
      have hO2 : Hid (Out ((wr.alloc (.cells #[.int .i64 d, .int .i64 b] 86)).alloc (.cells (#[.pointer (some ⟨wr.heap.size, 0, none⟩), .pointer (some ⟨wr.heap.size, 1, none⟩)] : Array Value) 115)).drew w0.heap.size B (bs ++ encI (xs.length : Int) ++ enc ((xs.take k).flatMap lnum))) := by
        obtain ⟨ao, ca, g1, g2, g3⟩ := HO.out
        exact ⟨ao, ca, heap_up _ (heap_up _ g1), (g2.keepB (bal (Below.refl _ _) _)).keepB (bDrewB (bal (Below.refl _ _) _)), g3⟩
      have hBw : B < wr.heap.size := by omega
      have CP := hide (put_numbers w0.heap.size B (wr.heap.size + 1) wr.heap.size 0 2 2 (lnum (d, b)) _ (#[.pointer (some ⟨wr.heap.size, 0, none⟩), .pointer (some ⟨wr.heap.size, 1, none⟩)] : Array Value) #[.int .i64 d, .int .i64 b] 115 86 _ hO2.out (by show _ ≤ ((wr.alloc _).alloc _).heap.size; simp; omega) HM.out HLn.out rfl (al2_1 wr _ _) (by decide) (by omega) (al2_0 wr _ _) (by decide) (by omega)
        (fun k hk => by rcases (by omega : k = 0 ∨ k = 1) with rfl | rfl <;> rfl) (fun k a h => by
          have hk : k < 2 := (List.getElem?_eq_some_iff.1 h).1
          rcases (by omega : k = 0 ∨ k = 1) with rfl | rfl <;> (obtain rfl := Option.some.inj h; rfl)))
      simp only [World.size_alloc]
      go_wp2_with fail
      refine CP.out.mono ?_
      rintro e w3 ⟨rfl, o3, s3, b3⟩
      have O3 := hide o3
      have S3 : Hid (Still w w3 B) := by
        intro j o hj hjB hjo hno
        have g := HST.out j o hj hjB hjo hno
        exact s3 j o (by show _ < ((wr.alloc _).alloc _).heap.size; simp; omega) hjB (heap_up _ (heap_up _ g)) hno
      have c3 : Below w0.heap.size w w3 := (hbel.trans ((bDrewB (bal (bal (Below.refl wr.heap.size wr) _) _)).mono (by omega))).trans b3
      clear CP o3 s3 b3 hO2
      go_wp2
      go_roundw
      case rel =>
        refine ⟨k + 1, by omega, by go_num, ?_, S3.out, c3⟩
        rw [show xs.take (k + 1) = xs.take k ++ [(d, b)] by rw [List.take_add_one, Hx.out]; rfl, List.flatMap_append, enc_append, ← List.append_assoc]
        exact O3.out
      case measure => simp [intOf]; omega
    · obtain rfl : k = xs.length := by omega
      rw [List.take_length] at HO
      have e1 : bs ++ enc (allL xs) = bs ++ encI (xs.length : Int) ++ enc (xs.flatMap lnum) := by rw [allL, enc_cons, List.append_assoc]
      rw [← e1] at HO
      have hge : ¬ ((xs.length : Nat) : Int) < (xs.length : Int) := by omega
      clear e1
      go_wp2
      go_end0
      exact ⟨rfl, HO.out, HST.out, hbel⟩

end Go.Proofs.Ytdlckeklhfplmaa

/- WordPack of the program: contracts; no statement of the seat is proved here. -/
namespace Go.Proofs.Ytdlckeklhfplmaa
open Go.RowKit

theorem Out.keepB {w w' : World} {base B : Nat} {bs : List Nat} (h : Out w base B bs) (hb : Below w.heap.size w w') : Out w' base B bs := by
  obtain ⟨ao, ca, g1, g2, g3⟩ := h
  exact ⟨ao, ca, bKeeps hb g1, g2.keepB hb, g3⟩

theorem numsAt (x : Wd) (po lo : Option Addr) (pn pc ln lc : Nat) : ∀ k a, x.nums[k]? = some a → (#[.int .i64 x.a0, .int .i64 x.a1, .int .i64 x.a2, .int .i64 x.a3, .int .i64 x.a4, .int .i64 x.a5, .int .i64 x.c0, .int .i64 x.c1, .int .i64 x.c2, .int .i64 x.c3, .int .i64 x.c4, .int .i64 x.c5, .int .i64 x.c6, .int .i64 x.c7, .int .i64 x.c8, .int .i64 x.c9, .int .i64 x.b0, .int .i64 x.b1, .int .i64 x.b2, .int .i64 x.b3, .int .i64 x.b4, .int .i64 x.b5, .int .i64 x.b6, .int .i64 x.b7, .slice po pn pc, .slice lo ln lc] : Array Value)[0 + k]? = some (.int .i64 a) := by
  intro k a h
  rw [Nat.zero_add]
  have hk : k < 24 := (List.getElem?_eq_some_iff.1 h).1
  rcases (by omega : k = 0 ∨ k = 1 ∨ k = 2 ∨ k = 3 ∨ k = 4 ∨ k = 5 ∨ k = 6 ∨ k = 7 ∨ k = 8 ∨ k = 9 ∨ k = 10 ∨ k = 11 ∨ k = 12 ∨ k = 13 ∨ k = 14 ∨ k = 15 ∨ k = 16 ∨ k = 17 ∨ k = 18 ∨ k = 19 ∨ k = 20 ∨ k = 21 ∨ k = 22 ∨ k = 23) with rfl | rfl | rfl | rfl | rfl | rfl | rfl | rfl | rfl | rfl | rfl | rfl | rfl | rfl | rfl | rfl | rfl | rfl | rfl | rfl | rfl | rfl | rfl | rfl <;> (obtain rfl := Option.some.inj h; rfl)

set_option maxRecDepth 100000 in
set_option maxHeartbeats 8000000 in
theorem row_word (x : Wd) (po lo : Option Addr) (pc lc : Nat) (w : World) (a1 : RowR w 4 (.slice po x.ps.length pc) x.ps.length (pcells x.ps)) (a2 : RowR w 2 (.slice lo x.ls.length lc) x.ls.length (lcells x.ls)) (hok : okW x = true) :
    Calls Try.prog 99 #[ .agg #[.int .i64 x.a0, .int .i64 x.a1, .int .i64 x.a2, .int .i64 x.a3, .int .i64 x.a4, .int .i64 x.a5, .int .i64 x.c0, .int .i64 x.c1, .int .i64 x.c2, .int .i64 x.c3, .int .i64 x.c4, .int .i64 x.c5, .int .i64 x.c6, .int .i64 x.c7, .int .i64 x.c8, .int .i64 x.c9, .int .i64 x.b0, .int .i64 x.b1, .int .i64 x.b2, .int .i64 x.b3, .int .i64 x.b4, .int .i64 x.b5, .int .i64 x.b6, .int .i64 x.b7, .slice po x.ps.length pc, .slice lo x.ls.length lc] ] w fun e w' => ∃ vo co, e = .returned (.slice vo (packW x).length co) ∧ RowA w' w.heap.size 5 1 (.slice vo (packW x).length co) (packW x).length (byts (packW x)) ∧ Below w.heap.size w w' := by
  have e0 : packW x = enc (allW x) := by unfold packW; rw [hok]; rfl
  obtain ⟨pk, hpk⟩ : ∃ pk, packW x = pk := ⟨_, rfl⟩
  rw [hpk]
  have E0 := hide (hpk.symm.trans e0)
  have HN := hide (allW_num hok)
  have hp := (okL_mem (okW_ps hok)).1
  have hl := (okL_mem (okW_ls hok)).1
  have A1 := hide a1
  have A2 := hide a2
  clear e0 hpk hok a1 a2
  go_enter Try.func99, Try.ntmps99
  go_wp2_with fail
  generalize hW : World.alloc _ _ = W
  have hal : Below w.heap.size w W := by rw [← hW]; exact bal (bal (Below.refl _ _) _) _
  have B0 : Hid (W.heap[w.heap.size]? = some (.cells (#[.int .i64 x.a0, .int .i64 x.a1, .int .i64 x.a2, .int .i64 x.a3, .int .i64 x.a4, .int .i64 x.a5, .int .i64 x.c0, .int .i64 x.c1, .int .i64 x.c2, .int .i64 x.c3, .int .i64 x.c4, .int .i64 x.c5, .int .i64 x.c6, .int .i64 x.c7, .int .i64 x.c8, .int .i64 x.c9, .int .i64 x.b0, .int .i64 x.b1, .int .i64 x.b2, .int .i64 x.b3, .int .i64 x.b4, .int .i64 x.b5, .int .i64 x.b6, .int .i64 x.b7, .slice po x.ps.length pc, .slice lo x.ls.length lc] : Array Value) 92 (0, 0))) := by rw [← hW]; exact al2_0 w _ _
  have O0 : Hid (Out W w.heap.size (w.heap.size + 1) []) := by rw [← hW]; exact ⟨none, 0, al2_1 w _ _, .inr ⟨rfl, rfl, none, rfl⟩, by omega⟩
  clear hW
  generalize Value.agg _ = A0
  refine (wordNumbers_any w.heap.size _).mono ?_
  rintro e w1 ⟨ps, rfl, hps, b1⟩
  have C0 := hide (heap_up (.cells ps 116) (bKeeps b1 B0.out))
  have c1 := bAll hal b1
  have HP := hide hps
  have H24 := hide (show (Try.prog.info? 116).map (·.size) = some ps.size by rw [hps.1]; exact info24)
  have HS := hide (show 24 = ps.size from hps.1.symm)
  have H1 := hide hps.one
  have O1 := hide ((O0.out.keepB b1).keepB (bal (Below.refl _ _) (.cells ps 116)))
  have hz1 : w.heap.size + 1 < w1.heap.size := by obtain ⟨_, _, g, _⟩ := O0.out.keepB b1; exact heap_lt g
  have c2 := bal c1 (.cells ps 116)
  clear hps B0 b1 hal O0
  have CP := hide (put_numbers w.heap.size (w.heap.size + 1) w1.heap.size w.heap.size 0 24 24 x.nums [] ps _ 116 92 _ O1.out c2.size (fun a ha => HN.out a (List.mem_append_left _ ha)) (by show 0 + 3 * 24 ≤ 10000; omega) rfl (heap_alloc_new w1 _) (by decide) (by omega) C0.out (by decide) (by omega) (fun k hk => HP.out.2 k hk) (numsAt x po lo _ pc _ lc))
  go_wp2_with (refine wpList_store_row rfl 116 (.tmp 4) (.tmp 6) rfl w1.heap.size ps rfl rfl _ _ (heap_alloc_new w1 _) H24.out HS.out H1.out ?_; rw [World.setRow_alloc_new])
  refine CP.out.mono ?_
  rintro e w3 ⟨rfl, o3, s3, b3⟩
  have c3 := c2.trans b3
  have C3 := hide (s3 w.heap.size _ (by have := heap_lt C0.out; exact this) (by omega) C0.out (fun c h => by cases h))
  have O3 := hide o3
  have d24 : w3.cell? ⟨w.heap.size, 24, none⟩ = some (.slice po x.ps.length pc) := boxAt C3.out 24
  have hl1 : ([] ++ enc x.nums).length ≤ 72 := by
    have := (enc_len x.nums (fun a ha => (HN.out a (List.mem_append_left _ ha)).2)).2
    have h24 : x.nums.length = 24 := rfl
    rw [List.nil_append]
    omega
  have CP2 := hide (put_pieces w (w.heap.size + 1) po pc x.ps _ _ O3.out c3 A1.out (fun a ha => HN.out a (List.mem_append_right _ (List.mem_append_left _ ha))) (by omega))
  clear CP o3 s3 b3 O1 C0 HP H24 HS H1 c2 c1
  go_wp2_with fail
  refine CP2.out.mono ?_
  rintro e w4 ⟨rfl, o4, s4, b4⟩
  have c4 := c3.trans b4
  have C4 := hide (s4 w.heap.size _ (heap_lt C3.out) (by omega) C3.out (fun c h => by cases h))
  have O4 := hide o4
  have d25 : w4.cell? ⟨w.heap.size, 25, none⟩ = some (.slice lo x.ls.length lc) := boxAt C4.out 25
  have hl2 : ([] ++ enc x.nums ++ enc (allP x.ps)).length ≤ 72 + 3 * (1 + 4 * 60) := by
    have := (enc_len (allP x.ps) (fun a ha => (HN.out a (List.mem_append_right _ (List.mem_append_left _ ha))).2)).2
    have e4 : (allP x.ps).length = 1 + 4 * x.ps.length := by
      have := allW_len x
      have e5 : (allL x.ls).length = 1 + 2 * x.ls.length := by
        unfold allL
        rw [List.length_cons]
        have : (x.ls.flatMap lnum).length = 2 * x.ls.length := by
          generalize x.ls = ys
          induction ys with
          | nil => rfl
          | cons y ys ih => rw [List.flatMap_cons, List.length_append, ih, List.length_cons]; simp; omega
        omega
      simp only [allW, List.length_append, e5, Wd.nums, List.length_cons, List.length_nil] at this
      omega
    rw [List.length_append]
    omega
  have CP3 := hide (put_lasts w (w.heap.size + 1) lo lc x.ls _ _ O4.out c4 A2.out (fun a ha => HN.out a (List.mem_append_right _ (List.mem_append_right _ ha))) (by omega))
  clear CP2 o4 s4 b4 O3 C3 d24
  go_wp2_with fail
  refine CP3.out.mono ?_
  rintro e w5 ⟨rfl, o5, s5, b5⟩
  have c5 := c4.trans b5
  have e5 : [] ++ enc x.nums ++ enc (allP x.ps) ++ enc (allL x.ls) = pk := by rw [E0.out, allW, enc_append, enc_append, List.nil_append, List.append_assoc]
  rw [e5] at o5
  obtain ⟨ao, ca, g1, g2, -⟩ := o5
  have d0 : w5.cell? ⟨w.heap.size + 1, 0, none⟩ = some (.slice ao pk.length ca) := boxAt g1 0
  have G2 := hide g2
  clear CP3 s5 b5 g1 g2 e5 hl1 hl2 O4 C4 d25 E0
  go_wp2
  go_ret
  exact ⟨_, _, rfl, G2.out, c5⟩

set_option maxRecDepth 100000 in
set_option maxHeartbeats 8000000 in
theorem implWordPack_any (v : Value) (x : Wd) (w : World) (h : WdR w v x) :
    Calls Try.prog 15 #[v] w fun e w' => ∃ vo co, e = .returned (.slice vo (packW x).length co) ∧ RowA w' w.heap.size 5 1 (.slice vo (packW x).length co) (packW x).length (byts (packW x)) ∧ Below w.heap.size w w' := by
  obtain ⟨po, pc, lo, lc, rfl, a1, a2⟩ := h
  obtain ⟨pk, hpk⟩ : ∃ pk, packW x = pk := ⟨_, rfl⟩
  rw [hpk]
  have HPK := hide hpk
  clear hpk
  rcases hk : inI x.a0 1 15 with _ | _
  · have HK := hide hk
    have e0 : pk = [] := by rw [← HPK.out]; unfold packW; rw [okW_fits, hk, Bool.false_and]; rfl
    subst e0
    clear hk HPK
    go_enter Try.func15, Try.ntmps15
    go_wp2_with (refine wpList_load_row rfl 34 (.tmp 1) rfl w.heap.size rfl _ _ (0, 0) _ (heap_alloc_new w _) Try.underlying34 rfl infoWd ?_)
    refine (wordOf_no x _ _ _ _ _ _ _ HK.out).mono ?_
    rintro e w1 ⟨rfl, b1⟩
    have c1 := bAll (bal (Below.refl w.heap.size w) _) b1
    go_wp2
    go_ret
    exact ⟨_, _, rfl, .inr ⟨rfl, rfl, _, rfl⟩, c1⟩
  · have HK := hide hk
    have hR : Hid (okW x = fitsW x) := by show _ = _; rw [okW_fits, hk, Bool.true_and]
    clear hk
    go_enter Try.func15, Try.ntmps15
    go_wp2_with (refine wpList_load_row rfl 34 (.tmp 1) rfl w.heap.size rfl _ _ (0, 0) _ (heap_alloc_new w _) Try.underlying34 rfl infoWd ?_)
    refine (wordOf_any x _ _ _ _ _ _ _ HK.out).mono ?_
    rintro e w1 ⟨T, rfl, b1, hm, hm2⟩
    have c1 := bAll (bal (Below.refl w.heap.size w) _) b1
    go_wp2_with fail
    refine (fits_word x _ _ _ _ _ (a1.keep c1) (a2.keep c1)).mono ?_
    rintro e w2 ⟨rfl, b2⟩
    have c2 := bAll c1 b2
    rcases hf : fitsW x with _ | _
    · have e0 : pk = [] := by rw [← HPK.out]; unfold packW; rw [hR.out, hf]; rfl
      subst e0
      go_wp2
      go_ret
      exact ⟨_, _, rfl, .inr ⟨rfl, rfl, _, rfl⟩, c2⟩
    · have hok : okW x = true := by rw [hR.out, hf]
      have CP := hide (row_word x po lo pc lc w2 (a1.keep c2) (a2.keep c2) hok)
      rw [HPK.out] at CP
      clear hok
      go_wp2_with fail
      refine CP.out.mono ?_
      rintro e w3 ⟨vo, co, rfl, r3, b3⟩
      have R3 := hide (r3.base (b' := w.heap.size) c2.size)
      clear r3 CP
      go_wp2
      go_ret
      exact ⟨_, _, rfl, R3.out, bAll c2 b3⟩

end Go.Proofs.Ytdlckeklhfplmaa

/- What the laws' own helpers do with bytes: contracts; no statement of the seat is proved here. -/
namespace Go.Proofs.Ytdlckeklhfplmaa
open Go.RowKit

theorem byts_at {bs : List Nat} {k b : Nat} (h : bs[k]? = some b) : (byts bs)[k]? = some (.int .u8 (b : Int)) := by simp [byts, h]

set_option maxRecDepth 100000 in
set_option maxHeartbeats 2000000 in
theorem eqByteS_true (va vb : Value) (n : Nat) (bs : List Nat) (w : World) (ha : RowR w 1 va n (byts bs)) (hb : RowR w 1 vb n (byts bs)) :
    Calls Try.prog 16 #[va, vb] w fun e w' => e = .returned (.bool true) ∧ Below w.heap.size w w' := by
  obtain ⟨ao, ca, rfl, hn, hl, ha⟩ := ha
  obtain ⟨bo, cb, rfl, _, _, hb⟩ := hb
  rw [byts_len] at hl
  have HL := hide hl
  have HA := hide ha
  have HB := hide hb
  clear hl ha hb
  go_enter Try.func16, Try.ntmps16
  go_wp2
  go_loopw [5] (fun i wr => ∃ k : Nat, k ≤ n ∧ i = .int .i64 k ∧ Below w.heap.size w wr) (fun i _ => n - (intOf i).toNat)
  case atStart => exact ⟨0, Nat.zero_le _, rfl, Below.refl _ _⟩
  case round =>
    obtain ⟨k, hk, rfl, hbel⟩ := hrel
    by_cases hlt : k < n
    · obtain ⟨b1, o1, rfl, hc1⟩ := HA.out (by omega)
      obtain ⟨b2, o2, rfl, hc2⟩ := HB.out (by omega)
      obtain ⟨x, hx⟩ := getAt bs k (by have := HL.out; omega)
      have g1 := hc1 k _ (byts_at hx)
      have g2 := hc2 k _ (byts_at hx)
      have f1 : wr.cell? ⟨b1, o1 + k, none⟩ = some (.int .u8 (x : Int)) := (hbel.cell (p := ⟨b1, o1 + k, none⟩) (World.block_lt_of_cell? w _ g1)).trans g1
      have f2 : wr.cell? ⟨b2, o2 + k, none⟩ = some (.int .u8 (x : Int)) := (hbel.cell (p := ⟨b2, o2 + k, none⟩) (World.block_lt_of_cell? w _ g2)).trans g2
      have hi : (k : Int) < (n : Int) := by omega
      have F1 := hide f1
      have F2 := hide f2
      clear hc1 hc2 hx g1 g2 f1 f2
      go_wp2
      refine wp_region_noPanic ?_
      refine wp_region_held_drew (S := (fun w' => w'.cell? ⟨b1, o1 + k, none⟩ = some (.int .u8 (x : Int)) ∧ w'.cell? ⟨b2, o2 + k, none⟩ = some (.int .u8 (x : Int)))) (by kernel_rfl) ?_ (fun hHeld => ?_)
      · exact ⟨F1.out, F2.out⟩
      refine wpAnyH_take (i := 0) (v := ?v1) rfl (by kernel_rfl) (by kernel_rfl) (by kernel_rfl) (fun _ _ _ h => h) (Or.inl ⟨by rfl, ?hy1⟩) (by assumption) ?rest1
      case hy1 => ((intro w hSw; (try dsimp only at hSw); (try simp only [List.getElem_toArray, List.getElem_cons_zero]); go_simp; first | done | (with_reducible rfl)))
      simp only [Act.put, List.getElem_toArray, List.getElem_cons_zero, List.setIfInBounds_toArray, List.set_cons_zero, List.set_cons_succ]
      refine wpAnyH_take (i := 1) (v := ?v2) rfl (by kernel_rfl) (by kernel_rfl) (by kernel_rfl) (fun _ _ _ h => h) (Or.inl ⟨by rfl, ?hy2⟩) (by assumption) ?rest2
      case hy2 => ((intro w hSw; (try dsimp only at hSw); (try simp only [List.getElem_toArray, List.getElem_cons_zero, List.getElem_cons_succ]); go_simp; first | done | (with_reducible rfl)))
      simp only [Act.put, List.getElem_toArray, List.getElem_cons_zero, List.getElem_cons_succ, List.setIfInBounds_toArray, List.set_cons_zero, List.set_cons_succ]
      refine wpAnyH_take (i := 2) (v := ?v3) rfl (by kernel_rfl) (by kernel_rfl) (by kernel_rfl) (fun _ _ _ h => h) (Or.inl ⟨by rfl, ?hy3⟩) (by assumption) ?rest3
      case hy3 => ((intro w hSw; (try dsimp only at hSw); (try simp only [List.getElem_toArray, List.getElem_cons_zero, List.getElem_cons_succ]); go_simp; first | done | (with_reducible rfl)))
      simp only [Act.put, List.getElem_toArray, List.getElem_cons_zero, List.getElem_cons_succ, List.setIfInBounds_toArray, List.set_cons_zero, List.set_cons_succ]
      refine wpAnyH_take (i := 3) (v := ?v4) rfl (by kernel_rfl) (by kernel_rfl) (by kernel_rfl) (fun _ _ _ h => h) (Or.inl ⟨by rfl, ?hy4⟩) (by assumption) ?rest4
      case hy4 => ((intro w hSw; (try dsimp only at hSw); (try simp only [List.getElem_toArray, List.getElem_cons_zero, List.getElem_cons_succ]); go_simp; first | done | (with_reducible rfl)))
      simp only [Act.put, List.getElem_toArray, List.getElem_cons_zero, List.getElem_cons_succ, List.setIfInBounds_toArray, List.set_cons_zero, List.set_cons_succ]
      refine wpAnyH_take (i := 4) (v := ?v5) rfl (by kernel_rfl) (by kernel_rfl) (by kernel_rfl) (fun _ _ _ h => h) (Or.inl ⟨by rfl, ?hy5⟩) (by assumption) ?rest5
      case hy5 => ((intro w hSw; (try dsimp only at hSw); (try simp only [List.getElem_toArray, List.getElem_cons_zero, List.getElem_cons_succ]); go_simp; first | done | (with_reducible rfl)))
      simp only [Act.put, List.getElem_toArray, List.getElem_cons_zero, List.getElem_cons_succ, List.setIfInBounds_toArray, List.set_cons_zero, List.set_cons_succ]
      refine wpAnyH_take (i := 5) (v := ?v6) rfl (by kernel_rfl) (by kernel_rfl) (by kernel_rfl) (fun _ _ _ h => h) (Or.inl ⟨by rfl, ?hy6⟩) (by assumption) ?rest6
      case hy6 => ((intro w hSw; (try dsimp only at hSw); (try simp only [List.getElem_toArray, List.getElem_cons_zero, List.getElem_cons_succ]); go_simp; first | done | (with_reducible rfl)))
      simp only [Act.put, List.getElem_toArray, List.getElem_cons_zero, List.getElem_cons_succ, List.setIfInBounds_toArray, List.set_cons_zero, List.set_cons_succ]
      refine wpAnyH_take (i := 6) (v := ?v7) rfl (by kernel_rfl) (by kernel_rfl) (by kernel_rfl) (fun _ _ _ h => h) (Or.inl ⟨by rfl, ?hy7⟩) (by assumption) ?rest7
      case hy7 => ((intro w hSw; (try dsimp only at hSw); (try simp only [List.getElem_toArray, List.getElem_cons_zero, List.getElem_cons_succ]); go_simp; first | done | (with_reducible rfl)))
      simp only [Act.put, List.getElem_toArray, List.getElem_cons_zero, List.getElem_cons_succ, List.setIfInBounds_toArray, List.set_cons_zero, List.set_cons_succ]
      refine wpAnyH_take (i := 7) (v := ?v8) rfl (by kernel_rfl) (by kernel_rfl) (by kernel_rfl) (fun _ _ _ h => h) (Or.inl ⟨by rfl, ?hy8⟩) (by assumption) ?rest8
      case hy8 => ((intro w hSw; (try dsimp only at hSw); (try simp only [List.getElem_toArray, List.getElem_cons_zero, List.getElem_cons_succ]); go_simp; first | done | (with_reducible rfl)))
      simp only [Act.put, List.getElem_toArray, List.getElem_cons_zero, List.getElem_cons_succ, List.setIfInBounds_toArray, List.set_cons_zero, List.set_cons_succ]
      refine wpAnyH_take (i := 8) (v := ?v9) rfl (by kernel_rfl) (by kernel_rfl) (by kernel_rfl) (fun _ _ _ h => h) (Or.inl ⟨by rfl, ?hy9⟩) (by assumption) ?rest9
      case hy9 => ((intro w hSw; (try dsimp only at hSw); (try simp only [List.getElem_toArray, List.getElem_cons_zero, List.getElem_cons_succ]); go_simp; first | done | (with_reducible rfl)))
      simp only [Act.put, List.getElem_toArray, List.getElem_cons_zero, List.getElem_cons_succ, List.setIfInBounds_toArray, List.set_cons_zero, List.set_cons_succ]
      refine wpAnyH_done (by kernel_rfl) ?_ _
      refine NoPanic.normal ?_
      clear hHeld
      go_wp2
      go_roundw
      case rel => exact ⟨k + 1, by omega, by go_num, bDrewB hbel⟩
      case measure => simp [intOf]; omega
    · have hge : ¬ (k : Int) < (n : Int) := by omega
      go_wp2
      go_ret
      exact ⟨rfl, hbel⟩

/-- The marks of n bytes from k on. -/
def mkB (k n : Nat) : List Nat := (List.range n).map fun i => (k + i) % 256
theorem mkB_len (k n : Nat) : (mkB k n).length = n := by simp [mkB]
theorem mkB_get (k n i : Nat) (h : i < n) : (mkB k n)[i]? = some ((k + i) % 256) := by simp [mkB, h]

set_option maxRecDepth 100000 in
set_option maxHeartbeats 2000000 in
theorem markByteS_any (S : Nat → Prop) (v : Value) (n : Nat) (cs : List Value) (k0 : Nat) (w : World) (hr : Row w 5 1 S v n cs) (h1 : 1 ≤ k0) (h2 : k0 + n ≤ 1099511627776) :
    Calls Try.prog 18 #[v, .int .i64 k0] w fun e w' => e = .returned (.int .i64 (k0 + n : Nat)) ∧ Row w' 5 1 S v n (byts (mkB k0 n)) ∧ Upd S w w' := by
  obtain ⟨ao, cap, rfl, hn, hl, hr⟩ := hr
  rcases Nat.eq_zero_or_pos n with rfl | hpos
  · go_enter Try.func18, Try.ntmps18
    go_wp2
    refine wp_loop_rounds 1 ?_
    rw [rounds_succ]
    go_wp2
    go_ret
    exact ⟨rfl, ⟨ao, cap, rfl, hn, by simp [mkB, byts], fun h => by omega⟩, Upd.refl _ _⟩
  · obtain ⟨g, cur, rfl, hS, hg, ht⟩ := hr hpos
    have hcs : n ≤ cur.size := by
      have := congrArg List.length ht
      simp [hl] at this
      omega
    clear hr ht hl
    go_enter Try.func18, Try.ntmps18
    go_wp2
    go_loopw [1, 5] (fun kv i wr => ∃ (k m : Nat) (cur' : Array Value), k ≤ n ∧ m = k0 + k ∧ i = .int .i64 k ∧ kv = .int .i64 (m : Nat) ∧ wr.heap[g]? = some (.cells cur' 5 (0, 0)) ∧ cur'.size = cur.size ∧ (∀ j, j < k → cur'[j]? = some (.int .u8 (((k0 + j) % 256 : Nat) : Int))) ∧ Upd S w wr) (fun _ i _ => n - (intOf i).toNat)
    case atStart => exact ⟨0, k0, cur, Nat.zero_le _, rfl, rfl, rfl, hg, rfl, fun j hj => by omega, Upd.refl _ _⟩
    case round =>
      obtain ⟨k, m, cur', hk, hm, rfl, rfl, hgr, hsz, hmk, hup⟩ := hrel
      have Hm := hide hm
      have hm2 : (m : Int) ≤ 1099511627776 := by omega
      have HM := hide hmk
      have HZ := hide hsz
      have hsz' : n ≤ cur'.size := by omega
      clear hmk hsz hm
      by_cases hlt : k < n
      · have hi : (k : Int) < (n : Int) := by omega
        obtain ⟨u, hu⟩ : ∃ u, cur'[k]? = some u := ⟨cur'[k]'(by omega), by simp [show k < cur'.size by omega]⟩
        have hcw : wr.cell? ⟨g, k, none⟩ = some u := (cell_of_row wr _ _ cur' _ (0, 0) hgr).trans hu
        have hfw : wr.frozen? ⟨g, k, none⟩ = false := frozen_of_row wr _ _ cur' _ hgr
        have Hg := hide hgr
        have hkc : k < cur'.size := by omega
        clear hgr hu
        go_wp2
        go_roundw
        case rel =>
          refine ⟨k + 1, m + 1, _, by omega, by rw [Hm.out]; omega, by go_num, by go_num, row_set _ Hg.out, by simpa using HZ.out, fun j hj => ?_, hup.trans (Upd.setCell _ _ _ _ hS)⟩
          by_cases hjk : j = k
          · subst hjk
            rw [Array.getElem?_setIfInBounds_self_of_lt hkc, ← Hm.out]
            first
              | rfl
              | (congr 1; simp)
              | (congr 2; omega)
          · rw [Array.getElem?_setIfInBounds_ne (by omega)]
            exact HM.out j (by omega)
        case measure => simp [intOf]; omega
      · have hge : ¬ (k : Int) < (n : Int) := by omega
        obtain rfl : k = n := by omega
        have Hg := hide hgr
        clear hgr
        go_wp2
        go_ret
        refine ⟨by rw [Hm.out]; rfl, ⟨_, cap, rfl, hn, by rw [byts_len, mkB_len, Nat.mul_one], fun _ => ⟨g, cur', rfl, hS, Hg.out, ?_⟩⟩, hup⟩
        apply List.ext_getElem?
        intro j
        by_cases hj : j < k
        · rw [List.getElem?_take_of_lt (by omega), Array.getElem?_toList, HM.out j hj, byts_at (mkB_get k0 k j hj)]
        · rw [List.getElem?_eq_none (by simp; omega), List.getElem?_eq_none (by rw [byts_len, mkB_len]; omega)]

set_option maxRecDepth 100000 in
set_option maxHeartbeats 2000000 in
theorem heldByteS_ok (v : Value) (n k0 : Nat) (w : World) (hr : RowR w 1 v n (byts (mkB k0 n))) (h1 : 1 ≤ k0) (h2 : k0 + n ≤ 1099511627776) :
    Calls Try.prog 19 #[v, .int .i64 k0] w fun e w' => e = .returned (.int .i64 (k0 + n : Nat)) ∧ Below w.heap.size w w' := by
  obtain ⟨ao, cap, rfl, hn, hl, hr⟩ := hr
  have HR := hide hr
  clear hl hr
  go_enter Try.func19, Try.ntmps19
  go_wp2
  go_loopw [1, 5] (fun kv i wr => ∃ k m : Nat, k ≤ n ∧ m = k0 + k ∧ i = .int .i64 k ∧ kv = .int .i64 (m : Nat) ∧ Below w.heap.size w wr) (fun _ i _ => n - (intOf i).toNat)
  case atStart => exact ⟨0, k0, Nat.zero_le _, rfl, rfl, rfl, Below.refl _ _⟩
  case round =>
    obtain ⟨k, m, hk, hm, rfl, rfl, hbel⟩ := hrel
    have Hm : Hid (m = k0 + k) := hm
    have hm2 : (m : Int) ≤ 1099511627776 := by omega
    clear hm
    by_cases hlt : k < n
    · obtain ⟨b1, o1, rfl, hc1⟩ := HR.out (by omega)
      have g1 := hc1 k _ (byts_at (mkB_get k0 n k hlt))
      have f1 : wr.cell? ⟨b1, o1 + k, none⟩ = some (.int .u8 (((k0 + k) % 256 : Nat) : Int)) := (hbel.cell (p := ⟨b1, o1 + k, none⟩) (World.block_lt_of_cell? w _ g1)).trans g1
      rw [← Hm.out] at f1
      have f2 : wr.cell? ⟨b1, o1 + k, none⟩ = some (.int .u8 ((m : Int) % 256)) := by simpa using f1
      have hi : (k : Int) < (n : Int) := by omega
      clear hc1 g1 f1
      go_wp2
      go_roundw
      case rel => exact ⟨k + 1, m + 1, by omega, by rw [Hm.out]; omega, by go_num, by go_num, hbel⟩
      case measure => simp [intOf]; omega
    · have hge : ¬ (k : Int) < (n : Int) := by omega
      go_wp2
      go_ret
      obtain rfl : k = n := by omega
      exact ⟨by rw [Hm.out]; rfl, hbel⟩

end Go.Proofs.Ytdlckeklhfplmaa

/- What the law FnExactWordPack does: its walk; the statement itself is proved elsewhere. -/
namespace Go.Proofs.Ytdlckeklhfplmaa
open Go.RowKit

theorem Row.inside {w : World} {e : TypeId} {size : Nat} {S : Nat → Prop} {v : Value} {n : Nat} {cs : List Value} (h : Row w e size S v n cs) : Row w e size (fun k => S k ∧ k < w.heap.size) v n cs := by
  obtain ⟨ao, cap, rfl, hn, hl, h⟩ := h
  refine ⟨ao, cap, rfl, hn, hl, fun hp => ?_⟩
  obtain ⟨g, cur, e, hS, hg, ht⟩ := h hp
  exact ⟨g, cur, e, ⟨hS, heap_lt hg⟩, hg, ht⟩
theorem WdO.inside {w : World} {S : Nat → Prop} {v : Value} {x : Wd} (h : WdO w S v x) : WdO w (fun k => S k ∧ k < w.heap.size) v x := by
  obtain ⟨po, pc, lo, lc, e, h1, h2⟩ := h
  exact ⟨po, pc, lo, lc, e, h1.inside, h2.inside⟩

set_option maxRecDepth 100000 in
set_option maxHeartbeats 8000000 in
theorem wordPack_walk (v : Value) (x : Wd) (w : World) (h : WdR w v x) :
    Calls Try.prog 4 #[v] w fun e w' => e = .returned (.bool true) ∧ Below w.heap.size w w' := by
  obtain ⟨pk, hpk⟩ : ∃ pk, packW x = pk := ⟨_, rfl⟩
  have hpl : pk.length ≤ 822 := by rw [← hpk]; exact (packW_len x).2
  have HPK := hide hpk
  clear hpk
  obtain ⟨cs, rfl, hs, h1⟩ := h.agg
  have HX := hide h
  have HI := hide (infoAt infoLw hs)
  clear h hs h1
  have hb0 := bal (Below.refl w.heap.size w) (.cells cs 27)
  have B0 := hide (heap_alloc_new w (.cells cs 27))
  go_enter Try.func4, Try.ntmps4
  go_wp2_with (refine wpList_load_row rfl 27 (.tmp 1) rfl w.heap.size rfl _ cs (0, 0) _ B0.out Try.underlying27 rfl HI.out ?_)
  refine (szWord_at _ x _ _ HX.out).mono ?_
  rintro e w1 ⟨r, rfl, hz, b1⟩
  rcases hz with hneg | ⟨hr, hp, hl⟩
  · go_wp2
    go_ret
    exact ⟨rfl, bAll hb0 b1⟩
  have c1 := bAll hb0 b1
  have B1 := hide (bKeeps b1 B0.out)
  clear hb0 b1 B0
  go_wp2_with (refine wpList_load_row rfl 27 (.tmp 1) rfl w.heap.size rfl _ cs (0, 0) _ B1.out Try.underlying27 rfl HI.out ?_)
  refine (toWord_any _ x _ (HX.out.keep c1) hp hl).mono ?_
  rintro e w2 ⟨v2, rfl, r2, b2⟩
  have c2 := bAll c1 b2
  have B2 := hide (bKeeps b2 B1.out)
  have SC := hide (specWordPack_any v2 x w2 r2.reads)
  rw [HPK.out] at SC
  clear r2 b2 B1 c1
  go_wp2_with fail
  refine SC.out.mono ?_
  rintro e w3 ⟨vo3, co3, rfl, r3, b3⟩
  have c3 := bAll c2 b3
  have B3 := hide (bKeeps b3 B2.out)
  have R3 := hide (r3.row (by omega)).inside
  have z2 := c2.size
  have z3 := b3.size
  have l0 : w.heap.size < w2.heap.size := heap_lt B2.out
  clear SC b3 B2 r3 c2
  go_wp2_with (refine wpList_load_row rfl 27 (.tmp 1) rfl w.heap.size rfl _ cs (0, 0) _ B3.out Try.underlying27 rfl HI.out ?_)
  refine (toWord_any _ x _ (HX.out.keep c3) hp hl).mono ?_
  rintro e w4 ⟨v4, rfl, r4, b4⟩
  have c4 := bAll c3 b4
  obtain ⟨ds, rfl, hds, hd1⟩ := r4.reads.agg
  have al5 := bal (Below.refl w4.heap.size w4) (.cells ds 34)
  have K5 := hide (r4.inside.keepB al5)
  have HI2 := hide (infoAt infoWd hds)
  have HZ2 := hide (zero26.trans hds.symm)
  have H12 := hide hd1
  have c5 := bal c4 (.cells ds 34)
  have E0 := hide (heap_up (.cells ds 34) (bKeeps b4 B3.out))
  have E1 := hide (heap_alloc_new w4 (.cells ds 34))
  have IC := hide (implWordPack_any _ x _ K5.out.reads)
  rw [HPK.out] at IC
  have R5 := hide (R3.out.keepB (bAll b4 al5))
  have z4 := b4.size
  clear r4 b4 B3 hds hd1 c4 R3 c3 al5
  go_wp2_with (first
    | (refine wpList_store_row rfl 34 (.tmp 5) (.tmp 20) rfl w4.heap.size ds rfl rfl _ _ (heap_alloc_new w4 _) HI2.out HZ2.out H12.out ?_; rw [World.setRow_alloc_new])
    | (refine wpList_load_row rfl 34 (.tmp 5) rfl w4.heap.size rfl _ ds (0, 0) _ E1.out Try.underlying34 rfl HI2.out ?_))
  refine IC.out.mono ?_
  rintro e w6 ⟨vo6, co6, rfl, r6, b6⟩
  have c6 := bAll c5 b6
  have F0 := hide (bKeeps b6 E0.out)
  have F1 := hide (bKeeps b6 E1.out)
  have K6 := hide (K5.out.keepB b6)
  have R6 := hide (R5.out.keepB b6)
  have G6 := hide (r6.row (by omega)).inside
  have z6 := b6.size
  simp only [World.size_alloc] at z6
  clear IC E0 E1 K5 R5 c5 b6 r6
  go_wp2_with fail
  refine (eqByteS_true _ _ pk.length pk _ G6.out.reads R6.out.reads).mono ?_
  rintro e w7 ⟨rfl, b7⟩
  have c7 := bAll c6 b7
  have F07 := hide (bKeeps b7 F0.out)
  have F17 := hide (bKeeps b7 F1.out)
  have K7 := hide (K6.out.keepB b7)
  have R7 := hide (R6.out.keepB b7)
  have G7 := hide (G6.out.keepB b7)
  have z7 := b7.size
  clear F0 F1 K6 R6 G6 b7 c6
  go_wp2_with fail
  refine wp_region_noPanic ?_
  refine wp_region_held_drew (S := (fun w' => w'.heap[w.heap.size]? = some (.cells cs 27 (0, 0)) ∧ w'.heap[w4.heap.size]? = some (.cells ds 34 (0, 0)))) (by kernel_rfl) ?_ (fun hHeld => ?_)
  · exact ⟨F07.out, F17.out⟩
  refine wpAnyH_take (i := 0) (v := .agg ds) rfl (by kernel_rfl) (by kernel_rfl) (by kernel_rfl) (fun _ _ _ h => h) (yields_row rfl 34 (.tmp 5) rfl (w4.heap.size) rfl _ ds _ (fun _ h => h.2) Try.underlying34 rfl HI2.out) (by assumption) ?_
  simp only [Act.put, List.getElem_toArray, List.getElem_cons_zero, List.setIfInBounds_toArray, List.set_cons_zero, List.set_cons_succ]
  refine wpAnyH_take (i := 1) (v := .agg cs) rfl (by kernel_rfl) (by kernel_rfl) (by kernel_rfl) (fun _ _ _ h => h) (yields_row rfl 27 (.tmp 1) rfl (w.heap.size) rfl _ cs _ (fun _ h => h.1) Try.underlying27 rfl HI.out) (by assumption) ?_
  simp only [Act.put, List.getElem_toArray, List.getElem_cons_zero, List.getElem_cons_succ, List.setIfInBounds_toArray, List.set_cons_zero, List.set_cons_succ]
  refine wpAnyH_ready (rs := [2]) (by kernel_rfl) (by simp) ?_
  refine AllReadyH.cons rfl (fun K hK => ?_) AllReadyH.nil
  go_simp
  (go_at_call 11; refine (toWord_any _ x _ (HX.out.keep (bDrewB c7)) hp hl).mono ?_; rintro e w8 ⟨v8, rfl, r8, b8⟩; have b8' : Below w7.heap.size w7 w8 := bUndrew b8)
  refine hK.out _ _ ?_ (fun hHeld => ?_)
  · exact ⟨bKeeps b8 F07.out, bKeeps b8 F17.out⟩
  clear hK K
  refine wpAnyH_ready (rs := [3]) (by kernel_rfl) (by simp) ?_
  refine AllReadyH.cons rfl (fun K hK => ?_) AllReadyH.nil
  go_simp
  (go_at_call 13; refine (eqWord_true _ _ x _ (K7.out.reads.keep b8') r8.reads).mono ?_; rintro e w9 ⟨rfl, b9⟩)
  refine hK.out _ _ ?_ (fun hHeld => ?_)
  · exact ⟨bKeeps b9 (bKeeps b8 F07.out), bKeeps b9 (bKeeps b8 F17.out)⟩
  clear hK K
  refine wpAnyH_take (i := 4) (v := ?v1) rfl (by kernel_rfl) (by kernel_rfl) (by kernel_rfl) (fun _ _ _ h => h) (Or.inl ⟨by rfl, ?hy1⟩) (by assumption) ?rest1
  case hy1 => ((intro w hSw; (try dsimp only at hSw); (try simp only [List.getElem_toArray, List.getElem_cons_zero, List.getElem_cons_succ]); go_simp; first | done | (with_reducible rfl)))
  simp only [Act.put, List.getElem_toArray, List.getElem_cons_zero, List.getElem_cons_succ, List.setIfInBounds_toArray, List.set_cons_zero, List.set_cons_succ]
  refine wpAnyH_done (by kernel_rfl) ?_ _
  refine NoPanic.normal ?_
  clear hHeld
  have b79 := bAll b8' b9
  have c9 := bAll c7 b79
  have F09 := hide (bKeeps b79 F07.out)
  have F19 := hide (bKeeps b79 F17.out)
  have K9 := hide (K7.out.keepB b79)
  have R9 := hide (R7.out.keepB b79)
  have G9 := hide (G7.out.keepB b79)
  have z9 := b79.size
  clear F07 F17 K7 R7 G7 b8 b8' b9 r8 c7 b79
  go_wp2_with (refine wpList_load_row rfl 34 (.tmp 5) rfl w4.heap.size rfl _ ds (0, 0) _ F19.out Try.underlying34 rfl HI2.out ?_)
  refine (markWord_any _ _ x 1 _ K9.out (by omega) (by omega)).mono ?_
  rintro e w10 ⟨rfl, k10, u10⟩
  have c10 := c9.trans (u10.below c9.size (fun k h => by have := h.1; omega))
  have F10 := hide (u10.keeps F09.out (fun h => by have := h.1; omega))
  have R10 := hide (R9.out.keep u10 (fun k h1 h2 => by have := h1.2; have := h2.1; omega))
  have G10 := hide (G9.out.keep u10 (fun k h1 h2 => by have h3 := h1.1; have h4 := h2.2; simp only [World.size_alloc] at h3; omega))
  have z10 := u10.size
  obtain ⟨M, hM⟩ : ∃ M : Nat, M = 1 + x.ps.length * 4 + x.ls.length * 2 := ⟨_, rfl⟩
  rw [← hM]
  have hMn : ¬ (M : Int) < 0 := by omega
  clear F09 F19 K9 R9 G9 k10 u10 c9 hM
  go_wp2_with fail
  refine (eqByteS_true _ _ pk.length pk _ G10.out.reads R10.out.reads).mono ?_
  rintro e w11 ⟨rfl, b11⟩
  have c11 := bAll c10 b11
  have F11 := hide (bKeeps b11 F10.out)
  have R11 := hide (R10.out.keepB b11)
  have G11 := hide (G10.out.keepB b11)
  have z11 := b11.size
  obtain ⟨Q, hQ⟩ : ∃ Q : Nat, Q = 1 + pk.length := ⟨_, rfl⟩
  have HQ := hide hQ
  clear hQ
  have CM := hide (markByteS_any _ _ pk.length _ 1 w11 G11.out (by omega) (by omega))
  rw [← HQ.out] at CM
  clear F10 R10 b11 c10 G10
  go_wp2_with fail
  refine CM.out.mono ?_
  rintro e w12 ⟨rfl, g12, u12⟩
  have c12 := c11.trans (u12.below c11.size (fun k h => by have h3 := h.1; simp only [World.size_alloc] at h3; omega))
  have F12 := hide (u12.keeps F11.out (fun h => by have h3 := h.1; simp only [World.size_alloc] at h3; omega))
  have R12 := hide (R11.out.keep u12 (fun k h1 h2 => by have h3 := h1.2; have h4 := h2.1; simp only [World.size_alloc] at h4; omega))
  have G12 := hide g12
  have CH := hide (heldByteS_ok _ pk.length 1 w12 G12.out.reads (by omega) (by omega))
  rw [← HQ.out] at CH
  have hQn : ¬ (Q : Int) < 0 := by omega
  clear CM F11 R11 G11 u12 g12 c11
  go_wp2_with fail
  refine CH.out.mono ?_
  rintro e w13 ⟨rfl, b13⟩
  have c13 := bAll c12 b13
  have F13 := hide (bKeeps b13 F12.out)
  have R13 := hide (R12.out.keepB b13)
  have G13 := hide (G12.out.keepB b13)
  clear CH F12 R12 G12 b13 c12
  go_wp2_with (refine wpList_load_row rfl 27 (.tmp 1) rfl w.heap.size rfl _ cs (0, 0) _ F13.out Try.underlying27 rfl HI.out ?_)
  refine (toWord_any _ x _ (HX.out.keep c13) hp hl).mono ?_
  rintro e w14 ⟨v14, rfl, r14, b14⟩
  have c14 := bAll c13 b14
  have IC := hide (implWordPack_any v14 x w14 r14.reads)
  rw [HPK.out] at IC
  have R14 := hide (R13.out.keepB b14)
  have G14 := hide (G13.out.keepB b14)
  clear R13 G13 b14 r14 c13 F13
  go_wp2_with fail
  refine IC.out.mono ?_
  rintro e w15 ⟨vo15, co15, rfl, r15, b15⟩
  have c15 := bAll c14 b15
  have R15 := hide (R14.out.keepB b15)
  have G15 := hide (G14.out.keepB b15)
  have H15 := hide (r15.row (by omega))
  clear R14 G14 b15 r15 c14 IC
  go_wp2_with fail
  refine (eqByteS_true _ _ pk.length pk _ H15.out.reads R15.out.reads).mono ?_
  rintro e w16 ⟨rfl, b16⟩
  have c16 := bAll c15 b16
  have CH := hide (heldByteS_ok _ pk.length 1 w16 (G15.out.keepB b16).reads (by omega) (by omega))
  rw [← HQ.out] at CH
  clear R15 G15 H15 b16 c15 HQ
  go_wp2_with fail
  refine CH.out.mono ?_
  rintro e w17 ⟨rfl, b17⟩
  have c17 := bAll c16 b17
  clear CH c16 b17
  go_wp2
  go_ret
  exact ⟨rfl, c17⟩

end Go.Proofs.Ytdlckeklhfplmaa
