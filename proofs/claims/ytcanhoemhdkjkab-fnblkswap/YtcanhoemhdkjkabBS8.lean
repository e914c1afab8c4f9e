/- BlkPut, BlkGet and BlkDrop of the specification: contracts; no statement of the seat is proved here. -/
import Derived.Test.YtcanhoemhdkjkabBS7
namespace Go.Proofs.Ytcanhoemhdkjkab
open Go.RowKit

set_option maxHeartbeats 2000000 in
theorem specBlkGet_any (ao : Option Addr) (ca : Nat) (xs : List Pc) (d b p : Int) (w : World) (hr : RowR w 4 (.slice ao xs.length ca) xs.length (pcells xs)) :
    Calls Try.prog 16 #[.slice ao xs.length ca, .int .i64 d, .int .i64 b, .int .i64 p] w fun e w' => e = .returned (.int .i64 (getR xs d b p)) ∧ Below w.heap.size w w' := by
  have cK := specBlkOk_any _ xs w hr
  cases hok : okP xs
  · have HR : Hid (getR xs d b p = 0) := by show _ = _; simp [getR, hok]
    rw [hok] at cK
    go_enter Try.func16, Try.ntmps16
    go_wp2_with fail
    refine cK.mono ?_
    rintro e w1 ⟨rfl, b1⟩
    go_wp2
    go_ret
    exact ⟨by rw [HR.out]; rfl, b1⟩
  · have HR : Hid (getR xs d b p = getL d b p xs) := by show _ = _; simp [getR, hok]
    have hl := ok_len hok
    rw [hok] at cK
    obtain ⟨_, _, e0, hn, -, hr⟩ := hr
    injection e0 with e1 e2 e3
    subst e1 e3
    obtain ⟨n, hnn⟩ : ∃ n, xs.length = n := ⟨_, rfl⟩
    have Hl := hide hnn
    rw [hnn] at hn hl hr cK ⊢
    clear hnn hok e2
    go_enter Try.func16, Try.ntmps16
    go_wp2_with fail
    refine cK.mono ?_
    rintro e w1 ⟨rfl, b1⟩
    clear cK
    go_wp2
    go_loopw [9, 10] (fun o i wr => ∃ k : Nat, k ≤ n ∧ i = .int .i64 k ∧ o = .int .i64 (getL d b p (xs.take k)) ∧ Below w.heap.size w wr) (fun _ i _ => n - (intOf i).toNat)
    case atStart => exact ⟨0, Nat.zero_le _, rfl, rfl, b1⟩
    case round =>
      obtain ⟨k, hk, rfl, rfl, hbel⟩ := hrel
      obtain ⟨g, HG⟩ : ∃ g, Hid (getL d b p (xs.take k) = g) := ⟨_, rfl⟩
      rw [HG.out]
      by_cases hlt : k < n
      · obtain ⟨bb, oo, rfl, hc⟩ := hr (by omega)
        obtain ⟨y, hy⟩ := getAt xs k (by have := Hl.out; omega)
        have ht : Hid (getL d b p (xs.take (k + 1)) = if hitP d b p y = true then y.2.2.2 else g) := by
          show _ = _
          have hm := (List.getElem?_eq_some_iff.1 hy).1
          rw [List.take_succ_eq_append_getElem hm, getL_snoc, HG.out]
          rw [List.getElem?_eq_getElem hm] at hy
          rw [Option.some.inj hy]
        obtain ⟨f0, f1, f2, f3, l1⟩ := pc_cells hc hy hbel
        obtain ⟨d', b', p', t'⟩ := y
        have hmi : (k : Int) < (n : Int) := by omega
        clear hr hc hy
        have hh := @hitP_iff d b p (d', b', p', t')
        simp only at hh ht
        by_cases h1 : d' = d
        · by_cases h2 : b' = b
          · by_cases h3 : p' ≤ p
            · rw [if_pos (hh.2 ⟨h1, h2, h3⟩)] at ht
              subst h1 h2
              clear hh
              go_wp2
              go_roundw
              case rel => exact ⟨k + 1, by omega, by go_num, by rw [ht.out], hbel⟩
              case measure => simp [intOf]; omega
            · rw [if_neg (fun h => h3 (hh.1 h).2.2)] at ht
              have e3 : decide (p' ≤ p) = false := by simpa using h3
              subst h1 h2
              clear hh
              go_wp2
              go_roundw
              case rel => exact ⟨k + 1, by omega, by go_num, by rw [ht.out], hbel⟩
              case measure => simp [intOf]; omega
          · rw [if_neg (fun h => h2 (hh.1 h).2.1)] at ht
            have e2 : (b' == b) = false := by simpa using h2
            subst h1
            clear hh
            go_wp2
            go_roundw
            case rel => exact ⟨k + 1, by omega, by go_num, by rw [ht.out], hbel⟩
            case measure => simp [intOf]; omega
        · rw [if_neg (fun h => h1 (hh.1 h).1)] at ht
          have e1 : (d' == d) = false := by simpa using h1
          clear hh
          go_wp2
          go_roundw
          case rel => exact ⟨k + 1, by omega, by go_num, by rw [ht.out], hbel⟩
          case measure => simp [intOf]; omega
      · go_wp2
        go_ret
        obtain rfl : k = n := by omega
        have h2 := HG.out
        rw [List.take_of_length_le (by rw [Hl.out]; exact Nat.le_refl _)] at h2
        exact ⟨by rw [HR.out, h2]; rfl, hbel⟩

theorem wpList_copyA0 {P : Program} (w : World) {ops : Array Oper} {rest : List Oper} {o : Oper} {a : Act} {Q : Exit → Act → World → Prop} (hgd : o.guard = none) (s x : Operand) (t : TypeId)
    (ho : o.op = .call { callee := .builtin .append, args := #[s, x], argTypes := #[t, t] })
    (base : Nat) (e : TypeId) (i : TypeInfo) (z : Value) (size bytes : Nat) (ht : P.underlying t = some (.slice e)) (hi : P.info? e = some i) (hz : i.zero = some z)
    (hsize : i.size = size) (hby : i.bytes = bytes) (hzs : z.cells.size = size) (hsz : 0 < size)
    (ao0 : Option Addr) (hs : a.eval s = .slice ao0 0 0)
    (vx : Value) (m : Nat) (news : List Value) (hx : a.eval x = vx) (hr : RowR w size vx m news) (h1 : ∀ u ∈ news, u.oneCell' = true)
    (h63 : m ≤ 1048576) (hbytes : m * bytes ≤ 140737488355328) (hbase : base ≤ w.heap.size)
    (h : ∀ v' w', RowA w' base e size v' m news → Upd (typed w (fun k => base ≤ k) e) w w' → wpList P ops Q rest (a.put o.dst v') w') : wpList P ops Q (o :: rest) a w := by
  obtain ⟨ao, c, rfl, _, hl, hr⟩ := hr
  rcases Nat.eq_zero_or_pos m with rfl | hpos
  · obtain rfl : news = [] := List.eq_nil_of_length_eq_zero (by simpa using hl)
    have hrun : (Builtin.append_ #[t, t] o.type #[.slice ao0 0 0, .slice ao 0 c]).run P w = .ok (.slice ao0 0 0) w := by
      cases ao <;> cases ao0 <;> simp [Builtin.append_, run_underlying ht, sizeOf, typeInfo, hi, Builtin.lenOf, Builtin.firstCells, storeCells, loadCells, loadCellsFrom]
    refine wpList_plain hgd fun K hK => ?_
    unfold Oper.wp
    simp [execOp, ho, resolve, invoke, builtin, hs, hx, hrun, Result.andThen]
    exact hK _ _ (h _ w (.inr ⟨rfl, rfl, ao0, rfl⟩) (Upd.refl _ _))
  · obtain ⟨b, off, rfl, hc⟩ := hr hpos
    refine wpList_appendA w hgd s x t ho base e i z size bytes ht hi hz hsize hby hzs hsz _ 0 [] hs (.inr ⟨rfl, rfl, ao0, rfl⟩) ⟨b, off, none⟩ m c news hx hl (fun j u hj => by rw [Addr.add_lit]; exact hc j u hj) h1 hpos (by unfold maxLen; omega) (by rw [Nat.zero_add]; exact hbytes) hbase ?_
    intro v' w' r1 r2
    rw [Nat.zero_add, List.nil_append] at r1
    exact h v' w' (.inl r1) r2

set_option maxHeartbeats 2000000 in
theorem specBlkDrop_any (ao : Option Addr) (ca : Nat) (xs : List Pc) (d : Int) (w : World) (hr : RowR w 4 (.slice ao xs.length ca) xs.length (pcells xs)) :
    Calls Try.prog 18 #[.slice ao xs.length ca, .int .i64 d] w fun e w' => ∃ v', e = .returned v' ∧ RowA w' w.heap.size 31 4 v' (dropR xs d).length (pcells (dropR xs d)) ∧ Below w.heap.size w w' := by
  obtain ⟨i1, gi, gz0, gz1, gz2⟩ := info_parts infoPc
  have al0 : Below w.heap.size w (w.alloc (.cells #[] 31)) := (Below.refl _ _).alloc (Nat.le_refl _) _
  have cK := specBlkOk_any _ xs _ (hr.keep al0)
  cases hok : okP xs
  · have HR : Hid (dropR xs d = []) := by show _ = _; simp [dropR, hok]
    rw [hok] at cK
    go_enter Try.func18, Try.ntmps18
    go_wp2_with fail
    refine cK.mono ?_
    rintro e w1 ⟨rfl, b1⟩
    go_wp2
    go_ret
    exact ⟨_, rfl, by rw [HR.out]; exact .inr ⟨rfl, rfl, _, rfl⟩, bAll al0 b1⟩
  · have HR : Hid (dropR xs d = offP d xs) := by show _ = _; simp [dropR, hok]
    have hl := ok_len hok
    rw [hok] at cK
    obtain ⟨_, _, e0, hn, -, hr⟩ := hr
    injection e0 with e1 e2 e3
    subst e1 e3
    obtain ⟨n, hnn⟩ : ∃ n, xs.length = n := ⟨_, rfl⟩
    have Hl := hide hnn
    rw [hnn] at hn hl hr cK ⊢
    clear hnn hok e2
    go_enter Try.func18, Try.ntmps18
    go_wp2_with fail
    refine cK.mono ?_
    rintro e w1 ⟨rfl, b1⟩
    clear cK
    go_wp2
    go_loopw [5, 6] (fun o i wr => ∃ k : Nat, k ≤ n ∧ i = .int .i64 k ∧ RowA wr w.heap.size 31 4 o (offP d (xs.take k)).length (pcells (offP d (xs.take k))) ∧ Below w.heap.size w wr) (fun _ i _ => n - (intOf i).toNat)
    case atStart => exact ⟨0, Nat.zero_le _, rfl, .inr ⟨rfl, rfl, _, rfl⟩, bAll al0 b1⟩
    case round =>
      obtain ⟨k, hk, rfl, hrow, hbel⟩ := hrel
      have HW := hide hrow
      clear hrow
      by_cases hlt : k < n
      · obtain ⟨bb, oo, rfl, hc⟩ := hr (by omega)
        obtain ⟨y, hy⟩ := getAt xs k (by have := Hl.out; omega)
        have ht : Hid (xs.take (k + 1) = xs.take k ++ [y]) := by
          show _ = _
          have hm := (List.getElem?_eq_some_iff.1 hy).1
          rw [List.take_succ_eq_append_getElem hm]
          rw [List.getElem?_eq_getElem hm] at hy
          rw [Option.some.inj hy]
        obtain ⟨f0, f1, f2, f3, l1⟩ := pc_cells hc hy hbel
        obtain ⟨d', b', p', t'⟩ := y
        have hmi : (k : Int) < (n : Int) := by omega
        have hzr := hbel.size
        clear hr hc hy
        by_cases h1 : d' = d
        · have HO : Hid (offP d (xs.take (k + 1)) = offP d (xs.take k)) := by show _ = _; rw [ht.out, offP_snoc, if_pos h1]
          subst h1
          go_wp2
          go_roundw
          case rel => exact ⟨k + 1, by omega, by go_num, by rw [HO.out]; exact HW.out, hbel⟩
          case measure => simp [intOf]; omega
        · have HO : Hid (offP d (xs.take (k + 1)) = offP d (xs.take k) ++ [(d', b', p', t')]) := by show _ = _; rw [ht.out, offP_snoc, if_neg h1]
          have hol : Hid ((offP d (xs.take k)).length ≤ 60) := by
            show _ ≤ _
            have := List.length_filter_le (fun y : Pc => decide (y.1 ≠ d)) (xs.take k)
            rw [List.length_take] at this
            simp only [offP]
            omega
          go_wp2_with (at_builtin; refine wpList_appendA _ rfl _ _ 23 rfl w.heap.size 31 i1 (.agg #[.int .i64 0, .int .i64 0, .int .i64 0, .int .i64 0]) 4 32 Try.underlying23 gi gz0 gz1 gz2 rfl (by decide) _ (offP d (xs.take k)).length (pcells (offP d (xs.take k))) rfl ?qown ⟨wr.heap.size, 0, none⟩ 1 1 (pcell (d', b', p', t')) rfl rfl ?qn (pcell_one _) (by decide) ?q63 ?qby ?qbase ?_)
          case qown => exact HW.out.keepB (bAlloc (Below.refl _ _) _)
          case qn => exact fun _ _ h => h
          case q63 => have := hol.out; unfold maxLen; omega
          case qby => have := hol.out; omega
          case qbase => first | omega | (simp; omega)
          intro v4 w4 hown u4
          have b4 : Below w.heap.size w w4 := bAll3 (hbel.alloc hbel.size _) u4
          go_wp2
          go_roundw
          case rel => exact ⟨k + 1, by omega, by go_num, by rw [HO.out, pcells_snoc, List.length_append]; exact .inl hown, b4⟩
          case measure => simp [intOf]; omega
      · go_wp2
        go_ret
        obtain rfl : k = n := by omega
        have h2 := HW.out
        rw [List.take_of_length_le (by rw [Hl.out]; exact Nat.le_refl _)] at h2
        exact ⟨_, rfl, by rw [HR.out]; exact h2, hbel⟩

end Go.Proofs.Ytcanhoemhdkjkab
