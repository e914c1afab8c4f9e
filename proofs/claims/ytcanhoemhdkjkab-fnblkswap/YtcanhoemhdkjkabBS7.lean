/- BlkPut, BlkGet and BlkDrop of the program: contracts; no statement of the seat is proved here. -/
import Derived.Test.YtcanhoemhdkjkabBS6
import Derived.Test.YtcanhoemhdkjkabBM2
namespace Go.Proofs.Ytcanhoemhdkjkab
open Go.RowKit

theorem owns_shape {w : World} {base : Nat} {e : TypeId} {size : Nat} {v : Value} {n : Nat} {cs : List Value} (h : w.ownsRow base e size v n cs) : ∃ ao ca, v = .slice ao n ca ∧ n ≤ ca := by
  rcases h.2 with ⟨rfl, rfl⟩ | ⟨g, cap, cur, rfl, _, _, hnc, _⟩
  · exact ⟨none, 0, rfl, Nat.le_refl _⟩
  · exact ⟨_, cap, rfl, hnc⟩
theorem owns_reads {w : World} {base : Nat} {e : TypeId} {size : Nat} {v : Value} {n : Nat} {cs : List Value} (h : w.ownsRow base e size v n cs) (hn : n ≤ 9223372036854775807) : RowR w size v n cs := (Row.ofOwns h hn).reads
theorem owns_keep {w w' : World} {base : Nat} {e : TypeId} {size : Nat} {v : Value} {n : Nat} {cs : List Value} (h : w.ownsRow base e size v n cs) (hb : Below w.heap.size w w') : w'.ownsRow base e size v n cs := by
  obtain ⟨hl, h⟩ := h
  refine ⟨hl, ?_⟩
  rcases h with h | ⟨g, cap, cur, rfl, hg, hh, h1, h2, h3, h4⟩
  · exact .inl h
  · exact .inr ⟨g, cap, cur, rfl, hg, bKeeps hb hh, h1, h2, h3, h4⟩

set_option maxHeartbeats 2000000 in
theorem implBlkPut_any (ao : Option Addr) (ca : Nat) (xs : List Pc) (d b p t : Int) (w : World) (hr : RowR w 4 (.slice ao xs.length ca) xs.length (pcells xs)) (hca : xs.length ≤ ca) :
    Calls Try.prog 12 #[.slice ao xs.length ca, .int .i64 d, .int .i64 b, .int .i64 p, .int .i64 t] w fun e w' => ∃ v', e = .returned (.tuple #[v', .bool (putR xs (d, b, p, t)).2]) ∧ w'.ownsRow w.heap.size 31 4 v' (putR xs (d, b, p, t)).1.length (pcells (putR xs (d, b, p, t)).1) ∧ Below w.heap.size w w' := by
  have Hr := hide hr
  have cK := implBlkOk_any _ xs w hr
  obtain ⟨_, _, _, hn, -⟩ := hr
  cases hok : okP xs
  · have HR : Hid (putR xs (d, b, p, t) = ([], false)) := by show _ = _; simp [putR, hok]
    rw [hok] at cK
    go_enter Try.func12, Try.ntmps12
    go_wp2_with fail
    refine cK.mono ?_
    rintro e w1 ⟨rfl, b1⟩
    go_wp2
    rw [HR.out]
    exact bodyPost_ret (v := .tuple #[.slice none 0 0, .bool false]) (by simp [results, Try.results12, go_sem]) rfl ⟨_, rfl, World.ownsRow_nil _ _ _ _, b1⟩
  · have hl := ok_len hok
    have ha := ok_asc ordOkP hok
    rw [hok] at cK
    have cW := fun w h => withP_any ao ca xs (d, b, p, t) w h hca hl ha
    obtain ⟨ys, hys⟩ : ∃ ys, insL ordP xs (d, b, p, t) = ys := ⟨_, rfl⟩
    rw [hys] at cW
    have hyl : ys.length ≤ 61 := by rw [← hys]; have := ins_len (ord := ordP) xs (d, b, p, t); omega
    cases hok2 : okP ys
    · have HR : Hid (putR xs (d, b, p, t) = (xs, false)) := by show _ = _; simp [putR, hok, hys, hok2]
      go_enter Try.func12, Try.ntmps12
      go_wp2_with fail
      refine cK.mono ?_
      rintro e w1 ⟨rfl, b1⟩
      go_wp2_with fail
      refine (cW _ (Hr.out.keep b1)).mono ?_
      rintro e w2 ⟨v2, rfl, r2, b2⟩
      go_wp2_with fail
      refine (implBlkOk_any _ ys _ (owns_reads r2 (by omega))).mono ?_
      rintro e w3 ⟨rfl, b3⟩
      rw [hok2]
      go_wp2_with fail
      refine (copyP_any _ xs.length (pcells xs) _ (Hr.out.keep (bAll b1 (bAll b2 b3))) (pcells_one _) (by omega)).mono ?_
      rintro e w4 ⟨v4, rfl, r4, b4⟩
      go_wp2
      rw [HR.out]
      exact bodyPost_ret (v := .tuple #[v4, .bool false]) (by simp [results, Try.results12, go_sem]) rfl ⟨_, rfl, owns_mono r4 (bAll b1 (bAll b2 b3)).size, bAll b1 (bAll b2 (bAll b3 b4))⟩
    · have HR : Hid (putR xs (d, b, p, t) = (ys, true)) := by show _ = _; simp [putR, hok, hys, hok2]
      go_enter Try.func12, Try.ntmps12
      go_wp2_with fail
      refine cK.mono ?_
      rintro e w1 ⟨rfl, b1⟩
      go_wp2_with fail
      refine (cW _ (Hr.out.keep b1)).mono ?_
      rintro e w2 ⟨v2, rfl, r2, b2⟩
      go_wp2_with fail
      refine (implBlkOk_any _ ys _ (owns_reads r2 (by omega))).mono ?_
      rintro e w3 ⟨rfl, b3⟩
      rw [hok2]
      go_wp2
      rw [HR.out]
      exact bodyPost_ret (v := .tuple #[v2, .bool true]) (by simp [results, Try.results12, go_sem]) rfl ⟨_, rfl, owns_mono (owns_keep r2 b3) b1.size, bAll b1 (bAll b2 b3)⟩

set_option maxHeartbeats 2000000 in
theorem implBlkGet_any (ao : Option Addr) (ca : Nat) (xs : List Pc) (d b p : Int) (w : World) (hr : RowR w 4 (.slice ao xs.length ca) xs.length (pcells xs)) :
    Calls Try.prog 14 #[.slice ao xs.length ca, .int .i64 d, .int .i64 b, .int .i64 p] w fun e w' => e = .returned (.int .i64 (getR xs d b p)) ∧ Below w.heap.size w w' := by
  have Hr := hide hr
  have cK := implBlkOk_any _ xs w hr
  cases hok : okP xs
  · have HR : Hid (getR xs d b p = 0) := by show _ = _; simp [getR, hok]
    rw [hok] at cK
    go_enter Try.func14, Try.ntmps14
    go_wp2_with fail
    refine cK.mono ?_
    rintro e w1 ⟨rfl, b1⟩
    go_wp2
    go_ret
    exact ⟨by rw [HR.out]; rfl, b1⟩
  · have HR : Hid (getR xs d b p = getL d b p xs) := by show _ = _; simp [getR, hok]
    have hl := ok_len hok
    have ha := ok_asc ordOkP hok
    rw [hok] at cK
    have HA := hide ha
    obtain ⟨_, _, e0, hn, -, hr⟩ := hr
    injection e0 with e1 e2 e3
    subst e1 e3
    obtain ⟨n, hnn⟩ : ∃ n, xs.length = n := ⟨_, rfl⟩
    have Hl := hide hnn
    have hnn' := hnn
    have cF := fun w h => findP_any (.slice ao xs.length ca) xs (d, b, p, 0) w h hl ha
    rw [hnn] at cF hn hl hr Hr cK ⊢
    clear hnn hnn' hok ha e2
    go_enter Try.func14, Try.ntmps14
    go_wp2_with fail
    refine cK.mono ?_
    rintro e w1 ⟨rfl, b1⟩
    go_wp2_with fail
    refine (cF _ (Hr.out.keep b1)).mono ?_
    rintro e w2 ⟨q, there, rfl, hat, b2⟩
    clear cF cK
    have b12 := bAll b1 b2
    cases there
    · rcases Nat.eq_zero_or_pos q with rfl | hpos
      · have HG := hide (get_first HA.out hat)
        clear hr
        go_wp2
        go_ret
        exact ⟨by rw [HR.out, HG.out]; rfl, b12⟩
      · obtain ⟨m, rfl⟩ : ∃ m, q = m + 1 := ⟨q - 1, by omega⟩
        have hqn : m + 1 ≤ n := by have := hat.le; have := Hl.out; omega
        obtain ⟨bb, oo, rfl, hc⟩ := hr (by omega)
        obtain ⟨y, hy⟩ := getAt xs m (by have := Hl.out; omega)
        have HG := hide (get_ahead HA.out hat hy)
        obtain ⟨f0, f1, f2, f3, l1⟩ := pc_cells hc hy b12
        obtain ⟨d', b', p', t'⟩ := y
        have hmi : (m : Int) < (n : Int) := by omega
        have hwm : IntKind.i64.wrap (m : Int) = (m : Int) := wrapN m (by omega)
        have hne : ¬ ((m : Int) + 1 = 0) := by omega
        clear hr hc hy
        simp only at HG
        by_cases h1 : d' = d
        · by_cases h2 : b' = b
          · rw [if_pos ⟨h1, h2⟩] at HG
            subst h1 h2
            go_wp2
            go_ret
            exact ⟨by rw [HR.out, HG.out]; rfl, b12⟩
          · rw [if_neg (fun h => h2 h.2)] at HG
            have hbb : (b' != b) = true := by simpa using h2
            have hm0 : ((m : Int) + 1 == 0) = false := by simpa using hne
            subst h1
            go_wp2
            go_ret
            exact ⟨by rw [HR.out, HG.out]; rfl, b12⟩
        · rw [if_neg (fun h => h1 h.1)] at HG
          go_wp2
          go_ret
          exact ⟨by rw [HR.out, HG.out]; rfl, b12⟩
    · obtain ⟨y, hy, -⟩ := hat.th.1 rfl
      have hqn : q < n := by have := (List.getElem?_eq_some_iff.1 hy).1; have := Hl.out; omega
      obtain ⟨bb, oo, rfl, hc⟩ := hr (by omega)
      have HG := hide (get_here HA.out hat hy)
      obtain ⟨f0, f1, f2, f3, l1⟩ := pc_cells hc hy b12
      obtain ⟨d', b', p', t'⟩ := y
      have hmi : (q : Int) < (n : Int) := by omega
      clear hr hc hy
      go_wp2
      go_ret
      exact ⟨by rw [HR.out, HG.out]; rfl, b12⟩

set_option maxHeartbeats 2000000 in
theorem implBlkDrop_any (ao : Option Addr) (ca : Nat) (xs : List Pc) (d : Int) (w : World) (hr : RowR w 4 (.slice ao xs.length ca) xs.length (pcells xs)) :
    Calls Try.prog 19 #[.slice ao xs.length ca, .int .i64 d] w fun e w' => ∃ v', e = .returned v' ∧ w'.ownsRow w.heap.size 31 4 v' (dropR xs d).length (pcells (dropR xs d)) ∧ Below w.heap.size w w' := by
  obtain ⟨i1, gi, gz0, gz1, gz2⟩ := info_parts infoPc
  have cK := implBlkOk_any _ xs w hr
  cases hok : okP xs
  · have HR : Hid (dropR xs d = []) := by show _ = _; simp [dropR, hok]
    rw [hok] at cK
    go_enter Try.func19, Try.ntmps19
    go_wp2_with fail
    refine cK.mono ?_
    rintro e w1 ⟨rfl, b1⟩
    go_wp2
    go_ret
    exact ⟨_, rfl, by rw [HR.out]; exact World.ownsRow_nil _ _ _ _, b1⟩
  · have HR : Hid (dropR xs d = offP d xs) := by show _ = _; simp [dropR, hok]
    have hl := ok_len hok
    rw [hok] at cK
    obtain ⟨_, _, e0, hn, -, hr⟩ := hr
    injection e0 with e1 e2 e3
    subst e1 e3
    obtain ⟨n, hnn⟩ : ∃ n, xs.length = n := ⟨_, rfl⟩
    have Hl := hide hnn
    rw [hnn] at hn hl hr cK ⊢
    clear hnn hok e2
    go_enter Try.func19, Try.ntmps19
    go_wp2_with fail
    refine cK.mono ?_
    rintro e w1 ⟨rfl, b1⟩
    clear cK
    have hz1 := b1.size
    go_wp2
    go_loopw [13, 5] (fun i o wr => ∃ k : Nat, k ≤ n ∧ i = .int .i64 k ∧ wr.ownsRow w.heap.size 31 4 o (offP d (xs.take k)).length (pcells (offP d (xs.take k))) ∧ Below w.heap.size w wr) (fun i _ _ => n - (intOf i).toNat)
    case atStart => exact ⟨0, Nat.zero_le _, rfl, World.ownsRow_nil _ _ _ _, b1⟩
    case round =>
      obtain ⟨k, hk, rfl, hrow, hbel⟩ := hrel
      have HW := hide hrow
      clear hrow
      by_cases hlt : k < n
      · obtain ⟨bb, oo, rfl, hc⟩ := hr (by omega)
        obtain ⟨y, hy⟩ := getAt xs k (by have := Hl.out; omega)
        have ht : Hid (xs.take (k + 1) = xs.take k ++ [y]) := by
          show _ = _
          have hm := (List.getElem?_eq_some_iff.1 hy).1
          rw [List.take_succ_eq_append_getElem hm]
          rw [List.getElem?_eq_getElem hm] at hy
          rw [Option.some.inj hy]
        obtain ⟨f0, f1, f2, f3, l1⟩ := pc_cells hc hy hbel
        obtain ⟨d', b', p', t'⟩ := y
        have hmi : (k : Int) < (n : Int) := by omega
        have hzr := hbel.size
        clear hr hc hy
        have hal : Below w.heap.size w (wr.alloc (.cells #[.int .i64 d', .int .i64 b', .int .i64 p', .int .i64 t'] 31)) := hbel.alloc hbel.size _
        by_cases h1 : d' = d
        · have HO : Hid (offP d (xs.take (k + 1)) = offP d (xs.take k)) := by show _ = _; rw [ht.out, offP_snoc, if_pos h1]
          subst h1
          go_wp2
          go_roundw
          case rel => exact ⟨k + 1, by omega, by go_num, by rw [HO.out]; exact owns_keep HW.out ((Below.refl _ _).alloc (Nat.le_refl _) _), hal⟩
          case measure => simp [intOf]; omega
        · have HO : Hid (offP d (xs.take (k + 1)) = offP d (xs.take k) ++ [(d', b', p', t')]) := by show _ = _; rw [ht.out, offP_snoc, if_neg h1]
          have hol : Hid ((offP d (xs.take k)).length ≤ 60) := by
            show _ ≤ _
            have := List.length_filter_le (fun y : Pc => decide (y.1 ≠ d)) (xs.take k)
            rw [List.length_take] at this
            simp only [offP]
            omega
          have A0 := hide (bAlloc (Below.refl wr.heap.size wr) (.cells #[.int .i64 d', .int .i64 b', .int .i64 p', .int .i64 t'] 31))
          go_wp2_with (at_builtin; refine wpList_appendA _ rfl _ _ 23 rfl w.heap.size 31 i1 (.agg #[.int .i64 0, .int .i64 0, .int .i64 0, .int .i64 0]) 4 32 Try.underlying23 gi gz0 gz1 gz2 rfl (by decide) _ (offP d (xs.take k)).length (pcells (offP d (xs.take k))) rfl ?qown ⟨wr.heap.size + 1, 0, none⟩ 1 1 (pcell (d', b', p', t')) rfl rfl ?qn (pcell_one _) (by decide) ?q63 ?qby ?qbase ?_)
          case qown => exact .inl (owns_keep HW.out (bAlloc A0.out _))
          case qn => exact fun _ _ h => h
          case q63 => have := hol.out; unfold maxLen; omega
          case qby => have := hol.out; omega
          case qbase => first | omega | (simp; omega)
          intro v4 w4 hown u4
          have b4 : Below w.heap.size w w4 := bAll3 (hal.alloc hal.size _) u4
          go_wp2
          go_roundw
          case rel => exact ⟨k + 1, by omega, by go_num, by rw [HO.out, pcells_snoc, List.length_append]; exact hown, b4⟩
          case measure => simp [intOf]; omega
      · go_wp2
        go_ret
        obtain rfl : k = n := by omega
        have h2 := HW.out
        rw [List.take_of_length_le (by rw [Hl.out]; exact Nat.le_refl _)] at h2
        exact ⟨_, rfl, by rw [HR.out]; exact h2, hbel⟩

end Go.Proofs.Ytcanhoemhdkjkab
