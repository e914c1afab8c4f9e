/- Contracts and plain facts that this claim leans on (texts BS6, BS7, XI2, XS, XH3, XL, RA, VP, VP2); no statement of the seat is proved here. -/
import Derived.Test.YtiigcokbmggdkaaTk1
import Derived.Deep.WholeRow
import Derived.Laws.CopyRow

/- Copies of pieces, and pieces with one put into its place: contracts; no statement of the seat is proved here. -/
namespace Go.Proofs.Ytiigcokbmggdkaa
open Go.RowKit

/-- A part of a slice. -/
theorem RowR.drop {w : World} {size n k : Nat} {b off cap c' : Nat} {cs : List Value} (h : RowR w size (.slice (some ⟨b, off, none⟩) n cap) n cs) (hk : k ≤ n) : RowR w size (.slice (some ⟨b, off + k * size, none⟩) (n - k) c') (n - k) (cs.drop (k * size)) := by
  obtain ⟨ao, ca, e, hn, hl, h⟩ := h
  injection e with e1 e2 e3
  subst e1
  refine ⟨_, _, rfl, by omega, by rw [List.length_drop, hl, Nat.sub_mul], fun h0 => ⟨b, off + k * size, rfl, fun j u hj => ?_⟩⟩
  obtain ⟨b', off', e, hc⟩ := h (by omega)
  injection e with e
  injection e with e1 e2
  subst e1 e2
  rw [List.getElem?_drop] at hj
  rw [Nat.add_assoc]
  exact hc _ u hj
theorem RowR.take {w : World} {size n k : Nat} {ao : Option Addr} {cap c' : Nat} {cs : List Value} (h : RowR w size (.slice ao n cap) n cs) (hk : k ≤ n) : RowR w size (.slice ao k c') k (cs.take (k * size)) := by
  obtain ⟨ao', ca, e, hn, hl, h⟩ := h
  injection e with e1 e2 e3
  subst e1
  refine ⟨_, _, rfl, by omega, by rw [List.length_take, hl, Nat.min_eq_left (Nat.mul_le_mul_right _ hk)], fun h0 => ?_⟩
  obtain ⟨b', off', rfl, hc⟩ := h (by omega)
  refine ⟨b', off', rfl, fun j u hj => hc j u ?_⟩
  have := (List.getElem?_eq_some_iff.1 hj).1
  rw [List.length_take] at this
  rwa [List.getElem?_take_of_lt (by omega)] at hj

theorem RowR.zero {w : World} {size c : Nat} {ao : Option Addr} : RowR w size (.slice ao 0 c) 0 [] := ⟨ao, c, rfl, by omega, by simp, fun h => by omega⟩

end Go.Proofs.Ytiigcokbmggdkaa

/- BlkPut, BlkGet and BlkDrop of the program: contracts; no statement of the seat is proved here. -/
namespace Go.Proofs.Ytiigcokbmggdkaa
open Go.RowKit

theorem owns_shape {w : World} {base : Nat} {e : TypeId} {size : Nat} {v : Value} {n : Nat} {cs : List Value} (h : w.ownsRow base e size v n cs) : ∃ ao ca, v = .slice ao n ca ∧ n ≤ ca := by
  rcases h.2 with ⟨rfl, rfl⟩ | ⟨g, cap, cur, rfl, _, _, hnc, _⟩
  · exact ⟨none, 0, rfl, Nat.le_refl _⟩
  · exact ⟨_, cap, rfl, hnc⟩
end Go.Proofs.Ytiigcokbmggdkaa

/- Whether the numbers of a word are in bounds, and whether a word fits, in the program: contracts; no statement of the seat is proved here. -/
namespace Go.Proofs.Ytiigcokbmggdkaa
open Go.RowKit

set_option maxRecDepth 100000 in
set_option maxHeartbeats 2000000 in
theorem wordInBounds_any (N b o n c : Nat) (xs : List Int) (w : World) (hn : n ≤ 24) (hl : xs.length = n) (hN : ∀ k, k < n → w.cell? ⟨N, k, none⟩ = some (.pointer (some ⟨b, o + k, none⟩))) (hX : ∀ k a, xs[k]? = some a → w.cell? ⟨b, o + k, none⟩ = some (.int .i64 a)) :
    Calls Try.prog 136 #[.slice (some ⟨N, 0, none⟩) n c] w fun e w' => e = .returned (.bool (xs.all numI)) ∧ w' = w := by
  obtain ⟨R, HR⟩ : ∃ R, Hid (xs.all numI = R) := ⟨_, rfl⟩
  rw [HR.out]
  have HL := hide hl
  have HN := hide hN
  have HX := hide hX
  clear hl hN hX
  go_enter Try.func136, Try.ntmps136
  go_wp2
  go_loopw [7] (fun i wr => ∃ k : Nat, k ≤ n ∧ i = .int .i64 k ∧ (∀ j a, j < k → xs[j]? = some a → numI a = true) ∧ wr = w) (fun i _ => n - (intOf i).toNat)
  case atStart => exact ⟨0, Nat.zero_le _, rfl, fun j a hj => by omega, rfl⟩
  case round =>
    obtain ⟨k, hk, rfl, hgood, rfl⟩ := hrel
    have HG := hide hgood
    clear hgood
    by_cases hlt : k < n
    · obtain ⟨a, ha⟩ := getAt xs k (by have := HL.out; omega)
      have hc := HN.out k hlt
      have hd := HX.out k a ha
      have Ha := hide ha
      have hi : (k : Int) < (n : Int) := by omega
      clear ha
      go_wp2_with fail
      refine (blkWithin_any a (-1) 99999 _).mono ?_
      rintro e w' ⟨rfl, rfl⟩
      rcases hb : inI a (-1) 99999 with _ | _
      · have hno : Hid (R = false) := by
          show _ = _
          rw [← HR.out, List.all_eq_false.2 ⟨a, List.mem_of_getElem? Ha.out, by simp [numI, hb]⟩]
        go_wp2
        go_ret
        exact ⟨by rw [hno.out]; rfl, rfl⟩
      · go_wp2
        go_roundw
        case rel =>
          refine ⟨k + 1, by omega, by go_num, fun j b hj hbj => ?_, by trivial⟩
          by_cases hjk : j = k
          · subst hjk
            rw [Ha.out] at hbj
            rw [← Option.some.inj hbj]
            exact hb
          · exact HG.out j b (by omega) hbj
        case measure => simp [intOf]; omega
    · have hall : Hid (R = true) := by
        show _ = _
        rw [← HR.out]
        refine List.all_eq_true.2 (fun a ha => ?_)
        obtain ⟨j, hj, e⟩ := List.getElem_of_mem ha
        exact HG.out j a (by have := HL.out; omega) (by rw [List.getElem?_eq_getElem hj, e])
      have hge : ¬ (k : Int) < (n : Int) := by omega
      go_wp2
      go_ret
      exact ⟨by rw [hall.out]; rfl, rfl⟩

set_option maxHeartbeats 400000 in
theorem wordIsServer_any (n : Int) (w : World) :
    Calls Try.prog 90 #[.int .i64 n] w fun e w' => e = .returned (.bool (inI n 0 4)) ∧ w' = w := by
  go_enter Try.func90, Try.ntmps90
  go_wp2_with fail
  refine (blkWithin_any n 0 4 _).mono ?_
  rintro e w1 ⟨rfl, rfl⟩
  go_wp2
  go_ret
  exact ⟨rfl, rfl⟩

/-- The numbers of a command. -/
def Wd.cnums (x : Wd) : List Int := [x.c0, x.c1, x.c2, x.c3, x.c4, x.c5, x.c6, x.c7, x.c8, x.c9]
theorem cmdI_eq (x : Wd) : cmdI x = (inI x.c0 0 7 && x.cnums.all numI) := by
  unfold cmdI Wd.cnums
  rcases h : inI x.c0 0 7 with _ | _
  · rfl
  · have : numI x.c0 = true := by
      simp only [inI, Bool.and_eq_true, decide_eq_true_eq] at h
      simp only [numI, inI, Bool.and_eq_true, decide_eq_true_eq]
      omega
    simp only [List.all_cons, List.all_nil, this, Bool.true_and, Bool.and_true]

set_option maxRecDepth 100000 in
set_option maxHeartbeats 2000000 in
theorem cmdInForm_any (x : Wd) (w : World) :
    Calls Try.prog 129 #[ .agg #[.int .i64 x.c0, .int .i64 x.c1, .int .i64 x.c2, .int .i64 x.c3, .int .i64 x.c4, .int .i64 x.c5, .int .i64 x.c6, .int .i64 x.c7, .int .i64 x.c8, .int .i64 x.c9] ] w fun e w' => e = .returned (.bool (cmdI x)) ∧ Below w.heap.size w w' := by
  obtain ⟨R, HR⟩ : ∃ R, Hid (cmdI x = R) := ⟨_, rfl⟩
  rw [HR.out]
  go_enter Try.func129, Try.ntmps129
  go_wp2_with fail
  generalize hW : World.alloc _ _ = W
  have hal : Below w.heap.size w W := by rw [← hW]; exact bal (Below.refl _ _) _
  have B0 : W.heap[w.heap.size]? = some (.cells #[.int .i64 x.c0, .int .i64 x.c1, .int .i64 x.c2, .int .i64 x.c3, .int .i64 x.c4, .int .i64 x.c5, .int .i64 x.c6, .int .i64 x.c7, .int .i64 x.c8, .int .i64 x.c9] 36 (0, 0)) := by rw [← hW]; exact heap_alloc_new w _
  clear hW
  refine (cmdNumbers_any w.heap.size 0 _).mono ?_
  rintro e w1 ⟨ps, rfl, hps, b1⟩
  have C0 := bKeeps b1 B0
  have c1 := bAll hal b1
  have HP := hide hps
  have h10 : (Try.prog.info? 192).map (·.size) = some ps.size := by rw [hps.1]; exact info10
  have HS := hide (show 10 = ps.size from hps.1.symm)
  have H1 := hide hps.one
  have H10 := hide h10
  clear hps h10 B0 b1 hal
  have D0 := heap_up (.cells ps 192) C0
  have hN : ∀ k, k < 10 → (w1.alloc (.cells ps 192)).cell? ⟨w1.heap.size, k, none⟩ = some (.pointer (some ⟨w.heap.size, 0 + k, none⟩)) := fun k hk => (boxAt (heap_alloc_new w1 _) k).trans (HP.out.2 k hk)
  have hX : ∀ k a, x.cnums[k]? = some a → (w1.alloc (.cells ps 192)).cell? ⟨w.heap.size, 0 + k, none⟩ = some (.int .i64 a) := by
    intro k a h
    rw [boxAt D0, Nat.zero_add]
    have hk : k < 10 := (List.getElem?_eq_some_iff.1 h).1
    rcases (by omega : k = 0 ∨ k = 1 ∨ k = 2 ∨ k = 3 ∨ k = 4 ∨ k = 5 ∨ k = 6 ∨ k = 7 ∨ k = 8 ∨ k = 9) with rfl | rfl | rfl | rfl | rfl | rfl | rfl | rfl | rfl | rfl <;> (obtain rfl := Option.some.inj h; rfl)
  have HB := hide (wordInBounds_any w1.heap.size w.heap.size 0 10 10 x.cnums _ (by omega) rfl hN hX)
  have d0 : (w1.alloc (.cells ps 192)).cell? ⟨w.heap.size, 0, none⟩ = some (.int .i64 x.c0) := boxAt D0 0
  clear hN hX D0 C0
  have c2 := bal c1 (.cells ps 192)
  go_wp2_with (refine wpList_store_row rfl 192 (.tmp 3) (.tmp 4) rfl w1.heap.size ps rfl rfl _ _ (heap_alloc_new w1 _) H10.out HS.out H1.out ?_; rw [World.setRow_alloc_new])
  refine (blkWithin_any x.c0 0 7 _).mono ?_
  rintro e w' ⟨rfl, rfl⟩
  rcases hb : inI x.c0 0 7 with _ | _
  · have hno : Hid (R = false) := by show _ = _; rw [← HR.out, cmdI_eq, hb, Bool.false_and]
    go_wp2
    go_ret
    exact ⟨by rw [hno.out]; rfl, c2⟩
  · have hR : Hid (R = x.cnums.all numI) := by show _ = _; rw [← HR.out, cmdI_eq, hb, Bool.true_and]
    go_wp2_with fail
    refine HB.out.mono ?_
    rintro e w' ⟨rfl, rfl⟩
    go_wp2
    go_ret
    exact ⟨by rw [hR.out]; rfl, c2⟩

end Go.Proofs.Ytiigcokbmggdkaa

/- WordOk of the specification: contracts; no statement of the seat is proved here. -/
namespace Go.Proofs.Ytiigcokbmggdkaa
open Go.RowKit

set_option maxHeartbeats 400000 in
theorem l11Num_any (n : Int) (w : World) :
    Calls Try.prog 103 #[.int .i64 n] w fun e w' => e = .returned (.bool (numI n)) ∧ w' = w := by
  go_enter Try.func103, Try.ntmps103
  go_wp2_with fail
  refine (l6In_inI n (-1) 99999 _).mono ?_
  rintro e w1 ⟨rfl, rfl⟩
  go_wp2
  go_ret
  exact ⟨rfl, rfl⟩

set_option maxRecDepth 100000 in
set_option maxHeartbeats 4000000 in
theorem l11CmdOk_any (x : Wd) (w : World) :
    Calls Try.prog 82 #[ .agg #[.int .i64 x.c0, .int .i64 x.c1, .int .i64 x.c2, .int .i64 x.c3, .int .i64 x.c4, .int .i64 x.c5, .int .i64 x.c6, .int .i64 x.c7, .int .i64 x.c8, .int .i64 x.c9] ] w fun e w' => e = .returned (.bool (cmdI x)) ∧ Below w.heap.size w w' := by
  obtain ⟨R, HR⟩ : ∃ R, Hid (cmdI x = R) := ⟨_, rfl⟩
  rw [HR.out]
  go_enter Try.func82, Try.ntmps82
  go_wp2_with fail
  refine (l6In_inI x.c0 0 7 _).mono ?_
  rintro e w' ⟨rfl, rfl⟩
  rcases hb0 : inI x.c0 0 7 with _ | _
  · have hno : Hid (R = false) := by show _ = _; rw [← HR.out]; simp only [cmdI, hb0, Bool.false_and]
    go_wp2
    go_ret
    exact ⟨by rw [hno.out]; rfl, bal (Below.refl _ _) _⟩
  go_wp2_with fail
  refine (l11Num_any x.c1 _).mono ?_
  rintro e w' ⟨rfl, rfl⟩
  rcases hb1 : numI x.c1 with _ | _
  · have hno : Hid (R = false) := by show _ = _; rw [← HR.out]; simp only [cmdI, hb0, hb1, Bool.true_and, Bool.false_and]
    go_wp2
    go_ret
    exact ⟨by rw [hno.out]; rfl, bal (Below.refl _ _) _⟩
  go_wp2_with fail
  refine (l11Num_any x.c2 _).mono ?_
  rintro e w' ⟨rfl, rfl⟩
  rcases hb2 : numI x.c2 with _ | _
  · have hno : Hid (R = false) := by show _ = _; rw [← HR.out]; simp only [cmdI, hb0, hb1, hb2, Bool.true_and, Bool.false_and]
    go_wp2
    go_ret
    exact ⟨by rw [hno.out]; rfl, bal (Below.refl _ _) _⟩
  go_wp2_with fail
  refine (l11Num_any x.c3 _).mono ?_
  rintro e w' ⟨rfl, rfl⟩
  rcases hb3 : numI x.c3 with _ | _
  · have hno : Hid (R = false) := by show _ = _; rw [← HR.out]; simp only [cmdI, hb0, hb1, hb2, hb3, Bool.true_and, Bool.false_and]
    go_wp2
    go_ret
    exact ⟨by rw [hno.out]; rfl, bal (Below.refl _ _) _⟩
  go_wp2_with fail
  refine (l11Num_any x.c4 _).mono ?_
  rintro e w' ⟨rfl, rfl⟩
  rcases hb4 : numI x.c4 with _ | _
  · have hno : Hid (R = false) := by show _ = _; rw [← HR.out]; simp only [cmdI, hb0, hb1, hb2, hb3, hb4, Bool.true_and, Bool.false_and]
    go_wp2
    go_ret
    exact ⟨by rw [hno.out]; rfl, bal (Below.refl _ _) _⟩
  go_wp2_with fail
  refine (l11Num_any x.c5 _).mono ?_
  rintro e w' ⟨rfl, rfl⟩
  rcases hb5 : numI x.c5 with _ | _
  · have hno : Hid (R = false) := by show _ = _; rw [← HR.out]; simp only [cmdI, hb0, hb1, hb2, hb3, hb4, hb5, Bool.true_and, Bool.false_and]
    go_wp2
    go_ret
    exact ⟨by rw [hno.out]; rfl, bal (Below.refl _ _) _⟩
  go_wp2_with fail
  refine (l11Num_any x.c6 _).mono ?_
  rintro e w' ⟨rfl, rfl⟩
  rcases hb6 : numI x.c6 with _ | _
  · have hno : Hid (R = false) := by show _ = _; rw [← HR.out]; simp only [cmdI, hb0, hb1, hb2, hb3, hb4, hb5, hb6, Bool.true_and, Bool.false_and]
    go_wp2
    go_ret
    exact ⟨by rw [hno.out]; rfl, bal (Below.refl _ _) _⟩
  go_wp2_with fail
  refine (l11Num_any x.c7 _).mono ?_
  rintro e w' ⟨rfl, rfl⟩
  rcases hb7 : numI x.c7 with _ | _
  · have hno : Hid (R = false) := by show _ = _; rw [← HR.out]; simp only [cmdI, hb0, hb1, hb2, hb3, hb4, hb5, hb6, hb7, Bool.true_and, Bool.false_and]
    go_wp2
    go_ret
    exact ⟨by rw [hno.out]; rfl, bal (Below.refl _ _) _⟩
  go_wp2_with fail
  refine (l11Num_any x.c8 _).mono ?_
  rintro e w' ⟨rfl, rfl⟩
  rcases hb8 : numI x.c8 with _ | _
  · have hno : Hid (R = false) := by show _ = _; rw [← HR.out]; simp only [cmdI, hb0, hb1, hb2, hb3, hb4, hb5, hb6, hb7, hb8, Bool.true_and, Bool.false_and]
    go_wp2
    go_ret
    exact ⟨by rw [hno.out]; rfl, bal (Below.refl _ _) _⟩
  go_wp2_with fail
  refine (l11Num_any x.c9 _).mono ?_
  rintro e w' ⟨rfl, rfl⟩
  have hR : Hid (R = numI x.c9) := by show _ = _; rw [← HR.out]; simp only [cmdI, hb0, hb1, hb2, hb3, hb4, hb5, hb6, hb7, hb8, Bool.true_and]
  go_wp2
  go_ret
  exact ⟨by rw [hR.out]; rfl, bal (Below.refl _ _) _⟩

end Go.Proofs.Ytiigcokbmggdkaa

/- Words held against each other, marked, and looked at for their marks: contracts; no statement of the seat is proved here. -/
namespace Go.Proofs.Ytiigcokbmggdkaa
open Go.RowKit

set_option maxHeartbeats 4000000 in
theorem eqCmd_true (x : Wd) (w : World) :
    Calls Try.prog 60 #[ .agg #[.int .i64 x.c0, .int .i64 x.c1, .int .i64 x.c2, .int .i64 x.c3, .int .i64 x.c4, .int .i64 x.c5, .int .i64 x.c6, .int .i64 x.c7, .int .i64 x.c8, .int .i64 x.c9], .agg #[.int .i64 x.c0, .int .i64 x.c1, .int .i64 x.c2, .int .i64 x.c3, .int .i64 x.c4, .int .i64 x.c5, .int .i64 x.c6, .int .i64 x.c7, .int .i64 x.c8, .int .i64 x.c9] ] w fun e w' => e = .returned (.bool true) ∧ Below w.heap.size w w' := by
  go_enter Try.func60, Try.ntmps60
  go_wp2
  go_ret
  exact ⟨rfl, bal (bal (Below.refl _ _) _) _⟩

set_option maxRecDepth 100000 in
set_option maxHeartbeats 8000000 in
theorem eqWord_true (va vb : Value) (x : Wd) (w : World) (ha : WdR w va x) (hb : WdR w vb x) :
    Calls Try.prog 16 #[va, vb] w fun e w' => e = .returned (.bool true) ∧ Below w.heap.size w w' := by
  obtain ⟨po, pc, lo, lc, rfl, a1, a2⟩ := ha
  obtain ⟨po', pc', lo', lc', rfl, d1, d2⟩ := hb
  go_enter Try.func16, Try.ntmps16
  go_wp2_with fail
  generalize hW : World.alloc _ _ = W
  have hal : Below w.heap.size w W := by rw [← hW]; exact bal (bal (Below.refl _ _) _) _
  have B0 : W.heap[w.heap.size]? = some (.cells (#[.int .i64 x.a0, .int .i64 x.a1, .int .i64 x.a2, .int .i64 x.a3, .int .i64 x.a4, .int .i64 x.a5, .int .i64 x.c0, .int .i64 x.c1, .int .i64 x.c2, .int .i64 x.c3, .int .i64 x.c4, .int .i64 x.c5, .int .i64 x.c6, .int .i64 x.c7, .int .i64 x.c8, .int .i64 x.c9, .int .i64 x.b0, .int .i64 x.b1, .int .i64 x.b2, .int .i64 x.b3, .int .i64 x.b4, .int .i64 x.b5, .int .i64 x.b6, .int .i64 x.b7, .slice po x.ps.length pc, .slice lo x.ls.length lc] : Array Value) 40 (0, 0)) := by rw [← hW]; exact al2_0 w _ _
  have B1 : W.heap[w.heap.size + 1]? = some (.cells (#[.int .i64 x.a0, .int .i64 x.a1, .int .i64 x.a2, .int .i64 x.a3, .int .i64 x.a4, .int .i64 x.a5, .int .i64 x.c0, .int .i64 x.c1, .int .i64 x.c2, .int .i64 x.c3, .int .i64 x.c4, .int .i64 x.c5, .int .i64 x.c6, .int .i64 x.c7, .int .i64 x.c8, .int .i64 x.c9, .int .i64 x.b0, .int .i64 x.b1, .int .i64 x.b2, .int .i64 x.b3, .int .i64 x.b4, .int .i64 x.b5, .int .i64 x.b6, .int .i64 x.b7, .slice po' x.ps.length pc', .slice lo' x.ls.length lc'] : Array Value) 40 (0, 0)) := by rw [← hW]; exact al2_1 w _ _
  clear hW
  refine (eqCmd_true x _).mono ?_
  rintro e w1 ⟨rfl, b1⟩
  have C0 := bKeeps b1 B0
  have C1 := bKeeps b1 B1
  have hc0 := boxAt C0
  have hc1 := boxAt C1
  have H0 := hide C0
  have H1 := hide C1
  have c1 := bAll hal b1
  clear B0 B1 C0 C1
  go_wp2_with fail
  clear hc0 hc1
  refine (eqBlkPieceS_true _ _ _ x.ps _ (a1.keep c1) (d1.keep c1)).mono ?_
  rintro e w2 ⟨rfl, b2⟩
  have hc0 := boxAt (bKeeps b2 H0.out)
  have hc1 := boxAt (bKeeps b2 H1.out)
  have c2 := bAll c1 b2
  go_wp2_with fail
  refine (eqBlkLastS_true _ _ _ x.ls _ (a2.keep c2) (d2.keep c2)).mono ?_
  rintro e w3 ⟨rfl, b3⟩
  go_wp2
  go_ret
  exact ⟨rfl, bAll c2 b3⟩

end Go.Proofs.Ytiigcokbmggdkaa

/- What the laws of words have in common: contracts; no statement of the seat is proved here. -/
namespace Go.Proofs.Ytiigcokbmggdkaa
open Go.RowKit

theorem WdR.agg {w : World} {v : Value} {x : Wd} (h : WdR w v x) : ∃ cs : Array Value, v = .agg cs ∧ cs.size = 26 ∧ cs.all (·.oneCell') = true := by
  obtain ⟨po, pc, lo, lc, rfl, -, -⟩ := h
  exact ⟨_, rfl, rfl, all_of_list (List.all_eq_true.2 (wd_one x po lo _ pc _ lc))⟩
/-- A whole block is loaded, in a region that draws its order. -/
theorem yields_row {P : Program} {ops : Array Oper} {S : World → Prop} {op : Oper} {a : Act} (hw : Region.wanted op (yielded ops a.tmps) = true) (ty : TypeId) (x : Operand) (ho : op.op = .load ty x)
    (g : Nat) (hx : a.eval x = .pointer (some ⟨g, 0, none⟩)) (t : TypeId) (cs : Array Value) (d : TypeDesc) (hS : ∀ w, S w → w.heap[g]? = some (.cells cs t (0, 0)))
    (hu : P.underlying ty = some d) (hd : (match d with | .struct _ | .array _ _ => true | _ => false) = true) (hi : (P.info? ty).map (·.size) = some cs.size) : YieldsIf P ops S op (.agg cs) a :=
  .inl ⟨hw, fun w hw' => by
    unfold execOp
    simp only [ho, hx, Instr.loadAt, Instr.sureAddr, Sem.run_bind, Sem.run_pure, Result.andThen_ok, run_loadVar_row w g t ty cs (0, 0) d (hS w hw') hu hd hi]⟩

end Go.Proofs.Ytiigcokbmggdkaa

/- A struct in a row of others, loaded and stored whole: laws; no statement of the seat is proved here. -/
namespace Go.Proofs.Ytiigcokbmggdkaa
open Go.RowKit

theorem run_loadVar_at {P : Program} (w : World) (g off : Nat) (ty : TypeId) (cs : Array Value) (d : TypeDesc) (hc : ∀ j u, cs[j]? = some u → w.cell? ⟨g, off + j, none⟩ = some u)
    (hu : P.underlying ty = some d) (hd : (match d with | .struct _ | .array _ _ => true | _ => false) = true) (hi : (P.info? ty).map (·.size) = some cs.size) :
    (loadVar ty ⟨g, off, none⟩).run P w = .ok (.agg cs) w := by
  have hl : (loadCells ⟨g, off, none⟩ cs.toList.length).run P w = .ok cs.toList.toArray w :=
    run_loadCells_list (P := P) w ⟨g, off, none⟩ cs.toList (fun j v hv => by
      rw [Addr.add_lit]
      exact hc j v (by simpa using hv))
  cases hq : P.info? ty with
  | none => simp [hq] at hi
  | some i =>
    have hs : i.size = cs.size := by simpa [hq] using hi
    have hagg : (isAgg ty).run P w = .ok true w := by
      unfold isAgg
      rw [Sem.run_bind, run_underlying hu w]
      cases d <;> simp_all
    simp only [Array.length_toList, Array.toArray_toList] at hl
    simp [loadVar, Sem.run_bind, hagg, sizeOf, typeInfo, hq, hs, hl]

theorem wp_load_at {P : Program} {o : Oper} {a : Act} {w : World} {K : Act → World → Prop} {Q : Exit → Act → World → Prop} (ty : TypeId) (x : Operand) (ho : o.op = .load ty x)
    (g off : Nat) (hx : a.eval x = .pointer (some ⟨g, off, none⟩)) (cs : Array Value) (d : TypeDesc) (hc : ∀ j u, cs[j]? = some u → w.cell? ⟨g, off + j, none⟩ = some u)
    (hu : P.underlying ty = some d) (hd : (match d with | .struct _ | .array _ _ => true | _ => false) = true) (hi : (P.info? ty).map (·.size) = some cs.size)
    (h : K (a.put o.dst (.agg cs)) w) : o.wp P a w K Q := by
  unfold Oper.wp execOp
  simp only [ho, hx, Instr.loadAt, Instr.sureAddr, Sem.run_bind, Sem.run_pure, Result.andThen_ok, run_loadVar_at w g off ty cs d hc hu hd hi]
  exact h

theorem wpList_load_at {P : Program} {ops : Array Oper} {rest : List Oper} {o : Oper} {a : Act} {w : World} {Q : Exit → Act → World → Prop} (hgd : Region.wanted o (yielded ops a.tmps) = true) (ty : TypeId) (x : Operand) (ho : o.op = .load ty x)
    (g off : Nat) (hx : a.eval x = .pointer (some ⟨g, off, none⟩)) (cs : Array Value) (d : TypeDesc) (hc : ∀ j u, cs[j]? = some u → w.cell? ⟨g, off + j, none⟩ = some u)
    (hu : P.underlying ty = some d) (hd : (match d with | .struct _ | .array _ _ => true | _ => false) = true) (hi : (P.info? ty).map (·.size) = some cs.size)
    (h : wpList P ops Q rest (a.put o.dst (.agg cs)) w) : wpList P ops Q (o :: rest) a w :=
  wpList_step fun _ hK => by rw [if_pos hgd]; exact wp_load_at ty x ho g off hx cs d hc hu hd hi (hK _ _ h)

theorem yields_at {P : Program} {ops : Array Oper} {S : World → Prop} {op : Oper} {a : Act} (hw : Region.wanted op (yielded ops a.tmps) = true) (ty : TypeId) (x : Operand) (ho : op.op = .load ty x)
    (g off : Nat) (hx : a.eval x = .pointer (some ⟨g, off, none⟩)) (cs : Array Value) (d : TypeDesc) (hS : ∀ w, S w → ∀ j u, cs[j]? = some u → w.cell? ⟨g, off + j, none⟩ = some u)
    (hu : P.underlying ty = some d) (hd : (match d with | .struct _ | .array _ _ => true | _ => false) = true) (hi : (P.info? ty).map (·.size) = some cs.size) : YieldsIf P ops S op (.agg cs) a :=
  .inl ⟨hw, fun w hw' => by
    unfold execOp
    simp only [ho, hx, Instr.loadAt, Instr.sureAddr, Sem.run_bind, Sem.run_pure, Result.andThen_ok, run_loadVar_at w g off ty cs d (hS w hw') hu hd hi]⟩

end Go.Proofs.Ytiigcokbmggdkaa

/- What the laws' own helpers do with papers and voters: contracts; no statement of the seat is proved here. -/
namespace Go.Proofs.Ytiigcokbmggdkaa
open Go.RowKit

/-- A paper: its slot, its ballot, and its command (that of a word). -/
abbrev Pp := Int × Int × Wd
def pparr (p : Pp) : Array Value := (#[.int .i64 p.1, .int .i64 p.2.1, .int .i64 p.2.2.c0, .int .i64 p.2.2.c1, .int .i64 p.2.2.c2, .int .i64 p.2.2.c3, .int .i64 p.2.2.c4, .int .i64 p.2.2.c5, .int .i64 p.2.2.c6, .int .i64 p.2.2.c7, .int .i64 p.2.2.c8, .int .i64 p.2.2.c9] : Array Value)
def ppcell (p : Pp) : List Value := (pparr p).toList
def ppcells (xs : List Pp) : List Value := xs.flatMap ppcell
theorem infoPpS : (Try.prog.info? 56).map (·.size) = some 12 := by kernel_rfl
theorem infoCm10 : (Try.prog.info? 36).map (·.size) = some 10 := by kernel_rfl

end Go.Proofs.Ytiigcokbmggdkaa

/- What the laws' own helpers do with papers and voters: contracts; no statement of the seat is proved here. -/
namespace Go.Proofs.Ytiigcokbmggdkaa
open Go.RowKit

/-- What a voter reads: what it promised, its papers. -/
def VtR (w : World) (v : Value) (P : Int) (xs : List Pp) : Prop := ∃ ao cap, v = .agg #[.int .i64 P, .slice ao xs.length cap] ∧ RowR w 12 (.slice ao xs.length cap) xs.length (ppcells xs)
theorem VtR.keep {w w' : World} {v : Value} {P : Int} {xs : List Pp} (h : VtR w v P xs) (hb : Below w.heap.size w w') : VtR w' v P xs := by
  obtain ⟨ao, cap, e, h⟩ := h
  exact ⟨ao, cap, e, h.keep hb⟩
/-- A voter in a row of its own. -/
def VtO (w : World) (S : Nat → Prop) (v : Value) (P : Int) (xs : List Pp) : Prop := ∃ ao cap, v = .agg #[.int .i64 P, .slice ao xs.length cap] ∧ xs.length ≤ cap ∧ Row w 56 12 S (.slice ao xs.length cap) xs.length (ppcells xs)
theorem VtO.reads {w : World} {S : Nat → Prop} {v : Value} {P : Int} {xs : List Pp} (h : VtO w S v P xs) : VtR w v P xs := by
  obtain ⟨ao, cap, e, -, h⟩ := h
  exact ⟨ao, cap, e, h.reads⟩

set_option maxRecDepth 100000 in
set_option maxHeartbeats 4000000 in
theorem eqSynPaper_true (s b : Int) (x : Wd) (w : World) :
    Calls Try.prog 87 #[.agg (#[.int .i64 s, .int .i64 b, .int .i64 x.c0, .int .i64 x.c1, .int .i64 x.c2, .int .i64 x.c3, .int .i64 x.c4, .int .i64 x.c5, .int .i64 x.c6, .int .i64 x.c7, .int .i64 x.c8, .int .i64 x.c9] : Array Value), .agg (#[.int .i64 s, .int .i64 b, .int .i64 x.c0, .int .i64 x.c1, .int .i64 x.c2, .int .i64 x.c3, .int .i64 x.c4, .int .i64 x.c5, .int .i64 x.c6, .int .i64 x.c7, .int .i64 x.c8, .int .i64 x.c9] : Array Value) ] w fun e w' => e = .returned (.bool true) ∧ Below w.heap.size w w' := by
  have al := bal (bal (Below.refl w.heap.size w) (.cells (#[.int .i64 s, .int .i64 b, .int .i64 x.c0, .int .i64 x.c1, .int .i64 x.c2, .int .i64 x.c3, .int .i64 x.c4, .int .i64 x.c5, .int .i64 x.c6, .int .i64 x.c7, .int .i64 x.c8, .int .i64 x.c9] : Array Value) 56)) (.cells (#[.int .i64 s, .int .i64 b, .int .i64 x.c0, .int .i64 x.c1, .int .i64 x.c2, .int .i64 x.c3, .int .i64 x.c4, .int .i64 x.c5, .int .i64 x.c6, .int .i64 x.c7, .int .i64 x.c8, .int .i64 x.c9] : Array Value) 56)
  go_enter Try.func87, Try.ntmps87
  go_wp2_with fail
  refine (eqCmd_true x _).mono ?_
  rintro e w1 ⟨rfl, b1⟩
  go_wp2
  go_ret
  exact ⟨rfl, bAll al b1⟩

end Go.Proofs.Ytiigcokbmggdkaa
