/- Contracts and plain facts that this claim leans on (texts CN2); no statement of the seat is proved here. -/
import Derived.Test.YteddhdbglciahaaGreatZk12
import Derived.Test.YteddhdbglciahaaGreatZk13
import Derived.Test.YteddhdbglciahaaGreatZk9
import Derived.Test.YteddhdbglciahaaGreatZk6

/- The program's synAll: contracts; no statement of the seat is proved here. (Written by wip/tools/mkall.py.) -/
namespace Go.Proofs.YteddhdbglciahaaGreat
open Go.RowKit

def vok (x : Int × List Pp) : Bool := okV x.1 x.2
/-- A paper as an element of a row. -/
def PpE (_w : World) (v : Value) (p : Pp) : Prop := v = .agg (pparr p)
theorem PpE.keep {w w' : World} {v : Value} {p : Pp} (h : PpE w v p) (_b : Below w.heap.size w w') : PpE w' v p := h
theorem rowPp {w : World} {v : Value} {xs : List Pp} (h : RowR w 12 v xs.length (ppcells xs)) : RowE w 12 PpE v xs := by
  obtain ⟨ao, cap, rfl, hn, -, h⟩ := h
  refine ⟨ao, cap, rfl, hn, fun h0 => ?_⟩
  obtain ⟨b, off, e, hc⟩ := h h0
  exact ⟨b, off, e, fun j x hj => ⟨pparr x, rfl, pparr_one x, pp_at hc hj (Below.refl _ _), rfl⟩⟩
theorem synInForm_E (v : Value) (p : Pp) (w : World) (h : PpE w v p) :
    Calls Tryz.prog 75 #[v] w fun e w' => e = .returned (.bool (ppI p)) ∧ Below w.heap.size w w' := by
  rw [show v = .agg (pparr p) from h]
  exact synInForm_any p.1 p.2.1 p.2.2 w
theorem l21PaperOk_E (v : Value) (p : Pp) (w : World) (h : PpE w v p) :
    Calls Tryz.prog 61 #[v] w fun e w' => e = .returned (.bool (ppI p)) ∧ Below w.heap.size w w' := by
  rw [show v = .agg (pparr p) from h]
  exact l21PaperOk_any p.1 p.2.1 p.2.2 w
theorem all_no {α : Type} {p : α → Bool} {xs : List α} {j : Nat} {x : α} (hj : xs[j]? = some x) (h : p x = false) : xs.all p = false := by
  rw [List.all_eq_false]
  exact ⟨x, List.mem_of_getElem? hj, by simp [h]⟩
theorem all_yes {α : Type} {p : α → Bool} {xs : List α} (h : ∀ j x, j < xs.length → xs[j]? = some x → p x = true) : xs.all p = true := by
  rw [List.all_eq_true]
  intro x hx
  obtain ⟨j, hj⟩ := List.getElem?_of_mem hx
  exact h j x (List.getElem?_eq_some_iff.1 hj).1 hj
theorem synIsRound_any (n : Int) (w : World) :
    Calls Tryz.prog 69 #[.int .i64 n] w fun e w' => e = .returned (.bool (inI n 0 12498)) ∧ Below w.heap.size w w' := by
  have c := blkWithin_any n 0 12498
  obtain ⟨r, hr⟩ : ∃ r, inI n 0 12498 = r := ⟨_, rfl⟩
  rw [hr] at c ⊢
  clear hr
  go_enter Tryz.func69, Tryz.ntmps69
  go_wp2_with fail
  refine (c w).mono ?_
  rintro e w1 ⟨rfl, rfl⟩
  go_wp2
  go_ret
  exact ⟨rfl, Below.refl _ _⟩

set_option maxRecDepth 100000 in
set_option maxHeartbeats 4000000 in
theorem synAllI_any (v : Value) (xs : List Int) (w : World) (hr : RowR w 1 v xs.length (ints xs)) :
    Calls Tryz.prog 68 #[v, .func (.func 69) #[] #[]] w fun e w' => e = .returned (.bool (xs.all fun r => inI r 0 12498)) ∧ Below w.heap.size w w' := by
  obtain ⟨ao, cap, rfl, hn, -, hr⟩ := hr
  obtain ⟨n, hnn⟩ : ∃ n, xs.length = n := ⟨_, rfl⟩
  have HN := hide hnn
  rw [hnn] at hn hr ⊢
  clear hnn
  obtain ⟨Q, HQ⟩ : ∃ Q, Hid ((xs.all fun r => inI r 0 12498) = Q) := ⟨_, rfl⟩
  rw [HQ.out]
  go_enter Tryz.func68, Tryz.ntmps68
  go_wp2
  go_loopw [9] (fun i wr => ∃ k : Nat, k ≤ n ∧ i = .int .i64 k ∧ (∀ j x, j < k → xs[j]? = some x → inI x 0 12498 = true) ∧ Below w.heap.size w wr) (fun i _ => n - (intOf i).toNat)
  case atStart => exact ⟨0, Nat.zero_le _, rfl, fun j x hj => by omega, Below.refl _ _⟩
  case round =>
    obtain ⟨k, hk, rfl, hgood, hbel⟩ := hrel
    have HG := hide hgood
    clear hgood
    by_cases hlt : k < n
    · obtain ⟨b1, o1, rfl, hc⟩ := hr (by omega)
      obtain ⟨x, hx⟩ := getAt xs k (by rw [HN.out]; exact hlt)
      have HX := hide hx
      have g1 := hc k _ (show (ints xs)[k]? = some (.int .i64 x) by simp [ints, hx])
      have f1 : wr.cell? ⟨b1, o1 + k, none⟩ = some (.int .i64 x) := (hbel.cell (p := ⟨b1, o1 + k, none⟩) (World.block_lt_of_cell? w _ g1)).trans g1
      have hi : (k : Int) < (n : Int) := by omega
      have cF := synIsRound_any x wr
      obtain ⟨q, hq⟩ : ∃ q, inI x 0 12498 = q := ⟨_, rfl⟩
      have Hq := hide hq
      rw [hq] at cF
      clear hr hc hx g1 hq
      go_wp2_with fail
      refine cF.mono ?_
      rintro e w1 ⟨rfl, b1'⟩
      have c1 := bAll hbel b1'
      cases q with
      | false =>
        have hno : Q = false := by rw [← HQ.out]; exact all_no (p := fun r => inI r 0 12498) HX.out Hq.out
        go_wp2
        go_ret
        exact ⟨by rw [hno]; rfl, c1⟩
      | true =>
        go_wp2
        go_roundw
        case rel =>
          refine ⟨k + 1, by omega, by go_num, fun j y hj hy => ?_, c1⟩
          by_cases hjk : j = k
          · subst hjk
            rw [HX.out] at hy
            obtain rfl := Option.some.inj hy
            exact Hq.out
          · exact HG.out j y (by omega) hy
        case measure => simp [intOf]; omega
    · have hyes : Q = true := by rw [← HQ.out]; exact all_yes (fun j x hj hx => HG.out j x (by have := HN.out; omega) hx)
      go_wp2
      go_ret
      exact ⟨by rw [hyes]; rfl, hbel⟩

set_option maxRecDepth 100000 in
set_option maxHeartbeats 4000000 in
theorem synAllV_any (v : Value) (xs : List (Int × List Pp)) (w : World) (hr : RowE w 2 VxR v xs) :
    Calls Tryz.prog 66 #[v, .func (.func 67) #[] #[]] w fun e w' => e = .returned (.bool (xs.all vok)) ∧ Below w.heap.size w w' := by
  obtain ⟨ao, cap, rfl⟩ := hr.shape
  have hn := hr.small
  have HR := hide hr
  clear hr
  obtain ⟨n, hnn⟩ : ∃ n, xs.length = n := ⟨_, rfl⟩
  have HN := hide hnn
  rw [hnn] at hn HR ⊢
  clear hnn
  obtain ⟨Q, HQ⟩ : ∃ Q, Hid (xs.all vok = Q) := ⟨_, rfl⟩
  rw [HQ.out]
  go_enter Tryz.func66, Tryz.ntmps66
  go_wp2
  go_loopw [9] (fun i wr => ∃ k : Nat, k ≤ n ∧ i = .int .i64 k ∧ (∀ j x, j < k → xs[j]? = some x → vok x = true) ∧ Below w.heap.size w wr) (fun i _ => n - (intOf i).toNat)
  case atStart => exact ⟨0, Nat.zero_le _, rfl, fun j x hj => by omega, Below.refl _ _⟩
  case round =>
    obtain ⟨k, hk, rfl, hgood, hbel⟩ := hrel
    have HG := hide hgood
    clear hgood
    by_cases hlt : k < n
    · obtain ⟨x, hx⟩ := getAt xs k (by rw [HN.out]; exact hlt)
      obtain ⟨-, b1, o1, rfl, cs, hcs, hone, hc, he⟩ := (HR.out.keep (fun v x h => VxR.keep h hbel) hbel).elem hx
      have HX := hide hx
      have F := hide hc
      have GI := hide (infoAt infoSv2 hcs)
      have GZ := hide ((show (#[.int .i64 0, .slice none 0 0] : Array Value).size = 2 from rfl).trans hcs.symm)
      have G1 := hide hone
      have hi : (k : Int) < (n : Int) := by omega
      have hal := bal (Below.refl wr.heap.size wr) (.cells cs 62)
      have B0 := hide (al1_0 wr (.cells cs 62))
      have cF : Calls Tryz.prog 67 #[.agg cs] (wr.alloc (.cells cs 62)) fun e w' => e = .returned (.bool (vok x)) ∧ Below (wr.alloc (.cells cs 62)).heap.size (wr.alloc (.cells cs 62)) w' := implSynVoterOk_any _ x.1 x.2 _ (VxR.keep he hal)
      obtain ⟨q, hq⟩ : ∃ q, vok x = q := ⟨_, rfl⟩
      have Hq := hide hq
      rw [hq] at cF
      clear hx hc hcs hone hq he
      go_wp2_with (first
        | (refine wpList_load_at rfl 62 (.tmp 11) rfl b1 (o1 + k * 2) rfl cs _ F.out Tryz.underlying62 rfl GI.out ?_)
        | (refine wpList_store_row rfl 62 (.tmp 6) (.tmp 12) rfl wr.heap.size cs rfl rfl _ _ (heap_alloc_new wr _) GI.out GZ.out G1.out ?_; rw [World.setRow_alloc_new])
        | (refine wpList_load_row rfl 62 (.tmp 6) rfl wr.heap.size rfl _ cs (0, 0) _ B0.out Tryz.underlying62 rfl GI.out ?_))
      refine cF.mono ?_
      rintro e w1 ⟨rfl, b1'⟩
      have c1 := bAll hbel (bAll hal b1')
      clear cF B0 F hal b1'
      cases q with
      | false =>
        have hno : Q = false := by rw [← HQ.out]; exact all_no (p := vok) HX.out Hq.out
        go_wp2
        go_ret
        exact ⟨by rw [hno]; rfl, c1⟩
      | true =>
        go_wp2
        go_roundw
        case rel =>
          refine ⟨k + 1, by omega, by go_num, fun j y hj hy => ?_, c1⟩
          by_cases hjk : j = k
          · subst hjk
            rw [HX.out] at hy
            obtain rfl := Option.some.inj hy
            exact Hq.out
          · exact HG.out j y (by omega) hy
        case measure => simp [intOf]; omega
    · have hyes : Q = true := by rw [← HQ.out]; exact all_yes (fun j x hj hx => HG.out j x (by have := HN.out; omega) hx)
      go_wp2
      go_ret
      exact ⟨by rw [hyes]; rfl, hbel⟩

set_option maxRecDepth 100000 in
set_option maxHeartbeats 4000000 in
theorem synAllK_any (v : Value) (xs : List (Sk)) (w : World) (hr : RowE w 26 SkR v xs) :
    Calls Tryz.prog 70 #[v, .func (.func 71) #[] #[]] w fun e w' => e = .returned (.bool (xs.all okS)) ∧ Below w.heap.size w w' := by
  obtain ⟨ao, cap, rfl⟩ := hr.shape
  have hn := hr.small
  have HR := hide hr
  clear hr
  obtain ⟨n, hnn⟩ : ∃ n, xs.length = n := ⟨_, rfl⟩
  have HN := hide hnn
  rw [hnn] at hn HR ⊢
  clear hnn
  obtain ⟨Q, HQ⟩ : ∃ Q, Hid (xs.all okS = Q) := ⟨_, rfl⟩
  rw [HQ.out]
  go_enter Tryz.func70, Tryz.ntmps70
  go_wp2
  go_loopw [9] (fun i wr => ∃ k : Nat, k ≤ n ∧ i = .int .i64 k ∧ (∀ j x, j < k → xs[j]? = some x → okS x = true) ∧ Below w.heap.size w wr) (fun i _ => n - (intOf i).toNat)
  case atStart => exact ⟨0, Nat.zero_le _, rfl, fun j x hj => by omega, Below.refl _ _⟩
  case round =>
    obtain ⟨k, hk, rfl, hgood, hbel⟩ := hrel
    have HG := hide hgood
    clear hgood
    by_cases hlt : k < n
    · obtain ⟨x, hx⟩ := getAt xs k (by rw [HN.out]; exact hlt)
      obtain ⟨-, b1, o1, rfl, cs, hcs, hone, hc, he⟩ := (HR.out.keep (fun v x h => SkR.keep h hbel) hbel).elem hx
      have HX := hide hx
      have F := hide hc
      have GI := hide (infoAt infoSk hcs)
      have GZ := hide ((show (#[.int .i64 0, .int .i64 0, .int .i64 0, .int .i64 0, .int .i64 0, .int .i64 0, .int .i64 0, .int .i64 0, .int .i64 0, .int .i64 0, .int .i64 0, .int .i64 0, .int .i64 0, .int .i64 0, .int .i64 0, .int .i64 0, .int .i64 0, .int .i64 0, .int .i64 0, .int .i64 0, .int .i64 0, .int .i64 0, .int .i64 0, .int .i64 0, .int .i64 0, .slice none 0 0] : Array Value).size = 26 from rfl).trans hcs.symm)
      have G1 := hide hone
      have hi : (k : Int) < (n : Int) := by omega
      have hal := bal (Below.refl wr.heap.size wr) (.cells cs 80)
      have B0 := hide (al1_0 wr (.cells cs 80))
      have cF : Calls Tryz.prog 71 #[.agg cs] (wr.alloc (.cells cs 80)) fun e w' => e = .returned (.bool (okS x)) ∧ Below (wr.alloc (.cells cs 80)).heap.size (wr.alloc (.cells cs 80)) w' := implSynSeekerOk_any _ x _ (SkR.keep he hal)
      obtain ⟨q, hq⟩ : ∃ q, okS x = q := ⟨_, rfl⟩
      have Hq := hide hq
      rw [hq] at cF
      clear hx hc hcs hone hq he
      go_wp2_with (first
        | (refine wpList_load_at rfl 80 (.tmp 11) rfl b1 (o1 + k * 26) rfl cs _ F.out Tryz.underlying80 rfl GI.out ?_)
        | (refine wpList_store_row rfl 80 (.tmp 6) (.tmp 12) rfl wr.heap.size cs rfl rfl _ _ (heap_alloc_new wr _) GI.out GZ.out G1.out ?_; rw [World.setRow_alloc_new])
        | (refine wpList_load_row rfl 80 (.tmp 6) rfl wr.heap.size rfl _ cs (0, 0) _ B0.out Tryz.underlying80 rfl GI.out ?_))
      refine cF.mono ?_
      rintro e w1 ⟨rfl, b1'⟩
      have c1 := bAll hbel (bAll hal b1')
      clear cF B0 F hal b1'
      cases q with
      | false =>
        have hno : Q = false := by rw [← HQ.out]; exact all_no (p := okS) HX.out Hq.out
        go_wp2
        go_ret
        exact ⟨by rw [hno]; rfl, c1⟩
      | true =>
        go_wp2
        go_roundw
        case rel =>
          refine ⟨k + 1, by omega, by go_num, fun j y hj hy => ?_, c1⟩
          by_cases hjk : j = k
          · subst hjk
            rw [HX.out] at hy
            obtain rfl := Option.some.inj hy
            exact Hq.out
          · exact HG.out j y (by omega) hy
        case measure => simp [intOf]; omega
    · have hyes : Q = true := by rw [← HQ.out]; exact all_yes (fun j x hj hx => HG.out j x (by have := HN.out; omega) hx)
      go_wp2
      go_ret
      exact ⟨by rw [hyes]; rfl, hbel⟩

set_option maxRecDepth 100000 in
set_option maxHeartbeats 4000000 in
theorem synAllW_any (v : Value) (xs : List (Wd)) (w : World) (hr : RowE w 26 WdR v xs) :
    Calls Tryz.prog 72 #[v, .func (.func 73) #[] #[]] w fun e w' => e = .returned (.bool (xs.all okW)) ∧ Below w.heap.size w w' := by
  obtain ⟨ao, cap, rfl⟩ := hr.shape
  have hn := hr.small
  have HR := hide hr
  clear hr
  obtain ⟨n, hnn⟩ : ∃ n, xs.length = n := ⟨_, rfl⟩
  have HN := hide hnn
  rw [hnn] at hn HR ⊢
  clear hnn
  obtain ⟨Q, HQ⟩ : ∃ Q, Hid (xs.all okW = Q) := ⟨_, rfl⟩
  rw [HQ.out]
  go_enter Tryz.func72, Tryz.ntmps72
  go_wp2
  go_loopw [9] (fun i wr => ∃ k : Nat, k ≤ n ∧ i = .int .i64 k ∧ (∀ j x, j < k → xs[j]? = some x → okW x = true) ∧ Below w.heap.size w wr) (fun i _ => n - (intOf i).toNat)
  case atStart => exact ⟨0, Nat.zero_le _, rfl, fun j x hj => by omega, Below.refl _ _⟩
  case round =>
    obtain ⟨k, hk, rfl, hgood, hbel⟩ := hrel
    have HG := hide hgood
    clear hgood
    by_cases hlt : k < n
    · obtain ⟨x, hx⟩ := getAt xs k (by rw [HN.out]; exact hlt)
      obtain ⟨-, b1, o1, rfl, cs, hcs, hone, hc, he⟩ := (HR.out.keep (fun v x h => WdR.keep h hbel) hbel).elem hx
      have HX := hide hx
      have F := hide hc
      have GI := hide (infoAt infoWd hcs)
      have GZ := hide ((show (#[.int .i64 0, .int .i64 0, .int .i64 0, .int .i64 0, .int .i64 0, .int .i64 0, .int .i64 0, .int .i64 0, .int .i64 0, .int .i64 0, .int .i64 0, .int .i64 0, .int .i64 0, .int .i64 0, .int .i64 0, .int .i64 0, .int .i64 0, .int .i64 0, .int .i64 0, .int .i64 0, .int .i64 0, .int .i64 0, .int .i64 0, .int .i64 0, .slice none 0 0, .slice none 0 0] : Array Value).size = 26 from rfl).trans hcs.symm)
      have G1 := hide hone
      have hi : (k : Int) < (n : Int) := by omega
      have hal := bal (Below.refl wr.heap.size wr) (.cells cs 87)
      have B0 := hide (al1_0 wr (.cells cs 87))
      have cF : Calls Tryz.prog 73 #[.agg cs] (wr.alloc (.cells cs 87)) fun e w' => e = .returned (.bool (okW x)) ∧ Below (wr.alloc (.cells cs 87)).heap.size (wr.alloc (.cells cs 87)) w' := implWordOk_any _ x _ (WdR.keep he hal)
      obtain ⟨q, hq⟩ : ∃ q, okW x = q := ⟨_, rfl⟩
      have Hq := hide hq
      rw [hq] at cF
      clear hx hc hcs hone hq he
      go_wp2_with (first
        | (refine wpList_load_at rfl 87 (.tmp 11) rfl b1 (o1 + k * 26) rfl cs _ F.out Tryz.underlying87 rfl GI.out ?_)
        | (refine wpList_store_row rfl 87 (.tmp 6) (.tmp 12) rfl wr.heap.size cs rfl rfl _ _ (heap_alloc_new wr _) GI.out GZ.out G1.out ?_; rw [World.setRow_alloc_new])
        | (refine wpList_load_row rfl 87 (.tmp 6) rfl wr.heap.size rfl _ cs (0, 0) _ B0.out Tryz.underlying87 rfl GI.out ?_))
      refine cF.mono ?_
      rintro e w1 ⟨rfl, b1'⟩
      have c1 := bAll hbel (bAll hal b1')
      clear cF B0 F hal b1'
      cases q with
      | false =>
        have hno : Q = false := by rw [← HQ.out]; exact all_no (p := okW) HX.out Hq.out
        go_wp2
        go_ret
        exact ⟨by rw [hno]; rfl, c1⟩
      | true =>
        go_wp2
        go_roundw
        case rel =>
          refine ⟨k + 1, by omega, by go_num, fun j y hj hy => ?_, c1⟩
          by_cases hjk : j = k
          · subst hjk
            rw [HX.out] at hy
            obtain rfl := Option.some.inj hy
            exact Hq.out
          · exact HG.out j y (by omega) hy
        case measure => simp [intOf]; omega
    · have hyes : Q = true := by rw [← HQ.out]; exact all_yes (fun j x hj hx => HG.out j x (by have := HN.out; omega) hx)
      go_wp2
      go_ret
      exact ⟨by rw [hyes]; rfl, hbel⟩

set_option maxRecDepth 100000 in
set_option maxHeartbeats 4000000 in
theorem synAllP_any (v : Value) (xs : List (Pp)) (w : World) (hr : RowE w 12 PpE v xs) :
    Calls Tryz.prog 74 #[v, .func (.func 75) #[] #[]] w fun e w' => e = .returned (.bool (xs.all ppI)) ∧ Below w.heap.size w w' := by
  obtain ⟨ao, cap, rfl⟩ := hr.shape
  have hn := hr.small
  have HR := hide hr
  clear hr
  obtain ⟨n, hnn⟩ : ∃ n, xs.length = n := ⟨_, rfl⟩
  have HN := hide hnn
  rw [hnn] at hn HR ⊢
  clear hnn
  obtain ⟨Q, HQ⟩ : ∃ Q, Hid (xs.all ppI = Q) := ⟨_, rfl⟩
  rw [HQ.out]
  go_enter Tryz.func74, Tryz.ntmps74
  go_wp2
  go_loopw [9] (fun i wr => ∃ k : Nat, k ≤ n ∧ i = .int .i64 k ∧ (∀ j x, j < k → xs[j]? = some x → ppI x = true) ∧ Below w.heap.size w wr) (fun i _ => n - (intOf i).toNat)
  case atStart => exact ⟨0, Nat.zero_le _, rfl, fun j x hj => by omega, Below.refl _ _⟩
  case round =>
    obtain ⟨k, hk, rfl, hgood, hbel⟩ := hrel
    have HG := hide hgood
    clear hgood
    by_cases hlt : k < n
    · obtain ⟨x, hx⟩ := getAt xs k (by rw [HN.out]; exact hlt)
      obtain ⟨-, b1, o1, rfl, cs, hcs, hone, hc, he⟩ := (HR.out.keep (fun v x h => PpE.keep h hbel) hbel).elem hx
      have HX := hide hx
      have F := hide hc
      have GI := hide (infoAt infoPpS hcs)
      have GZ := hide ((show (#[.int .i64 0, .int .i64 0, .int .i64 0, .int .i64 0, .int .i64 0, .int .i64 0, .int .i64 0, .int .i64 0, .int .i64 0, .int .i64 0, .int .i64 0, .int .i64 0] : Array Value).size = 12 from rfl).trans hcs.symm)
      have G1 := hide hone
      have hi : (k : Int) < (n : Int) := by omega
      have hal := bal (Below.refl wr.heap.size wr) (.cells cs 64)
      have B0 := hide (al1_0 wr (.cells cs 64))
      have cF : Calls Tryz.prog 75 #[.agg cs] (wr.alloc (.cells cs 64)) fun e w' => e = .returned (.bool (ppI x)) ∧ Below (wr.alloc (.cells cs 64)).heap.size (wr.alloc (.cells cs 64)) w' := synInForm_E _ x _ (PpE.keep he hal)
      obtain ⟨q, hq⟩ : ∃ q, ppI x = q := ⟨_, rfl⟩
      have Hq := hide hq
      rw [hq] at cF
      clear hx hc hcs hone hq he
      go_wp2_with (first
        | (refine wpList_load_at rfl 64 (.tmp 11) rfl b1 (o1 + k * 12) rfl cs _ F.out Tryz.underlying64 rfl GI.out ?_)
        | (refine wpList_store_row rfl 64 (.tmp 6) (.tmp 12) rfl wr.heap.size cs rfl rfl _ _ (heap_alloc_new wr _) GI.out GZ.out G1.out ?_; rw [World.setRow_alloc_new])
        | (refine wpList_load_row rfl 64 (.tmp 6) rfl wr.heap.size rfl _ cs (0, 0) _ B0.out Tryz.underlying64 rfl GI.out ?_))
      refine cF.mono ?_
      rintro e w1 ⟨rfl, b1'⟩
      have c1 := bAll hbel (bAll hal b1')
      clear cF B0 F hal b1'
      cases q with
      | false =>
        have hno : Q = false := by rw [← HQ.out]; exact all_no (p := ppI) HX.out Hq.out
        go_wp2
        go_ret
        exact ⟨by rw [hno]; rfl, c1⟩
      | true =>
        go_wp2
        go_roundw
        case rel =>
          refine ⟨k + 1, by omega, by go_num, fun j y hj hy => ?_, c1⟩
          by_cases hjk : j = k
          · subst hjk
            rw [HX.out] at hy
            obtain rfl := Option.some.inj hy
            exact Hq.out
          · exact HG.out j y (by omega) hy
        case measure => simp [intOf]; omega
    · have hyes : Q = true := by rw [← HQ.out]; exact all_yes (fun j x hj hx => HG.out j x (by have := HN.out; omega) hx)
      go_wp2
      go_ret
      exact ⟨by rw [hyes]; rfl, hbel⟩

end Go.Proofs.YteddhdbglciahaaGreat
