/- Contracts and plain facts that this claim leans on (texts RED, MPv, MPd, MS1); no statement of the seat is proved here. -/
import Derived.Test.YthdnnmmaalgpaaaMa1
import Derived.Deep.DeepCutAuto

/- What the laws' helpers do with rows of MapDisk: contracts; no statement of the seat is proved here. (Written by wip/tools/mkrow.py.) -/
namespace Go.Proofs.Ythdnnmmaalgpaaa
open Go.RowKit


theorem infoZD : (Try.prog.info? 57).map (fun i => (i.zero, i.size, i.bytes)) = some (some (.agg #[.int .i64 0, .int .i64 0, .int .i64 0, .int .i64 0, .int .i64 0, .int .i64 0, .slice none 0 0]), 7, 72) := by kernel_rfl

set_option maxRecDepth 100000 in
set_option maxHeartbeats 4000000 in
theorem szMapDiskS_row (v : Value) (xs : List (Dk)) (left : Int) (w : World) (hr : RowE w 7 DkR v xs) (h1 : 0 ≤ left) (h2 : left ≤ 1048576) :
    Calls Try.prog 26 #[v, .int .i64 left] w fun e w' => ∃ r, e = .returned (.int .i64 r) ∧ (r < 0 ∨ (0 ≤ r ∧ r ≤ left ∧ xs.length ≤ 1048576 ∧ ∀ x ∈ xs, DkS x)) ∧ Below w.heap.size w w' := by
  obtain ⟨ao, cap, rfl⟩ := hr.shape
  have hn := hr.small
  have HR := hide hr
  clear hr
  obtain ⟨n, hnn⟩ : ∃ n, xs.length = n := ⟨_, rfl⟩
  have HN := hide hnn
  rw [hnn] at hn ⊢
  clear hnn
  by_cases hneg : left - n < 0
  · go_enter Try.func26, Try.ntmps26
    go_wp2
    go_ret
    exact ⟨_, rfl, .inl (by omega), Below.refl _ _⟩
  · have hge : ¬ left - n < 0 := hneg
    go_enter Try.func26, Try.ntmps26
    go_wp2
    go_loopw [1, 5] (fun l i wr => ∃ (k : Nat) (z : Int), k ≤ n ∧ i = .int .i64 k ∧ l = .int .i64 z ∧ 0 ≤ z ∧ z ≤ left - n ∧ (∀ j x, j < k → xs[j]? = some x → DkS x) ∧ Below w.heap.size w wr) (fun _ i _ => n - (intOf i).toNat)
    case atStart => exact ⟨0, left - n, Nat.zero_le _, rfl, rfl, by omega, by omega, fun j x h => by omega, Below.refl _ _⟩
    case round =>
      obtain ⟨k, z, hk, rfl, rfl, hz0, hz1, hsm, hbel⟩ := hrel
      have HS := hide hsm
      clear hsm
      by_cases hlt : k < n
      · obtain ⟨x, hx⟩ := getAt xs k (by rw [HN.out]; exact hlt)
        obtain ⟨-, b1, o1, rfl, cs, hcs, hone, hc, he⟩ := (HR.out.keep (fun v x h => DkR.keep h hbel) hbel).elem hx
        have HX := hide hx
        have F := hide hc
        have GI := hide (infoAt infoLd hcs)
        have hi : (k : Int) < (n : Int) := by omega
        clear hx hc hcs hone
        go_wp2_with (refine wpList_load_at rfl 78 (.tmp 20) rfl b1 (o1 + k * 7) rfl cs _ F.out Try.underlying78 rfl GI.out ?_)
        refine (szDkx _ x z wr he hz0 (by omega)).mono ?_
        rintro e w1 ⟨r, rfl, hr, b1'⟩
        have c1 := bAll hbel b1'
        rcases hr with hr | ⟨hr0, hr1, hsx⟩
        · go_wp2
          go_ret
          exact ⟨_, rfl, .inl (by omega), c1⟩
        · have hr2 : ¬ r < 0 := by omega
          have HSX := hide hsx
          clear hsx b1' F GI he
          go_wp2
          go_roundw
          case rel =>
            refine ⟨k + 1, r, by omega, by go_num, rfl, hr0, by omega, fun j y hj hy => ?_, c1⟩
            by_cases hjk : j = k
            · subst hjk
              rw [HX.out] at hy
              obtain rfl := Option.some.inj hy
              exact HSX.out
            · exact HS.out j y (by omega) hy
          case measure => simp [intOf]; omega
      · go_wp2
        go_ret
        refine ⟨_, rfl, .inr ⟨hz0, by omega, by omega, fun x hx => ?_⟩, hbel⟩
        obtain ⟨j, hj⟩ := List.getElem?_of_mem hx
        have hj' := (List.getElem?_eq_some_iff.1 hj).1
        exact HS.out j x (by have := HN.out; omega) hj

set_option maxRecDepth 100000 in
set_option maxHeartbeats 4000000 in
theorem eqMapDiskS_row (va vb : Value) (xs : List (Dk)) (w : World) (ha : RowE w 7 DkR va xs) (hb : RowE w 7 DkR vb xs) :
    Calls Try.prog 17 #[va, vb] w fun e w' => e = .returned (.bool true) ∧ Below w.heap.size w w' := by
  obtain ⟨ao, ca, rfl⟩ := ha.shape
  obtain ⟨bo, cb, rfl⟩ := hb.shape
  have hn := ha.small
  have HA := hide ha
  have HB := hide hb
  clear ha hb
  obtain ⟨n, hnn⟩ : ∃ n, xs.length = n := ⟨_, rfl⟩
  have HN := hide hnn
  rw [hnn] at hn HA HB ⊢
  clear hnn
  go_enter Try.func17, Try.ntmps17
  go_wp2
  go_loopw [5] (fun i wr => ∃ k : Nat, k ≤ n ∧ i = .int .i64 k ∧ Below w.heap.size w wr) (fun i _ => n - (intOf i).toNat)
  case atStart => exact ⟨0, Nat.zero_le _, rfl, Below.refl _ _⟩
  case round =>
    obtain ⟨k, hk, rfl, hbel⟩ := hrel
    by_cases hlt : k < n
    · obtain ⟨x, hx⟩ := getAt xs k (by rw [HN.out]; exact hlt)
      have d1 := bDrewB hbel
      obtain ⟨-, b1, o1, rfl, cs1, hcs1, -, hc1, he1⟩ := (HA.out.keep (fun v x h => DkR.keep h d1) d1).elem hx
      obtain ⟨-, b2, o2, rfl, cs2, hcs2, -, hc2, he2⟩ := (HB.out.keep (fun v x h => DkR.keep h d1) d1).elem hx
      have GI1 := hide (infoAt infoDk hcs1)
      have GI2 := hide (infoAt infoDk hcs2)
      have K1 := hide hc1
      have K2 := hide hc2
      have hi : (k : Int) < (n : Int) := by omega
      clear hx hc1 hc2 hcs1 hcs2
      go_wp2
      refine wp_region_noPanic ?_
      refine wp_region_held_drew (S := (fun w' => (∀ j u, cs1[j]? = some u → w'.cell? ⟨b1, o1 + k * 7 + j, none⟩ = some u) ∧ (∀ j u, cs2[j]? = some u → w'.cell? ⟨b2, o2 + k * 7 + j, none⟩ = some u))) (by kernel_rfl) ?_ (fun hHeld => ?_)
      · exact ⟨K1.out, K2.out⟩
      refine wpAnyH_take (i := 0) (v := ?v1) rfl (by kernel_rfl) (by kernel_rfl) (by kernel_rfl) (fun _ _ _ h => h) (Or.inl ⟨by rfl, ?hy1⟩) (by assumption) ?rest1
      case hy1 => ((intro w hSw; (try dsimp only at hSw); (try simp only [List.getElem_toArray, List.getElem_cons_zero]); go_simp; first | done | (with_reducible rfl)))
      simp only [Act.put, List.getElem_toArray, List.getElem_cons_zero, List.setIfInBounds_toArray, List.set_cons_zero, List.set_cons_succ]
      refine wpAnyH_take (i := 1) (v := ?v2) rfl (by kernel_rfl) (by kernel_rfl) (by kernel_rfl) (fun _ _ _ h => h) (Or.inl ⟨by rfl, ?hy2⟩) (by assumption) ?rest2
      case hy2 => ((intro w hSw; (try dsimp only at hSw); (try simp only [List.getElem_toArray, List.getElem_cons_zero, List.getElem_cons_succ]); go_simp; first | done | (with_reducible rfl)))
      simp only [Act.put, List.getElem_toArray, List.getElem_cons_zero, List.getElem_cons_succ, List.setIfInBounds_toArray, List.set_cons_zero, List.set_cons_succ]
      refine wpAnyH_take (i := 2) (v := ?v3) rfl (by kernel_rfl) (by kernel_rfl) (by kernel_rfl) (fun _ _ _ h => h) (Or.inl ⟨by rfl, ?hy3⟩) (by assumption) ?rest3
      case hy3 => ((intro w hSw; (try dsimp only at hSw); (try simp only [List.getElem_toArray, List.getElem_cons_zero, List.getElem_cons_succ]); go_simp; first | done | (with_reducible rfl)))
      simp only [Act.put, List.getElem_toArray, List.getElem_cons_zero, List.getElem_cons_succ, List.setIfInBounds_toArray, List.set_cons_zero, List.set_cons_succ]
      refine wpAnyH_take (i := 3) (v := .agg cs1) rfl (by kernel_rfl) (by kernel_rfl) (by kernel_rfl) (fun _ _ _ h => h) (yields_at rfl 57 (.tmp 19) rfl (b1) (o1 + k * 7) rfl cs1 _ (fun _ h => h.1) Try.underlying57 rfl GI1.out) (by assumption) ?_
      simp only [Act.put, List.getElem_toArray, List.getElem_cons_zero, List.getElem_cons_succ, List.setIfInBounds_toArray, List.set_cons_zero, List.set_cons_succ]
      refine wpAnyH_take (i := 4) (v := ?v4) rfl (by kernel_rfl) (by kernel_rfl) (by kernel_rfl) (fun _ _ _ h => h) (Or.inl ⟨by rfl, ?hy4⟩) (by assumption) ?rest4
      case hy4 => ((intro w hSw; (try dsimp only at hSw); (try simp only [List.getElem_toArray, List.getElem_cons_zero, List.getElem_cons_succ]); go_simp; first | done | (with_reducible rfl)))
      simp only [Act.put, List.getElem_toArray, List.getElem_cons_zero, List.getElem_cons_succ, List.setIfInBounds_toArray, List.set_cons_zero, List.set_cons_succ]
      refine wpAnyH_take (i := 5) (v := ?v5) rfl (by kernel_rfl) (by kernel_rfl) (by kernel_rfl) (fun _ _ _ h => h) (Or.inl ⟨by rfl, ?hy5⟩) (by assumption) ?rest5
      case hy5 => ((intro w hSw; (try dsimp only at hSw); (try simp only [List.getElem_toArray, List.getElem_cons_zero, List.getElem_cons_succ]); go_simp; first | done | (with_reducible rfl)))
      simp only [Act.put, List.getElem_toArray, List.getElem_cons_zero, List.getElem_cons_succ, List.setIfInBounds_toArray, List.set_cons_zero, List.set_cons_succ]
      refine wpAnyH_take (i := 6) (v := ?v6) rfl (by kernel_rfl) (by kernel_rfl) (by kernel_rfl) (fun _ _ _ h => h) (Or.inl ⟨by rfl, ?hy6⟩) (by assumption) ?rest6
      case hy6 => ((intro w hSw; (try dsimp only at hSw); (try simp only [List.getElem_toArray, List.getElem_cons_zero, List.getElem_cons_succ]); go_simp; first | done | (with_reducible rfl)))
      simp only [Act.put, List.getElem_toArray, List.getElem_cons_zero, List.getElem_cons_succ, List.setIfInBounds_toArray, List.set_cons_zero, List.set_cons_succ]
      refine wpAnyH_take (i := 7) (v := .agg cs2) rfl (by kernel_rfl) (by kernel_rfl) (by kernel_rfl) (fun _ _ _ h => h) (yields_at rfl 57 (.tmp 23) rfl (b2) (o2 + k * 7) rfl cs2 _ (fun _ h => h.2) Try.underlying57 rfl GI2.out) (by assumption) ?_
      simp only [Act.put, List.getElem_toArray, List.getElem_cons_zero, List.getElem_cons_succ, List.setIfInBounds_toArray, List.set_cons_zero, List.set_cons_succ]
      refine wpAnyH_ready (rs := [8]) (by kernel_rfl) (by simp) ?_
      refine AllReadyH.cons rfl (fun K hK => ?_) AllReadyH.nil
      go_simp
      (go_at_call 46; refine (eqDkx _ _ x _ he1 he2).mono ?_; rintro e w1 ⟨rfl, b1'⟩; have c1 := bAll d1 b1')
      refine hK.out _ _ ?_ (fun hHeld => ?_)
      · exact ⟨cellsKeep K1.out b1', cellsKeep K2.out b1'⟩
      clear hK K
      refine wpAnyH_take (i := 9) (v := ?v7) rfl (by kernel_rfl) (by kernel_rfl) (by kernel_rfl) (fun _ _ _ h => h) (Or.inl ⟨by rfl, ?hy7⟩) (by assumption) ?rest7
      case hy7 => ((intro w hSw; (try dsimp only at hSw); (try simp only [List.getElem_toArray, List.getElem_cons_zero, List.getElem_cons_succ]); go_simp; first | done | (with_reducible rfl)))
      simp only [Act.put, List.getElem_toArray, List.getElem_cons_zero, List.getElem_cons_succ, List.setIfInBounds_toArray, List.set_cons_zero, List.set_cons_succ]
      refine wpAnyH_done (by kernel_rfl) ?_ _
      refine NoPanic.normal ?_
      clear hHeld
      go_wp2
      go_roundw
      case rel => exact ⟨k + 1, by omega, by go_num, c1⟩
      case measure => simp [intOf]; omega
    · go_wp2
      go_ret
      exact ⟨rfl, hbel⟩
theorem updRow0D (w : World) (g : Nat) (cs : Array Value) : Upd (fun j => j = g) w (w.setRow g cs) := ⟨rfl, rfl, rfl, by simp, fun _ _ h => setRow_other _ _ _ _ h⟩

set_option maxRecDepth 100000 in
set_option maxHeartbeats 4000000 in
theorem toMapDiskS_row (v : Value) (xs : List (Dk)) (w : World) (hr : RowE w 7 DkR v xs) (hn : xs.length ≤ 1048576) (hs : ∀ x ∈ xs, DkS x) :
    Calls Try.prog 32 #[v] w fun e w' => ∃ v', e = .returned v' ∧ RowO w' 57 7 (fun b => w.heap.size ≤ b) DkO v' xs ∧ Below w.heap.size w w' := by
  obtain ⟨ao, cap, rfl⟩ := hr.shape
  have HR := hide hr
  have HS := hide hs
  clear hr hs
  obtain ⟨n, hnn⟩ : ∃ n, xs.length = n := ⟨_, rfl⟩
  have HN := hide hnn
  rw [hnn] at hn HR ⊢
  clear hnn
  have hmk := run_make_row2 (P := Try.prog) 22 57 (.agg #[.int .i64 0, .int .i64 0, .int .i64 0, .int .i64 0, .int .i64 0, .int .i64 0, .slice none 0 0]) 7 72 Try.underlying22 infoZD .i64 .i64 n (by omega) (by omega)
  go_enter Try.func32, Try.ntmps32
  go_wp2
  clear hmk
  go_loopw [4] (fun i wr => ∃ (k : Nat) (cur : Array Value) (B : Nat → Nat), k ≤ n ∧ i = .int .i64 k ∧ wr.heap[w.heap.size]? = some (.cells cur 57 (0, 0)) ∧ cur.size = n * 7 ∧ (∀ j x, j < k → xs[j]? = some x → ∃ cs : Array Value, cs.size = 7 ∧ cs.all (·.oneCell') = true ∧ (∀ r u, cs[r]? = some u → cur[j * 7 + r]? = some u) ∧ DkO wr (fun b => B j ≤ b ∧ b < B (j + 1)) (.agg cs) x) ∧ (∀ j, j < k → B j ≤ B (j + 1)) ∧ w.heap.size < B 0 ∧ B k ≤ wr.heap.size ∧ Below w.heap.size w wr) (fun i _ => n - (intOf i).toNat)
  case atStart => exact ⟨0, _, fun _ => w.heap.size + 1, Nat.zero_le _, rfl, heap_alloc_new w _, size_madeCells _ _, fun j s hj => by omega, fun j hj => by omega, Nat.lt_succ_self _, by simp, (Below.refl _ _).alloc (Nat.le_refl _) _⟩
  case round =>
    obtain ⟨k, cur, B, hk, rfl, hg, hcs, hmk, hB, hB0, hBk, hbel⟩ := hrel
    have HB := hide hB
    clear hB
    have HM := hide hmk
    have HC := hide hcs
    clear hmk hcs
    by_cases hlt : k < n
    · obtain ⟨x, hx⟩ := getAt xs k (by rw [HN.out]; exact hlt)
      obtain ⟨-, b1, o1, rfl, cs, hcs, hone, hc, he⟩ := (HR.out.keep (fun v x h => DkR.keep h hbel) hbel).elem hx
      have HX := hide hx
      have F := hide hc
      have GI := hide (infoAt infoLd hcs)
      have hi : (k : Int) < (n : Int) := by omega
      have Hg := hide hg
      have zg := heap_lt hg
      have cT := toDkx _ x wr he (HS.out x (List.mem_of_getElem? hx))
      clear hx hc hcs hone hg he
      go_wp2_with (refine wpList_load_at rfl 78 (.tmp 18) rfl b1 (o1 + k * 7) rfl cs _ F.out Try.underlying78 rfl GI.out ?_)
      refine cT.mono ?_
      rintro e w1 ⟨v1, rfl, hv1, hb1⟩
      obtain ⟨ds, rfl, hds, hd1⟩ := DkR.agg (DkO.reads hv1)
      have hk3 : k * 7 + ds.size ≤ cur.size := by rw [HC.out, hds]; omega
      have HK3 := hide hk3
      have GD := hide (infoAt infoDk hds)
      have HD1 := hide hd1
      have HDS := hide hds
      have Hg1 := hide (bKeeps hb1 Hg.out)
      have HV := hide hv1
      clear hk3 hds hd1 hv1 cT
      go_wp2_with (refine wpList_store_at rfl 57 (.tmp 21) (.tmp 20) rfl w.heap.size (k * 7) ds rfl rfl _ _ Hg1.out GD.out HK3.out HD1.out ?_)
      have us := updRow0D w1 w.heap.size (putAt cur (k * 7) ds)
      have c1 := bAll hbel hb1
      have z1 := hb1.size
      have zs := us.size
      go_roundw
      case rel =>
        refine ⟨k + 1, _, stepB B k w1.heap.size, by omega, by go_num, setRow_heap _ _ _ _ _ _ Hg1.out, by rw [putAt_size HK3.out]; exact HC.out, fun j y hj hy => ?_, fun j hj => ?_, by rw [stepB_le (Nat.zero_le _)]; exact hB0, by rw [stepB_gt (Nat.lt_succ_self _)]; exact zs, c1.trans (us.below c1.size (fun k h => by omega))⟩
        · by_cases hjk : j = k
          · subst hjk
            rw [HX.out] at hy
            obtain rfl := Option.some.inj hy
            rw [stepB_le (Nat.le_refl _), stepB_gt (Nat.lt_succ_self _)]
            have hb0 := asc_places HB.out 0 j (Nat.zero_le _) (Nat.le_refl _)
            exact ⟨ds, HDS.out, HD1.out, fun r u hr => putAt_in HK3.out hr, (HV.out.mono (fun b hlt h => ⟨Nat.le_trans hBk h, hlt⟩)).keep us (fun b h1 h2 => by omega)⟩
          · obtain ⟨cs', q1, q2, q3, q4⟩ := HM.out j y (by omega) hy
            rw [stepB_le (show j ≤ k by omega), stepB_le (show j + 1 ≤ k by omega)]
            have hb0 := asc_places HB.out 0 j (Nat.zero_le _) (by omega)
            refine ⟨cs', q1, q2, fun r u hr => ?_, ((DkO.keepB q4 hb1)).keep us (fun b h1 h2 => by omega)⟩
            have hrl : r < 7 := by have := (Array.getElem?_eq_some_iff.1 hr).1; omega
            rw [putAt_out HK3.out (by rw [HDS.out]; omega)]
            exact q3 r u hr
        · rcases Nat.lt_or_ge j k with h | h
          · rw [stepB_le (show j ≤ k by omega), stepB_le (show j + 1 ≤ k by omega)]
            exact HB.out j h
          · have e : j = k := by omega
            subst e
            rw [stepB_le (Nat.le_refl _), stepB_gt (Nat.lt_succ_self _)]
            omega
      case measure => simp [intOf]; omega
    · go_wp2
      go_ret
      obtain rfl : k = n := by omega
      refine ⟨_, rfl, ⟨_, _, congrArg (fun q => Value.slice (some ⟨w.heap.size, 0, none⟩) q k) HN.out.symm, by have := HN.out; omega, fun _ => ⟨_, cur, rfl, Nat.le_refl _, hg, fun j b => j < k ∧ B j ≤ b ∧ b < B (j + 1), fun j b hb => ?_, fun i j b hi hj => ?_, fun j x hx => ?_⟩⟩, hbel⟩
      · have := asc_places HB.out 0 j (Nat.zero_le _) (by omega)
        omega
      · rcases Nat.lt_trichotomy i j with h | h | h
        · have := asc_places HB.out (i + 1) j (by omega) (by omega)
          omega
        · exact h
        · have := asc_places HB.out (j + 1) i (by omega) (by omega)
          omega
      have hj := (List.getElem?_eq_some_iff.1 hx).1
      obtain ⟨cs, q1, q2, q3, q4⟩ := HM.out j x (by have := HN.out; omega) hx
      exact ⟨cs, q1, q2, q3, DkO.mono q4 (fun b _ h => ⟨by have := HN.out; omega, h⟩)⟩

end Go.Proofs.Ythdnnmmaalgpaaa

/- What the laws' own helpers do with slices of MapView: contracts; no statement of the seat is proved here. -/
namespace Go.Proofs.Ythdnnmmaalgpaaa
open Go.RowKit

abbrev Gc := Int × Int × Int
def gcell (x : Gc) : List Value := [.int .i64 x.1, .int .i64 x.2.1, .int .i64 x.2.2]
def gcells (xs : List Gc) : List Value := xs.flatMap gcell
theorem gcell_len (x : Gc) : (gcell x).length = 3 := rfl
theorem gcells_len (xs : List Gc) : (gcells xs).length = xs.length * 3 := fm_len gcell_len xs
theorem gcell_one (x : Gc) : ∀ u ∈ gcell x, u.oneCell' = true := by
  intro u hu
  simp only [gcell, List.mem_cons, List.not_mem_nil, or_false] at hu
  rcases hu with rfl | rfl | rfl <;> rfl
theorem gcells_snoc (xs : List Gc) (x : Gc) : gcells (xs ++ [x]) = gcells xs ++ gcell x := by simp [gcells]

theorem gc_cells {w wr : World} {b o k : Nat} {xs : List Gc} {x : Gc} (hc : ∀ j u, (gcells xs)[j]? = some u → w.cell? ⟨b, o + j, none⟩ = some u) (h : xs[k]? = some x) (hb : Below w.heap.size w wr) :
    wr.cell? ⟨b, o + k * 3, none⟩ = some (.int .i64 x.1) ∧ wr.cell? ⟨b, o + k * 3 + 1, none⟩ = some (.int .i64 x.2.1) ∧ wr.cell? ⟨b, o + k * 3 + 2, none⟩ = some (.int .i64 x.2.2) ∧ b < w.heap.size := by
  have g := fun j u => el_cell gcell_len hc h hb j u
  exact ⟨(g 0 _ rfl).1, (g 1 _ rfl).1, (g 2 _ rfl).1, (g 0 _ rfl).2⟩

set_option maxHeartbeats 400000 in
theorem szMapViewS_any (so : Option Addr) (n sc : Nat) (left : Int) (w : World) (hn : n ≤ 9223372036854775807) (h1 : 0 ≤ left) (h2 : left ≤ 1048576) :
    Calls Try.prog 27 #[.slice so n sc, .int .i64 left] w fun e w' => ∃ r, e = .returned (.int .i64 r) ∧ Sized left r n ∧ Below w.heap.size w w' := by
  by_cases hneg : left - n < 0
  · go_enter Try.func27, Try.ntmps27
    go_wp2
    go_ret
    exact ⟨_, rfl, .inl (by omega), Below.refl _ _⟩
  · have hge : 0 ≤ left - n := by omega
    clear hneg
    go_enter Try.func27, Try.ntmps27
    go_wp2
    go_ret
    exact ⟨_, rfl, .inr ⟨rfl, hge⟩, Below.refl _ _⟩

set_option maxHeartbeats 400000 in
theorem toMapView_any (a0 a1 a2 : Int) (w : World) :
    Calls Try.prog 54 #[.agg #[.int .i64 a0, .int .i64 a1, .int .i64 a2]] w fun e w' => e = .returned (.agg #[.int .i64 a0, .int .i64 a1, .int .i64 a2]) ∧ Below w.heap.size w w' := by
  go_enter Try.func54, Try.ntmps54
  go_wp2
  exact bodyPost_ret (v := .agg #[.int .i64 a0, .int .i64 a1, .int .i64 a2]) (by simp [results, Try.results54, go_sem]) rfl ⟨rfl, (((Below.refl _ _).alloc (Nat.le_refl _) _).alloc (by simp) _).alloc (by simp; omega) _⟩

theorem infoGc : (Try.prog.info? 43).map (fun i => (i.zero, i.size, i.bytes)) = some (some (.agg #[.int .i64 0, .int .i64 0, .int .i64 0]), 3, 24) := by kernel_rfl

theorem gset {cur : Array Value} {j k : Nat} (a0 a1 a2 : Value) (hk : k * 3 + 2 < cur.size) :
    let c := (((cur.setIfInBounds (k * 3) a0).setIfInBounds (k * 3 + 1) a1).setIfInBounds (k * 3 + 2) a2)
    (j = k → c[j * 3]? = some a0 ∧ c[j * 3 + 1]? = some a1 ∧ c[j * 3 + 2]? = some a2) ∧ (j ≠ k → c[j * 3]? = cur[j * 3]? ∧ c[j * 3 + 1]? = cur[j * 3 + 1]? ∧ c[j * 3 + 2]? = cur[j * 3 + 2]?) := by
  refine ⟨?_, fun h => ?_⟩
  · rintro rfl
    refine ⟨?_, ?_, ?_⟩
    · rw [Array.getElem?_setIfInBounds_ne (by omega), Array.getElem?_setIfInBounds_ne (by omega), Array.getElem?_setIfInBounds_self_of_lt (by omega)]
    · rw [Array.getElem?_setIfInBounds_ne (by omega), Array.getElem?_setIfInBounds_self_of_lt (by simp; omega)]
    · rw [Array.getElem?_setIfInBounds_self_of_lt (by simp; omega)]
  · refine ⟨?_, ?_, ?_⟩ <;> rw [Array.getElem?_setIfInBounds_ne (by omega), Array.getElem?_setIfInBounds_ne (by omega), Array.getElem?_setIfInBounds_ne (by omega)]

theorem gcells_ext (xs : List Gc) (cs : List Value) (hl : cs.length = xs.length * 3) (h : ∀ j x, xs[j]? = some x → cs[j * 3]? = some (.int .i64 x.1) ∧ cs[j * 3 + 1]? = some (.int .i64 x.2.1) ∧ cs[j * 3 + 2]? = some (.int .i64 x.2.2)) : cs = gcells xs := by
  refine fm_ext gcell_len (by omega) xs cs hl (fun i x j hx hj => ?_)
  obtain ⟨h0, h1, h2⟩ := h i x hx
  rcases (by omega : j = 0 ∨ j = 1 ∨ j = 2) with rfl | rfl | rfl
  · exact h0
  · exact h1
  · exact h2

set_option maxHeartbeats 4000000 in
theorem toMapViewS_any (v : Value) (n : Nat) (ss : List Gc) (w : World) (hr : RowR w 3 v n (gcells ss)) (hn : n ≤ 1048576) :
    Calls Try.prog 33 #[v] w fun e w' => ∃ so', e = .returned (.slice so' n n) ∧ Row w' 43 3 (fun k => w.heap.size ≤ k) (.slice so' n n) n (gcells ss) ∧ Below w.heap.size w w' := by
  obtain ⟨ao, cap, rfl, hn', hl, hr⟩ := hr
  rw [gcells_len] at hl
  have Hl := hide hl
  clear hl
  have hmk := run_make_row2 (P := Try.prog) 23 43 (.agg #[.int .i64 0, .int .i64 0, .int .i64 0]) 3 24 Try.underlying23 infoGc .i64 .i64 n (by omega) (by omega)
  go_enter Try.func33, Try.ntmps33
  go_wp2
  clear hmk
  go_loopw [4] (fun i wr => ∃ (k : Nat) (cur : Array Value), k ≤ n ∧ i = .int .i64 k ∧ wr.heap[w.heap.size]? = some (.cells cur 43 (0, 0)) ∧ cur.size = n * 3 ∧ (∀ j x, j < k → ss[j]? = some x → cur[j * 3]? = some (.int .i64 x.1) ∧ cur[j * 3 + 1]? = some (.int .i64 x.2.1) ∧ cur[j * 3 + 2]? = some (.int .i64 x.2.2)) ∧ Below w.heap.size w wr) (fun i _ => n - (intOf i).toNat)
  case atStart => exact ⟨0, _, Nat.zero_le _, rfl, heap_alloc_new w _, size_madeCells _ _, fun j s hj => by omega, (Below.refl _ _).alloc (Nat.le_refl _) _⟩
  case round =>
    obtain ⟨k, cur, hk, rfl, hg, hcs, hmk, hbel⟩ := hrel
    have HM := hide hmk
    have HC := hide hcs
    have hcs' : n * 3 ≤ cur.size := by omega
    clear hmk hcs
    by_cases hlt : k < n
    · obtain ⟨b1, o1, rfl, hc1⟩ := hr (by omega)
      obtain ⟨⟨a0, a1, a2⟩, hs⟩ := getAt ss k (by have := Hl.out; omega)
      have Hs := hide hs
      obtain ⟨f0, f1, f2, l1⟩ := gc_cells hc1 hs hbel
      have hi : (k : Int) < (n : Int) := by omega
      have hk3 : k * 3 + 2 < cur.size := by omega
      obtain ⟨u0, hu0⟩ : ∃ u, cur[k * 3]? = some u := ⟨cur[k * 3]'(by omega), by simp [show k * 3 < cur.size by omega]⟩
      obtain ⟨u1, hu1⟩ : ∃ u, cur[k * 3 + 1]? = some u := ⟨cur[k * 3 + 1]'(by omega), by simp [show k * 3 + 1 < cur.size by omega]⟩
      obtain ⟨u2, hu2⟩ : ∃ u, cur[k * 3 + 2]? = some u := ⟨cur[k * 3 + 2]'(by omega), by simp [show k * 3 + 2 < cur.size by omega]⟩
      have Hg := hide hg
      clear hr hc1 hs hg
      go_wp2_with fail
      refine (toMapView_any a0 a1 a2 _).mono ?_
      rintro e w1 ⟨rfl, hb1⟩
      have hg := bKeeps hb1 Hg.out
      have hcw0 : w1.cell? ⟨w.heap.size, k * 3, none⟩ = some u0 := (cell_of_row w1 _ _ cur _ (0, 0) hg).trans hu0
      have hcw1 : w1.cell? ⟨w.heap.size, k * 3 + 1, none⟩ = some u1 := (cell_of_row w1 _ _ cur _ (0, 0) hg).trans hu1
      have hcw2 : w1.cell? ⟨w.heap.size, k * 3 + 2, none⟩ = some u2 := (cell_of_row w1 _ _ cur _ (0, 0) hg).trans hu2
      have hfw0 : w1.frozen? ⟨w.heap.size, k * 3, none⟩ = false := frozen_of_row w1 _ _ cur _ hg
      have hfw1 : w1.frozen? ⟨w.heap.size, k * 3 + 1, none⟩ = false := frozen_of_row w1 _ _ cur _ hg
      have hfw2 : w1.frozen? ⟨w.heap.size, k * 3 + 2, none⟩ = false := frozen_of_row w1 _ _ cur _ hg
      have Hg1 := hide hg
      clear hg hu0 hu1 hu2
      go_wp2
      go_roundw
      case rel =>
        refine ⟨k + 1, _, by omega, by go_num, (row_set _ (row_set _ (row_set _ Hg1.out))), by simpa using HC.out, fun j x hj hx => ?_, ((((bAll hbel hb1).setCell (p := ⟨w.heap.size, k * 3, none⟩) (Nat.le_refl _) _).setCell (p := ⟨w.heap.size, k * 3 + 1, none⟩) (Nat.le_refl _) _).setCell (p := ⟨w.heap.size, k * 3 + 2, none⟩) (Nat.le_refl _) _)⟩
        have h3 := gset (cur := cur) (j := j) (k := k) (.int .i64 a0) (.int .i64 a1) (.int .i64 a2) hk3
        by_cases hjk : j = k
        · have h4 := h3.1 hjk
          subst hjk
          rw [Hs.out] at hx
          obtain rfl := Option.some.inj hx
          exact h4
        · have h4 := h3.2 hjk
          have h5 := HM.out j x (by omega) hx
          exact ⟨h4.1.trans h5.1, h4.2.1.trans h5.2.1, h4.2.2.trans h5.2.2⟩
      case measure => simp [intOf]; omega
    · go_wp2
      go_ret
      obtain rfl : k = n := by omega
      refine ⟨_, rfl, ⟨_, _, rfl, hn', by rw [gcells_len]; rw [← Hl.out], fun _ => ⟨_, cur, rfl, Nat.le_refl _, hg, ?_⟩⟩, hbel⟩
      have hl := Hl.out
      have hc := HC.out
      refine gcells_ext ss _ (by simp; omega) (fun j x hx => ?_)
      have hj := (List.getElem?_eq_some_iff.1 hx).1
      rw [List.getElem?_take_of_lt (by omega), List.getElem?_take_of_lt (by omega), List.getElem?_take_of_lt (by omega)]
      simpa using HM.out j x (by omega) hx

set_option maxHeartbeats 400000 in
theorem eqMapView_true (x : Gc) (w : World) :
    Calls Try.prog 47 #[.agg #[.int .i64 x.1, .int .i64 x.2.1, .int .i64 x.2.2], .agg #[.int .i64 x.1, .int .i64 x.2.1, .int .i64 x.2.2]] w fun e w' => e = .returned (.bool true) ∧ Below w.heap.size w w' := by
  obtain ⟨a0, a1, a2⟩ := x
  go_enter Try.func47, Try.ntmps47
  go_wp2
  go_ret
  exact ⟨rfl, ((Below.refl _ _).alloc (Nat.le_refl _) _).alloc (by simp) _⟩

set_option maxHeartbeats 400000 in
theorem eqMapViewS_true (va vb : Value) (n : Nat) (xs : List Gc) (w : World) (ha : RowR w 3 va n (gcells xs)) (hb : RowR w 3 vb n (gcells xs)) :
    Calls Try.prog 18 #[va, vb] w fun e w' => e = .returned (.bool true) ∧ Below w.heap.size w w' := by
  obtain ⟨ao, ca, rfl, hn, hl, ha⟩ := ha
  obtain ⟨bo, cb, rfl, _, _, hb⟩ := hb
  rw [gcells_len] at hl
  go_enter Try.func18, Try.ntmps18
  go_wp2
  go_loopw [5] (fun i wr => ∃ k : Nat, k ≤ n ∧ i = .int .i64 k ∧ Below w.heap.size w wr) (fun i _ => n - (intOf i).toNat)
  case atStart => exact ⟨0, Nat.zero_le _, rfl, Below.refl _ _⟩
  case round =>
    obtain ⟨k, hk, rfl, hbel⟩ := hrel
    by_cases hlt : k < n
    · obtain ⟨b1, o1, rfl, hc1⟩ := ha (by omega)
      obtain ⟨b2, o2, rfl, hc2⟩ := hb (by omega)
      obtain ⟨x, hx⟩ := getAt xs k (by omega)
      obtain ⟨f0, f1, f2, l1⟩ := gc_cells hc1 hx hbel
      obtain ⟨g0, g1, g2, l2⟩ := gc_cells hc2 hx hbel
      obtain ⟨a0, a1, a2⟩ := x
      have hi : (k : Int) < (n : Int) := by omega
      clear ha hb hc1 hc2 hx hl
      go_wp2
      go_region_with (go_at_call 47; refine (eqMapView_true (a0, a1, a2) _).mono ?_; rintro e w1 ⟨rfl, hbm⟩; have hbm' : Below wr.heap.size wr w1 := bUndrew hbm)
      all_goals
        go_wp2
        go_roundw
        case rel => exact ⟨k + 1, by omega, by go_num, bAllTo hbel hbm'⟩
        case measure => simp [intOf]; omega
    · go_wp2
      go_ret
      exact ⟨rfl, hbel⟩

/-- The marks of n elements from k on. -/
def mkG (k n : Nat) : List Gc := (List.range n).map fun i => ((k + i * 3 : Nat), (k + i * 3 + 1 : Nat), (k + i * 3 + 2 : Nat))
theorem mkG_len (k n : Nat) : (mkG k n).length = n := by simp [mkG]
theorem mkG_get (k n i : Nat) (h : i < n) : (mkG k n)[i]? = some (((k + i * 3 : Nat) : Int), ((k + i * 3 + 1 : Nat) : Int), ((k + i * 3 + 2 : Nat) : Int)) := by simp [mkG, h]

set_option maxHeartbeats 4000000 in
theorem markMapViewS_any (S : Nat → Prop) (v : Value) (n : Nat) (cs : List Value) (k0 : Nat) (w : World) (hr : Row w 43 3 S v n cs) (h1 : 1 ≤ k0) (h2 : k0 + n * 3 ≤ 1099511627776) :
    Calls Try.prog 21 #[v, .int .i64 k0] w fun e w' => e = .returned (.int .i64 (k0 + n * 3 : Nat)) ∧ Row w' 43 3 S v n (gcells (mkG k0 n)) ∧ Upd S w w' := by
  obtain ⟨ao, cap, rfl, hn, hl, hr⟩ := hr
  rcases Nat.eq_zero_or_pos n with rfl | hpos
  · go_enter Try.func21, Try.ntmps21
    go_wp2
    refine wp_loop_rounds 1 ?_
    rw [rounds_succ]
    go_wp2
    go_ret
    exact ⟨rfl, ⟨ao, cap, rfl, hn, by simp [mkG, gcells], fun h => by omega⟩, Upd.refl _ _⟩
  · obtain ⟨g, cur, rfl, hS, hg, ht⟩ := hr hpos
    have hcs : n * 3 ≤ cur.size := by
      have := congrArg List.length ht
      simp [hl] at this
      omega
    clear hr ht hl
    go_enter Try.func21, Try.ntmps21
    go_wp2
    go_loopw [1, 5] (fun kv i wr => ∃ (k m : Nat) (cur' : Array Value), k ≤ n ∧ m = k0 + k * 3 ∧ i = .int .i64 k ∧ kv = .int .i64 (m : Nat) ∧ wr.heap[g]? = some (.cells cur' 43 (0, 0)) ∧ cur'.size = cur.size ∧ (∀ j, j < k → cur'[j * 3]? = some (.int .i64 (k0 + j * 3 : Nat)) ∧ cur'[j * 3 + 1]? = some (.int .i64 (k0 + j * 3 + 1 : Nat)) ∧ cur'[j * 3 + 2]? = some (.int .i64 (k0 + j * 3 + 2 : Nat))) ∧ Upd S w wr) (fun _ i _ => n - (intOf i).toNat)
    case atStart => exact ⟨0, k0, cur, Nat.zero_le _, rfl, rfl, rfl, hg, rfl, fun j hj => by omega, Upd.refl _ _⟩
    case round =>
      obtain ⟨k, m, cur', hk, hm, rfl, rfl, hgr, hsz, hmk, hup⟩ := hrel
      have Hm := hide hm
      have hm2 : (m : Int) ≤ 1099511627776 := by omega
      clear hm
      have HM := hide hmk
      have HZ := hide hsz
      have hsz' : n * 3 ≤ cur'.size := by omega
      clear hmk hsz
      by_cases hlt : k < n
      · have hi : (k : Int) < (n : Int) := by omega
        have hk3 : k * 3 + 2 < cur'.size := by omega
        obtain ⟨u0, hu0⟩ : ∃ u, cur'[k * 3]? = some u := ⟨cur'[k * 3]'(by omega), by simp [show k * 3 < cur'.size by omega]⟩
        obtain ⟨u1, hu1⟩ : ∃ u, cur'[k * 3 + 1]? = some u := ⟨cur'[k * 3 + 1]'(by omega), by simp [show k * 3 + 1 < cur'.size by omega]⟩
        obtain ⟨u2, hu2⟩ : ∃ u, cur'[k * 3 + 2]? = some u := ⟨cur'[k * 3 + 2]'(by omega), by simp [show k * 3 + 2 < cur'.size by omega]⟩
        have hcw0 : wr.cell? ⟨g, k * 3, none⟩ = some u0 := (cell_of_row wr _ _ cur' _ (0, 0) hgr).trans hu0
        have hcw1 : wr.cell? ⟨g, k * 3 + 1, none⟩ = some u1 := (cell_of_row wr _ _ cur' _ (0, 0) hgr).trans hu1
        have hcw2 : wr.cell? ⟨g, k * 3 + 2, none⟩ = some u2 := (cell_of_row wr _ _ cur' _ (0, 0) hgr).trans hu2
        have hfw0 : wr.frozen? ⟨g, k * 3, none⟩ = false := frozen_of_row wr _ _ cur' _ hgr
        have hfw1 : wr.frozen? ⟨g, k * 3 + 1, none⟩ = false := frozen_of_row wr _ _ cur' _ hgr
        have hfw2 : wr.frozen? ⟨g, k * 3 + 2, none⟩ = false := frozen_of_row wr _ _ cur' _ hgr
        have Hg := hide hgr
        clear hgr hu0 hu1 hu2
        go_wp2
        go_roundw
        case rel =>
          refine ⟨k + 1, m + 3, _, by omega, by rw [Hm.out]; omega, by go_num, by go_num, (row_set _ (row_set _ (row_set _ Hg.out))), by simpa using HZ.out, fun j hj => ?_, (((hup.trans (Upd.setCell _ _ _ _ hS)).trans (Upd.setCell _ _ _ _ hS)).trans (Upd.setCell _ _ _ _ hS))⟩
          have h3 := gset (cur := cur') (j := j) (k := k) (.int .i64 m) (.int .i64 (m + 1)) (.int .i64 (m + 1 + 1)) hk3
          by_cases hjk : j = k
          · have h4 := h3.1 hjk
            subst hjk
            have := Hm.out
            subst this
            refine ⟨h4.1.trans ?_, h4.2.1.trans ?_, h4.2.2.trans ?_⟩ <;> (congr 2 <;> omega)
          · have h4 := h3.2 hjk
            have h5 := HM.out j (by omega)
            exact ⟨h4.1.trans h5.1, h4.2.1.trans h5.2.1, h4.2.2.trans h5.2.2⟩
        case measure => simp [intOf]; omega
      · go_wp2
        go_ret
        obtain rfl : k = n := by omega
        refine ⟨by rw [Hm.out]; rfl, ⟨_, cap, rfl, hn, by rw [gcells_len, mkG_len], fun _ => ⟨g, cur', rfl, hS, hgr, ?_⟩⟩, hup⟩
        have hz := HZ.out
        refine gcells_ext _ _ (by rw [mkG_len]; simp; omega) (fun j x hx => ?_)
        have hj := (List.getElem?_eq_some_iff.1 hx).1
        rw [mkG_len] at hj
        rw [mkG_get _ _ _ hj] at hx
        obtain rfl := Option.some.inj hx
        rw [List.getElem?_take_of_lt (by omega), List.getElem?_take_of_lt (by omega), List.getElem?_take_of_lt (by omega)]
        simpa using HM.out j hj

set_option maxHeartbeats 4000000 in
theorem heldMapViewS_ok (v : Value) (n k0 : Nat) (w : World) (hr : RowR w 3 v n (gcells (mkG k0 n))) (h1 : 1 ≤ k0) (h2 : k0 + n * 3 ≤ 1099511627776) :
    Calls Try.prog 24 #[v, .int .i64 k0] w fun e w' => e = .returned (.int .i64 (k0 + n * 3 : Nat)) ∧ Below w.heap.size w w' := by
  obtain ⟨ao, cap, rfl, hn, hl, hr⟩ := hr
  clear hl
  go_enter Try.func24, Try.ntmps24
  go_wp2
  go_loopw [1, 5] (fun kv i wr => ∃ k m : Nat, k ≤ n ∧ m = k0 + k * 3 ∧ i = .int .i64 k ∧ kv = .int .i64 (m : Nat) ∧ Below w.heap.size w wr) (fun _ i _ => n - (intOf i).toNat)
  case atStart => exact ⟨0, k0, Nat.zero_le _, rfl, rfl, rfl, Below.refl _ _⟩
  case round =>
    obtain ⟨k, m, hk, hm, rfl, rfl, hbel⟩ := hrel
    have Hm : Hid (m = k0 + k * 3) := hm
    have hm2 : (m : Int) ≤ 1099511627776 := by omega
    clear hm
    by_cases hlt : k < n
    · obtain ⟨b1, o1, rfl, hc1⟩ := hr (by omega)
      obtain ⟨f0, f1, f2, l1⟩ := gc_cells hc1 (mkG_get k0 n k hlt) hbel
      rw [← Hm.out] at f0 f1 f2
      simp only [Int.natCast_add, Int.natCast_one] at f1 f2
      have hi : (k : Int) < (n : Int) := by omega
      have e2 : ((m : Int) + ((2 : Nat) : Int)) = (m : Int) + 1 + 1 := by omega
      rw [e2] at f2
      clear hr hc1 e2
      go_wp2
      go_roundw
      case rel => exact ⟨k + 1, m + 3, by omega, by rw [Hm.out]; omega, by go_num, by go_num, hbel⟩
      case measure => simp [intOf]; omega
    · go_wp2
      go_ret
      obtain rfl : k = n := by omega
      exact ⟨by rw [Hm.out]; rfl, hbel⟩

end Go.Proofs.Ythdnnmmaalgpaaa

/- What the laws' own helpers do with slices of MapDone: contracts; no statement of the seat is proved here. -/
namespace Go.Proofs.Ythdnnmmaalgpaaa
open Go.RowKit

abbrev Ec := Int × Int × Int × Int
def ecell (x : Ec) : List Value := [.int .i64 x.1, .int .i64 x.2.1, .int .i64 x.2.2.1, .int .i64 x.2.2.2]
def ecells (xs : List Ec) : List Value := xs.flatMap ecell
theorem ecell_len (x : Ec) : (ecell x).length = 4 := rfl
theorem ecells_len (xs : List Ec) : (ecells xs).length = xs.length * 4 := fm_len ecell_len xs
theorem ec_cells {w wr : World} {b o k : Nat} {xs : List Ec} {x : Ec} (hc : ∀ j u, (ecells xs)[j]? = some u → w.cell? ⟨b, o + j, none⟩ = some u) (h : xs[k]? = some x) (hb : Below w.heap.size w wr) :
    wr.cell? ⟨b, o + k * 4, none⟩ = some (.int .i64 x.1) ∧ wr.cell? ⟨b, o + k * 4 + 1, none⟩ = some (.int .i64 x.2.1) ∧ wr.cell? ⟨b, o + k * 4 + 2, none⟩ = some (.int .i64 x.2.2.1) ∧ wr.cell? ⟨b, o + k * 4 + 3, none⟩ = some (.int .i64 x.2.2.2) ∧ b < w.heap.size := by
  have g := fun j u => el_cell ecell_len hc h hb j u
  exact ⟨(g 0 _ rfl).1, (g 1 _ rfl).1, (g 2 _ rfl).1, (g 3 _ rfl).1, (g 0 _ rfl).2⟩

set_option maxHeartbeats 400000 in
theorem szMapDoneS_any (so : Option Addr) (n sc : Nat) (left : Int) (w : World) (hn : n ≤ 9223372036854775807) (h1 : 0 ≤ left) (h2 : left ≤ 1048576) :
    Calls Try.prog 28 #[.slice so n sc, .int .i64 left] w fun e w' => ∃ r, e = .returned (.int .i64 r) ∧ Sized left r n ∧ Below w.heap.size w w' := by
  by_cases hneg : left - n < 0
  · go_enter Try.func28, Try.ntmps28
    go_wp2
    go_ret
    exact ⟨_, rfl, .inl (by omega), Below.refl _ _⟩
  · have hge : 0 ≤ left - n := by omega
    clear hneg
    go_enter Try.func28, Try.ntmps28
    go_wp2
    go_ret
    exact ⟨_, rfl, .inr ⟨rfl, hge⟩, Below.refl _ _⟩

set_option maxHeartbeats 400000 in
theorem toMapDone_any (a0 a1 a2 a3 : Int) (w : World) :
    Calls Try.prog 55 #[.agg #[.int .i64 a0, .int .i64 a1, .int .i64 a2, .int .i64 a3]] w fun e w' => e = .returned (.agg #[.int .i64 a0, .int .i64 a1, .int .i64 a2, .int .i64 a3]) ∧ Below w.heap.size w w' := by
  go_enter Try.func55, Try.ntmps55
  go_wp2
  exact bodyPost_ret (v := .agg #[.int .i64 a0, .int .i64 a1, .int .i64 a2, .int .i64 a3]) (by simp [results, Try.results55, go_sem]) rfl ⟨rfl, (((Below.refl _ _).alloc (Nat.le_refl _) _).alloc (by simp) _).alloc (by simp; omega) _⟩

theorem infoEc : (Try.prog.info? 59).map (fun i => (i.zero, i.size, i.bytes)) = some (some (.agg #[.int .i64 0, .int .i64 0, .int .i64 0, .int .i64 0]), 4, 32) := by kernel_rfl

theorem eset {cur : Array Value} {j k : Nat} (a0 a1 a2 a3 : Value) (hk : k * 4 + 3 < cur.size) :
    let c := ((((cur.setIfInBounds (k * 4) a0).setIfInBounds (k * 4 + 1) a1).setIfInBounds (k * 4 + 2) a2).setIfInBounds (k * 4 + 3) a3)
    (j = k → c[j * 4]? = some a0 ∧ c[j * 4 + 1]? = some a1 ∧ c[j * 4 + 2]? = some a2 ∧ c[j * 4 + 3]? = some a3) ∧ (j ≠ k → c[j * 4]? = cur[j * 4]? ∧ c[j * 4 + 1]? = cur[j * 4 + 1]? ∧ c[j * 4 + 2]? = cur[j * 4 + 2]? ∧ c[j * 4 + 3]? = cur[j * 4 + 3]?) := by
  refine ⟨?_, fun h => ?_⟩
  · rintro rfl
    refine ⟨?_, ?_, ?_, ?_⟩
    · rw [Array.getElem?_setIfInBounds_ne (by omega), Array.getElem?_setIfInBounds_ne (by omega), Array.getElem?_setIfInBounds_ne (by omega), Array.getElem?_setIfInBounds_self_of_lt (by omega)]
    · rw [Array.getElem?_setIfInBounds_ne (by omega), Array.getElem?_setIfInBounds_ne (by omega), Array.getElem?_setIfInBounds_self_of_lt (by simp; omega)]
    · rw [Array.getElem?_setIfInBounds_ne (by omega), Array.getElem?_setIfInBounds_self_of_lt (by simp; omega)]
    · rw [Array.getElem?_setIfInBounds_self_of_lt (by simp; omega)]
  · refine ⟨?_, ?_, ?_, ?_⟩ <;> rw [Array.getElem?_setIfInBounds_ne (by omega), Array.getElem?_setIfInBounds_ne (by omega), Array.getElem?_setIfInBounds_ne (by omega), Array.getElem?_setIfInBounds_ne (by omega)]

theorem ecells_ext (xs : List Ec) (cs : List Value) (hl : cs.length = xs.length * 4) (h : ∀ j x, xs[j]? = some x → cs[j * 4]? = some (.int .i64 x.1) ∧ cs[j * 4 + 1]? = some (.int .i64 x.2.1) ∧ cs[j * 4 + 2]? = some (.int .i64 x.2.2.1) ∧ cs[j * 4 + 3]? = some (.int .i64 x.2.2.2)) : cs = ecells xs := by
  refine fm_ext ecell_len (by omega) xs cs hl (fun i x j hx hj => ?_)
  obtain ⟨h0, h1, h2, h3⟩ := h i x hx
  rcases (by omega : j = 0 ∨ j = 1 ∨ j = 2 ∨ j = 3) with rfl | rfl | rfl | rfl
  · exact h0
  · exact h1
  · exact h2
  · exact h3

set_option maxHeartbeats 4000000 in
theorem toMapDoneS_any (v : Value) (n : Nat) (ss : List Ec) (w : World) (hr : RowR w 4 v n (ecells ss)) (hn : n ≤ 1048576) :
    Calls Try.prog 34 #[v] w fun e w' => ∃ so', e = .returned (.slice so' n n) ∧ Row w' 59 4 (fun k => w.heap.size ≤ k) (.slice so' n n) n (ecells ss) ∧ Below w.heap.size w w' := by
  obtain ⟨ao, cap, rfl, hn', hl, hr⟩ := hr
  rw [ecells_len] at hl
  have Hl := hide hl
  clear hl
  have hmk := run_make_row2 (P := Try.prog) 24 59 (.agg #[.int .i64 0, .int .i64 0, .int .i64 0, .int .i64 0]) 4 32 Try.underlying24 infoEc .i64 .i64 n (by omega) (by omega)
  go_enter Try.func34, Try.ntmps34
  go_wp2
  clear hmk
  go_loopw [4] (fun i wr => ∃ (k : Nat) (cur : Array Value), k ≤ n ∧ i = .int .i64 k ∧ wr.heap[w.heap.size]? = some (.cells cur 59 (0, 0)) ∧ cur.size = n * 4 ∧ (∀ j x, j < k → ss[j]? = some x → cur[j * 4]? = some (.int .i64 x.1) ∧ cur[j * 4 + 1]? = some (.int .i64 x.2.1) ∧ cur[j * 4 + 2]? = some (.int .i64 x.2.2.1) ∧ cur[j * 4 + 3]? = some (.int .i64 x.2.2.2)) ∧ Below w.heap.size w wr) (fun i _ => n - (intOf i).toNat)
  case atStart => exact ⟨0, _, Nat.zero_le _, rfl, heap_alloc_new w _, size_madeCells _ _, fun j s hj => by omega, (Below.refl _ _).alloc (Nat.le_refl _) _⟩
  case round =>
    obtain ⟨k, cur, hk, rfl, hg, hcs, hmk, hbel⟩ := hrel
    have HM := hide hmk
    have HC := hide hcs
    have hcs' : n * 4 ≤ cur.size := by omega
    clear hmk hcs
    by_cases hlt : k < n
    · obtain ⟨b1, o1, rfl, hc1⟩ := hr (by omega)
      obtain ⟨⟨a0, a1, a2, a3⟩, hs⟩ := getAt ss k (by have := Hl.out; omega)
      have Hs := hide hs
      obtain ⟨f0, f1, f2, f3, l1⟩ := ec_cells hc1 hs hbel
      have hi : (k : Int) < (n : Int) := by omega
      have hk3 : k * 4 + 3 < cur.size := by omega
      obtain ⟨u0, hu0⟩ : ∃ u, cur[k * 4]? = some u := ⟨cur[k * 4]'(by omega), by simp [show k * 4 < cur.size by omega]⟩
      obtain ⟨u1, hu1⟩ : ∃ u, cur[k * 4 + 1]? = some u := ⟨cur[k * 4 + 1]'(by omega), by simp [show k * 4 + 1 < cur.size by omega]⟩
      obtain ⟨u2, hu2⟩ : ∃ u, cur[k * 4 + 2]? = some u := ⟨cur[k * 4 + 2]'(by omega), by simp [show k * 4 + 2 < cur.size by omega]⟩
      obtain ⟨u3, hu3⟩ : ∃ u, cur[k * 4 + 3]? = some u := ⟨cur[k * 4 + 3]'(by omega), by simp [show k * 4 + 3 < cur.size by omega]⟩
      have Hg := hide hg
      clear hr hc1 hs hg
      go_wp2_with fail
      refine (toMapDone_any a0 a1 a2 a3 _).mono ?_
      rintro e w1 ⟨rfl, hb1⟩
      have hg := bKeeps hb1 Hg.out
      have hcw0 : w1.cell? ⟨w.heap.size, k * 4, none⟩ = some u0 := (cell_of_row w1 _ _ cur _ (0, 0) hg).trans hu0
      have hcw1 : w1.cell? ⟨w.heap.size, k * 4 + 1, none⟩ = some u1 := (cell_of_row w1 _ _ cur _ (0, 0) hg).trans hu1
      have hcw2 : w1.cell? ⟨w.heap.size, k * 4 + 2, none⟩ = some u2 := (cell_of_row w1 _ _ cur _ (0, 0) hg).trans hu2
      have hcw3 : w1.cell? ⟨w.heap.size, k * 4 + 3, none⟩ = some u3 := (cell_of_row w1 _ _ cur _ (0, 0) hg).trans hu3
      have hfw0 : w1.frozen? ⟨w.heap.size, k * 4, none⟩ = false := frozen_of_row w1 _ _ cur _ hg
      have hfw1 : w1.frozen? ⟨w.heap.size, k * 4 + 1, none⟩ = false := frozen_of_row w1 _ _ cur _ hg
      have hfw2 : w1.frozen? ⟨w.heap.size, k * 4 + 2, none⟩ = false := frozen_of_row w1 _ _ cur _ hg
      have hfw3 : w1.frozen? ⟨w.heap.size, k * 4 + 3, none⟩ = false := frozen_of_row w1 _ _ cur _ hg
      have Hg1 := hide hg
      clear hg hu0 hu1 hu2 hu3
      go_wp2
      go_roundw
      case rel =>
        refine ⟨k + 1, _, by omega, by go_num, (row_set _ (row_set _ (row_set _ (row_set _ Hg1.out)))), by simpa using HC.out, fun j x hj hx => ?_, (((((bAll hbel hb1).setCell (p := ⟨w.heap.size, k * 4, none⟩) (Nat.le_refl _) _).setCell (p := ⟨w.heap.size, k * 4 + 1, none⟩) (Nat.le_refl _) _).setCell (p := ⟨w.heap.size, k * 4 + 2, none⟩) (Nat.le_refl _) _).setCell (p := ⟨w.heap.size, k * 4 + 3, none⟩) (Nat.le_refl _) _)⟩
        have h3 := eset (cur := cur) (j := j) (k := k) (.int .i64 a0) (.int .i64 a1) (.int .i64 a2) (.int .i64 a3) hk3
        by_cases hjk : j = k
        · have h4 := h3.1 hjk
          subst hjk
          rw [Hs.out] at hx
          obtain rfl := Option.some.inj hx
          exact h4
        · have h4 := h3.2 hjk
          have h5 := HM.out j x (by omega) hx
          exact ⟨h4.1.trans h5.1, h4.2.1.trans h5.2.1, h4.2.2.1.trans h5.2.2.1, h4.2.2.2.trans h5.2.2.2⟩
      case measure => simp [intOf]; omega
    · go_wp2
      go_ret
      obtain rfl : k = n := by omega
      refine ⟨_, rfl, ⟨_, _, rfl, hn', by rw [ecells_len]; rw [← Hl.out], fun _ => ⟨_, cur, rfl, Nat.le_refl _, hg, ?_⟩⟩, hbel⟩
      have hl := Hl.out
      have hc := HC.out
      refine ecells_ext ss _ (by simp; omega) (fun j x hx => ?_)
      have hj := (List.getElem?_eq_some_iff.1 hx).1
      rw [List.getElem?_take_of_lt (by omega), List.getElem?_take_of_lt (by omega), List.getElem?_take_of_lt (by omega), List.getElem?_take_of_lt (by omega)]
      simpa using HM.out j x (by omega) hx

set_option maxHeartbeats 400000 in
theorem eqMapDone_true (x : Ec) (w : World) :
    Calls Try.prog 48 #[.agg #[.int .i64 x.1, .int .i64 x.2.1, .int .i64 x.2.2.1, .int .i64 x.2.2.2], .agg #[.int .i64 x.1, .int .i64 x.2.1, .int .i64 x.2.2.1, .int .i64 x.2.2.2]] w fun e w' => e = .returned (.bool true) ∧ Below w.heap.size w w' := by
  obtain ⟨a0, a1, a2, a3⟩ := x
  go_enter Try.func48, Try.ntmps48
  go_wp2
  go_ret
  exact ⟨rfl, ((Below.refl _ _).alloc (Nat.le_refl _) _).alloc (by simp) _⟩

set_option maxHeartbeats 400000 in
theorem eqMapDoneS_true (va vb : Value) (n : Nat) (xs : List Ec) (w : World) (ha : RowR w 4 va n (ecells xs)) (hb : RowR w 4 vb n (ecells xs)) :
    Calls Try.prog 19 #[va, vb] w fun e w' => e = .returned (.bool true) ∧ Below w.heap.size w w' := by
  obtain ⟨ao, ca, rfl, hn, hl, ha⟩ := ha
  obtain ⟨bo, cb, rfl, _, _, hb⟩ := hb
  rw [ecells_len] at hl
  go_enter Try.func19, Try.ntmps19
  go_wp2
  go_loopw [5] (fun i wr => ∃ k : Nat, k ≤ n ∧ i = .int .i64 k ∧ Below w.heap.size w wr) (fun i _ => n - (intOf i).toNat)
  case atStart => exact ⟨0, Nat.zero_le _, rfl, Below.refl _ _⟩
  case round =>
    obtain ⟨k, hk, rfl, hbel⟩ := hrel
    by_cases hlt : k < n
    · obtain ⟨b1, o1, rfl, hc1⟩ := ha (by omega)
      obtain ⟨b2, o2, rfl, hc2⟩ := hb (by omega)
      obtain ⟨x, hx⟩ := getAt xs k (by omega)
      obtain ⟨f0, f1, f2, f3, l1⟩ := ec_cells hc1 hx hbel
      obtain ⟨g0, g1, g2, g3, l2⟩ := ec_cells hc2 hx hbel
      obtain ⟨a0, a1, a2, a3⟩ := x
      have hi : (k : Int) < (n : Int) := by omega
      clear ha hb hc1 hc2 hx hl
      go_wp2
      go_region_with (go_at_call 48; refine (eqMapDone_true (a0, a1, a2, a3) _).mono ?_; rintro e w1 ⟨rfl, hbm⟩; have hbm' : Below wr.heap.size wr w1 := bUndrew hbm)
      all_goals
        go_wp2
        go_roundw
        case rel => exact ⟨k + 1, by omega, by go_num, bAllTo hbel hbm'⟩
        case measure => simp [intOf]; omega
    · go_wp2
      go_ret
      exact ⟨rfl, hbel⟩

/-- The marks of n elements from k on. -/
def mkE (k n : Nat) : List Ec := (List.range n).map fun i => ((k + i * 4 : Nat), (k + i * 4 + 1 : Nat), (k + i * 4 + 2 : Nat), (k + i * 4 + 3 : Nat))
theorem mkE_len (k n : Nat) : (mkE k n).length = n := by simp [mkE]
theorem mkE_get (k n i : Nat) (h : i < n) : (mkE k n)[i]? = some (((k + i * 4 : Nat) : Int), ((k + i * 4 + 1 : Nat) : Int), ((k + i * 4 + 2 : Nat) : Int), ((k + i * 4 + 3 : Nat) : Int)) := by simp [mkE, h]

set_option maxHeartbeats 4000000 in
theorem markMapDoneS_any (S : Nat → Prop) (v : Value) (n : Nat) (cs : List Value) (k0 : Nat) (w : World) (hr : Row w 59 4 S v n cs) (h1 : 1 ≤ k0) (h2 : k0 + n * 4 ≤ 1099511627776) :
    Calls Try.prog 22 #[v, .int .i64 k0] w fun e w' => e = .returned (.int .i64 (k0 + n * 4 : Nat)) ∧ Row w' 59 4 S v n (ecells (mkE k0 n)) ∧ Upd S w w' := by
  obtain ⟨ao, cap, rfl, hn, hl, hr⟩ := hr
  rcases Nat.eq_zero_or_pos n with rfl | hpos
  · go_enter Try.func22, Try.ntmps22
    go_wp2
    refine wp_loop_rounds 1 ?_
    rw [rounds_succ]
    go_wp2
    go_ret
    exact ⟨rfl, ⟨ao, cap, rfl, hn, by simp [mkE, ecells], fun h => by omega⟩, Upd.refl _ _⟩
  · obtain ⟨g, cur, rfl, hS, hg, ht⟩ := hr hpos
    have hcs : n * 4 ≤ cur.size := by
      have := congrArg List.length ht
      simp [hl] at this
      omega
    clear hr ht hl
    go_enter Try.func22, Try.ntmps22
    go_wp2
    go_loopw [1, 5] (fun kv i wr => ∃ (k m : Nat) (cur' : Array Value), k ≤ n ∧ m = k0 + k * 4 ∧ i = .int .i64 k ∧ kv = .int .i64 (m : Nat) ∧ wr.heap[g]? = some (.cells cur' 59 (0, 0)) ∧ cur'.size = cur.size ∧ (∀ j, j < k → cur'[j * 4]? = some (.int .i64 (k0 + j * 4 : Nat)) ∧ cur'[j * 4 + 1]? = some (.int .i64 (k0 + j * 4 + 1 : Nat)) ∧ cur'[j * 4 + 2]? = some (.int .i64 (k0 + j * 4 + 2 : Nat)) ∧ cur'[j * 4 + 3]? = some (.int .i64 (k0 + j * 4 + 3 : Nat))) ∧ Upd S w wr) (fun _ i _ => n - (intOf i).toNat)
    case atStart => exact ⟨0, k0, cur, Nat.zero_le _, rfl, rfl, rfl, hg, rfl, fun j hj => by omega, Upd.refl _ _⟩
    case round =>
      obtain ⟨k, m, cur', hk, hm, rfl, rfl, hgr, hsz, hmk, hup⟩ := hrel
      have Hm := hide hm
      have hm2 : (m : Int) ≤ 1099511627776 := by omega
      clear hm
      have HM := hide hmk
      have HZ := hide hsz
      have hsz' : n * 4 ≤ cur'.size := by omega
      clear hmk hsz
      by_cases hlt : k < n
      · have hi : (k : Int) < (n : Int) := by omega
        have hk3 : k * 4 + 3 < cur'.size := by omega
        obtain ⟨u0, hu0⟩ : ∃ u, cur'[k * 4]? = some u := ⟨cur'[k * 4]'(by omega), by simp [show k * 4 < cur'.size by omega]⟩
        obtain ⟨u1, hu1⟩ : ∃ u, cur'[k * 4 + 1]? = some u := ⟨cur'[k * 4 + 1]'(by omega), by simp [show k * 4 + 1 < cur'.size by omega]⟩
        obtain ⟨u2, hu2⟩ : ∃ u, cur'[k * 4 + 2]? = some u := ⟨cur'[k * 4 + 2]'(by omega), by simp [show k * 4 + 2 < cur'.size by omega]⟩
        obtain ⟨u3, hu3⟩ : ∃ u, cur'[k * 4 + 3]? = some u := ⟨cur'[k * 4 + 3]'(by omega), by simp [show k * 4 + 3 < cur'.size by omega]⟩
        have hcw0 : wr.cell? ⟨g, k * 4, none⟩ = some u0 := (cell_of_row wr _ _ cur' _ (0, 0) hgr).trans hu0
        have hcw1 : wr.cell? ⟨g, k * 4 + 1, none⟩ = some u1 := (cell_of_row wr _ _ cur' _ (0, 0) hgr).trans hu1
        have hcw2 : wr.cell? ⟨g, k * 4 + 2, none⟩ = some u2 := (cell_of_row wr _ _ cur' _ (0, 0) hgr).trans hu2
        have hcw3 : wr.cell? ⟨g, k * 4 + 3, none⟩ = some u3 := (cell_of_row wr _ _ cur' _ (0, 0) hgr).trans hu3
        have hfw0 : wr.frozen? ⟨g, k * 4, none⟩ = false := frozen_of_row wr _ _ cur' _ hgr
        have hfw1 : wr.frozen? ⟨g, k * 4 + 1, none⟩ = false := frozen_of_row wr _ _ cur' _ hgr
        have hfw2 : wr.frozen? ⟨g, k * 4 + 2, none⟩ = false := frozen_of_row wr _ _ cur' _ hgr
        have hfw3 : wr.frozen? ⟨g, k * 4 + 3, none⟩ = false := frozen_of_row wr _ _ cur' _ hgr
        have Hg := hide hgr
        clear hgr hu0 hu1 hu2 hu3
        go_wp2
        go_roundw
        case rel =>
          refine ⟨k + 1, m + 4, _, by omega, by rw [Hm.out]; omega, by go_num, by go_num, (row_set _ (row_set _ (row_set _ (row_set _ Hg.out)))), by simpa using HZ.out, fun j hj => ?_, ((((hup.trans (Upd.setCell _ _ _ _ hS)).trans (Upd.setCell _ _ _ _ hS)).trans (Upd.setCell _ _ _ _ hS)).trans (Upd.setCell _ _ _ _ hS))⟩
          have h3 := eset (cur := cur') (j := j) (k := k) (.int .i64 m) (.int .i64 (m + 1)) (.int .i64 (m + 1 + 1)) (.int .i64 (m + 1 + 1 + 1)) hk3
          by_cases hjk : j = k
          · have h4 := h3.1 hjk
            subst hjk
            have := Hm.out
            subst this
            refine ⟨h4.1.trans ?_, h4.2.1.trans ?_, h4.2.2.1.trans ?_, h4.2.2.2.trans ?_⟩ <;> (congr 2 <;> omega)
          · have h4 := h3.2 hjk
            have h5 := HM.out j (by omega)
            exact ⟨h4.1.trans h5.1, h4.2.1.trans h5.2.1, h4.2.2.1.trans h5.2.2.1, h4.2.2.2.trans h5.2.2.2⟩
        case measure => simp [intOf]; omega
      · go_wp2
        go_ret
        obtain rfl : k = n := by omega
        refine ⟨by rw [Hm.out]; rfl, ⟨_, cap, rfl, hn, by rw [ecells_len, mkE_len], fun _ => ⟨g, cur', rfl, hS, hgr, ?_⟩⟩, hup⟩
        have hz := HZ.out
        refine ecells_ext _ _ (by rw [mkE_len]; simp; omega) (fun j x hx => ?_)
        have hj := (List.getElem?_eq_some_iff.1 hx).1
        rw [mkE_len] at hj
        rw [mkE_get _ _ _ hj] at hx
        obtain rfl := Option.some.inj hx
        rw [List.getElem?_take_of_lt (by omega), List.getElem?_take_of_lt (by omega), List.getElem?_take_of_lt (by omega), List.getElem?_take_of_lt (by omega)]
        simpa using HM.out j hj

set_option maxHeartbeats 4000000 in
theorem heldMapDoneS_ok (v : Value) (n k0 : Nat) (w : World) (hr : RowR w 4 v n (ecells (mkE k0 n))) (h1 : 1 ≤ k0) (h2 : k0 + n * 4 ≤ 1099511627776) :
    Calls Try.prog 25 #[v, .int .i64 k0] w fun e w' => e = .returned (.int .i64 (k0 + n * 4 : Nat)) ∧ Below w.heap.size w w' := by
  obtain ⟨ao, cap, rfl, hn, hl, hr⟩ := hr
  clear hl
  go_enter Try.func25, Try.ntmps25
  go_wp2
  go_loopw [1, 5] (fun kv i wr => ∃ k m : Nat, k ≤ n ∧ m = k0 + k * 4 ∧ i = .int .i64 k ∧ kv = .int .i64 (m : Nat) ∧ Below w.heap.size w wr) (fun _ i _ => n - (intOf i).toNat)
  case atStart => exact ⟨0, k0, Nat.zero_le _, rfl, rfl, rfl, Below.refl _ _⟩
  case round =>
    obtain ⟨k, m, hk, hm, rfl, rfl, hbel⟩ := hrel
    have Hm : Hid (m = k0 + k * 4) := hm
    have hm2 : (m : Int) ≤ 1099511627776 := by omega
    clear hm
    by_cases hlt : k < n
    · obtain ⟨b1, o1, rfl, hc1⟩ := hr (by omega)
      obtain ⟨f0, f1, f2, f3, l1⟩ := ec_cells hc1 (mkE_get k0 n k hlt) hbel
      rw [← Hm.out] at f0 f1 f2 f3
      simp only [Int.natCast_add, Int.natCast_one] at f1 f2 f3
      have hi : (k : Int) < (n : Int) := by omega
      have e2 : ((m : Int) + ((2 : Nat) : Int)) = (m : Int) + 1 + 1 := by omega
      have e3 : ((m : Int) + ((3 : Nat) : Int)) = (m : Int) + 1 + 1 + 1 := by omega
      rw [e2] at f2
      rw [e3] at f3
      clear hr hc1 e2 e3
      go_wp2
      go_roundw
      case rel => exact ⟨k + 1, m + 4, by omega, by rw [Hm.out]; omega, by go_num, by go_num, hbel⟩
      case measure => simp [intOf]; omega
    · go_wp2
      go_ret
      obtain rfl : k = n := by omega
      exact ⟨by rw [Hm.out]; rfl, hbel⟩

end Go.Proofs.Ythdnnmmaalgpaaa

/- What the laws' helpers do with maps: contracts; no statement of the seat is proved here. (Written by wip/tools/mkms.py.) -/
namespace Go.Proofs.Ythdnnmmaalgpaaa
open Go.RowKit

/-- A map: slots, servers, the next disk's number, disks, views, what was told. -/
structure Ms where
  sl : Int
  sv : Int
  nx : Int
  ds : List Dk
  vs : List Gc
  es : List Ec
/-- What is read of a map's slices, at once. -/
structure MsP (w : World) (v0 v1 v2 : Value) (c : Ms) : Prop where
  ds : RowE w 7 DkR v0 c.ds
  vs : RowR w 3 v1 c.vs.length (gcells c.vs)
  es : RowR w 4 v2 c.es.length (ecells c.es)
def MsR (w : World) (v : Value) (c : Ms) : Prop := ∃ v0 v1 v2, v = .agg #[.int .i64 c.sl, .int .i64 c.sv, .int .i64 c.nx, v0, v1, v2] ∧ MsP w v0 v1 v2 c
set_option linter.unusedVariables false in
theorem MsP.keep {w w' : World} {v0 v1 v2 : Value} {c : Ms} (h : MsP w v0 v1 v2 c) (b : Below w.heap.size w w') : MsP w' v0 v1 v2 c :=
  ⟨RowE.keep (fun v x h => DkR.keep h b) h.ds b, RowR.keep h.vs b, RowR.keep h.es b⟩
theorem MsR.keep {w w' : World} {v : Value} {c : Ms} (h : MsR w v c) (b : Below w.heap.size w w') : MsR w' v c := by
  obtain ⟨v0, v1, v2, e, h⟩ := h
  exact ⟨_, _, _, e, h.keep b⟩
/-- Each of the slices as a value of one cell. -/
theorem RowR.cellM {w : World} {size : Nat} {v : Value} {m : Nat} {cs : List Value} (h : RowR w size v m cs) : ∃ ao cap, v = .slice ao m cap ∧ m ≤ 9223372036854775807 := by
  obtain ⟨ao, cap, e, hn, -⟩ := h
  exact ⟨ao, cap, e, hn⟩
theorem MsP.shapes {w : World} {v0 v1 v2 : Value} {c : Ms} (h : MsP w v0 v1 v2 c) : (∃ ao cap, v0 = .slice ao c.ds.length cap) ∧ (∃ ao cap, v1 = .slice ao c.vs.length cap) ∧ (∃ ao cap, v2 = .slice ao c.es.length cap) :=
  ⟨h.ds.shape, (let ⟨ao, cap, e, _⟩ := h.vs.cellM; ⟨ao, cap, e⟩), (let ⟨ao, cap, e, _⟩ := h.es.cellM; ⟨ao, cap, e⟩)⟩
theorem MsR.agg {w : World} {v : Value} {c : Ms} (h : MsR w v c) : ∃ cs : Array Value, v = .agg cs ∧ cs.size = 6 ∧ cs.all (·.oneCell') = true := by
  obtain ⟨v0, v1, v2, rfl, h⟩ := h
  obtain ⟨⟨a0, k0, rfl⟩, ⟨a1, k1, rfl⟩, ⟨a2, k2, rfl⟩⟩ := h.shapes
  exact ⟨_, rfl, rfl, all_of_list rfl⟩
theorem infoMsI : (Try.prog.info? 26).map (·.size) = some 6 := by kernel_rfl
theorem infoMsL : (Try.prog.info? 35).map (·.size) = some 6 := by kernel_rfl
def MsS (c : Ms) : Prop := (c.ds.length ≤ 1048576 ∧ ∀ x ∈ c.ds, DkS x) ∧ (c.vs.length ≤ 1048576) ∧ (c.es.length ≤ 1048576)

set_option maxRecDepth 100000 in
set_option maxHeartbeats 4000000 in
theorem eqMapState_true (va vb : Value) (c : Ms) (w : World) (ha : MsR w va c) (hb : MsR w vb c) :
    Calls Try.prog 8 #[va, vb] w fun e w' => e = .returned (.bool true) ∧ Below w.heap.size w w' := by
  obtain ⟨v0, v1, v2, rfl, ha⟩ := ha
  obtain ⟨u0, u1, u2, rfl, hb⟩ := hb
  obtain ⟨⟨a0, k0, rfl⟩, ⟨a1, k1, rfl⟩, ⟨a2, k2, rfl⟩⟩ := ha.shapes
  obtain ⟨⟨b0, l0, rfl⟩, ⟨b1, l1, rfl⟩, ⟨b2, l2, rfl⟩⟩ := hb.shapes
  have HA := hide ha
  have HB := hide hb
  clear ha hb
  have al := bal (bal (Below.refl w.heap.size w) (.cells #[.int .i64 c.sl, .int .i64 c.sv, .int .i64 c.nx, .slice a0 c.ds.length k0, .slice a1 c.vs.length k1, .slice a2 c.es.length k2] 26)) (.cells #[.int .i64 c.sl, .int .i64 c.sv, .int .i64 c.nx, .slice b0 c.ds.length l0, .slice b1 c.vs.length l1, .slice b2 c.es.length l2] 26)
  have A0 := hide (al2_0 w (.cells #[.int .i64 c.sl, .int .i64 c.sv, .int .i64 c.nx, .slice a0 c.ds.length k0, .slice a1 c.vs.length k1, .slice a2 c.es.length k2] 26) (.cells #[.int .i64 c.sl, .int .i64 c.sv, .int .i64 c.nx, .slice b0 c.ds.length l0, .slice b1 c.vs.length l1, .slice b2 c.es.length l2] 26))
  have B0 := hide (al2_1 w (.cells #[.int .i64 c.sl, .int .i64 c.sv, .int .i64 c.nx, .slice a0 c.ds.length k0, .slice a1 c.vs.length k1, .slice a2 c.es.length k2] 26) (.cells #[.int .i64 c.sl, .int .i64 c.sv, .int .i64 c.nx, .slice b0 c.ds.length l0, .slice b1 c.vs.length l1, .slice b2 c.es.length l2] 26))
  go_enter Try.func8, Try.ntmps8
  go_upto_region 1 with fail
  generalize World.alloc _ _ = W0 at al A0 B0 ⊢
  have HA := hide (HA.out.keep al)
  have HB := hide (HB.out.keep al)
  have c0 := Below.refl W0.heap.size W0
  have p0 : W0.cell? ⟨w.heap.size, 0, none⟩ = some (.int .i64 c.sl) := boxAt A0.out 0
  have q0 : W0.cell? ⟨w.heap.size + 1, 0, none⟩ = some (.int .i64 c.sl) := boxAt B0.out 0
  have p1 : W0.cell? ⟨w.heap.size, 1, none⟩ = some (.int .i64 c.sv) := boxAt A0.out 1
  have q1 : W0.cell? ⟨w.heap.size + 1, 1, none⟩ = some (.int .i64 c.sv) := boxAt B0.out 1
  have p2 : W0.cell? ⟨w.heap.size, 2, none⟩ = some (.int .i64 c.nx) := boxAt A0.out 2
  have q2 : W0.cell? ⟨w.heap.size + 1, 2, none⟩ = some (.int .i64 c.nx) := boxAt B0.out 2
  have x0 : W0.cell? ⟨w.heap.size, 3, none⟩ = some (.slice a0 c.ds.length k0) := boxAt (bKeeps c0 A0.out) 3
  have y0 : W0.cell? ⟨w.heap.size + 1, 3, none⟩ = some (.slice b0 c.ds.length l0) := boxAt (bKeeps c0 B0.out) 3
  go_wp2_with fail
  refine (eqMapDiskS_row _ _ c.ds W0 (HA.out.keep c0).ds (HB.out.keep c0).ds).mono ?_
  rintro e W1 ⟨rfl, b0⟩
  have c1 := bAll c0 b0
  clear x0 y0 b0
  clear p0 q0 p1 q1 p2 q2
  have x1 : W1.cell? ⟨w.heap.size, 4, none⟩ = some (.slice a1 c.vs.length k1) := boxAt (bKeeps c1 A0.out) 4
  have y1 : W1.cell? ⟨w.heap.size + 1, 4, none⟩ = some (.slice b1 c.vs.length l1) := boxAt (bKeeps c1 B0.out) 4
  go_wp2_with fail
  refine (eqMapViewS_true _ _ _ c.vs W1 (HA.out.keep c1).vs (HB.out.keep c1).vs).mono ?_
  rintro e W2 ⟨rfl, b1⟩
  have c2 := bAll c1 b1
  clear x1 y1 b1
  have x2 : W2.cell? ⟨w.heap.size, 5, none⟩ = some (.slice a2 c.es.length k2) := boxAt (bKeeps c2 A0.out) 5
  have y2 : W2.cell? ⟨w.heap.size + 1, 5, none⟩ = some (.slice b2 c.es.length l2) := boxAt (bKeeps c2 B0.out) 5
  go_wp2_with fail
  refine (eqMapDoneS_true _ _ _ c.es W2 (HA.out.keep c2).es (HB.out.keep c2).es).mono ?_
  rintro e W3 ⟨rfl, b2⟩
  have c3 := bAll c2 b2
  clear x2 y2 b2
  go_wp2
  go_ret
  exact ⟨rfl, bAll al c3⟩

set_option maxRecDepth 100000 in
set_option maxHeartbeats 4000000 in
theorem szMapState_any (v : Value) (c : Ms) (w : World) (h : MsR w v c) :
    Calls Try.prog 11 #[v, .int .i64 1048576] w fun e w' => ∃ r, e = .returned (.int .i64 r) ∧ (r < 0 ∨ (0 ≤ r ∧ MsS c)) ∧ Below w.heap.size w w' := by
  obtain ⟨v0, v1, v2, rfl, h⟩ := h
  obtain ⟨⟨a0, k0, rfl⟩, ⟨a1, k1, rfl⟩, ⟨a2, k2, rfl⟩⟩ := h.shapes
  have HA := hide h
  have n1 : c.vs.length ≤ 9223372036854775807 := by obtain ⟨_, _, _, q⟩ := h.vs.cellM; exact q
  have n2 : c.es.length ≤ 9223372036854775807 := by obtain ⟨_, _, _, q⟩ := h.es.cellM; exact q
  clear h
  have al := bal (Below.refl w.heap.size w) (.cells #[.int .i64 c.sl, .int .i64 c.sv, .int .i64 c.nx, .slice a0 c.ds.length k0, .slice a1 c.vs.length k1, .slice a2 c.es.length k2] 35)
  have A0 := hide (al1_0 w (.cells #[.int .i64 c.sl, .int .i64 c.sv, .int .i64 c.nx, .slice a0 c.ds.length k0, .slice a1 c.vs.length k1, .slice a2 c.es.length k2] 35))
  go_enter Try.func11, Try.ntmps11
  go_upto_region 1 with fail
  generalize World.alloc _ _ = W0 at al A0 ⊢
  have HA := hide (HA.out.keep al)
  have c0 := Below.refl W0.heap.size W0
  have z0 : (0 : Int) ≤ 1048576 := by omega
  have y0 : (1048576 : Int) ≤ 1048576 := by omega
  have x0 : W0.cell? ⟨w.heap.size, 3, none⟩ = some (.slice a0 c.ds.length k0) := boxAt (bKeeps c0 A0.out) 3
  go_wp2_with fail
  refine (szMapDiskS_row _ c.ds 1048576 W0 (HA.out.keep c0).ds z0 y0).mono ?_
  rintro e W1 ⟨r0, rfl, hr0, b0⟩
  have c1 := bAll c0 b0
  rcases hr0 with hr0 | ⟨z1, y1', s0⟩
  · go_wp2
    go_ret
    exact ⟨_, rfl, .inl (by omega), bAll al c1⟩
  have y1 : r0 ≤ 1048576 := by omega
  have g0 : ¬ r0 < 0 := by omega
  have S0 := hide s0
  clear x0 b0 y1' s0 y0
  have x1 : W1.cell? ⟨w.heap.size, 4, none⟩ = some (.slice a1 c.vs.length k1) := boxAt (bKeeps c1 A0.out) 4
  go_wp2_with fail
  refine (szMapViewS_any a1 c.vs.length k1 r0 W1 n1 z1 y1).mono ?_
  rintro e W2 ⟨r1, rfl, hr1, b1⟩
  have c2 := bAll c1 b1
  rcases hr1 with hr1 | ⟨y2', z2⟩
  · go_wp2
    go_ret
    exact ⟨_, rfl, .inl (by omega), bAll al c2⟩
  have s1 : c.vs.length ≤ 1048576 := by omega
  have y2 : r1 ≤ 1048576 := by omega
  have g1 : ¬ r1 < 0 := by omega
  have S1 := hide s1
  clear x1 b1 y2' s1 y1
  have x2 : W2.cell? ⟨w.heap.size, 5, none⟩ = some (.slice a2 c.es.length k2) := boxAt (bKeeps c2 A0.out) 5
  go_wp2_with fail
  refine (szMapDoneS_any a2 c.es.length k2 r1 W2 n2 z2 y2).mono ?_
  rintro e W3 ⟨r2, rfl, hr2, b2⟩
  have c3 := bAll c2 b2
  rcases hr2 with hr2 | ⟨y3', z3⟩
  · go_wp2
    go_ret
    exact ⟨_, rfl, .inl (by omega), bAll al c3⟩
  have s2 : c.es.length ≤ 1048576 := by omega
  have y3 : r2 ≤ 1048576 := by omega
  have g2 : ¬ r2 < 0 := by omega
  have S2 := hide s2
  clear x2 b2 y3' s2 y2
  go_wp2
  go_ret
  exact ⟨_, rfl, .inr ⟨z3, S0.out, S1.out, S2.out⟩, bAll al c3⟩

/-- A map in memory of its own: its slices lie one behind the other, from base on. -/
def MsO (w : World) (base : Nat) (v : Value) (c : Ms) : Prop :=
  ∃ v0 v1 v2, v = .agg #[.int .i64 c.sl, .int .i64 c.sv, .int .i64 c.nx, v0, v1, v2] ∧ ∃ lo : Nat → Nat, base ≤ lo 0 ∧ (lo 0 ≤ lo 1 ∧ lo 1 ≤ lo 2 ∧ lo 2 ≤ lo 3) ∧
    RowO w 57 7 (fun b => lo 0 ≤ b ∧ b < lo 1) DkO v0 c.ds ∧
    Row w 43 3 (fun b => lo 1 ≤ b ∧ b < lo 2) v1 c.vs.length (gcells c.vs) ∧
    Row w 59 4 (fun b => lo 2 ≤ b ∧ b < lo 3) v2 c.es.length (ecells c.es)
theorem MsO.reads {w : World} {base : Nat} {v : Value} {c : Ms} (h : MsO w base v c) : MsR w v c := by
  obtain ⟨v0, v1, v2, e, lo, -, -, h0, h1, h2⟩ := h
  exact ⟨_, _, _, e, ⟨h0.reads (fun _ _ _ h => DkO.reads h), h1.reads, h2.reads⟩⟩
theorem updRowMs (w : World) (g : Nat) (cs : Array Value) : Upd (fun j => j = g) w (w.setRow g cs) := ⟨rfl, rfl, rfl, by simp, fun _ _ h => setRow_other _ _ _ _ h⟩

set_option maxRecDepth 100000 in
set_option maxHeartbeats 4000000 in
theorem toMapState_any (v : Value) (c : Ms) (w : World) (h : MsR w v c) (hs : MsS c) :
    Calls Try.prog 13 #[v] w fun e w' => ∃ v', e = .returned v' ∧ MsO w' w.heap.size v' c ∧ Below w.heap.size w w' := by
  obtain ⟨v0, v1, v2, rfl, h⟩ := h
  obtain ⟨⟨a0, k0, rfl⟩, ⟨a1, k1, rfl⟩, ⟨a2, k2, rfl⟩⟩ := h.shapes
  obtain ⟨s0, s1, s2⟩ := hs
  have S0 := hide s0
  have S1 := hide s1
  have S2 := hide s2
  have HA := hide h
  clear h s0 s1 s2
  go_enter Try.func13, Try.ntmps13
  go_upto_region 2 with fail
  generalize hW : World.alloc _ _ = Wz
  have al : Below w.heap.size w Wz := by rw [← hW]; exact bal (bal (bal (Below.refl _ _) _) _) _
  have A0 : Hid (Wz.heap[w.heap.size]? = some (.cells #[.int .i64 c.sl, .int .i64 c.sv, .int .i64 c.nx, .slice a0 c.ds.length k0, .slice a1 c.vs.length k1, .slice a2 c.es.length k2] 35 (0, 0))) := by show _ = _; rw [← hW]; exact al3_0 w _ _ _
  have A1 : Hid (Wz.heap[w.heap.size + 1]? = some (.cells #[.int .i64 0, .int .i64 0, .int .i64 0, .slice none 0 0, .slice none 0 0, .slice none 0 0] 26 (0, 0))) := by show _ = _; rw [← hW]; exact al3_1 w _ _ _
  have B0 : Hid (Wz.heap[w.heap.size + 1 + 1]? = some (.cells #[.int .i64 0, .int .i64 0, .int .i64 0, .slice none 0 0, .slice none 0 0, .slice none 0 0] 26 (0, 0))) := by show _ = _; rw [← hW]; exact al3_2 w _ _ _
  clear hW
  have x0 : Wz.cell? ⟨w.heap.size, 0, none⟩ = some (.int .i64 c.sl) := boxAt A0.out 0
  have o0 : Wz.cell? ⟨w.heap.size + 1 + 1, 0, none⟩ = some (.int .i64 0) := boxAt B0.out 0
  have f0 := boxFz B0.out 0
  have x1 : Wz.cell? ⟨w.heap.size, 1, none⟩ = some (.int .i64 c.sv) := boxAt A0.out 1
  have o1 : Wz.cell? ⟨w.heap.size + 1 + 1, 1, none⟩ = some (.int .i64 0) := boxAt B0.out 1
  have f1 := boxFz B0.out 1
  have x2 : Wz.cell? ⟨w.heap.size, 2, none⟩ = some (.int .i64 c.nx) := boxAt A0.out 2
  have o2 : Wz.cell? ⟨w.heap.size + 1 + 1, 2, none⟩ = some (.int .i64 0) := boxAt B0.out 2
  have f2 := boxFz B0.out 2
  go_upto_region 5 with fail
  have u0 : Upd (fun j => j = w.heap.size + 1 + 1) Wz (((Wz.setCell ⟨w.heap.size + 1 + 1, 0, none⟩ (.int .i64 c.sl)).setCell ⟨w.heap.size + 1 + 1, 1, none⟩ (.int .i64 c.sv)).setCell ⟨w.heap.size + 1 + 1, 2, none⟩ (.int .i64 c.nx)) := (((Upd.setCell (S := fun j => j = w.heap.size + 1 + 1) _ _ _ _ rfl).trans (Upd.setCell _ _ _ _ rfl)).trans (Upd.setCell _ _ _ _ rfl))
  have C2 : Hid ((((Wz.setCell ⟨w.heap.size + 1 + 1, 0, none⟩ (.int .i64 c.sl)).setCell ⟨w.heap.size + 1 + 1, 1, none⟩ (.int .i64 c.sv)).setCell ⟨w.heap.size + 1 + 1, 2, none⟩ (.int .i64 c.nx)).heap[w.heap.size + 1 + 1]? = some (.cells #[.int .i64 c.sl, .int .i64 c.sv, .int .i64 c.nx, .slice none 0 0, .slice none 0 0, .slice none 0 0] 26 (0, 0))) := (row_set _ (row_set _ (row_set _ B0.out)))
  have A0 := hide (u0.keeps A0.out (by omega))
  have A1 := hide (u0.keeps A1.out (by omega))
  have al := al.trans (u0.below al.size (fun j h => by omega))
  generalize (((Wz.setCell ⟨w.heap.size + 1 + 1, 0, none⟩ (.int .i64 c.sl)).setCell ⟨w.heap.size + 1 + 1, 1, none⟩ (.int .i64 c.sv)).setCell ⟨w.heap.size + 1 + 1, 2, none⟩ (.int .i64 c.nx)) = W0 at u0 C2 A0 A1 al ⊢
  clear x0 o0 f0 x1 o1 f1 x2 o2 f2 u0 B0
  have B0 := C2
  clear C2
  have lt0 := heap_lt B0.out
  have cw0 := al
  have x0 : W0.cell? ⟨w.heap.size, 3, none⟩ = some (.slice a0 c.ds.length k0) := boxAt A0.out 3
  go_wp2_with fail
  refine (toMapDiskS_row _ c.ds W0 (HA.out.keep cw0).ds S0.out.1 S0.out.2).mono ?_
  rintro e V0 ⟨d0, rfl, o0', b0⟩
  have o0'' : RowO V0 57 7 (fun b => W0.heap.size ≤ b ∧ b < V0.heap.size) DkO d0 c.ds := RowO.inside (fun T v x h => dkIn h) o0'
  obtain ⟨so0, sc0, rfl⟩ : ∃ so sc, d0 = .slice so c.ds.length sc := o0''.shape
  have zV0 := b0.size
  have N0 := hide (bKeeps b0 B0.out)
  have p0 : V0.cell? ⟨w.heap.size + 1 + 1, 3, none⟩ = some (.slice none 0 0) := boxAt N0.out 3
  have f0 : V0.frozen? ⟨w.heap.size + 1 + 1, 3, none⟩ = false := boxFz N0.out 3
  go_upto_region 6 with fail
  generalize hV0 : World.setCell _ _ _ = W1
  have u0d : Upd (fun j => j = w.heap.size + 1 + 1) V0 W1 := by rw [← hV0]; exact Upd.setCell _ _ _ _ rfl
  have B0 : Hid (W1.heap[w.heap.size + 1 + 1]? = some (.cells #[.int .i64 c.sl, .int .i64 c.sv, .int .i64 c.nx, .slice so0 c.ds.length sc0, .slice none 0 0, .slice none 0 0] 26 (0, 0))) := by show _ = _; rw [← hV0]; exact row_set _ N0.out
  have A0 := hide (u0d.keeps (bKeeps b0 A0.out) (by omega))
  have A1 := hide (u0d.keeps (bKeeps b0 A1.out) (by omega))
  have zW1 := u0d.size
  have lt1 := heap_lt B0.out
  have cw1 : Below w.heap.size w W1 := (bAll cw0 b0).trans (u0d.below (bAll cw0 b0).size (fun j h => by omega))
  have O0 := hide (RowO.keep (fun T v x hT h => DkO.keep h u0d hT) o0'' u0d (fun b h1 h2 => by omega))
  clear hV0 o0' o0'' b0 u0d N0 p0 f0 x0
  have x1 : W1.cell? ⟨w.heap.size, 4, none⟩ = some (.slice a1 c.vs.length k1) := boxAt A0.out 4
  go_wp2_with fail
  refine (toMapViewS_any _ _ c.vs W1 (HA.out.keep cw1).vs S1.out).mono ?_
  rintro e V1 ⟨so1, rfl, o1', b1⟩
  have o1'' : Row V1 43 3 (fun b => W1.heap.size ≤ b ∧ b < V1.heap.size) (.slice so1 c.vs.length c.vs.length) c.vs.length (gcells c.vs) := rowInD o1'
  have zV1 := b1.size
  have N1 := hide (bKeeps b1 B0.out)
  have p1 : V1.cell? ⟨w.heap.size + 1 + 1, 4, none⟩ = some (.slice none 0 0) := boxAt N1.out 4
  have f1 : V1.frozen? ⟨w.heap.size + 1 + 1, 4, none⟩ = false := boxFz N1.out 4
  go_upto_region 7 with fail
  generalize hV1 : World.setCell _ _ _ = W2
  have u1d : Upd (fun j => j = w.heap.size + 1 + 1) V1 W2 := by rw [← hV1]; exact Upd.setCell _ _ _ _ rfl
  have B0 : Hid (W2.heap[w.heap.size + 1 + 1]? = some (.cells #[.int .i64 c.sl, .int .i64 c.sv, .int .i64 c.nx, .slice so0 c.ds.length sc0, .slice so1 c.vs.length c.vs.length, .slice none 0 0] 26 (0, 0))) := by show _ = _; rw [← hV1]; exact row_set _ N1.out
  have A0 := hide (u1d.keeps (bKeeps b1 A0.out) (by omega))
  have A1 := hide (u1d.keeps (bKeeps b1 A1.out) (by omega))
  have zW2 := u1d.size
  have lt2 := heap_lt B0.out
  have cw2 : Below w.heap.size w W2 := (bAll cw1 b1).trans (u1d.below (bAll cw1 b1).size (fun j h => by omega))
  have O0 := hide (RowO.keep (fun T v x hT h => DkO.keep h u1d hT) (RowO.keep (fun T v x hT h => DkO.keep h (Upd.ofBelow (S := fun _ => False) b1) hT) O0.out (Upd.ofBelow (S := fun _ => False) b1) (fun _ _ h => h)) u1d (fun b h1 h2 => by omega))
  have O1 := hide (Row.keep o1'' u1d (fun b h1 h2 => by omega))
  clear hV1 o1' o1'' b1 u1d N1 p1 f1 x1
  have x2 : W2.cell? ⟨w.heap.size, 5, none⟩ = some (.slice a2 c.es.length k2) := boxAt A0.out 5
  go_wp2_with fail
  refine (toMapDoneS_any _ _ c.es W2 (HA.out.keep cw2).es S2.out).mono ?_
  rintro e V2 ⟨so2, rfl, o2', b2⟩
  have o2'' : Row V2 59 4 (fun b => W2.heap.size ≤ b ∧ b < V2.heap.size) (.slice so2 c.es.length c.es.length) c.es.length (ecells c.es) := rowInD o2'
  have zV2 := b2.size
  have N2 := hide (bKeeps b2 B0.out)
  have p2 : V2.cell? ⟨w.heap.size + 1 + 1, 5, none⟩ = some (.slice none 0 0) := boxAt N2.out 5
  have f2 : V2.frozen? ⟨w.heap.size + 1 + 1, 5, none⟩ = false := boxFz N2.out 5
  go_upto_region 8 with fail
  generalize hV2 : World.setCell _ _ _ = W3
  have u2d : Upd (fun j => j = w.heap.size + 1 + 1) V2 W3 := by rw [← hV2]; exact Upd.setCell _ _ _ _ rfl
  have B0 : Hid (W3.heap[w.heap.size + 1 + 1]? = some (.cells #[.int .i64 c.sl, .int .i64 c.sv, .int .i64 c.nx, .slice so0 c.ds.length sc0, .slice so1 c.vs.length c.vs.length, .slice so2 c.es.length c.es.length] 26 (0, 0))) := by show _ = _; rw [← hV2]; exact row_set _ N2.out
  have A0 := hide (u2d.keeps (bKeeps b2 A0.out) (by omega))
  have A1 := hide (u2d.keeps (bKeeps b2 A1.out) (by omega))
  have zW3 := u2d.size
  have lt3 := heap_lt B0.out
  have cw3 : Below w.heap.size w W3 := (bAll cw2 b2).trans (u2d.below (bAll cw2 b2).size (fun j h => by omega))
  have O0 := hide (RowO.keep (fun T v x hT h => DkO.keep h u2d hT) (RowO.keep (fun T v x hT h => DkO.keep h (Upd.ofBelow (S := fun _ => False) b2) hT) O0.out (Upd.ofBelow (S := fun _ => False) b2) (fun _ _ h => h)) u2d (fun b h1 h2 => by omega))
  have O1 := hide (Row.keep (Row.keep O1.out (Upd.ofBelow (S := fun _ => False) b2) (fun _ _ h => h)) u2d (fun b h1 h2 => by omega))
  have O2 := hide (Row.keep o2'' u2d (fun b h1 h2 => by omega))
  clear hV2 o2' o2'' b2 u2d N2 p2 f2 x2
  have s9 := updRowMs W3 (w.heap.size + 1) #[.int .i64 c.sl, .int .i64 c.sv, .int .i64 c.nx, .slice so0 c.ds.length sc0, .slice so1 c.vs.length c.vs.length, .slice so2 c.es.length c.es.length]
  go_wp2_with (first
    | (refine wpList_load_row rfl 26 (.tmp 3) rfl (w.heap.size + 1 + 1) rfl _ #[.int .i64 c.sl, .int .i64 c.sv, .int .i64 c.nx, .slice so0 c.ds.length sc0, .slice so1 c.vs.length c.vs.length, .slice so2 c.es.length c.es.length] (0, 0) _ B0.out Try.underlying26 rfl infoMsI ?_)
    | (refine wpList_store_row rfl 26 (.tmp 2) (.tmp 25) rfl (w.heap.size + 1) #[.int .i64 c.sl, .int .i64 c.sv, .int .i64 c.nx, .slice so0 c.ds.length sc0, .slice so1 c.vs.length c.vs.length, .slice so2 c.es.length c.es.length] rfl rfl _ _ A1.out infoMsI (show (6 : Nat) = 6 from rfl) (all_of_list rfl) ?_))
  refine bodyPost_ret (v := .agg #[.int .i64 c.sl, .int .i64 c.sv, .int .i64 c.nx, .slice so0 c.ds.length sc0, .slice so1 c.vs.length c.vs.length, .slice so2 c.es.length c.es.length]) (results_cell_row Try.results13 _ _ (w.heap.size + 1) _ _ (0, 0) _ rfl (setRow_heap _ _ _ _ _ _ A1.out) Try.underlying26 rfl infoMsI) rfl ?_
  refine ⟨_, rfl, ⟨_, _, _, rfl, fun i => match i with | 0 => W0.heap.size | 1 => W1.heap.size | 2 => W2.heap.size | _ => W3.heap.size, by show w.heap.size ≤ W0.heap.size; have := cw0.size; omega, ?_, ?_, ?_, ?_⟩, cw3.trans (s9.below cw3.size (fun j h => by omega))⟩
  · show W0.heap.size ≤ W1.heap.size ∧ W1.heap.size ≤ W2.heap.size ∧ W2.heap.size ≤ W3.heap.size
    omega
  · exact (RowO.keep (fun T v x hT h => DkO.keep h s9 hT) O0.out s9 (fun b h1 h2 => by omega)).mono (fun b h => ⟨h.1, by have := h.2; show b < W1.heap.size; omega⟩)
  · exact (Row.keep O1.out s9 (fun b h1 h2 => by omega)).mono (fun b _ h => ⟨h.1, by have := h.2; show b < W2.heap.size; omega⟩)
  · exact (Row.keep O2.out s9 (fun b h1 h2 => by omega)).mono (fun b _ h => ⟨h.1, by have := h.2; show b < W3.heap.size; omega⟩)

end Go.Proofs.Ythdnnmmaalgpaaa
