/- Contracts and plain facts that this claim leans on (texts REW, CN1); no statement of the seat is proved here. -/
import Derived.Test.YteddhdbglciahaaGreatZk8
import Derived.Test.YteddhdbglciahaaGreatZk11

/- What the laws' helpers do with rows of Word: contracts; no statement of the seat is proved here. (Written by wip/tools/mkrow.py.) -/
namespace Go.Proofs.YteddhdbglciahaaGreat
open Go.RowKit

def WdS (x : Wd) : Prop := x.ps.length ≤ 1048576 ∧ x.ls.length ≤ 1048576
set_option maxHeartbeats 2000000 in
theorem szWdx0 (x : Wd) (cs : Array Value) (left : Int) (w u : World) (h : WdR u (.agg cs) x) (h1 : 0 ≤ left) (h2 : left ≤ 1048576) :
    Calls Tryz.prog 57 #[.agg cs, .int .i64 left] w fun e w' => ∃ r, e = .returned (.int .i64 r) ∧ (r < 0 ∨ (0 ≤ r ∧ r ≤ left ∧ x.ps.length ≤ 1048576 ∧ x.ls.length ≤ 1048576)) ∧ Below w.heap.size w w' := by
  obtain ⟨hp, hl⟩ := h.lens
  obtain ⟨po, pc, lo, lc, e0, -, -⟩ := h
  injection e0 with e0
  subst e0
  have hal : Below w.heap.size w (w.alloc (.cells (#[.int .i64 x.a0, .int .i64 x.a1, .int .i64 x.a2, .int .i64 x.a3, .int .i64 x.a4, .int .i64 x.a5, .int .i64 x.c0, .int .i64 x.c1, .int .i64 x.c2, .int .i64 x.c3, .int .i64 x.c4, .int .i64 x.c5, .int .i64 x.c6, .int .i64 x.c7, .int .i64 x.c8, .int .i64 x.c9, .int .i64 x.b0, .int .i64 x.b1, .int .i64 x.b2, .int .i64 x.b3, .int .i64 x.b4, .int .i64 x.b5, .int .i64 x.b6, .int .i64 x.b7, .slice po x.ps.length pc, .slice lo x.ls.length lc] : Array Value) 115)) := (Below.refl _ _).alloc (Nat.le_refl _) _
  generalize x.ps.length = pn at hp hal ⊢
  generalize x.ls.length = ln at hl hal ⊢
  go_enter Tryz.func57, Tryz.ntmps57
  go_wp2_with fail
  refine (szBlkPieceS_any _ _ _ left _ hp h1 h2).mono ?_
  rintro e w1 ⟨r, rfl, hz, b1⟩
  rcases hz with hneg | ⟨hr1, hr2⟩
  · go_wp2
    go_ret
    exact ⟨_, rfl, .inl (by omega), bAll hal b1⟩
  · have hc1 : w1.cell? ⟨w.heap.size, 25, none⟩ = some (.slice lo ln lc) := (b1.cell (p := ⟨w.heap.size, 25, none⟩) (by simp)).trans (by simp)
    have Hr1 := hide hr1
    have hr3 : r ≤ 1048576 := by omega
    clear hr1
    go_wp2_with fail
    refine (szBlkLastS_any _ _ _ _ _ hl hr2 hr3).mono ?_
    rintro e w2 ⟨r2, rfl, hz2, b2⟩
    rcases hz2 with hneg | ⟨hr4, hr5⟩
    · go_wp2
      go_ret
      exact ⟨_, rfl, .inl (by omega), bAll (bAll hal b1) b2⟩
    · have Hr4 := hide hr4
      clear hr4
      go_wp2
      go_ret
      exact ⟨_, rfl, .inr ⟨hr5, by have := Hr4.out; have := Hr1.out; omega, by have := Hr4.out; have := Hr1.out; omega, by have := Hr4.out; have := Hr1.out; omega⟩, bAll (bAll hal b1) b2⟩

theorem szWdx (v : Value) (x : Wd) (left : Int) (w : World) (h : WdR w v x) (h1 : 0 ≤ left) (h2 : left ≤ 1048576) :
    Calls Tryz.prog 57 #[v, .int .i64 left] w fun e w' => ∃ r, e = .returned (.int .i64 r) ∧ (r < 0 ∨ (0 ≤ r ∧ r ≤ left ∧ WdS x)) ∧ Below w.heap.size w w' := by
  obtain ⟨cs, rfl, -, -⟩ := h.agg
  exact szWdx0 x cs left w w h h1 h2
theorem toWdx (v : Value) (x : Wd) (w : World) (h : WdR w v x) (hs : WdS x) :
    Calls Tryz.prog 64 #[v] w fun e w' => ∃ v', e = .returned v' ∧ WdO w' (fun k => w.heap.size ≤ k) v' x ∧ Below w.heap.size w w' := toWord_any v x w h hs.1 hs.2

theorem infoZW : (Tryz.prog.info? 87).map (fun i => (i.zero, i.size, i.bytes)) = some (some (.agg #[.int .i64 0, .int .i64 0, .int .i64 0, .int .i64 0, .int .i64 0, .int .i64 0, .int .i64 0, .int .i64 0, .int .i64 0, .int .i64 0, .int .i64 0, .int .i64 0, .int .i64 0, .int .i64 0, .int .i64 0, .int .i64 0, .int .i64 0, .int .i64 0, .int .i64 0, .int .i64 0, .int .i64 0, .int .i64 0, .int .i64 0, .int .i64 0, .slice none 0 0, .slice none 0 0]), 26, 240) := by kernel_rfl

set_option maxRecDepth 100000 in
set_option maxHeartbeats 4000000 in
theorem szWordS_row (v : Value) (xs : List (Wd)) (left : Int) (w : World) (hr : RowE w 26 WdR v xs) (h1 : 0 ≤ left) (h2 : left ≤ 1048576) :
    Calls Tryz.prog 19 #[v, .int .i64 left] w fun e w' => ∃ r, e = .returned (.int .i64 r) ∧ (r < 0 ∨ (0 ≤ r ∧ r ≤ left ∧ xs.length ≤ 1048576 ∧ ∀ x ∈ xs, WdS x)) ∧ Below w.heap.size w w' := by
  obtain ⟨ao, cap, rfl⟩ := hr.shape
  have hn := hr.small
  have HR := hide hr
  clear hr
  obtain ⟨n, hnn⟩ : ∃ n, xs.length = n := ⟨_, rfl⟩
  have HN := hide hnn
  rw [hnn] at hn ⊢
  clear hnn
  by_cases hneg : left - n < 0
  · go_enter Tryz.func19, Tryz.ntmps19
    go_wp2
    go_ret
    exact ⟨_, rfl, .inl (by omega), Below.refl _ _⟩
  · have hge : ¬ left - n < 0 := hneg
    go_enter Tryz.func19, Tryz.ntmps19
    go_wp2
    go_loopw [1, 5] (fun l i wr => ∃ (k : Nat) (z : Int), k ≤ n ∧ i = .int .i64 k ∧ l = .int .i64 z ∧ 0 ≤ z ∧ z ≤ left - n ∧ (∀ j x, j < k → xs[j]? = some x → WdS x) ∧ Below w.heap.size w wr) (fun _ i _ => n - (intOf i).toNat)
    case atStart => exact ⟨0, left - n, Nat.zero_le _, rfl, rfl, by omega, by omega, fun j x h => by omega, Below.refl _ _⟩
    case round =>
      obtain ⟨k, z, hk, rfl, rfl, hz0, hz1, hsm, hbel⟩ := hrel
      have HS := hide hsm
      clear hsm
      by_cases hlt : k < n
      · obtain ⟨x, hx⟩ := getAt xs k (by rw [HN.out]; exact hlt)
        obtain ⟨-, b1, o1, rfl, cs, hcs, hone, hc, he⟩ := (HR.out.keep (fun v x h => WdR.keep h hbel) hbel).elem hx
        have HX := hide hx
        have F := hide hc
        have GI := hide (infoAt infoLw hcs)
        have hi : (k : Int) < (n : Int) := by omega
        clear hx hc hcs hone
        go_wp2_with (refine wpList_load_at rfl 115 (.tmp 20) rfl b1 (o1 + k * 26) rfl cs _ F.out Tryz.underlying115 rfl GI.out ?_)
        refine (szWdx _ x z wr he hz0 (by omega)).mono ?_
        rintro e w1 ⟨r, rfl, hr, b1'⟩
        have c1 := bAll hbel b1'
        rcases hr with hr | ⟨hr0, hr1, hsx⟩
        · go_wp2
          go_ret
          exact ⟨_, rfl, .inl (by omega), c1⟩
        · have hr2 : ¬ r < 0 := by omega
          have HSX := hide hsx
          clear hsx b1' F GI he
          go_wp2
          go_roundw
          case rel =>
            refine ⟨k + 1, r, by omega, by go_num, rfl, hr0, by omega, fun j y hj hy => ?_, c1⟩
            by_cases hjk : j = k
            · subst hjk
              rw [HX.out] at hy
              obtain rfl := Option.some.inj hy
              exact HSX.out
            · exact HS.out j y (by omega) hy
          case measure => simp [intOf]; omega
      · go_wp2
        go_ret
        refine ⟨_, rfl, .inr ⟨hz0, by omega, by omega, fun x hx => ?_⟩, hbel⟩
        obtain ⟨j, hj⟩ := List.getElem?_of_mem hx
        have hj' := (List.getElem?_eq_some_iff.1 hj).1
        exact HS.out j x (by have := HN.out; omega) hj

set_option maxRecDepth 100000 in
set_option maxHeartbeats 4000000 in
theorem eqWordS_row (va vb : Value) (xs : List (Wd)) (w : World) (ha : RowE w 26 WdR va xs) (hb : RowE w 26 WdR vb xs) :
    Calls Tryz.prog 33 #[va, vb] w fun e w' => e = .returned (.bool true) ∧ Below w.heap.size w w' := by
  obtain ⟨ao, ca, rfl⟩ := ha.shape
  obtain ⟨bo, cb, rfl⟩ := hb.shape
  have hn := ha.small
  have HA := hide ha
  have HB := hide hb
  clear ha hb
  obtain ⟨n, hnn⟩ : ∃ n, xs.length = n := ⟨_, rfl⟩
  have HN := hide hnn
  rw [hnn] at hn HA HB ⊢
  clear hnn
  go_enter Tryz.func33, Tryz.ntmps33
  go_wp2
  go_loopw [5] (fun i wr => ∃ k : Nat, k ≤ n ∧ i = .int .i64 k ∧ Below w.heap.size w wr) (fun i _ => n - (intOf i).toNat)
  case atStart => exact ⟨0, Nat.zero_le _, rfl, Below.refl _ _⟩
  case round =>
    obtain ⟨k, hk, rfl, hbel⟩ := hrel
    by_cases hlt : k < n
    · obtain ⟨x, hx⟩ := getAt xs k (by rw [HN.out]; exact hlt)
      have d1 := bDrewB hbel
      obtain ⟨-, b1, o1, rfl, cs1, hcs1, -, hc1, he1⟩ := (HA.out.keep (fun v x h => WdR.keep h d1) d1).elem hx
      obtain ⟨-, b2, o2, rfl, cs2, hcs2, -, hc2, he2⟩ := (HB.out.keep (fun v x h => WdR.keep h d1) d1).elem hx
      have GI1 := hide (infoAt infoWd hcs1)
      have GI2 := hide (infoAt infoWd hcs2)
      have K1 := hide hc1
      have K2 := hide hc2
      have hi : (k : Int) < (n : Int) := by omega
      clear hx hc1 hc2 hcs1 hcs2
      go_wp2
      refine wp_region_noPanic ?_
      refine wp_region_held_drew (S := (fun w' => (∀ j u, cs1[j]? = some u → w'.cell? ⟨b1, o1 + k * 26 + j, none⟩ = some u) ∧ (∀ j u, cs2[j]? = some u → w'.cell? ⟨b2, o2 + k * 26 + j, none⟩ = some u))) (by kernel_rfl) ?_ (fun hHeld => ?_)
      · exact ⟨K1.out, K2.out⟩
      refine wpAnyH_take (i := 0) (v := ?v1) rfl (by kernel_rfl) (by kernel_rfl) (by kernel_rfl) (fun _ _ _ h => h) (Or.inl ⟨by rfl, ?hy1⟩) (by assumption) ?rest1
      case hy1 => ((intro w hSw; (try dsimp only at hSw); (try simp only [List.getElem_toArray, List.getElem_cons_zero]); go_simp; first | done | (with_reducible rfl)))
      simp only [Act.put, List.getElem_toArray, List.getElem_cons_zero, List.setIfInBounds_toArray, List.set_cons_zero, List.set_cons_succ]
      refine wpAnyH_take (i := 1) (v := ?v2) rfl (by kernel_rfl) (by kernel_rfl) (by kernel_rfl) (fun _ _ _ h => h) (Or.inl ⟨by rfl, ?hy2⟩) (by assumption) ?rest2
      case hy2 => ((intro w hSw; (try dsimp only at hSw); (try simp only [List.getElem_toArray, List.getElem_cons_zero, List.getElem_cons_succ]); go_simp; first | done | (with_reducible rfl)))
      simp only [Act.put, List.getElem_toArray, List.getElem_cons_zero, List.getElem_cons_succ, List.setIfInBounds_toArray, List.set_cons_zero, List.set_cons_succ]
      refine wpAnyH_take (i := 2) (v := ?v3) rfl (by kernel_rfl) (by kernel_rfl) (by kernel_rfl) (fun _ _ _ h => h) (Or.inl ⟨by rfl, ?hy3⟩) (by assumption) ?rest3
      case hy3 => ((intro w hSw; (try dsimp only at hSw); (try simp only [List.getElem_toArray, List.getElem_cons_zero, List.getElem_cons_succ]); go_simp; first | done | (with_reducible rfl)))
      simp only [Act.put, List.getElem_toArray, List.getElem_cons_zero, List.getElem_cons_succ, List.setIfInBounds_toArray, List.set_cons_zero, List.set_cons_succ]
      refine wpAnyH_take (i := 3) (v := .agg cs1) rfl (by kernel_rfl) (by kernel_rfl) (by kernel_rfl) (fun _ _ _ h => h) (yields_at rfl 87 (.tmp 19) rfl (b1) (o1 + k * 26) rfl cs1 _ (fun _ h => h.1) Tryz.underlying87 rfl GI1.out) (by assumption) ?_
      simp only [Act.put, List.getElem_toArray, List.getElem_cons_zero, List.getElem_cons_succ, List.setIfInBounds_toArray, List.set_cons_zero, List.set_cons_succ]
      refine wpAnyH_take (i := 4) (v := ?v4) rfl (by kernel_rfl) (by kernel_rfl) (by kernel_rfl) (fun _ _ _ h => h) (Or.inl ⟨by rfl, ?hy4⟩) (by assumption) ?rest4
      case hy4 => ((intro w hSw; (try dsimp only at hSw); (try simp only [List.getElem_toArray, List.getElem_cons_zero, List.getElem_cons_succ]); go_simp; first | done | (with_reducible rfl)))
      simp only [Act.put, List.getElem_toArray, List.getElem_cons_zero, List.getElem_cons_succ, List.setIfInBounds_toArray, List.set_cons_zero, List.set_cons_succ]
      refine wpAnyH_take (i := 5) (v := ?v5) rfl (by kernel_rfl) (by kernel_rfl) (by kernel_rfl) (fun _ _ _ h => h) (Or.inl ⟨by rfl, ?hy5⟩) (by assumption) ?rest5
      case hy5 => ((intro w hSw; (try dsimp only at hSw); (try simp only [List.getElem_toArray, List.getElem_cons_zero, List.getElem_cons_succ]); go_simp; first | done | (with_reducible rfl)))
      simp only [Act.put, List.getElem_toArray, List.getElem_cons_zero, List.getElem_cons_succ, List.setIfInBounds_toArray, List.set_cons_zero, List.set_cons_succ]
      refine wpAnyH_take (i := 6) (v := ?v6) rfl (by kernel_rfl) (by kernel_rfl) (by kernel_rfl) (fun _ _ _ h => h) (Or.inl ⟨by rfl, ?hy6⟩) (by assumption) ?rest6
      case hy6 => ((intro w hSw; (try dsimp only at hSw); (try simp only [List.getElem_toArray, List.getElem_cons_zero, List.getElem_cons_succ]); go_simp; first | done | (with_reducible rfl)))
      simp only [Act.put, List.getElem_toArray, List.getElem_cons_zero, List.getElem_cons_succ, List.setIfInBounds_toArray, List.set_cons_zero, List.set_cons_succ]
      refine wpAnyH_take (i := 7) (v := .agg cs2) rfl (by kernel_rfl) (by kernel_rfl) (by kernel_rfl) (fun _ _ _ h => h) (yields_at rfl 87 (.tmp 23) rfl (b2) (o2 + k * 26) rfl cs2 _ (fun _ h => h.2) Tryz.underlying87 rfl GI2.out) (by assumption) ?_
      simp only [Act.put, List.getElem_toArray, List.getElem_cons_zero, List.getElem_cons_succ, List.setIfInBounds_toArray, List.set_cons_zero, List.set_cons_succ]
      refine wpAnyH_ready (rs := [8]) (by kernel_rfl) (by simp) ?_
      refine AllReadyH.cons rfl (fun K hK => ?_) AllReadyH.nil
      go_simp
      (go_at_call 80; refine (eqWord_true _ _ x _ he1 he2).mono ?_; rintro e w1 ⟨rfl, b1'⟩; have c1 := bAll d1 b1')
      refine hK.out _ _ ?_ (fun hHeld => ?_)
      · exact ⟨cellsKeep K1.out b1', cellsKeep K2.out b1'⟩
      clear hK K
      refine wpAnyH_take (i := 9) (v := ?v7) rfl (by kernel_rfl) (by kernel_rfl) (by kernel_rfl) (fun _ _ _ h => h) (Or.inl ⟨by rfl, ?hy7⟩) (by assumption) ?rest7
      case hy7 => ((intro w hSw; (try dsimp only at hSw); (try simp only [List.getElem_toArray, List.getElem_cons_zero, List.getElem_cons_succ]); go_simp; first | done | (with_reducible rfl)))
      simp only [Act.put, List.getElem_toArray, List.getElem_cons_zero, List.getElem_cons_succ, List.setIfInBounds_toArray, List.set_cons_zero, List.set_cons_succ]
      refine wpAnyH_done (by kernel_rfl) ?_ _
      refine NoPanic.normal ?_
      clear hHeld
      go_wp2
      go_roundw
      case rel => exact ⟨k + 1, by omega, by go_num, c1⟩
      case measure => simp [intOf]; omega
    · go_wp2
      go_ret
      exact ⟨rfl, hbel⟩
theorem updRow0W (w : World) (g : Nat) (cs : Array Value) : Upd (fun j => j = g) w (w.setRow g cs) := ⟨rfl, rfl, rfl, by simp, fun _ _ h => setRow_other _ _ _ _ h⟩

set_option maxRecDepth 100000 in
set_option maxHeartbeats 4000000 in
theorem toWordS_row (v : Value) (xs : List (Wd)) (w : World) (hr : RowE w 26 WdR v xs) (hn : xs.length ≤ 1048576) (hs : ∀ x ∈ xs, WdS x) :
    Calls Tryz.prog 26 #[v] w fun e w' => ∃ v', e = .returned v' ∧ RowO w' 87 26 (fun b => w.heap.size ≤ b) WdO v' xs ∧ Below w.heap.size w w' := by
  obtain ⟨ao, cap, rfl⟩ := hr.shape
  have HR := hide hr
  have HS := hide hs
  clear hr hs
  obtain ⟨n, hnn⟩ : ∃ n, xs.length = n := ⟨_, rfl⟩
  have HN := hide hnn
  rw [hnn] at hn HR ⊢
  clear hnn
  have hmk := run_make_row2 (P := Tryz.prog) 36 87 (.agg #[.int .i64 0, .int .i64 0, .int .i64 0, .int .i64 0, .int .i64 0, .int .i64 0, .int .i64 0, .int .i64 0, .int .i64 0, .int .i64 0, .int .i64 0, .int .i64 0, .int .i64 0, .int .i64 0, .int .i64 0, .int .i64 0, .int .i64 0, .int .i64 0, .int .i64 0, .int .i64 0, .int .i64 0, .int .i64 0, .int .i64 0, .int .i64 0, .slice none 0 0, .slice none 0 0]) 26 240 Tryz.underlying36 infoZW .i64 .i64 n (by omega) (by omega)
  go_enter Tryz.func26, Tryz.ntmps26
  go_wp2
  clear hmk
  go_loopw [4] (fun i wr => ∃ (k : Nat) (cur : Array Value) (B : Nat → Nat), k ≤ n ∧ i = .int .i64 k ∧ wr.heap[w.heap.size]? = some (.cells cur 87 (0, 0)) ∧ cur.size = n * 26 ∧ (∀ j x, j < k → xs[j]? = some x → ∃ cs : Array Value, cs.size = 26 ∧ cs.all (·.oneCell') = true ∧ (∀ r u, cs[r]? = some u → cur[j * 26 + r]? = some u) ∧ WdO wr (fun b => B j ≤ b ∧ b < B (j + 1)) (.agg cs) x) ∧ (∀ j, j < k → B j ≤ B (j + 1)) ∧ w.heap.size < B 0 ∧ B k ≤ wr.heap.size ∧ Below w.heap.size w wr) (fun i _ => n - (intOf i).toNat)
  case atStart => exact ⟨0, _, fun _ => w.heap.size + 1, Nat.zero_le _, rfl, heap_alloc_new w _, size_madeCells _ _, fun j s hj => by omega, fun j hj => by omega, Nat.lt_succ_self _, by simp, (Below.refl _ _).alloc (Nat.le_refl _) _⟩
  case round =>
    obtain ⟨k, cur, B, hk, rfl, hg, hcs, hmk, hB, hB0, hBk, hbel⟩ := hrel
    have HB := hide hB
    clear hB
    have HM := hide hmk
    have HC := hide hcs
    clear hmk hcs
    by_cases hlt : k < n
    · obtain ⟨x, hx⟩ := getAt xs k (by rw [HN.out]; exact hlt)
      obtain ⟨-, b1, o1, rfl, cs, hcs, hone, hc, he⟩ := (HR.out.keep (fun v x h => WdR.keep h hbel) hbel).elem hx
      have HX := hide hx
      have F := hide hc
      have GI := hide (infoAt infoLw hcs)
      have hi : (k : Int) < (n : Int) := by omega
      have Hg := hide hg
      have zg := heap_lt hg
      have cT := toWdx _ x wr he (HS.out x (List.mem_of_getElem? hx))
      clear hx hc hcs hone hg he
      go_wp2_with (refine wpList_load_at rfl 115 (.tmp 18) rfl b1 (o1 + k * 26) rfl cs _ F.out Tryz.underlying115 rfl GI.out ?_)
      refine cT.mono ?_
      rintro e w1 ⟨v1, rfl, hv1, hb1⟩
      obtain ⟨ds, rfl, hds, hd1⟩ := WdR.agg (WdO.reads hv1)
      have hk3 : k * 26 + ds.size ≤ cur.size := by rw [HC.out, hds]; omega
      have HK3 := hide hk3
      have GD := hide (infoAt infoWd hds)
      have HD1 := hide hd1
      have HDS := hide hds
      have Hg1 := hide (bKeeps hb1 Hg.out)
      have HV := hide hv1
      clear hk3 hds hd1 hv1 cT
      go_wp2_with (refine wpList_store_at rfl 87 (.tmp 21) (.tmp 20) rfl w.heap.size (k * 26) ds rfl rfl _ _ Hg1.out GD.out HK3.out HD1.out ?_)
      have us := updRow0W w1 w.heap.size (putAt cur (k * 26) ds)
      have c1 := bAll hbel hb1
      have z1 := hb1.size
      have zs := us.size
      go_roundw
      case rel =>
        refine ⟨k + 1, _, stepB B k w1.heap.size, by omega, by go_num, setRow_heap _ _ _ _ _ _ Hg1.out, by rw [putAt_size HK3.out]; exact HC.out, fun j y hj hy => ?_, fun j hj => ?_, by rw [stepB_le (Nat.zero_le _)]; exact hB0, by rw [stepB_gt (Nat.lt_succ_self _)]; exact zs, c1.trans (us.below c1.size (fun k h => by omega))⟩
        · by_cases hjk : j = k
          · subst hjk
            rw [HX.out] at hy
            obtain rfl := Option.some.inj hy
            rw [stepB_le (Nat.le_refl _), stepB_gt (Nat.lt_succ_self _)]
            have hb0 := asc_places HB.out 0 j (Nat.zero_le _) (Nat.le_refl _)
            exact ⟨ds, HDS.out, HD1.out, fun r u hr => putAt_in HK3.out hr, (HV.out.mono (fun b hlt h => ⟨Nat.le_trans hBk h, hlt⟩)).keep us (fun b h1 h2 => by omega)⟩
          · obtain ⟨cs', q1, q2, q3, q4⟩ := HM.out j y (by omega) hy
            rw [stepB_le (show j ≤ k by omega), stepB_le (show j + 1 ≤ k by omega)]
            have hb0 := asc_places HB.out 0 j (Nat.zero_le _) (by omega)
            refine ⟨cs', q1, q2, fun r u hr => ?_, ((WdO.keepB q4 hb1)).keep us (fun b h1 h2 => by omega)⟩
            have hrl : r < 26 := by have := (Array.getElem?_eq_some_iff.1 hr).1; omega
            rw [putAt_out HK3.out (by rw [HDS.out]; omega)]
            exact q3 r u hr
        · rcases Nat.lt_or_ge j k with h | h
          · rw [stepB_le (show j ≤ k by omega), stepB_le (show j + 1 ≤ k by omega)]
            exact HB.out j h
          · have e : j = k := by omega
            subst e
            rw [stepB_le (Nat.le_refl _), stepB_gt (Nat.lt_succ_self _)]
            omega
      case measure => simp [intOf]; omega
    · go_wp2
      go_ret
      obtain rfl : k = n := by omega
      refine ⟨_, rfl, ⟨_, _, congrArg (fun q => Value.slice (some ⟨w.heap.size, 0, none⟩) q k) HN.out.symm, by have := HN.out; omega, fun _ => ⟨_, cur, rfl, Nat.le_refl _, hg, fun j b => j < k ∧ B j ≤ b ∧ b < B (j + 1), fun j b hb => ?_, fun i j b hi hj => ?_, fun j x hx => ?_⟩⟩, hbel⟩
      · have := asc_places HB.out 0 j (Nat.zero_le _) (by omega)
        omega
      · rcases Nat.lt_trichotomy i j with h | h | h
        · have := asc_places HB.out (i + 1) j (by omega) (by omega)
          omega
        · exact h
        · have := asc_places HB.out (j + 1) i (by omega) (by omega)
          omega
      have hj := (List.getElem?_eq_some_iff.1 hx).1
      obtain ⟨cs, q1, q2, q3, q4⟩ := HM.out j x (by have := HN.out; omega) hx
      exact ⟨cs, q1, q2, q3, WdO.mono q4 (fun b _ h => ⟨by have := HN.out; omega, h⟩)⟩

end Go.Proofs.YteddhdbglciahaaGreat

/- What the laws' helpers do with councils: contracts; no statement of the seat is proved here. (Written by wip/tools/mkcn.py.) -/
namespace Go.Proofs.YteddhdbglciahaaGreat
open Go.RowKit

/-- A council. -/
structure Cn where
  vs : List (Int × List Pp)
  rs : List Int
  ks : List Sk
  ws : List Wd
  ts : List Pp
/-- What is read of a council's five slices, at once. -/
structure CnP (w : World) (v0 v1 v2 v3 v4 : Value) (c : Cn) : Prop where
  vs : RowE w 2 VxR v0 c.vs
  rs : RowR w 1 v1 c.rs.length (ints c.rs)
  ks : RowE w 26 SkR v2 c.ks
  ws : RowE w 26 WdR v3 c.ws
  ts : RowR w 12 v4 c.ts.length (ppcells c.ts)
def CnR (w : World) (v : Value) (c : Cn) : Prop := ∃ v0 v1 v2 v3 v4, v = .agg #[v0, v1, v2, v3, v4] ∧ CnP w v0 v1 v2 v3 v4 c
set_option linter.unusedVariables false in
theorem CnP.keep {w w' : World} {v0 v1 v2 v3 v4 : Value} {c : Cn} (h : CnP w v0 v1 v2 v3 v4 c) (b : Below w.heap.size w w') : CnP w' v0 v1 v2 v3 v4 c :=
  ⟨RowE.keep (fun v x h => VxR.keep h b) h.vs b, RowR.keep h.rs b, RowE.keep (fun v x h => SkR.keep h b) h.ks b, RowE.keep (fun v x h => WdR.keep h b) h.ws b, RowR.keep h.ts b⟩
theorem CnR.keep {w w' : World} {v : Value} {c : Cn} (h : CnR w v c) (b : Below w.heap.size w w') : CnR w' v c := by
  obtain ⟨v0, v1, v2, v3, v4, e, h⟩ := h
  exact ⟨_, _, _, _, _, e, h.keep b⟩
/-- Each of the slices as a value of one cell. -/
theorem RowR.cell1 {w : World} {size : Nat} {v : Value} {m : Nat} {cs : List Value} (h : RowR w size v m cs) : ∃ ao cap, v = .slice ao m cap ∧ m ≤ 9223372036854775807 := by
  obtain ⟨ao, cap, e, hn, -⟩ := h
  exact ⟨ao, cap, e, hn⟩
theorem CnP.shapes {w : World} {v0 v1 v2 v3 v4 : Value} {c : Cn} (h : CnP w v0 v1 v2 v3 v4 c) : (∃ ao cap, v0 = .slice ao c.vs.length cap) ∧ (∃ ao cap, v1 = .slice ao c.rs.length cap) ∧ (∃ ao cap, v2 = .slice ao c.ks.length cap) ∧ (∃ ao cap, v3 = .slice ao c.ws.length cap) ∧ (∃ ao cap, v4 = .slice ao c.ts.length cap) :=
  ⟨h.vs.shape, (let ⟨ao, cap, e, _⟩ := h.rs.cell1; ⟨ao, cap, e⟩), h.ks.shape, h.ws.shape, (let ⟨ao, cap, e, _⟩ := h.ts.cell1; ⟨ao, cap, e⟩)⟩
theorem infoCnI : (Tryz.prog.info? 39).map (·.size) = some 5 := by kernel_rfl
theorem infoCnL : (Tryz.prog.info? 28).map (·.size) = some 5 := by kernel_rfl
def CnS (c : Cn) : Prop := (c.vs.length ≤ 1048576 ∧ ∀ x ∈ c.vs, VxS x) ∧ (c.rs.length ≤ 1048576) ∧ (c.ks.length ≤ 1048576 ∧ ∀ x ∈ c.ks, SkS x) ∧ (c.ws.length ≤ 1048576 ∧ ∀ x ∈ c.ws, WdS x) ∧ (c.ts.length ≤ 1048576)

set_option maxRecDepth 100000 in
set_option maxHeartbeats 4000000 in
theorem eqSynCouncil_true (va vb : Value) (c : Cn) (w : World) (ha : CnR w va c) (hb : CnR w vb c) :
    Calls Tryz.prog 10 #[va, vb] w fun e w' => e = .returned (.bool true) ∧ Below w.heap.size w w' := by
  obtain ⟨v0, v1, v2, v3, v4, rfl, ha⟩ := ha
  obtain ⟨u0, u1, u2, u3, u4, rfl, hb⟩ := hb
  obtain ⟨⟨a0, k0, rfl⟩, ⟨a1, k1, rfl⟩, ⟨a2, k2, rfl⟩, ⟨a3, k3, rfl⟩, ⟨a4, k4, rfl⟩⟩ := ha.shapes
  obtain ⟨⟨b0, l0, rfl⟩, ⟨b1, l1, rfl⟩, ⟨b2, l2, rfl⟩, ⟨b3, l3, rfl⟩, ⟨b4, l4, rfl⟩⟩ := hb.shapes
  have HA := hide ha
  have HB := hide hb
  clear ha hb
  have al := bal (bal (Below.refl w.heap.size w) (.cells #[.slice a0 c.vs.length k0, .slice a1 c.rs.length k1, .slice a2 c.ks.length k2, .slice a3 c.ws.length k3, .slice a4 c.ts.length k4] 39)) (.cells #[.slice b0 c.vs.length l0, .slice b1 c.rs.length l1, .slice b2 c.ks.length l2, .slice b3 c.ws.length l3, .slice b4 c.ts.length l4] 39)
  have A0 := hide (al2_0 w (.cells #[.slice a0 c.vs.length k0, .slice a1 c.rs.length k1, .slice a2 c.ks.length k2, .slice a3 c.ws.length k3, .slice a4 c.ts.length k4] 39) (.cells #[.slice b0 c.vs.length l0, .slice b1 c.rs.length l1, .slice b2 c.ks.length l2, .slice b3 c.ws.length l3, .slice b4 c.ts.length l4] 39))
  have B0 := hide (al2_1 w (.cells #[.slice a0 c.vs.length k0, .slice a1 c.rs.length k1, .slice a2 c.ks.length k2, .slice a3 c.ws.length k3, .slice a4 c.ts.length k4] 39) (.cells #[.slice b0 c.vs.length l0, .slice b1 c.rs.length l1, .slice b2 c.ks.length l2, .slice b3 c.ws.length l3, .slice b4 c.ts.length l4] 39))
  go_enter Tryz.func10, Tryz.ntmps10
  go_upto_region 1 with fail
  generalize World.alloc _ _ = W0 at al A0 B0 ⊢
  have HA := hide (HA.out.keep al)
  have HB := hide (HB.out.keep al)
  have c0 := Below.refl W0.heap.size W0
  have x0 : W0.cell? ⟨w.heap.size, 0, none⟩ = some (.slice a0 c.vs.length k0) := boxAt (bKeeps c0 A0.out) 0
  have y0 : W0.cell? ⟨w.heap.size + 1, 0, none⟩ = some (.slice b0 c.vs.length l0) := boxAt (bKeeps c0 B0.out) 0
  go_wp2_with fail
  refine (eqSynVoterS_row _ _ c.vs W0 (HA.out.keep c0).vs (HB.out.keep c0).vs).mono ?_
  rintro e W1 ⟨rfl, b0⟩
  have c1 := bAll c0 b0
  clear x0 y0 b0
  have x1 : W1.cell? ⟨w.heap.size, 1, none⟩ = some (.slice a1 c.rs.length k1) := boxAt (bKeeps c1 A0.out) 1
  have y1 : W1.cell? ⟨w.heap.size + 1, 1, none⟩ = some (.slice b1 c.rs.length l1) := boxAt (bKeeps c1 B0.out) 1
  go_wp2_with fail
  refine (eqIntS_true _ _ _ c.rs W1 (HA.out.keep c1).rs (HB.out.keep c1).rs).mono ?_
  rintro e W2 ⟨rfl, b1⟩
  have c2 := bAll c1 b1
  clear x1 y1 b1
  have x2 : W2.cell? ⟨w.heap.size, 2, none⟩ = some (.slice a2 c.ks.length k2) := boxAt (bKeeps c2 A0.out) 2
  have y2 : W2.cell? ⟨w.heap.size + 1, 2, none⟩ = some (.slice b2 c.ks.length l2) := boxAt (bKeeps c2 B0.out) 2
  go_wp2_with fail
  refine (eqSynSeekerS_row _ _ c.ks W2 (HA.out.keep c2).ks (HB.out.keep c2).ks).mono ?_
  rintro e W3 ⟨rfl, b2⟩
  have c3 := bAll c2 b2
  clear x2 y2 b2
  have x3 : W3.cell? ⟨w.heap.size, 3, none⟩ = some (.slice a3 c.ws.length k3) := boxAt (bKeeps c3 A0.out) 3
  have y3 : W3.cell? ⟨w.heap.size + 1, 3, none⟩ = some (.slice b3 c.ws.length l3) := boxAt (bKeeps c3 B0.out) 3
  go_wp2_with fail
  refine (eqWordS_row _ _ c.ws W3 (HA.out.keep c3).ws (HB.out.keep c3).ws).mono ?_
  rintro e W4 ⟨rfl, b3⟩
  have c4 := bAll c3 b3
  clear x3 y3 b3
  have x4 : W4.cell? ⟨w.heap.size, 4, none⟩ = some (.slice a4 c.ts.length k4) := boxAt (bKeeps c4 A0.out) 4
  have y4 : W4.cell? ⟨w.heap.size + 1, 4, none⟩ = some (.slice b4 c.ts.length l4) := boxAt (bKeeps c4 B0.out) 4
  go_wp2_with fail
  refine (eqSynPaperS_true _ _ _ c.ts W4 (HA.out.keep c4).ts (HB.out.keep c4).ts).mono ?_
  rintro e W5 ⟨rfl, b4⟩
  have c5 := bAll c4 b4
  clear x4 y4 b4
  go_wp2
  go_ret
  exact ⟨rfl, bAll al c5⟩

set_option maxRecDepth 100000 in
set_option maxHeartbeats 4000000 in
theorem szSynCouncil_any (v : Value) (c : Cn) (w : World) (h : CnR w v c) :
    Calls Tryz.prog 5 #[v, .int .i64 1048576] w fun e w' => ∃ r, e = .returned (.int .i64 r) ∧ (r < 0 ∨ (0 ≤ r ∧ CnS c)) ∧ Below w.heap.size w w' := by
  obtain ⟨v0, v1, v2, v3, v4, rfl, h⟩ := h
  obtain ⟨⟨a0, k0, rfl⟩, ⟨a1, k1, rfl⟩, ⟨a2, k2, rfl⟩, ⟨a3, k3, rfl⟩, ⟨a4, k4, rfl⟩⟩ := h.shapes
  have HA := hide h
  have n1 : c.rs.length ≤ 9223372036854775807 := by obtain ⟨_, _, _, q⟩ := h.rs.cell1; exact q
  have n4 : c.ts.length ≤ 9223372036854775807 := by obtain ⟨_, _, _, q⟩ := h.ts.cell1; exact q
  clear h
  have al := bal (Below.refl w.heap.size w) (.cells #[.slice a0 c.vs.length k0, .slice a1 c.rs.length k1, .slice a2 c.ks.length k2, .slice a3 c.ws.length k3, .slice a4 c.ts.length k4] 28)
  have A0 := hide (al1_0 w (.cells #[.slice a0 c.vs.length k0, .slice a1 c.rs.length k1, .slice a2 c.ks.length k2, .slice a3 c.ws.length k3, .slice a4 c.ts.length k4] 28))
  go_enter Tryz.func5, Tryz.ntmps5
  go_upto_region 1 with fail
  generalize World.alloc _ _ = W0 at al A0 ⊢
  have HA := hide (HA.out.keep al)
  have c0 := Below.refl W0.heap.size W0
  have z0 : (0 : Int) ≤ 1048576 := by omega
  have y0 : (1048576 : Int) ≤ 1048576 := by omega
  have x0 : W0.cell? ⟨w.heap.size, 0, none⟩ = some (.slice a0 c.vs.length k0) := boxAt (bKeeps c0 A0.out) 0
  go_wp2_with fail
  refine (szSynVoterS_row _ c.vs 1048576 W0 (HA.out.keep c0).vs z0 y0).mono ?_
  rintro e W1 ⟨r0, rfl, hr0, b0⟩
  have c1 := bAll c0 b0
  rcases hr0 with hr0 | ⟨z1, y1', s0⟩
  · go_wp2
    go_ret
    exact ⟨_, rfl, .inl (by omega), bAll al c1⟩
  have y1 : r0 ≤ 1048576 := by omega
  have g0 : ¬ r0 < 0 := by omega
  have S0 := hide s0
  clear x0 b0 y1' s0 y0
  have x1 : W1.cell? ⟨w.heap.size, 1, none⟩ = some (.slice a1 c.rs.length k1) := boxAt (bKeeps c1 A0.out) 1
  go_wp2_with fail
  refine (szIntS_any a1 c.rs.length k1 r0 W1 n1 z1 y1).mono ?_
  rintro e W2 ⟨r1, rfl, hr1, b1⟩
  have c2 := bAll c1 b1
  rcases hr1 with hr1 | ⟨y2', z2⟩
  · go_wp2
    go_ret
    exact ⟨_, rfl, .inl (by omega), bAll al c2⟩
  have s1 : c.rs.length ≤ 1048576 := by omega
  have y2 : r1 ≤ 1048576 := by omega
  have g1 : ¬ r1 < 0 := by omega
  have S1 := hide s1
  clear x1 b1 y2' s1 y1
  have x2 : W2.cell? ⟨w.heap.size, 2, none⟩ = some (.slice a2 c.ks.length k2) := boxAt (bKeeps c2 A0.out) 2
  go_wp2_with fail
  refine (szSynSeekerS_row _ c.ks r1 W2 (HA.out.keep c2).ks z2 y2).mono ?_
  rintro e W3 ⟨r2, rfl, hr2, b2⟩
  have c3 := bAll c2 b2
  rcases hr2 with hr2 | ⟨z3, y3', s2⟩
  · go_wp2
    go_ret
    exact ⟨_, rfl, .inl (by omega), bAll al c3⟩
  have y3 : r2 ≤ 1048576 := by omega
  have g2 : ¬ r2 < 0 := by omega
  have S2 := hide s2
  clear x2 b2 y3' s2 y2
  have x3 : W3.cell? ⟨w.heap.size, 3, none⟩ = some (.slice a3 c.ws.length k3) := boxAt (bKeeps c3 A0.out) 3
  go_wp2_with fail
  refine (szWordS_row _ c.ws r2 W3 (HA.out.keep c3).ws z3 y3).mono ?_
  rintro e W4 ⟨r3, rfl, hr3, b3⟩
  have c4 := bAll c3 b3
  rcases hr3 with hr3 | ⟨z4, y4', s3⟩
  · go_wp2
    go_ret
    exact ⟨_, rfl, .inl (by omega), bAll al c4⟩
  have y4 : r3 ≤ 1048576 := by omega
  have g3 : ¬ r3 < 0 := by omega
  have S3 := hide s3
  clear x3 b3 y4' s3 y3
  have x4 : W4.cell? ⟨w.heap.size, 4, none⟩ = some (.slice a4 c.ts.length k4) := boxAt (bKeeps c4 A0.out) 4
  go_wp2_with fail
  refine (szSynPaperS_any a4 c.ts.length k4 r3 W4 n4 z4 y4).mono ?_
  rintro e W5 ⟨r4, rfl, hr4, b4⟩
  have c5 := bAll c4 b4
  rcases hr4 with hr4 | ⟨y5', z5⟩
  · go_wp2
    go_ret
    exact ⟨_, rfl, .inl (by omega), bAll al c5⟩
  have s4 : c.ts.length ≤ 1048576 := by omega
  have y5 : r4 ≤ 1048576 := by omega
  have g4 : ¬ r4 < 0 := by omega
  have S4 := hide s4
  clear x4 b4 y5' s4 y4
  go_wp2
  go_ret
  exact ⟨_, rfl, .inr ⟨z5, S0.out, S1.out, S2.out, S3.out, S4.out⟩, bAll al c5⟩

/-- A council in memory of its own: its five slices lie one behind the other, from base on. -/
def CnO (w : World) (base : Nat) (v : Value) (c : Cn) : Prop :=
  ∃ v0 v1 v2 v3 v4, v = .agg #[v0, v1, v2, v3, v4] ∧ ∃ lo : Nat → Nat, base ≤ lo 0 ∧ (lo 0 ≤ lo 1 ∧ lo 1 ≤ lo 2 ∧ lo 2 ≤ lo 3 ∧ lo 3 ≤ lo 4 ∧ lo 4 ≤ lo 5) ∧
    RowO w 62 2 (fun b => lo 0 ≤ b ∧ b < lo 1) VxO v0 c.vs ∧
    Row w 3 1 (fun b => lo 1 ≤ b ∧ b < lo 2) v1 c.rs.length (ints c.rs) ∧
    RowO w 80 26 (fun b => lo 2 ≤ b ∧ b < lo 3) SkO v2 c.ks ∧
    RowO w 87 26 (fun b => lo 3 ≤ b ∧ b < lo 4) WdO v3 c.ws ∧
    Row w 64 12 (fun b => lo 4 ≤ b ∧ b < lo 5) v4 c.ts.length (ppcells c.ts)
theorem CnO.reads {w : World} {base : Nat} {v : Value} {c : Cn} (h : CnO w base v c) : CnR w v c := by
  obtain ⟨v0, v1, v2, v3, v4, e, lo, -, -, h0, h1, h2, h3, h4⟩ := h
  exact ⟨_, _, _, _, _, e, ⟨h0.reads (fun _ _ _ h => VxO.reads h), h1.reads, h2.reads (fun _ _ _ h => SkO.reads h), h3.reads (fun _ _ _ h => WdO.reads h), h4.reads⟩⟩
theorem vxIn {w : World} {S : Nat → Prop} {v : Value} {x : Int × List Pp} (h : VxO w S v x) : VxO w (fun b => S b ∧ b < w.heap.size) v x := VtO.inside h
theorem skIn' {w : World} {S : Nat → Prop} {v : Value} {k : Sk} (h : SkO w S v k) : SkO w (fun j => S j ∧ j < w.heap.size) v k := by
  obtain ⟨yo, yc, e, h⟩ := h
  exact ⟨yo, yc, e, rowIn h⟩
theorem updRow0C (w : World) (g : Nat) (cs : Array Value) : Upd (fun j => j = g) w (w.setRow g cs) := ⟨rfl, rfl, rfl, by simp, fun _ _ h => setRow_other _ _ _ _ h⟩

set_option maxRecDepth 100000 in
set_option maxHeartbeats 4000000 in
theorem toSynCouncil_any (v : Value) (c : Cn) (w : World) (h : CnR w v c) (hs : CnS c) :
    Calls Tryz.prog 7 #[v] w fun e w' => ∃ v', e = .returned v' ∧ CnO w' w.heap.size v' c ∧ Below w.heap.size w w' := by
  obtain ⟨v0, v1, v2, v3, v4, rfl, h⟩ := h
  obtain ⟨⟨a0, k0, rfl⟩, ⟨a1, k1, rfl⟩, ⟨a2, k2, rfl⟩, ⟨a3, k3, rfl⟩, ⟨a4, k4, rfl⟩⟩ := h.shapes
  obtain ⟨s0, s1, s2, s3, s4⟩ := hs
  have S0 := hide s0
  have S1 := hide s1
  have S2 := hide s2
  have S3 := hide s3
  have S4 := hide s4
  have HA := hide h
  clear h s0 s1 s2 s3 s4
  go_enter Tryz.func7, Tryz.ntmps7
  go_upto_region 2 with fail
  generalize hW : World.alloc _ _ = W0
  have al : Below w.heap.size w W0 := by rw [← hW]; exact bal (bal (bal (Below.refl _ _) _) _) _
  have A0 : Hid (W0.heap[w.heap.size]? = some (.cells #[.slice a0 c.vs.length k0, .slice a1 c.rs.length k1, .slice a2 c.ks.length k2, .slice a3 c.ws.length k3, .slice a4 c.ts.length k4] 28 (0, 0))) := by show _ = _; rw [← hW]; exact al3_0 w _ _ _
  have A1 : Hid (W0.heap[w.heap.size + 1]? = some (.cells #[.slice none 0 0, .slice none 0 0, .slice none 0 0, .slice none 0 0, .slice none 0 0] 39 (0, 0))) := by show _ = _; rw [← hW]; exact al3_1 w _ _ _
  have B0 : Hid (W0.heap[w.heap.size + 1 + 1]? = some (.cells #[.slice none 0 0, .slice none 0 0, .slice none 0 0, .slice none 0 0, .slice none 0 0] 39 (0, 0))) := by show _ = _; rw [← hW]; exact al3_2 w _ _ _
  have lt0 := heap_lt B0.out
  clear hW
  have cw0 := al
  have x0 : W0.cell? ⟨w.heap.size, 0, none⟩ = some (.slice a0 c.vs.length k0) := boxAt A0.out 0
  go_wp2_with fail
  refine (toSynVoterS_row _ c.vs W0 (HA.out.keep cw0).vs S0.out.1 S0.out.2).mono ?_
  rintro e V0 ⟨d0, rfl, o0', b0⟩
  have o0'' : RowO V0 62 2 (fun b => W0.heap.size ≤ b ∧ b < V0.heap.size) VxO d0 c.vs := RowO.inside (fun T v x h => vxIn h) o0'
  obtain ⟨so0, sc0, rfl⟩ : ∃ so sc, d0 = .slice so c.vs.length sc := o0''.shape
  have zV0 := b0.size
  have N0 := hide (bKeeps b0 B0.out)
  have p0 : V0.cell? ⟨w.heap.size + 1 + 1, 0, none⟩ = some (.slice none 0 0) := boxAt N0.out 0
  have f0 : V0.frozen? ⟨w.heap.size + 1 + 1, 0, none⟩ = false := boxFz N0.out 0
  go_upto_region 3 with fail
  generalize hV0 : World.setCell _ _ _ = W1
  have u0d : Upd (fun j => j = w.heap.size + 1 + 1) V0 W1 := by rw [← hV0]; exact Upd.setCell _ _ _ _ rfl
  have B0 : Hid (W1.heap[w.heap.size + 1 + 1]? = some (.cells #[.slice so0 c.vs.length sc0, .slice none 0 0, .slice none 0 0, .slice none 0 0, .slice none 0 0] 39 (0, 0))) := by show _ = _; rw [← hV0]; exact row_set _ N0.out
  have A0 := hide (u0d.keeps (bKeeps b0 A0.out) (by omega))
  have A1 := hide (u0d.keeps (bKeeps b0 A1.out) (by omega))
  have zW1 := u0d.size
  have lt1 := heap_lt B0.out
  have cw1 : Below w.heap.size w W1 := (bAll cw0 b0).trans (u0d.below (bAll cw0 b0).size (fun j h => by omega))
  have O0 := hide (RowO.keep (fun T v x hT h => VxO.keep h u0d hT) o0'' u0d (fun b h1 h2 => by omega))
  clear hV0 o0' o0'' b0 u0d N0 p0 f0 x0
  have x1 : W1.cell? ⟨w.heap.size, 1, none⟩ = some (.slice a1 c.rs.length k1) := boxAt A0.out 1
  go_wp2_with fail
  refine (toIntS_any _ _ c.rs W1 (HA.out.keep cw1).rs S1.out).mono ?_
  rintro e V1 ⟨d1, rfl, o1', b1⟩
  have o1'' : Row V1 3 1 (fun b => W1.heap.size ≤ b ∧ b < V1.heap.size) d1 c.rs.length (ints c.rs) := rowIn o1'
  obtain ⟨so1, sc1, rfl⟩ : ∃ so sc, d1 = .slice so c.rs.length sc := (let ⟨ao, cap, e, _⟩ := o1''; ⟨ao, cap, e⟩)
  have zV1 := b1.size
  have N1 := hide (bKeeps b1 B0.out)
  have p1 : V1.cell? ⟨w.heap.size + 1 + 1, 1, none⟩ = some (.slice none 0 0) := boxAt N1.out 1
  have f1 : V1.frozen? ⟨w.heap.size + 1 + 1, 1, none⟩ = false := boxFz N1.out 1
  go_upto_region 4 with fail
  generalize hV1 : World.setCell _ _ _ = W2
  have u1d : Upd (fun j => j = w.heap.size + 1 + 1) V1 W2 := by rw [← hV1]; exact Upd.setCell _ _ _ _ rfl
  have B0 : Hid (W2.heap[w.heap.size + 1 + 1]? = some (.cells #[.slice so0 c.vs.length sc0, .slice so1 c.rs.length sc1, .slice none 0 0, .slice none 0 0, .slice none 0 0] 39 (0, 0))) := by show _ = _; rw [← hV1]; exact row_set _ N1.out
  have A0 := hide (u1d.keeps (bKeeps b1 A0.out) (by omega))
  have A1 := hide (u1d.keeps (bKeeps b1 A1.out) (by omega))
  have zW2 := u1d.size
  have lt2 := heap_lt B0.out
  have cw2 : Below w.heap.size w W2 := (bAll cw1 b1).trans (u1d.below (bAll cw1 b1).size (fun j h => by omega))
  have O0 := hide (RowO.keep (fun T v x hT h => VxO.keep h u1d hT) (RowO.keep (fun T v x hT h => VxO.keep h (Upd.ofBelow (S := fun _ => False) b1) hT) O0.out (Upd.ofBelow (S := fun _ => False) b1) (fun _ _ h => h)) u1d (fun b h1 h2 => by omega))
  have O1 := hide (Row.keep o1'' u1d (fun b h1 h2 => by omega))
  clear hV1 o1' o1'' b1 u1d N1 p1 f1 x1
  have x2 : W2.cell? ⟨w.heap.size, 2, none⟩ = some (.slice a2 c.ks.length k2) := boxAt A0.out 2
  go_wp2_with fail
  refine (toSynSeekerS_row _ c.ks W2 (HA.out.keep cw2).ks S2.out.1 S2.out.2).mono ?_
  rintro e V2 ⟨d2, rfl, o2', b2⟩
  have o2'' : RowO V2 80 26 (fun b => W2.heap.size ≤ b ∧ b < V2.heap.size) SkO d2 c.ks := RowO.inside (fun T v x h => skIn' h) o2'
  obtain ⟨so2, sc2, rfl⟩ : ∃ so sc, d2 = .slice so c.ks.length sc := o2''.shape
  have zV2 := b2.size
  have N2 := hide (bKeeps b2 B0.out)
  have p2 : V2.cell? ⟨w.heap.size + 1 + 1, 2, none⟩ = some (.slice none 0 0) := boxAt N2.out 2
  have f2 : V2.frozen? ⟨w.heap.size + 1 + 1, 2, none⟩ = false := boxFz N2.out 2
  go_upto_region 5 with fail
  generalize hV2 : World.setCell _ _ _ = W3
  have u2d : Upd (fun j => j = w.heap.size + 1 + 1) V2 W3 := by rw [← hV2]; exact Upd.setCell _ _ _ _ rfl
  have B0 : Hid (W3.heap[w.heap.size + 1 + 1]? = some (.cells #[.slice so0 c.vs.length sc0, .slice so1 c.rs.length sc1, .slice so2 c.ks.length sc2, .slice none 0 0, .slice none 0 0] 39 (0, 0))) := by show _ = _; rw [← hV2]; exact row_set _ N2.out
  have A0 := hide (u2d.keeps (bKeeps b2 A0.out) (by omega))
  have A1 := hide (u2d.keeps (bKeeps b2 A1.out) (by omega))
  have zW3 := u2d.size
  have lt3 := heap_lt B0.out
  have cw3 : Below w.heap.size w W3 := (bAll cw2 b2).trans (u2d.below (bAll cw2 b2).size (fun j h => by omega))
  have O0 := hide (RowO.keep (fun T v x hT h => VxO.keep h u2d hT) (RowO.keep (fun T v x hT h => VxO.keep h (Upd.ofBelow (S := fun _ => False) b2) hT) O0.out (Upd.ofBelow (S := fun _ => False) b2) (fun _ _ h => h)) u2d (fun b h1 h2 => by omega))
  have O1 := hide (Row.keep (Row.keep O1.out (Upd.ofBelow (S := fun _ => False) b2) (fun _ _ h => h)) u2d (fun b h1 h2 => by omega))
  have O2 := hide (RowO.keep (fun T v x hT h => SkO.keep h u2d hT) o2'' u2d (fun b h1 h2 => by omega))
  clear hV2 o2' o2'' b2 u2d N2 p2 f2 x2
  have x3 : W3.cell? ⟨w.heap.size, 3, none⟩ = some (.slice a3 c.ws.length k3) := boxAt A0.out 3
  go_wp2_with fail
  refine (toWordS_row _ c.ws W3 (HA.out.keep cw3).ws S3.out.1 S3.out.2).mono ?_
  rintro e V3 ⟨d3, rfl, o3', b3⟩
  have o3'' : RowO V3 87 26 (fun b => W3.heap.size ≤ b ∧ b < V3.heap.size) WdO d3 c.ws := RowO.inside (fun T v x h => wdIn h) o3'
  obtain ⟨so3, sc3, rfl⟩ : ∃ so sc, d3 = .slice so c.ws.length sc := o3''.shape
  have zV3 := b3.size
  have N3 := hide (bKeeps b3 B0.out)
  have p3 : V3.cell? ⟨w.heap.size + 1 + 1, 3, none⟩ = some (.slice none 0 0) := boxAt N3.out 3
  have f3 : V3.frozen? ⟨w.heap.size + 1 + 1, 3, none⟩ = false := boxFz N3.out 3
  go_upto_region 6 with fail
  generalize hV3 : World.setCell _ _ _ = W4
  have u3d : Upd (fun j => j = w.heap.size + 1 + 1) V3 W4 := by rw [← hV3]; exact Upd.setCell _ _ _ _ rfl
  have B0 : Hid (W4.heap[w.heap.size + 1 + 1]? = some (.cells #[.slice so0 c.vs.length sc0, .slice so1 c.rs.length sc1, .slice so2 c.ks.length sc2, .slice so3 c.ws.length sc3, .slice none 0 0] 39 (0, 0))) := by show _ = _; rw [← hV3]; exact row_set _ N3.out
  have A0 := hide (u3d.keeps (bKeeps b3 A0.out) (by omega))
  have A1 := hide (u3d.keeps (bKeeps b3 A1.out) (by omega))
  have zW4 := u3d.size
  have lt4 := heap_lt B0.out
  have cw4 : Below w.heap.size w W4 := (bAll cw3 b3).trans (u3d.below (bAll cw3 b3).size (fun j h => by omega))
  have O0 := hide (RowO.keep (fun T v x hT h => VxO.keep h u3d hT) (RowO.keep (fun T v x hT h => VxO.keep h (Upd.ofBelow (S := fun _ => False) b3) hT) O0.out (Upd.ofBelow (S := fun _ => False) b3) (fun _ _ h => h)) u3d (fun b h1 h2 => by omega))
  have O1 := hide (Row.keep (Row.keep O1.out (Upd.ofBelow (S := fun _ => False) b3) (fun _ _ h => h)) u3d (fun b h1 h2 => by omega))
  have O2 := hide (RowO.keep (fun T v x hT h => SkO.keep h u3d hT) (RowO.keep (fun T v x hT h => SkO.keep h (Upd.ofBelow (S := fun _ => False) b3) hT) O2.out (Upd.ofBelow (S := fun _ => False) b3) (fun _ _ h => h)) u3d (fun b h1 h2 => by omega))
  have O3 := hide (RowO.keep (fun T v x hT h => WdO.keep h u3d hT) o3'' u3d (fun b h1 h2 => by omega))
  clear hV3 o3' o3'' b3 u3d N3 p3 f3 x3
  have x4 : W4.cell? ⟨w.heap.size, 4, none⟩ = some (.slice a4 c.ts.length k4) := boxAt A0.out 4
  go_wp2_with fail
  refine (toSynPaperS_any _ _ c.ts W4 (HA.out.keep cw4).ts S4.out).mono ?_
  rintro e V4 ⟨so4, rfl, o4', b4⟩
  have o4'' : Row V4 64 12 (fun b => W4.heap.size ≤ b ∧ b < V4.heap.size) (.slice so4 c.ts.length c.ts.length) c.ts.length (ppcells c.ts) := rowIn o4'
  have zV4 := b4.size
  have N4 := hide (bKeeps b4 B0.out)
  have p4 : V4.cell? ⟨w.heap.size + 1 + 1, 4, none⟩ = some (.slice none 0 0) := boxAt N4.out 4
  have f4 : V4.frozen? ⟨w.heap.size + 1 + 1, 4, none⟩ = false := boxFz N4.out 4
  go_upto_region 7 with fail
  generalize hV4 : World.setCell _ _ _ = W5
  have u4d : Upd (fun j => j = w.heap.size + 1 + 1) V4 W5 := by rw [← hV4]; exact Upd.setCell _ _ _ _ rfl
  have B0 : Hid (W5.heap[w.heap.size + 1 + 1]? = some (.cells #[.slice so0 c.vs.length sc0, .slice so1 c.rs.length sc1, .slice so2 c.ks.length sc2, .slice so3 c.ws.length sc3, .slice so4 c.ts.length c.ts.length] 39 (0, 0))) := by show _ = _; rw [← hV4]; exact row_set _ N4.out
  have A0 := hide (u4d.keeps (bKeeps b4 A0.out) (by omega))
  have A1 := hide (u4d.keeps (bKeeps b4 A1.out) (by omega))
  have zW5 := u4d.size
  have lt5 := heap_lt B0.out
  have cw5 : Below w.heap.size w W5 := (bAll cw4 b4).trans (u4d.below (bAll cw4 b4).size (fun j h => by omega))
  have O0 := hide (RowO.keep (fun T v x hT h => VxO.keep h u4d hT) (RowO.keep (fun T v x hT h => VxO.keep h (Upd.ofBelow (S := fun _ => False) b4) hT) O0.out (Upd.ofBelow (S := fun _ => False) b4) (fun _ _ h => h)) u4d (fun b h1 h2 => by omega))
  have O1 := hide (Row.keep (Row.keep O1.out (Upd.ofBelow (S := fun _ => False) b4) (fun _ _ h => h)) u4d (fun b h1 h2 => by omega))
  have O2 := hide (RowO.keep (fun T v x hT h => SkO.keep h u4d hT) (RowO.keep (fun T v x hT h => SkO.keep h (Upd.ofBelow (S := fun _ => False) b4) hT) O2.out (Upd.ofBelow (S := fun _ => False) b4) (fun _ _ h => h)) u4d (fun b h1 h2 => by omega))
  have O3 := hide (RowO.keep (fun T v x hT h => WdO.keep h u4d hT) (RowO.keep (fun T v x hT h => WdO.keep h (Upd.ofBelow (S := fun _ => False) b4) hT) O3.out (Upd.ofBelow (S := fun _ => False) b4) (fun _ _ h => h)) u4d (fun b h1 h2 => by omega))
  have O4 := hide (Row.keep o4'' u4d (fun b h1 h2 => by omega))
  clear hV4 o4' o4'' b4 u4d N4 p4 f4 x4
  have s9 := updRow0C W5 (w.heap.size + 1) #[.slice so0 c.vs.length sc0, .slice so1 c.rs.length sc1, .slice so2 c.ks.length sc2, .slice so3 c.ws.length sc3, .slice so4 c.ts.length c.ts.length]
  go_wp2_with (first
    | (refine wpList_load_row rfl 39 (.tmp 3) rfl (w.heap.size + 1 + 1) rfl _ #[.slice so0 c.vs.length sc0, .slice so1 c.rs.length sc1, .slice so2 c.ks.length sc2, .slice so3 c.ws.length sc3, .slice so4 c.ts.length c.ts.length] (0, 0) _ B0.out Tryz.underlying39 rfl infoCnI ?_)
    | (refine wpList_store_row rfl 39 (.tmp 2) (.tmp 24) rfl (w.heap.size + 1) #[.slice so0 c.vs.length sc0, .slice so1 c.rs.length sc1, .slice so2 c.ks.length sc2, .slice so3 c.ws.length sc3, .slice so4 c.ts.length c.ts.length] rfl rfl _ _ A1.out infoCnI (show (5 : Nat) = 5 from rfl) (all_of_list rfl) ?_))
  refine bodyPost_ret (v := .agg #[.slice so0 c.vs.length sc0, .slice so1 c.rs.length sc1, .slice so2 c.ks.length sc2, .slice so3 c.ws.length sc3, .slice so4 c.ts.length c.ts.length]) (results_cell_row Tryz.results7 _ _ (w.heap.size + 1) _ _ (0, 0) _ rfl (setRow_heap _ _ _ _ _ _ A1.out) Tryz.underlying39 rfl infoCnI) rfl ?_
  refine ⟨_, rfl, ⟨_, _, _, _, _, rfl, fun i => match i with | 0 => W0.heap.size | 1 => W1.heap.size | 2 => W2.heap.size | 3 => W3.heap.size | 4 => W4.heap.size | _ => W5.heap.size, by show w.heap.size ≤ W0.heap.size; omega, ?_, ?_, ?_, ?_, ?_, ?_⟩, cw5.trans (s9.below cw5.size (fun j h => by omega))⟩
  · show W0.heap.size ≤ W1.heap.size ∧ W1.heap.size ≤ W2.heap.size ∧ W2.heap.size ≤ W3.heap.size ∧ W3.heap.size ≤ W4.heap.size ∧ W4.heap.size ≤ W5.heap.size
    omega
  · exact (RowO.keep (fun T v x hT h => VxO.keep h s9 hT) O0.out s9 (fun b h1 h2 => by omega)).mono (fun b h => ⟨h.1, by have := h.2; show b < W1.heap.size; omega⟩)
  · exact (Row.keep O1.out s9 (fun b h1 h2 => by omega)).mono (fun b _ h => ⟨h.1, by have := h.2; show b < W2.heap.size; omega⟩)
  · exact (RowO.keep (fun T v x hT h => SkO.keep h s9 hT) O2.out s9 (fun b h1 h2 => by omega)).mono (fun b h => ⟨h.1, by have := h.2; show b < W3.heap.size; omega⟩)
  · exact (RowO.keep (fun T v x hT h => WdO.keep h s9 hT) O3.out s9 (fun b h1 h2 => by omega)).mono (fun b h => ⟨h.1, by have := h.2; show b < W4.heap.size; omega⟩)
  · exact (Row.keep O4.out s9 (fun b h1 h2 => by omega)).mono (fun b _ h => ⟨h.1, by have := h.2; show b < W5.heap.size; omega⟩)

end Go.Proofs.YteddhdbglciahaaGreat
