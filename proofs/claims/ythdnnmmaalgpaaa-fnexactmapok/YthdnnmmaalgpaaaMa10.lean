/- Contracts and plain facts that this claim leans on (texts MK11); no statement of the seat is proved here. -/
import Derived.Test.YthdnnmmaalgpaaaMa8
import Derived.Test.YthdnnmmaalgpaaaMa9

/- The specification's MapOk: a contract; no statement of the seat is proved here. (Written by wip/tools/mksok.py.) -/
namespace Go.Proofs.Ythdnnmmaalgpaaa
open Go.RowKit

theorem DkR.id {w : World} {cs : Array Value} {x : Dk} (h : DkR w (.agg cs) x) : cs[0]? = some (.int .i64 x.i) := by
  obtain ⟨yo, yc, e, -⟩ := h
  injection e with e
  rw [e]
  rfl
theorem DnE.cells {w : World} {cs : Array Value} {x : Ec} (h : DnE w (.agg cs) x) : cs = #[.int .i64 x.1, .int .i64 x.2.1, .int .i64 x.2.2.1, .int .i64 x.2.2.2] := by
  injection (show Value.agg cs = _ from h)
theorem VwE.cells {w : World} {cs : Array Value} {x : Gc} (h : VwE w (.agg cs) x) : cs = #[.int .i64 x.1, .int .i64 x.2.1, .int .i64 x.2.2] := by
  injection (show Value.agg cs = _ from h)
/-- One that does not fit, or is not above the one ahead of it. -/
theorem all_bad {α : Type} {fit : α → Bool} {ord : α → α → Int} {xs : List α} {n k : Nat} (hk : k < n) (h : goodAt fit ord xs k = false) : (List.range n).all (goodAt fit ord xs) = false := by
  rw [List.all_eq_false]
  exact ⟨k, by simpa using hk, by rw [h]; simp⟩
theorem bad_fit {α : Type} {fit : α → Bool} {ord : α → α → Int} {xs : List α} {k : Nat} {x : α} (hx : xs[k]? = some x) (h : fit x = false) : goodAt fit ord xs k = false := by
  cases k with
  | zero => rw [goodAt_zero hx, h]
  | succ j =>
    have hj := (List.getElem?_eq_some_iff.1 hx).1
    rw [goodAt_succ hx (List.getElem?_eq_getElem (show j < xs.length by omega)), h, Bool.false_and]
theorem numI_def (z : Int) : numI z = inI z (-1) 99999 := rfl
theorem oldCell {w V : World} {b o : Nat} {v : Value} (h : w.cell? ⟨b, o, none⟩ = some v) (bb : Below w.heap.size w V) : V.cell? ⟨b, o, none⟩ = some v :=
  (bb.cell (p := ⟨b, o, none⟩) (World.block_lt_of_cell? w _ h)).trans h

set_option maxRecDepth 100000 in
set_option maxHeartbeats 8000000 in
theorem specMapOk_any (v : Value) (c : Ms) (w : World) (h : MsR w v c) :
    Calls Try.prog 12 #[v] w fun e w' => e = .returned (.bool (okMs c)) ∧ Below w.heap.size w w' := by
  obtain ⟨v0, v1, v2, rfl, h⟩ := h
  obtain ⟨⟨a0, k0, rfl⟩, ⟨a1, k1, rfl⟩, ⟨a2, k2, rfl⟩⟩ := h.shapes
  have HA := hide h
  clear h
  obtain ⟨Q, HQ⟩ : ∃ Q, Hid (okMs c = Q) := ⟨_, rfl⟩
  rw [HQ.out]
  have al := bal (Below.refl w.heap.size w) (.cells #[.int .i64 c.sl, .int .i64 c.sv, .int .i64 c.nx, .slice a0 c.ds.length k0, .slice a1 c.vs.length k1, .slice a2 c.es.length k2] 26)
  have A0 := hide (al1_0 w (.cells #[.int .i64 c.sl, .int .i64 c.sv, .int .i64 c.nx, .slice a0 c.ds.length k0, .slice a1 c.vs.length k1, .slice a2 c.es.length k2] 26))
  go_enter Try.func12, Try.ntmps12
  go_upto_region 1 with fail
  generalize World.alloc _ _ = W0 at al A0 ⊢
  have HA := hide (HA.out.keep al)
  have c0 := Below.refl W0.heap.size W0
  have x3 : W0.cell? ⟨w.heap.size, 3, none⟩ = some (.slice a0 c.ds.length k0) := boxAt (bKeeps c0 A0.out) 3
  have x4 : W0.cell? ⟨w.heap.size, 4, none⟩ = some (.slice a1 c.vs.length k1) := boxAt (bKeeps c0 A0.out) 4
  have x5 : W0.cell? ⟨w.heap.size, 5, none⟩ = some (.slice a2 c.es.length k2) := boxAt (bKeeps c0 A0.out) 5
  have x0 : W0.cell? ⟨w.heap.size, 0, none⟩ = some (.int .i64 c.sl) := boxAt A0.out 0
  have x1 : W0.cell? ⟨w.heap.size, 1, none⟩ = some (.int .i64 c.sv) := boxAt A0.out 1
  have x2 : W0.cell? ⟨w.heap.size, 2, none⟩ = some (.int .i64 c.nx) := boxAt A0.out 2
  have cF := l6In_inI c.sl 0 60 W0
  obtain ⟨i0, hi0⟩ : ∃ q, inI c.sl 0 60 = q := ⟨_, rfl⟩
  have I0 := hide hi0
  rw [hi0] at cF
  clear hi0
  go_wp2_with fail
  refine cF.mono ?_
  rintro e w' ⟨rfl, hw⟩
  rw [hw]
  clear hw cF w'
  cases i0 with
  | false =>
    have hno : Q = false := by have hq := I0.out; rw [← HQ.out]; simp only [okMs, hq, Bool.false_and, Bool.and_false]
    go_wp2
    go_ret
    exact ⟨by rw [hno]; rfl, al⟩
  | true =>
  have cF := l6In_inI c.sv 3 5 W0
  obtain ⟨i1, hi1⟩ : ∃ q, inI c.sv 3 5 = q := ⟨_, rfl⟩
  have I1 := hide hi1
  rw [hi1] at cF
  clear hi1
  go_wp2_with fail
  refine cF.mono ?_
  rintro e w' ⟨rfl, hw⟩
  rw [hw]
  clear hw cF w'
  cases i1 with
  | false =>
    have hno : Q = false := by have hq := I1.out; rw [← HQ.out]; simp only [okMs, hq, Bool.false_and, Bool.and_false]
    go_wp2
    go_ret
    exact ⟨by rw [hno]; rfl, al⟩
  | true =>
  have cF := l6In_inI c.nx 1 5 W0
  obtain ⟨i2, hi2⟩ : ∃ q, inI c.nx 1 5 = q := ⟨_, rfl⟩
  have I2 := hide hi2
  rw [hi2] at cF
  clear hi2
  go_wp2_with fail
  refine cF.mono ?_
  rintro e w' ⟨rfl, hw⟩
  rw [hw]
  clear hw cF w'
  cases i2 with
  | false =>
    have hno : Q = false := by have hq := I2.out; rw [← HQ.out]; simp only [okMs, hq, Bool.false_and, Bool.and_false]
    go_wp2
    go_ret
    exact ⟨by rw [hno]; rfl, al⟩
  | true =>
  by_cases h0 : c.ds.length ≤ 4
  case neg =>
    have e0 : decide ((c.ds.length : Int) > 4) = true := by simp; omega
    have hno : Q = false := by rw [← HQ.out]; simp [okMs, h0]
    go_wp2
    go_ret
    exact ⟨by rw [hno]; rfl, al⟩
  have e0 : decide ((c.ds.length : Int) > 4) = false := by simp; omega
  have H0 := hide h0
  clear h0
  by_cases h1 : c.vs.length = 3
  case neg =>
    have e1 : ((c.vs.length : Int) != 3) = true := by simp; omega
    have hno : Q = false := by rw [← HQ.out]; simp [okMs, h1]
    go_wp2
    go_ret
    exact ⟨by rw [hno]; rfl, al⟩
  have e1 : ((c.vs.length : Int) != 3) = false := by simp; omega
  have H1 := hide h1
  clear h1
  by_cases h2 : c.es.length ≤ 4
  case neg =>
    have e2 : decide ((c.es.length : Int) > 4) = true := by simp; omega
    have hno : Q = false := by rw [← HQ.out]; simp [okMs, h2]
    go_wp2
    go_ret
    exact ⟨by rw [hno]; rfl, al⟩
  have e2 : decide ((c.es.length : Int) > 4) = false := by simp; omega
  have H2 := hide h2
  clear h2
  obtain ⟨hs1, hs2⟩ := inI_lo I1.out
  obtain ⟨hn1, hn2⟩ := inI_lo I2.out
  go_wp2
  clear x0 x1 x2 x3 x4 x5 e0 e1 e2
  go_loopw [3] (fun i wr => ∃ k : Nat, k ≤ c.ds.length ∧ i = .int .i64 k ∧ (∀ j, j < k → goodAt (fitD c.nx) ordD c.ds j = true) ∧ Below W0.heap.size W0 wr) (fun i _ => c.ds.length - (intOf i).toNat)
  case atStart => exact ⟨0, Nat.zero_le _, rfl, fun j hj => by omega, Below.refl _ _⟩
  case round =>
    obtain ⟨k, hk, rfl, hgood, hbel⟩ := hrel
    have HG := hide hgood
    clear hgood
    have y3 : wr.cell? ⟨w.heap.size, 3, none⟩ = some (.slice a0 c.ds.length k0) := boxAt (bKeeps hbel A0.out) 3
    have hb0 := H0.out
    by_cases hlt : k < c.ds.length
    · have hi : (k : Int) < (c.ds.length : Int) := by omega
      obtain ⟨x, hx⟩ := getAt c.ds k hlt
      have HX := hide hx
      obtain ⟨-, b1, o1, ha0, cs, hcs, -, hc, he⟩ := (HA.out.keep hbel).ds.elem hx
      have F := hide hc
      have GI := hide (infoAt infoDk hcs)
      have dW := bDrewB (Below.refl wr.heap.size wr)
      have cF := fun V (bb : Below wr.heap.size wr V) => l31DiskOk_any c.sl c.sv c.nx a0 a1 a2 c.ds.length k0 c.vs.length k1 c.es.length k2 _ x V hn1 hn2 (DkR.keep he bb)
      have hid := hc 0 _ he.id
      obtain ⟨q, hq⟩ : ∃ q, fitD c.nx x = q := ⟨_, rfl⟩
      have Hq := hide hq
      rw [hq] at cF
      clear hq hcs hc he hx
      subst ha0
      cases q with
      | false =>
        have hno : Q = false := by rw [← HQ.out]; have := all_bad (ord := ordD) hlt (bad_fit HX.out Hq.out); simp only [okMs, this, Bool.false_and, Bool.and_false]
        clear hid
        go_wp2
        refine wp_region_noPanic ?_
        refine wp_region_held_drew (S := (fun w' => w'.heap[w.heap.size]? = some (.cells #[.int .i64 c.sl, .int .i64 c.sv, .int .i64 c.nx, .slice (some ⟨b1, o1, none⟩) c.ds.length k0, .slice a1 c.vs.length k1, .slice a2 c.es.length k2] 26 (0, 0)) ∧ w'.cell? ⟨w.heap.size, 3, none⟩ = some (.slice (some ⟨b1, o1, none⟩) c.ds.length k0) ∧ (∀ j u, cs[j]? = some u → w'.cell? ⟨b1, o1 + k * 7 + j, none⟩ = some u))) (by kernel_rfl) ?_ (fun hHeld => ?_)
        · exact ⟨bKeeps dW (bKeeps hbel A0.out), boxAt (bKeeps dW (bKeeps hbel A0.out)) 3, cellsKeep F.out dW⟩
        refine wpAnyH_take (i := 0) (v := .agg #[.int .i64 c.sl, .int .i64 c.sv, .int .i64 c.nx, .slice (some ⟨b1, o1, none⟩) c.ds.length k0, .slice a1 c.vs.length k1, .slice a2 c.es.length k2]) rfl (by kernel_rfl) (by kernel_rfl) (by kernel_rfl) (fun _ _ _ h => h) (yields_row rfl 26 (.tmp 1) rfl (w.heap.size) rfl _ #[.int .i64 c.sl, .int .i64 c.sv, .int .i64 c.nx, .slice (some ⟨b1, o1, none⟩) c.ds.length k0, .slice a1 c.vs.length k1, .slice a2 c.es.length k2] _ (fun _ h => h.1) Try.underlying26 rfl infoMsI) (by assumption) ?_
        simp only [Act.put, List.getElem_toArray, List.getElem_cons_zero, List.setIfInBounds_toArray, List.set_cons_zero, List.set_cons_succ]
        refine wpAnyH_take (i := 1) (v := ?v1) rfl (by kernel_rfl) (by kernel_rfl) (by kernel_rfl) (fun _ _ _ h => h) (Or.inl ⟨by rfl, ?hy1⟩) (by assumption) ?rest1
        case hy1 => ((intro w hSw; (try dsimp only at hSw); (try simp only [List.getElem_toArray, List.getElem_cons_zero, List.getElem_cons_succ]); go_simp; first | done | (with_reducible rfl)))
        simp only [Act.put, List.getElem_toArray, List.getElem_cons_zero, List.getElem_cons_succ, List.setIfInBounds_toArray, List.set_cons_zero, List.set_cons_succ]
        refine wpAnyH_take (i := 2) (v := ?v2) rfl (by kernel_rfl) (by kernel_rfl) (by kernel_rfl) (fun _ _ _ h => h) (Or.inl ⟨by rfl, ?hy2⟩) (by assumption) ?rest2
        case hy2 => ((intro w hSw; (try dsimp only at hSw); (try simp only [List.getElem_toArray, List.getElem_cons_zero, List.getElem_cons_succ]); go_simp; first | done | (with_reducible rfl)))
        simp only [Act.put, List.getElem_toArray, List.getElem_cons_zero, List.getElem_cons_succ, List.setIfInBounds_toArray, List.set_cons_zero, List.set_cons_succ]
        refine wpAnyH_take (i := 3) (v := ?v3) rfl (by kernel_rfl) (by kernel_rfl) (by kernel_rfl) (fun _ _ _ h => h) (Or.inl ⟨by rfl, ?hy3⟩) (by assumption) ?rest3
        case hy3 => ((intro w hSw; (try dsimp only at hSw); (try simp only [List.getElem_toArray, List.getElem_cons_zero, List.getElem_cons_succ]); go_simp; first | done | (with_reducible rfl)))
        simp only [Act.put, List.getElem_toArray, List.getElem_cons_zero, List.getElem_cons_succ, List.setIfInBounds_toArray, List.set_cons_zero, List.set_cons_succ]
        refine wpAnyH_take (i := 4) (v := ?v4) rfl (by kernel_rfl) (by kernel_rfl) (by kernel_rfl) (fun _ _ _ h => h) (Or.inl ⟨by rfl, ?hy4⟩) (by assumption) ?rest4
        case hy4 => ((intro w hSw; (try dsimp only at hSw); (try simp only [List.getElem_toArray, List.getElem_cons_zero, List.getElem_cons_succ]); go_simp; first | done | (with_reducible rfl)))
        simp only [Act.put, List.getElem_toArray, List.getElem_cons_zero, List.getElem_cons_succ, List.setIfInBounds_toArray, List.set_cons_zero, List.set_cons_succ]
        refine wpAnyH_take (i := 5) (v := .agg cs) rfl (by kernel_rfl) (by kernel_rfl) (by kernel_rfl) (fun _ _ _ h => h) (yields_at rfl 57 (.tmp 53) rfl (b1) (o1 + k * 7) rfl cs _ (fun _ h => h.2.2) Try.underlying57 rfl GI.out) (by assumption) ?_
        simp only [Act.put, List.getElem_toArray, List.getElem_cons_zero, List.getElem_cons_succ, List.setIfInBounds_toArray, List.set_cons_zero, List.set_cons_succ]
        refine wpAnyH_ready (rs := [6]) (by kernel_rfl) (by simp) ?_
        refine AllReadyH.cons rfl (fun K hK => ?_) AllReadyH.nil
        go_simp
        (go_at_call 30; refine (cF _ dW).mono ?_; rintro e V1 ⟨rfl, d1⟩; have d1' := bAll dW d1)
        refine hK.out _ _ ?_ (fun hHeld => ?_)
        · exact ⟨bKeeps d1' (bKeeps hbel A0.out), boxAt (bKeeps d1' (bKeeps hbel A0.out)) 3, cellsKeep F.out d1'⟩
        clear hK K
        refine wpAnyH_take (i := 7) (v := ?v5) rfl (by kernel_rfl) (by kernel_rfl) (by kernel_rfl) (fun _ _ _ h => h) (Or.inl ⟨by rfl, ?hy5⟩) (by assumption) ?rest5
        case hy5 => ((intro w hSw; (try dsimp only at hSw); (try simp only [List.getElem_toArray, List.getElem_cons_zero, List.getElem_cons_succ]); go_simp; first | done | (with_reducible rfl)))
        simp only [Act.put, List.getElem_toArray, List.getElem_cons_zero, List.getElem_cons_succ, List.setIfInBounds_toArray, List.set_cons_zero, List.set_cons_succ]
        refine wpAnyH_take (i := 8) (v := ?v6) rfl (by kernel_rfl) (by kernel_rfl) (by kernel_rfl) (fun _ _ _ h => h) (Or.inl ⟨by rfl, ?hy6⟩) (by assumption) ?rest6
        case hy6 => ((intro w hSw; (try dsimp only at hSw); (try simp only [List.getElem_toArray, List.getElem_cons_zero, List.getElem_cons_succ]); go_simp; first | done | (with_reducible rfl)))
        simp only [Act.put, List.getElem_toArray, List.getElem_cons_zero, List.getElem_cons_succ, List.setIfInBounds_toArray, List.set_cons_zero, List.set_cons_succ]
        refine wpAnyH_take (i := 9) (v := undef) rfl (by kernel_rfl) (by kernel_rfl) (by kernel_rfl) (fun _ _ _ h => h) (Or.inr ⟨by rfl, rfl⟩) (by assumption) ?_
        simp only [Act.put, List.getElem_toArray, List.getElem_cons_zero, List.getElem_cons_succ, List.setIfInBounds_toArray, List.set_cons_zero, List.set_cons_succ]
        refine wpAnyH_take (i := 10) (v := undef) rfl (by kernel_rfl) (by kernel_rfl) (by kernel_rfl) (fun _ _ _ h => h) (Or.inr ⟨by rfl, rfl⟩) (by assumption) ?_
        simp only [Act.put, List.getElem_toArray, List.getElem_cons_zero, List.getElem_cons_succ, List.setIfInBounds_toArray, List.set_cons_zero, List.set_cons_succ]
        refine wpAnyH_take (i := 11) (v := undef) rfl (by kernel_rfl) (by kernel_rfl) (by kernel_rfl) (fun _ _ _ h => h) (Or.inr ⟨by rfl, rfl⟩) (by assumption) ?_
        simp only [Act.put, List.getElem_toArray, List.getElem_cons_zero, List.getElem_cons_succ, List.setIfInBounds_toArray, List.set_cons_zero, List.set_cons_succ]
        refine wpAnyH_take (i := 12) (v := undef) rfl (by kernel_rfl) (by kernel_rfl) (by kernel_rfl) (fun _ _ _ h => h) (Or.inr ⟨by rfl, rfl⟩) (by assumption) ?_
        simp only [Act.put, List.getElem_toArray, List.getElem_cons_zero, List.getElem_cons_succ, List.setIfInBounds_toArray, List.set_cons_zero, List.set_cons_succ]
        refine wpAnyH_take (i := 13) (v := undef) rfl (by kernel_rfl) (by kernel_rfl) (by kernel_rfl) (fun _ _ _ h => h) (Or.inr ⟨by rfl, rfl⟩) (by assumption) ?_
        simp only [Act.put, List.getElem_toArray, List.getElem_cons_zero, List.getElem_cons_succ, List.setIfInBounds_toArray, List.set_cons_zero, List.set_cons_succ]
        refine wpAnyH_take (i := 14) (v := undef) rfl (by kernel_rfl) (by kernel_rfl) (by kernel_rfl) (fun _ _ _ h => h) (Or.inr ⟨by rfl, rfl⟩) (by assumption) ?_
        simp only [Act.put, List.getElem_toArray, List.getElem_cons_zero, List.getElem_cons_succ, List.setIfInBounds_toArray, List.set_cons_zero, List.set_cons_succ]
        refine wpAnyH_take (i := 15) (v := undef) rfl (by kernel_rfl) (by kernel_rfl) (by kernel_rfl) (fun _ _ _ h => h) (Or.inr ⟨by rfl, rfl⟩) (by assumption) ?_
        simp only [Act.put, List.getElem_toArray, List.getElem_cons_zero, List.getElem_cons_succ, List.setIfInBounds_toArray, List.set_cons_zero, List.set_cons_succ]
        refine wpAnyH_take (i := 16) (v := undef) rfl (by kernel_rfl) (by kernel_rfl) (by kernel_rfl) (fun _ _ _ h => h) (Or.inr ⟨by rfl, rfl⟩) (by assumption) ?_
        simp only [Act.put, List.getElem_toArray, List.getElem_cons_zero, List.getElem_cons_succ, List.setIfInBounds_toArray, List.set_cons_zero, List.set_cons_succ]
        refine wpAnyH_take (i := 17) (v := undef) rfl (by kernel_rfl) (by kernel_rfl) (by kernel_rfl) (fun _ _ _ h => h) (Or.inr ⟨by rfl, rfl⟩) (by assumption) ?_
        simp only [Act.put, List.getElem_toArray, List.getElem_cons_zero, List.getElem_cons_succ, List.setIfInBounds_toArray, List.set_cons_zero, List.set_cons_succ]
        refine wpAnyH_take (i := 18) (v := undef) rfl (by kernel_rfl) (by kernel_rfl) (by kernel_rfl) (fun _ _ _ h => h) (Or.inr ⟨by rfl, rfl⟩) (by assumption) ?_
        simp only [Act.put, List.getElem_toArray, List.getElem_cons_zero, List.getElem_cons_succ, List.setIfInBounds_toArray, List.set_cons_zero, List.set_cons_succ]
        refine wpAnyH_take (i := 19) (v := undef) rfl (by kernel_rfl) (by kernel_rfl) (by kernel_rfl) (fun _ _ _ h => h) (Or.inr ⟨by rfl, rfl⟩) (by assumption) ?_
        simp only [Act.put, List.getElem_toArray, List.getElem_cons_zero, List.getElem_cons_succ, List.setIfInBounds_toArray, List.set_cons_zero, List.set_cons_succ]
        refine wpAnyH_take (i := 20) (v := undef) rfl (by kernel_rfl) (by kernel_rfl) (by kernel_rfl) (fun _ _ _ h => h) (Or.inr ⟨by rfl, rfl⟩) (by assumption) ?_
        simp only [Act.put, List.getElem_toArray, List.getElem_cons_zero, List.getElem_cons_succ, List.setIfInBounds_toArray, List.set_cons_zero, List.set_cons_succ]
        refine wpAnyH_take (i := 21) (v := undef) rfl (by kernel_rfl) (by kernel_rfl) (by kernel_rfl) (fun _ _ _ h => h) (Or.inr ⟨by rfl, rfl⟩) (by assumption) ?_
        simp only [Act.put, List.getElem_toArray, List.getElem_cons_zero, List.getElem_cons_succ, List.setIfInBounds_toArray, List.set_cons_zero, List.set_cons_succ]
        refine wpAnyH_take (i := 22) (v := undef) rfl (by kernel_rfl) (by kernel_rfl) (by kernel_rfl) (fun _ _ _ h => h) (Or.inr ⟨by rfl, rfl⟩) (by assumption) ?_
        simp only [Act.put, List.getElem_toArray, List.getElem_cons_zero, List.getElem_cons_succ, List.setIfInBounds_toArray, List.set_cons_zero, List.set_cons_succ]
        refine wpAnyH_take (i := 23) (v := undef) rfl (by kernel_rfl) (by kernel_rfl) (by kernel_rfl) (fun _ _ _ h => h) (Or.inr ⟨by rfl, rfl⟩) (by assumption) ?_
        simp only [Act.put, List.getElem_toArray, List.getElem_cons_zero, List.getElem_cons_succ, List.setIfInBounds_toArray, List.set_cons_zero, List.set_cons_succ]
        refine wpAnyH_take (i := 24) (v := undef) rfl (by kernel_rfl) (by kernel_rfl) (by kernel_rfl) (fun _ _ _ h => h) (Or.inr ⟨by rfl, rfl⟩) (by assumption) ?_
        simp only [Act.put, List.getElem_toArray, List.getElem_cons_zero, List.getElem_cons_succ, List.setIfInBounds_toArray, List.set_cons_zero, List.set_cons_succ]
        refine wpAnyH_take (i := 25) (v := undef) rfl (by kernel_rfl) (by kernel_rfl) (by kernel_rfl) (fun _ _ _ h => h) (Or.inr ⟨by rfl, rfl⟩) (by assumption) ?_
        simp only [Act.put, List.getElem_toArray, List.getElem_cons_zero, List.getElem_cons_succ, List.setIfInBounds_toArray, List.set_cons_zero, List.set_cons_succ]
        refine wpAnyH_take (i := 26) (v := undef) rfl (by kernel_rfl) (by kernel_rfl) (by kernel_rfl) (fun _ _ _ h => h) (Or.inr ⟨by rfl, rfl⟩) (by assumption) ?_
        simp only [Act.put, List.getElem_toArray, List.getElem_cons_zero, List.getElem_cons_succ, List.setIfInBounds_toArray, List.set_cons_zero, List.set_cons_succ]
        refine wpAnyH_take (i := 27) (v := ?v7) rfl (by kernel_rfl) (by kernel_rfl) (by kernel_rfl) (fun _ _ _ h => h) (Or.inl ⟨by rfl, ?hy7⟩) (by assumption) ?rest7
        case hy7 => ((intro w hSw; (try dsimp only at hSw); (try simp only [List.getElem_toArray, List.getElem_cons_zero, List.getElem_cons_succ]); go_simp; first | done | (with_reducible rfl)))
        simp only [Act.put, List.getElem_toArray, List.getElem_cons_zero, List.getElem_cons_succ, List.setIfInBounds_toArray, List.set_cons_zero, List.set_cons_succ]
        refine wpAnyH_done (by kernel_rfl) ?_ _
        refine NoPanic.normal ?_
        go_wp2
        go_ret
        exact ⟨by rw [hno]; rfl, bAll al (bAll hbel d1')⟩
      | true =>
        rcases Nat.eq_zero_or_pos k with rfl | hpos
        · have hyes : Hid (goodAt (fitD c.nx) ordD c.ds 0 = true) := by show _ = _; rw [goodAt_zero HX.out, Hq.out]
          have F0 := F
          simp only [Nat.zero_mul, Nat.add_zero] at F0
          clear hid
          go_wp2
          refine wp_region_noPanic ?_
          refine wp_region_held_drew (S := (fun w' => w'.heap[w.heap.size]? = some (.cells #[.int .i64 c.sl, .int .i64 c.sv, .int .i64 c.nx, .slice (some ⟨b1, o1, none⟩) c.ds.length k0, .slice a1 c.vs.length k1, .slice a2 c.es.length k2] 26 (0, 0)) ∧ w'.cell? ⟨w.heap.size, 3, none⟩ = some (.slice (some ⟨b1, o1, none⟩) c.ds.length k0) ∧ (∀ j u, cs[j]? = some u → w'.cell? ⟨b1, o1 + j, none⟩ = some u))) (by kernel_rfl) ?_ (fun hHeld => ?_)
          · exact ⟨bKeeps dW (bKeeps hbel A0.out), boxAt (bKeeps dW (bKeeps hbel A0.out)) 3, cellsKeep F0.out dW⟩
          refine wpAnyH_take (i := 0) (v := .agg #[.int .i64 c.sl, .int .i64 c.sv, .int .i64 c.nx, .slice (some ⟨b1, o1, none⟩) c.ds.length k0, .slice a1 c.vs.length k1, .slice a2 c.es.length k2]) rfl (by kernel_rfl) (by kernel_rfl) (by kernel_rfl) (fun _ _ _ h => h) (yields_row rfl 26 (.tmp 1) rfl (w.heap.size) rfl _ #[.int .i64 c.sl, .int .i64 c.sv, .int .i64 c.nx, .slice (some ⟨b1, o1, none⟩) c.ds.length k0, .slice a1 c.vs.length k1, .slice a2 c.es.length k2] _ (fun _ h => h.1) Try.underlying26 rfl infoMsI) (by assumption) ?_
          simp only [Act.put, List.getElem_toArray, List.getElem_cons_zero, List.setIfInBounds_toArray, List.set_cons_zero, List.set_cons_succ]
          refine wpAnyH_take (i := 1) (v := ?v8) rfl (by kernel_rfl) (by kernel_rfl) (by kernel_rfl) (fun _ _ _ h => h) (Or.inl ⟨by rfl, ?hy8⟩) (by assumption) ?rest8
          case hy8 => ((intro w hSw; (try dsimp only at hSw); (try simp only [List.getElem_toArray, List.getElem_cons_zero, List.getElem_cons_succ]); go_simp; first | done | (with_reducible rfl)))
          simp only [Act.put, List.getElem_toArray, List.getElem_cons_zero, List.getElem_cons_succ, List.setIfInBounds_toArray, List.set_cons_zero, List.set_cons_succ]
          refine wpAnyH_take (i := 2) (v := ?v9) rfl (by kernel_rfl) (by kernel_rfl) (by kernel_rfl) (fun _ _ _ h => h) (Or.inl ⟨by rfl, ?hy9⟩) (by assumption) ?rest9
          case hy9 => ((intro w hSw; (try dsimp only at hSw); (try simp only [List.getElem_toArray, List.getElem_cons_zero, List.getElem_cons_succ]); go_simp; first | done | (with_reducible rfl)))
          simp only [Act.put, List.getElem_toArray, List.getElem_cons_zero, List.getElem_cons_succ, List.setIfInBounds_toArray, List.set_cons_zero, List.set_cons_succ]
          refine wpAnyH_take (i := 3) (v := ?v10) rfl (by kernel_rfl) (by kernel_rfl) (by kernel_rfl) (fun _ _ _ h => h) (Or.inl ⟨by rfl, ?hy10⟩) (by assumption) ?rest10
          case hy10 => ((intro w hSw; (try dsimp only at hSw); (try simp only [List.getElem_toArray, List.getElem_cons_zero, List.getElem_cons_succ]); go_simp; first | done | (with_reducible rfl)))
          simp only [Act.put, List.getElem_toArray, List.getElem_cons_zero, List.getElem_cons_succ, List.setIfInBounds_toArray, List.set_cons_zero, List.set_cons_succ]
          refine wpAnyH_take (i := 4) (v := ?v11) rfl (by kernel_rfl) (by kernel_rfl) (by kernel_rfl) (fun _ _ _ h => h) (Or.inl ⟨by rfl, ?hy11⟩) (by assumption) ?rest11
          case hy11 => ((intro w hSw; (try dsimp only at hSw); (try simp only [List.getElem_toArray, List.getElem_cons_zero, List.getElem_cons_succ]); go_simp; first | done | (with_reducible rfl)))
          simp only [Act.put, List.getElem_toArray, List.getElem_cons_zero, List.getElem_cons_succ, List.setIfInBounds_toArray, List.set_cons_zero, List.set_cons_succ]
          refine wpAnyH_take (i := 5) (v := .agg cs) rfl (by kernel_rfl) (by kernel_rfl) (by kernel_rfl) (fun _ _ _ h => h) (yields_at rfl 57 (.tmp 53) rfl (b1) (o1) rfl cs _ (fun _ h => h.2.2) Try.underlying57 rfl GI.out) (by assumption) ?_
          simp only [Act.put, List.getElem_toArray, List.getElem_cons_zero, List.getElem_cons_succ, List.setIfInBounds_toArray, List.set_cons_zero, List.set_cons_succ]
          refine wpAnyH_ready (rs := [6]) (by kernel_rfl) (by simp) ?_
          refine AllReadyH.cons rfl (fun K hK => ?_) AllReadyH.nil
          go_simp
          (go_at_call 30; refine (cF _ dW).mono ?_; rintro e V1 ⟨rfl, d1⟩; have d1' := bAll dW d1)
          refine hK.out _ _ ?_ (fun hHeld => ?_)
          · exact ⟨bKeeps d1' (bKeeps hbel A0.out), boxAt (bKeeps d1' (bKeeps hbel A0.out)) 3, cellsKeep F0.out d1'⟩
          clear hK K
          refine wpAnyH_take (i := 7) (v := ?v12) rfl (by kernel_rfl) (by kernel_rfl) (by kernel_rfl) (fun _ _ _ h => h) (Or.inl ⟨by rfl, ?hy12⟩) (by assumption) ?rest12
          case hy12 => ((intro w hSw; (try dsimp only at hSw); (try simp only [List.getElem_toArray, List.getElem_cons_zero, List.getElem_cons_succ]); go_simp; first | done | (with_reducible rfl)))
          simp only [Act.put, List.getElem_toArray, List.getElem_cons_zero, List.getElem_cons_succ, List.setIfInBounds_toArray, List.set_cons_zero, List.set_cons_succ]
          refine wpAnyH_take (i := 8) (v := ?v13) rfl (by kernel_rfl) (by kernel_rfl) (by kernel_rfl) (fun _ _ _ h => h) (Or.inl ⟨by rfl, ?hy13⟩) (by assumption) ?rest13
          case hy13 => ((intro w hSw; (try dsimp only at hSw); (try simp only [List.getElem_toArray, List.getElem_cons_zero, List.getElem_cons_succ]); go_simp; first | done | (with_reducible rfl)))
          simp only [Act.put, List.getElem_toArray, List.getElem_cons_zero, List.getElem_cons_succ, List.setIfInBounds_toArray, List.set_cons_zero, List.set_cons_succ]
          refine wpAnyH_take (i := 9) (v := ?v14) rfl (by kernel_rfl) (by kernel_rfl) (by kernel_rfl) (fun _ _ _ h => h) (Or.inl ⟨by rfl, ?hy14⟩) (by assumption) ?rest14
          case hy14 => ((intro w hSw; (try dsimp only at hSw); (try simp only [List.getElem_toArray, List.getElem_cons_zero, List.getElem_cons_succ]); go_simp; first | done | (with_reducible rfl)))
          simp only [Act.put, List.getElem_toArray, List.getElem_cons_zero, List.getElem_cons_succ, List.setIfInBounds_toArray, List.set_cons_zero, List.set_cons_succ]
          refine wpAnyH_take (i := 10) (v := ?v15) rfl (by kernel_rfl) (by kernel_rfl) (by kernel_rfl) (fun _ _ _ h => h) (Or.inl ⟨by rfl, ?hy15⟩) (by assumption) ?rest15
          case hy15 => ((intro w hSw; (try dsimp only at hSw); (try simp only [List.getElem_toArray, List.getElem_cons_zero, List.getElem_cons_succ]); go_simp; first | done | (with_reducible rfl)))
          simp only [Act.put, List.getElem_toArray, List.getElem_cons_zero, List.getElem_cons_succ, List.setIfInBounds_toArray, List.set_cons_zero, List.set_cons_succ]
          refine wpAnyH_take (i := 11) (v := ?v16) rfl (by kernel_rfl) (by kernel_rfl) (by kernel_rfl) (fun _ _ _ h => h) (Or.inl ⟨by rfl, ?hy16⟩) (by assumption) ?rest16
          case hy16 => ((intro w hSw; (try dsimp only at hSw); (try simp only [List.getElem_toArray, List.getElem_cons_zero, List.getElem_cons_succ]); go_simp; first | done | (with_reducible rfl)))
          simp only [Act.put, List.getElem_toArray, List.getElem_cons_zero, List.getElem_cons_succ, List.setIfInBounds_toArray, List.set_cons_zero, List.set_cons_succ]
          refine wpAnyH_take (i := 12) (v := undef) rfl (by kernel_rfl) (by kernel_rfl) (by kernel_rfl) (fun _ _ _ h => h) (Or.inr ⟨by rfl, rfl⟩) (by assumption) ?_
          simp only [Act.put, List.getElem_toArray, List.getElem_cons_zero, List.getElem_cons_succ, List.setIfInBounds_toArray, List.set_cons_zero, List.set_cons_succ]
          refine wpAnyH_take (i := 13) (v := undef) rfl (by kernel_rfl) (by kernel_rfl) (by kernel_rfl) (fun _ _ _ h => h) (Or.inr ⟨by rfl, rfl⟩) (by assumption) ?_
          simp only [Act.put, List.getElem_toArray, List.getElem_cons_zero, List.getElem_cons_succ, List.setIfInBounds_toArray, List.set_cons_zero, List.set_cons_succ]
          refine wpAnyH_take (i := 14) (v := undef) rfl (by kernel_rfl) (by kernel_rfl) (by kernel_rfl) (fun _ _ _ h => h) (Or.inr ⟨by rfl, rfl⟩) (by assumption) ?_
          simp only [Act.put, List.getElem_toArray, List.getElem_cons_zero, List.getElem_cons_succ, List.setIfInBounds_toArray, List.set_cons_zero, List.set_cons_succ]
          refine wpAnyH_take (i := 15) (v := undef) rfl (by kernel_rfl) (by kernel_rfl) (by kernel_rfl) (fun _ _ _ h => h) (Or.inr ⟨by rfl, rfl⟩) (by assumption) ?_
          simp only [Act.put, List.getElem_toArray, List.getElem_cons_zero, List.getElem_cons_succ, List.setIfInBounds_toArray, List.set_cons_zero, List.set_cons_succ]
          refine wpAnyH_take (i := 16) (v := undef) rfl (by kernel_rfl) (by kernel_rfl) (by kernel_rfl) (fun _ _ _ h => h) (Or.inr ⟨by rfl, rfl⟩) (by assumption) ?_
          simp only [Act.put, List.getElem_toArray, List.getElem_cons_zero, List.getElem_cons_succ, List.setIfInBounds_toArray, List.set_cons_zero, List.set_cons_succ]
          refine wpAnyH_take (i := 17) (v := undef) rfl (by kernel_rfl) (by kernel_rfl) (by kernel_rfl) (fun _ _ _ h => h) (Or.inr ⟨by rfl, rfl⟩) (by assumption) ?_
          simp only [Act.put, List.getElem_toArray, List.getElem_cons_zero, List.getElem_cons_succ, List.setIfInBounds_toArray, List.set_cons_zero, List.set_cons_succ]
          refine wpAnyH_take (i := 18) (v := undef) rfl (by kernel_rfl) (by kernel_rfl) (by kernel_rfl) (fun _ _ _ h => h) (Or.inr ⟨by rfl, rfl⟩) (by assumption) ?_
          simp only [Act.put, List.getElem_toArray, List.getElem_cons_zero, List.getElem_cons_succ, List.setIfInBounds_toArray, List.set_cons_zero, List.set_cons_succ]
          refine wpAnyH_take (i := 19) (v := undef) rfl (by kernel_rfl) (by kernel_rfl) (by kernel_rfl) (fun _ _ _ h => h) (Or.inr ⟨by rfl, rfl⟩) (by assumption) ?_
          simp only [Act.put, List.getElem_toArray, List.getElem_cons_zero, List.getElem_cons_succ, List.setIfInBounds_toArray, List.set_cons_zero, List.set_cons_succ]
          refine wpAnyH_take (i := 20) (v := undef) rfl (by kernel_rfl) (by kernel_rfl) (by kernel_rfl) (fun _ _ _ h => h) (Or.inr ⟨by rfl, rfl⟩) (by assumption) ?_
          simp only [Act.put, List.getElem_toArray, List.getElem_cons_zero, List.getElem_cons_succ, List.setIfInBounds_toArray, List.set_cons_zero, List.set_cons_succ]
          refine wpAnyH_take (i := 21) (v := undef) rfl (by kernel_rfl) (by kernel_rfl) (by kernel_rfl) (fun _ _ _ h => h) (Or.inr ⟨by rfl, rfl⟩) (by assumption) ?_
          simp only [Act.put, List.getElem_toArray, List.getElem_cons_zero, List.getElem_cons_succ, List.setIfInBounds_toArray, List.set_cons_zero, List.set_cons_succ]
          refine wpAnyH_take (i := 22) (v := undef) rfl (by kernel_rfl) (by kernel_rfl) (by kernel_rfl) (fun _ _ _ h => h) (Or.inr ⟨by rfl, rfl⟩) (by assumption) ?_
          simp only [Act.put, List.getElem_toArray, List.getElem_cons_zero, List.getElem_cons_succ, List.setIfInBounds_toArray, List.set_cons_zero, List.set_cons_succ]
          refine wpAnyH_take (i := 23) (v := undef) rfl (by kernel_rfl) (by kernel_rfl) (by kernel_rfl) (fun _ _ _ h => h) (Or.inr ⟨by rfl, rfl⟩) (by assumption) ?_
          simp only [Act.put, List.getElem_toArray, List.getElem_cons_zero, List.getElem_cons_succ, List.setIfInBounds_toArray, List.set_cons_zero, List.set_cons_succ]
          refine wpAnyH_take (i := 24) (v := undef) rfl (by kernel_rfl) (by kernel_rfl) (by kernel_rfl) (fun _ _ _ h => h) (Or.inr ⟨by rfl, rfl⟩) (by assumption) ?_
          simp only [Act.put, List.getElem_toArray, List.getElem_cons_zero, List.getElem_cons_succ, List.setIfInBounds_toArray, List.set_cons_zero, List.set_cons_succ]
          refine wpAnyH_take (i := 25) (v := undef) rfl (by kernel_rfl) (by kernel_rfl) (by kernel_rfl) (fun _ _ _ h => h) (Or.inr ⟨by rfl, rfl⟩) (by assumption) ?_
          simp only [Act.put, List.getElem_toArray, List.getElem_cons_zero, List.getElem_cons_succ, List.setIfInBounds_toArray, List.set_cons_zero, List.set_cons_succ]
          refine wpAnyH_take (i := 26) (v := ?v17) rfl (by kernel_rfl) (by kernel_rfl) (by kernel_rfl) (fun _ _ _ h => h) (Or.inl ⟨by rfl, ?hy17⟩) (by assumption) ?rest17
          case hy17 => ((intro w hSw; (try dsimp only at hSw); (try simp only [List.getElem_toArray, List.getElem_cons_zero, List.getElem_cons_succ]); go_simp; first | done | (with_reducible rfl)))
          simp only [Act.put, List.getElem_toArray, List.getElem_cons_zero, List.getElem_cons_succ, List.setIfInBounds_toArray, List.set_cons_zero, List.set_cons_succ]
          refine wpAnyH_take (i := 27) (v := ?v18) rfl (by kernel_rfl) (by kernel_rfl) (by kernel_rfl) (fun _ _ _ h => h) (Or.inl ⟨by rfl, ?hy18⟩) (by assumption) ?rest18
          case hy18 => ((intro w hSw; (try dsimp only at hSw); (try simp only [List.getElem_toArray, List.getElem_cons_zero, List.getElem_cons_succ]); go_simp; first | done | (with_reducible rfl)))
          simp only [Act.put, List.getElem_toArray, List.getElem_cons_zero, List.getElem_cons_succ, List.setIfInBounds_toArray, List.set_cons_zero, List.set_cons_succ]
          refine wpAnyH_done (by kernel_rfl) ?_ _
          refine NoPanic.normal ?_
          go_wp2
          go_roundw
          case rel => exact ⟨1, by omega, by go_num, fun j hj => (by obtain rfl : j = 0 := (by omega); exact hyes.out), bAll hbel d1'⟩
          case measure => simp [intOf]; omega
        · obtain ⟨m, rfl⟩ : ∃ m, k = m + 1 := ⟨k - 1, by omega⟩
          obtain ⟨y, hy⟩ := getAt c.ds m (by omega)
          obtain ⟨-, b2, o2, e2, cs2, hcs2, -, hc2, he2⟩ := (HA.out.keep hbel).ds.elem hy
          injection e2 with e2
          injection e2 with e3 e4 _
          subst e3 e4
          have hid2 := hc2 0 _ he2.id
          have hgk : Hid (goodAt (fitD c.nx) ordD c.ds (m + 1) = decide (ordD y x < 0)) := by show _ = _; rw [goodAt_succ HX.out hy, Hq.out, Bool.true_and]
          have hm1 : (m : Int) < (c.ds.length : Int) := by omega
          have hm0 : (0 : Int) ≤ (m : Int) + 1 := by omega
          have hi' : (m : Int) + 1 < (c.ds.length : Int) := by omega
          have hwm : IntKind.i64.wrap (m : Int) = (m : Int) := wrapN m (by omega)
          have ID1 := hide hid
          have ID2 := hide hid2
          simp only [Nat.add_zero] at hid hid2
          have JD1 := hide hid
          have JD2 := hide hid2
          clear hy hcs2 hc2 he2 hid hid2
          by_cases hneg : y.i < x.i
          · have hd1 : decide (y.i ≥ x.i) = false := by simp; omega
            have hd2 : decide (x.i ≤ y.i) = false := by simp; omega
            go_wp2
            refine wp_region_noPanic ?_
            refine wp_region_held_drew (S := (fun w' => (w'.heap[w.heap.size]? = some (.cells #[.int .i64 c.sl, .int .i64 c.sv, .int .i64 c.nx, .slice (some ⟨b1, o1, none⟩) c.ds.length k0, .slice a1 c.vs.length k1, .slice a2 c.es.length k2] 26 (0, 0)) ∧ w'.cell? ⟨w.heap.size, 3, none⟩ = some (.slice (some ⟨b1, o1, none⟩) c.ds.length k0) ∧ (∀ j u, cs[j]? = some u → w'.cell? ⟨b1, o1 + (m + 1) * 7 + j, none⟩ = some u)) ∧ w'.cell? ⟨b1, o1 + m * 7, none⟩ = some (.int .i64 y.i) ∧ w'.cell? ⟨b1, o1 + (m + 1) * 7, none⟩ = some (.int .i64 x.i))) (by kernel_rfl) ?_ (fun hHeld => ?_)
            · exact ⟨⟨bKeeps dW (bKeeps hbel A0.out), boxAt (bKeeps dW (bKeeps hbel A0.out)) 3, cellsKeep F.out dW⟩, oldCell JD2.out dW, oldCell JD1.out dW⟩
            refine wpAnyH_take (i := 0) (v := .agg #[.int .i64 c.sl, .int .i64 c.sv, .int .i64 c.nx, .slice (some ⟨b1, o1, none⟩) c.ds.length k0, .slice a1 c.vs.length k1, .slice a2 c.es.length k2]) rfl (by kernel_rfl) (by kernel_rfl) (by kernel_rfl) (fun _ _ _ h => h) (yields_row rfl 26 (.tmp 1) rfl (w.heap.size) rfl _ #[.int .i64 c.sl, .int .i64 c.sv, .int .i64 c.nx, .slice (some ⟨b1, o1, none⟩) c.ds.length k0, .slice a1 c.vs.length k1, .slice a2 c.es.length k2] _ (fun _ h => h.1.1) Try.underlying26 rfl infoMsI) (by assumption) ?_
            simp only [Act.put, List.getElem_toArray, List.getElem_cons_zero, List.setIfInBounds_toArray, List.set_cons_zero, List.set_cons_succ]
            refine wpAnyH_take (i := 1) (v := ?v19) rfl (by kernel_rfl) (by kernel_rfl) (by kernel_rfl) (fun _ _ _ h => h) (Or.inl ⟨by rfl, ?hy19⟩) (by assumption) ?rest19
            case hy19 => ((intro w hSw; (try dsimp only at hSw); (try simp only [List.getElem_toArray, List.getElem_cons_zero, List.getElem_cons_succ]); go_simp; first | done | (with_reducible rfl)))
            simp only [Act.put, List.getElem_toArray, List.getElem_cons_zero, List.getElem_cons_succ, List.setIfInBounds_toArray, List.set_cons_zero, List.set_cons_succ]
            refine wpAnyH_take (i := 2) (v := ?v20) rfl (by kernel_rfl) (by kernel_rfl) (by kernel_rfl) (fun _ _ _ h => h) (Or.inl ⟨by rfl, ?hy20⟩) (by assumption) ?rest20
            case hy20 => ((intro w hSw; (try dsimp only at hSw); (try simp only [List.getElem_toArray, List.getElem_cons_zero, List.getElem_cons_succ]); go_simp; first | done | (with_reducible rfl)))
            simp only [Act.put, List.getElem_toArray, List.getElem_cons_zero, List.getElem_cons_succ, List.setIfInBounds_toArray, List.set_cons_zero, List.set_cons_succ]
            refine wpAnyH_take (i := 3) (v := ?v21) rfl (by kernel_rfl) (by kernel_rfl) (by kernel_rfl) (fun _ _ _ h => h) (Or.inl ⟨by rfl, ?hy21⟩) (by assumption) ?rest21
            case hy21 => ((intro w hSw; (try dsimp only at hSw); (try simp only [List.getElem_toArray, List.getElem_cons_zero, List.getElem_cons_succ]); go_simp; first | done | (with_reducible rfl)))
            simp only [Act.put, List.getElem_toArray, List.getElem_cons_zero, List.getElem_cons_succ, List.setIfInBounds_toArray, List.set_cons_zero, List.set_cons_succ]
            refine wpAnyH_take (i := 4) (v := ?v22) rfl (by kernel_rfl) (by kernel_rfl) (by kernel_rfl) (fun _ _ _ h => h) (Or.inl ⟨by rfl, ?hy22⟩) (by assumption) ?rest22
            case hy22 => ((intro w hSw; (try dsimp only at hSw); (try simp only [List.getElem_toArray, List.getElem_cons_zero, List.getElem_cons_succ]); go_simp; first | done | (with_reducible rfl)))
            simp only [Act.put, List.getElem_toArray, List.getElem_cons_zero, List.getElem_cons_succ, List.setIfInBounds_toArray, List.set_cons_zero, List.set_cons_succ]
            refine wpAnyH_take (i := 5) (v := .agg cs) rfl (by kernel_rfl) (by kernel_rfl) (by kernel_rfl) (fun _ _ _ h => h) (yields_at rfl 57 (.tmp 53) rfl (b1) (o1 + (m + 1) * 7) rfl cs _ (fun _ h => h.1.2.2) Try.underlying57 rfl GI.out) (by assumption) ?_
            simp only [Act.put, List.getElem_toArray, List.getElem_cons_zero, List.getElem_cons_succ, List.setIfInBounds_toArray, List.set_cons_zero, List.set_cons_succ]
            refine wpAnyH_ready (rs := [6]) (by kernel_rfl) (by simp) ?_
            refine AllReadyH.cons rfl (fun K hK => ?_) AllReadyH.nil
            go_simp
            (go_at_call 30; refine (cF _ dW).mono ?_; rintro e V1 ⟨rfl, d1⟩; have d1' := bAll dW d1)
            refine hK.out _ _ ?_ (fun hHeld => ?_)
            · exact ⟨⟨bKeeps d1' (bKeeps hbel A0.out), boxAt (bKeeps d1' (bKeeps hbel A0.out)) 3, cellsKeep F.out d1'⟩, oldCell JD2.out d1', oldCell JD1.out d1'⟩
            clear hK K
            refine wpAnyH_take (i := 7) (v := ?v23) rfl (by kernel_rfl) (by kernel_rfl) (by kernel_rfl) (fun _ _ _ h => h) (Or.inl ⟨by rfl, ?hy23⟩) (by assumption) ?rest23
            case hy23 => ((intro w hSw; (try dsimp only at hSw); (try simp only [List.getElem_toArray, List.getElem_cons_zero, List.getElem_cons_succ]); go_simp; first | done | (with_reducible rfl)))
            simp only [Act.put, List.getElem_toArray, List.getElem_cons_zero, List.getElem_cons_succ, List.setIfInBounds_toArray, List.set_cons_zero, List.set_cons_succ]
            refine wpAnyH_take (i := 8) (v := ?v24) rfl (by kernel_rfl) (by kernel_rfl) (by kernel_rfl) (fun _ _ _ h => h) (Or.inl ⟨by rfl, ?hy24⟩) (by assumption) ?rest24
            case hy24 => ((intro w hSw; (try dsimp only at hSw); (try simp only [List.getElem_toArray, List.getElem_cons_zero, List.getElem_cons_succ]); go_simp; first | done | (with_reducible rfl)))
            simp only [Act.put, List.getElem_toArray, List.getElem_cons_zero, List.getElem_cons_succ, List.setIfInBounds_toArray, List.set_cons_zero, List.set_cons_succ]
            refine wpAnyH_take (i := 9) (v := ?v25) rfl (by kernel_rfl) (by kernel_rfl) (by kernel_rfl) (fun _ _ _ h => h) (Or.inl ⟨by rfl, ?hy25⟩) (by assumption) ?rest25
            case hy25 => ((intro w hSw; (try dsimp only at hSw); (try simp only [List.getElem_toArray, List.getElem_cons_zero, List.getElem_cons_succ]); go_simp; first | done | (with_reducible rfl)))
            simp only [Act.put, List.getElem_toArray, List.getElem_cons_zero, List.getElem_cons_succ, List.setIfInBounds_toArray, List.set_cons_zero, List.set_cons_succ]
            refine wpAnyH_take (i := 10) (v := ?v26) rfl (by kernel_rfl) (by kernel_rfl) (by kernel_rfl) (fun _ _ _ h => h) (Or.inl ⟨by rfl, ?hy26⟩) (by assumption) ?rest26
            case hy26 => ((intro w hSw; (try dsimp only at hSw); (try simp only [List.getElem_toArray, List.getElem_cons_zero, List.getElem_cons_succ]); go_simp; first | done | (with_reducible rfl)))
            simp only [Act.put, List.getElem_toArray, List.getElem_cons_zero, List.getElem_cons_succ, List.setIfInBounds_toArray, List.set_cons_zero, List.set_cons_succ]
            refine wpAnyH_take (i := 11) (v := ?v27) rfl (by kernel_rfl) (by kernel_rfl) (by kernel_rfl) (fun _ _ _ h => h) (Or.inl ⟨by rfl, ?hy27⟩) (by assumption) ?rest27
            case hy27 => ((intro w hSw; (try dsimp only at hSw); (try simp only [List.getElem_toArray, List.getElem_cons_zero, List.getElem_cons_succ]); go_simp; first | done | (with_reducible rfl)))
            simp only [Act.put, List.getElem_toArray, List.getElem_cons_zero, List.getElem_cons_succ, List.setIfInBounds_toArray, List.set_cons_zero, List.set_cons_succ]
            refine wpAnyH_take (i := 12) (v := ?v28) rfl (by kernel_rfl) (by kernel_rfl) (by kernel_rfl) (fun _ _ _ h => h) (Or.inl ⟨by rfl, ?hy28⟩) (by assumption) ?rest28
            case hy28 => ((intro w hSw; (try dsimp only at hSw); (try simp only [List.getElem_toArray, List.getElem_cons_zero, List.getElem_cons_succ]); go_simp; first | done | (with_reducible rfl)))
            simp only [Act.put, List.getElem_toArray, List.getElem_cons_zero, List.getElem_cons_succ, List.setIfInBounds_toArray, List.set_cons_zero, List.set_cons_succ]
            refine wpAnyH_take (i := 13) (v := ?v29) rfl (by kernel_rfl) (by kernel_rfl) (by kernel_rfl) (fun _ _ _ h => h) (Or.inl ⟨by rfl, ?hy29⟩) (by assumption) ?rest29
            case hy29 => ((intro w hSw; (try dsimp only at hSw); (try simp only [List.getElem_toArray, List.getElem_cons_zero, List.getElem_cons_succ]); go_simp; first | done | (with_reducible rfl)))
            simp only [Act.put, List.getElem_toArray, List.getElem_cons_zero, List.getElem_cons_succ, List.setIfInBounds_toArray, List.set_cons_zero, List.set_cons_succ]
            refine wpAnyH_take (i := 14) (v := ?v30) rfl (by kernel_rfl) (by kernel_rfl) (by kernel_rfl) (fun _ _ _ h => h) (Or.inl ⟨by rfl, ?hy30⟩) (by assumption) ?rest30
            case hy30 => ((intro w hSw; (try dsimp only at hSw); (try simp only [List.getElem_toArray, List.getElem_cons_zero, List.getElem_cons_succ]); go_simp; first | done | (with_reducible rfl)))
            simp only [Act.put, List.getElem_toArray, List.getElem_cons_zero, List.getElem_cons_succ, List.setIfInBounds_toArray, List.set_cons_zero, List.set_cons_succ]
            refine wpAnyH_take (i := 15) (v := ?v31) rfl (by kernel_rfl) (by kernel_rfl) (by kernel_rfl) (fun _ _ _ h => h) (Or.inl ⟨by rfl, ?hy31⟩) (by assumption) ?rest31
            case hy31 => ((intro w hSw; (try dsimp only at hSw); (try simp only [List.getElem_toArray, List.getElem_cons_zero, List.getElem_cons_succ]); go_simp; first | done | (with_reducible rfl)))
            simp only [Act.put, List.getElem_toArray, List.getElem_cons_zero, List.getElem_cons_succ, List.setIfInBounds_toArray, List.set_cons_zero, List.set_cons_succ]
            refine wpAnyH_take (i := 16) (v := ?v32) rfl (by kernel_rfl) (by kernel_rfl) (by kernel_rfl) (fun _ _ _ h => h) (Or.inl ⟨by rfl, ?hy32⟩) (by assumption) ?rest32
            case hy32 => ((intro w hSw; (try dsimp only at hSw); (try simp only [List.getElem_toArray, List.getElem_cons_zero, List.getElem_cons_succ]); go_simp; first | done | (with_reducible rfl)))
            simp only [Act.put, List.getElem_toArray, List.getElem_cons_zero, List.getElem_cons_succ, List.setIfInBounds_toArray, List.set_cons_zero, List.set_cons_succ]
            refine wpAnyH_take (i := 17) (v := ?v33) rfl (by kernel_rfl) (by kernel_rfl) (by kernel_rfl) (fun _ _ _ h => h) (Or.inl ⟨by rfl, ?hy33⟩) (by assumption) ?rest33
            case hy33 => ((intro w hSw; (try dsimp only at hSw); (try simp only [List.getElem_toArray, List.getElem_cons_zero, List.getElem_cons_succ]); go_simp; first | done | (with_reducible rfl)))
            simp only [Act.put, List.getElem_toArray, List.getElem_cons_zero, List.getElem_cons_succ, List.setIfInBounds_toArray, List.set_cons_zero, List.set_cons_succ]
            refine wpAnyH_take (i := 18) (v := ?v34) rfl (by kernel_rfl) (by kernel_rfl) (by kernel_rfl) (fun _ _ _ h => h) (Or.inl ⟨by rfl, ?hy34⟩) (by assumption) ?rest34
            case hy34 => ((intro w hSw; (try dsimp only at hSw); (try simp only [List.getElem_toArray, List.getElem_cons_zero, List.getElem_cons_succ]); go_simp; first | done | (with_reducible rfl)))
            simp only [Act.put, List.getElem_toArray, List.getElem_cons_zero, List.getElem_cons_succ, List.setIfInBounds_toArray, List.set_cons_zero, List.set_cons_succ]
            refine wpAnyH_take (i := 19) (v := ?v35) rfl (by kernel_rfl) (by kernel_rfl) (by kernel_rfl) (fun _ _ _ h => h) (Or.inl ⟨by rfl, ?hy35⟩) (by assumption) ?rest35
            case hy35 => ((intro w hSw; (try dsimp only at hSw); (try simp only [List.getElem_toArray, List.getElem_cons_zero, List.getElem_cons_succ]); go_simp; first | done | (with_reducible rfl)))
            simp only [Act.put, List.getElem_toArray, List.getElem_cons_zero, List.getElem_cons_succ, List.setIfInBounds_toArray, List.set_cons_zero, List.set_cons_succ]
            refine wpAnyH_take (i := 20) (v := ?v36) rfl (by kernel_rfl) (by kernel_rfl) (by kernel_rfl) (fun _ _ _ h => h) (Or.inl ⟨by rfl, ?hy36⟩) (by assumption) ?rest36
            case hy36 => ((intro w hSw; (try dsimp only at hSw); (try simp only [List.getElem_toArray, List.getElem_cons_zero, List.getElem_cons_succ]); go_simp; first | done | (with_reducible rfl)))
            simp only [Act.put, List.getElem_toArray, List.getElem_cons_zero, List.getElem_cons_succ, List.setIfInBounds_toArray, List.set_cons_zero, List.set_cons_succ]
            refine wpAnyH_take (i := 21) (v := ?v37) rfl (by kernel_rfl) (by kernel_rfl) (by kernel_rfl) (fun _ _ _ h => h) (Or.inl ⟨by rfl, ?hy37⟩) (by assumption) ?rest37
            case hy37 => ((intro w hSw; (try dsimp only at hSw); (try simp only [List.getElem_toArray, List.getElem_cons_zero, List.getElem_cons_succ]); go_simp; first | done | (with_reducible rfl)))
            simp only [Act.put, List.getElem_toArray, List.getElem_cons_zero, List.getElem_cons_succ, List.setIfInBounds_toArray, List.set_cons_zero, List.set_cons_succ]
            refine wpAnyH_take (i := 22) (v := ?v38) rfl (by kernel_rfl) (by kernel_rfl) (by kernel_rfl) (fun _ _ _ h => h) (Or.inl ⟨by rfl, ?hy38⟩) (by assumption) ?rest38
            case hy38 => ((intro w hSw; (try dsimp only at hSw); (try simp only [List.getElem_toArray, List.getElem_cons_zero, List.getElem_cons_succ]); go_simp; first | done | (with_reducible rfl)))
            simp only [Act.put, List.getElem_toArray, List.getElem_cons_zero, List.getElem_cons_succ, List.setIfInBounds_toArray, List.set_cons_zero, List.set_cons_succ]
            refine wpAnyH_take (i := 23) (v := ?v39) rfl (by kernel_rfl) (by kernel_rfl) (by kernel_rfl) (fun _ _ _ h => h) (Or.inl ⟨by rfl, ?hy39⟩) (by assumption) ?rest39
            case hy39 => ((intro w hSw; (try dsimp only at hSw); (try simp only [List.getElem_toArray, List.getElem_cons_zero, List.getElem_cons_succ]); go_simp; first | done | (with_reducible rfl)))
            simp only [Act.put, List.getElem_toArray, List.getElem_cons_zero, List.getElem_cons_succ, List.setIfInBounds_toArray, List.set_cons_zero, List.set_cons_succ]
            refine wpAnyH_take (i := 24) (v := ?v40) rfl (by kernel_rfl) (by kernel_rfl) (by kernel_rfl) (fun _ _ _ h => h) (Or.inl ⟨by rfl, ?hy40⟩) (by assumption) ?rest40
            case hy40 => ((intro w hSw; (try dsimp only at hSw); (try simp only [List.getElem_toArray, List.getElem_cons_zero, List.getElem_cons_succ]); go_simp; first | done | (with_reducible rfl)))
            simp only [Act.put, List.getElem_toArray, List.getElem_cons_zero, List.getElem_cons_succ, List.setIfInBounds_toArray, List.set_cons_zero, List.set_cons_succ]
            refine wpAnyH_take (i := 25) (v := ?v41) rfl (by kernel_rfl) (by kernel_rfl) (by kernel_rfl) (fun _ _ _ h => h) (Or.inl ⟨by rfl, ?hy41⟩) (by assumption) ?rest41
            case hy41 => ((intro w hSw; (try dsimp only at hSw); (try simp only [List.getElem_toArray, List.getElem_cons_zero, List.getElem_cons_succ]); go_simp; first | done | (with_reducible rfl)))
            simp only [Act.put, List.getElem_toArray, List.getElem_cons_zero, List.getElem_cons_succ, List.setIfInBounds_toArray, List.set_cons_zero, List.set_cons_succ]
            refine wpAnyH_take (i := 26) (v := ?v42) rfl (by kernel_rfl) (by kernel_rfl) (by kernel_rfl) (fun _ _ _ h => h) (Or.inl ⟨by rfl, ?hy42⟩) (by assumption) ?rest42
            case hy42 => ((intro w hSw; (try dsimp only at hSw); (try simp only [List.getElem_toArray, List.getElem_cons_zero, List.getElem_cons_succ]); go_simp; first | done | (with_reducible rfl)))
            simp only [Act.put, List.getElem_toArray, List.getElem_cons_zero, List.getElem_cons_succ, List.setIfInBounds_toArray, List.set_cons_zero, List.set_cons_succ]
            refine wpAnyH_take (i := 27) (v := ?v43) rfl (by kernel_rfl) (by kernel_rfl) (by kernel_rfl) (fun _ _ _ h => h) (Or.inl ⟨by rfl, ?hy43⟩) (by assumption) ?rest43
            case hy43 => ((intro w hSw; (try dsimp only at hSw); (try simp only [List.getElem_toArray, List.getElem_cons_zero, List.getElem_cons_succ]); go_simp; first | done | (with_reducible rfl)))
            simp only [Act.put, List.getElem_toArray, List.getElem_cons_zero, List.getElem_cons_succ, List.setIfInBounds_toArray, List.set_cons_zero, List.set_cons_succ]
            refine wpAnyH_done (by kernel_rfl) ?_ _
            refine NoPanic.normal ?_
            go_wp2
            go_roundw
            case rel => exact ⟨m + 1 + 1, by omega, by go_num, lt_succ HG.out (by rw [hgk.out]; simpa [ordD, cmpI_neg] using hneg), bAll hbel d1'⟩
            case measure => simp [intOf]; omega
          · have hno : Hid (Q = false) := by show _ = _; rw [← HQ.out]; have := all_bad (fit := fitD c.nx) hlt (show goodAt (fitD c.nx) ordD c.ds (m + 1) = false by rw [hgk.out]; simpa [ordD, cmpI_neg] using hneg); simp only [okMs, this, Bool.false_and, Bool.and_false]
            have hd1 : decide (y.i ≥ x.i) = true := by simp; omega
            have hd2 : decide (x.i ≤ y.i) = true := by simp; omega
            go_wp2
            refine wp_region_noPanic ?_
            refine wp_region_held_drew (S := (fun w' => (w'.heap[w.heap.size]? = some (.cells #[.int .i64 c.sl, .int .i64 c.sv, .int .i64 c.nx, .slice (some ⟨b1, o1, none⟩) c.ds.length k0, .slice a1 c.vs.length k1, .slice a2 c.es.length k2] 26 (0, 0)) ∧ w'.cell? ⟨w.heap.size, 3, none⟩ = some (.slice (some ⟨b1, o1, none⟩) c.ds.length k0) ∧ (∀ j u, cs[j]? = some u → w'.cell? ⟨b1, o1 + (m + 1) * 7 + j, none⟩ = some u)) ∧ w'.cell? ⟨b1, o1 + m * 7, none⟩ = some (.int .i64 y.i) ∧ w'.cell? ⟨b1, o1 + (m + 1) * 7, none⟩ = some (.int .i64 x.i))) (by kernel_rfl) ?_ (fun hHeld => ?_)
            · exact ⟨⟨bKeeps dW (bKeeps hbel A0.out), boxAt (bKeeps dW (bKeeps hbel A0.out)) 3, cellsKeep F.out dW⟩, oldCell JD2.out dW, oldCell JD1.out dW⟩
            refine wpAnyH_take (i := 0) (v := .agg #[.int .i64 c.sl, .int .i64 c.sv, .int .i64 c.nx, .slice (some ⟨b1, o1, none⟩) c.ds.length k0, .slice a1 c.vs.length k1, .slice a2 c.es.length k2]) rfl (by kernel_rfl) (by kernel_rfl) (by kernel_rfl) (fun _ _ _ h => h) (yields_row rfl 26 (.tmp 1) rfl (w.heap.size) rfl _ #[.int .i64 c.sl, .int .i64 c.sv, .int .i64 c.nx, .slice (some ⟨b1, o1, none⟩) c.ds.length k0, .slice a1 c.vs.length k1, .slice a2 c.es.length k2] _ (fun _ h => h.1.1) Try.underlying26 rfl infoMsI) (by assumption) ?_
            simp only [Act.put, List.getElem_toArray, List.getElem_cons_zero, List.setIfInBounds_toArray, List.set_cons_zero, List.set_cons_succ]
            refine wpAnyH_take (i := 1) (v := ?v44) rfl (by kernel_rfl) (by kernel_rfl) (by kernel_rfl) (fun _ _ _ h => h) (Or.inl ⟨by rfl, ?hy44⟩) (by assumption) ?rest44
            case hy44 => ((intro w hSw; (try dsimp only at hSw); (try simp only [List.getElem_toArray, List.getElem_cons_zero, List.getElem_cons_succ]); go_simp; first | done | (with_reducible rfl)))
            simp only [Act.put, List.getElem_toArray, List.getElem_cons_zero, List.getElem_cons_succ, List.setIfInBounds_toArray, List.set_cons_zero, List.set_cons_succ]
            refine wpAnyH_take (i := 2) (v := ?v45) rfl (by kernel_rfl) (by kernel_rfl) (by kernel_rfl) (fun _ _ _ h => h) (Or.inl ⟨by rfl, ?hy45⟩) (by assumption) ?rest45
            case hy45 => ((intro w hSw; (try dsimp only at hSw); (try simp only [List.getElem_toArray, List.getElem_cons_zero, List.getElem_cons_succ]); go_simp; first | done | (with_reducible rfl)))
            simp only [Act.put, List.getElem_toArray, List.getElem_cons_zero, List.getElem_cons_succ, List.setIfInBounds_toArray, List.set_cons_zero, List.set_cons_succ]
            refine wpAnyH_take (i := 3) (v := ?v46) rfl (by kernel_rfl) (by kernel_rfl) (by kernel_rfl) (fun _ _ _ h => h) (Or.inl ⟨by rfl, ?hy46⟩) (by assumption) ?rest46
            case hy46 => ((intro w hSw; (try dsimp only at hSw); (try simp only [List.getElem_toArray, List.getElem_cons_zero, List.getElem_cons_succ]); go_simp; first | done | (with_reducible rfl)))
            simp only [Act.put, List.getElem_toArray, List.getElem_cons_zero, List.getElem_cons_succ, List.setIfInBounds_toArray, List.set_cons_zero, List.set_cons_succ]
            refine wpAnyH_take (i := 4) (v := ?v47) rfl (by kernel_rfl) (by kernel_rfl) (by kernel_rfl) (fun _ _ _ h => h) (Or.inl ⟨by rfl, ?hy47⟩) (by assumption) ?rest47
            case hy47 => ((intro w hSw; (try dsimp only at hSw); (try simp only [List.getElem_toArray, List.getElem_cons_zero, List.getElem_cons_succ]); go_simp; first | done | (with_reducible rfl)))
            simp only [Act.put, List.getElem_toArray, List.getElem_cons_zero, List.getElem_cons_succ, List.setIfInBounds_toArray, List.set_cons_zero, List.set_cons_succ]
            refine wpAnyH_take (i := 5) (v := .agg cs) rfl (by kernel_rfl) (by kernel_rfl) (by kernel_rfl) (fun _ _ _ h => h) (yields_at rfl 57 (.tmp 53) rfl (b1) (o1 + (m + 1) * 7) rfl cs _ (fun _ h => h.1.2.2) Try.underlying57 rfl GI.out) (by assumption) ?_
            simp only [Act.put, List.getElem_toArray, List.getElem_cons_zero, List.getElem_cons_succ, List.setIfInBounds_toArray, List.set_cons_zero, List.set_cons_succ]
            refine wpAnyH_ready (rs := [6]) (by kernel_rfl) (by simp) ?_
            refine AllReadyH.cons rfl (fun K hK => ?_) AllReadyH.nil
            go_simp
            (go_at_call 30; refine (cF _ dW).mono ?_; rintro e V1 ⟨rfl, d1⟩; have d1' := bAll dW d1)
            refine hK.out _ _ ?_ (fun hHeld => ?_)
            · exact ⟨⟨bKeeps d1' (bKeeps hbel A0.out), boxAt (bKeeps d1' (bKeeps hbel A0.out)) 3, cellsKeep F.out d1'⟩, oldCell JD2.out d1', oldCell JD1.out d1'⟩
            clear hK K
            refine wpAnyH_take (i := 7) (v := ?v48) rfl (by kernel_rfl) (by kernel_rfl) (by kernel_rfl) (fun _ _ _ h => h) (Or.inl ⟨by rfl, ?hy48⟩) (by assumption) ?rest48
            case hy48 => ((intro w hSw; (try dsimp only at hSw); (try simp only [List.getElem_toArray, List.getElem_cons_zero, List.getElem_cons_succ]); go_simp; first | done | (with_reducible rfl)))
            simp only [Act.put, List.getElem_toArray, List.getElem_cons_zero, List.getElem_cons_succ, List.setIfInBounds_toArray, List.set_cons_zero, List.set_cons_succ]
            refine wpAnyH_take (i := 8) (v := ?v49) rfl (by kernel_rfl) (by kernel_rfl) (by kernel_rfl) (fun _ _ _ h => h) (Or.inl ⟨by rfl, ?hy49⟩) (by assumption) ?rest49
            case hy49 => ((intro w hSw; (try dsimp only at hSw); (try simp only [List.getElem_toArray, List.getElem_cons_zero, List.getElem_cons_succ]); go_simp; first | done | (with_reducible rfl)))
            simp only [Act.put, List.getElem_toArray, List.getElem_cons_zero, List.getElem_cons_succ, List.setIfInBounds_toArray, List.set_cons_zero, List.set_cons_succ]
            refine wpAnyH_take (i := 9) (v := ?v50) rfl (by kernel_rfl) (by kernel_rfl) (by kernel_rfl) (fun _ _ _ h => h) (Or.inl ⟨by rfl, ?hy50⟩) (by assumption) ?rest50
            case hy50 => ((intro w hSw; (try dsimp only at hSw); (try simp only [List.getElem_toArray, List.getElem_cons_zero, List.getElem_cons_succ]); go_simp; first | done | (with_reducible rfl)))
            simp only [Act.put, List.getElem_toArray, List.getElem_cons_zero, List.getElem_cons_succ, List.setIfInBounds_toArray, List.set_cons_zero, List.set_cons_succ]
            refine wpAnyH_take (i := 10) (v := ?v51) rfl (by kernel_rfl) (by kernel_rfl) (by kernel_rfl) (fun _ _ _ h => h) (Or.inl ⟨by rfl, ?hy51⟩) (by assumption) ?rest51
            case hy51 => ((intro w hSw; (try dsimp only at hSw); (try simp only [List.getElem_toArray, List.getElem_cons_zero, List.getElem_cons_succ]); go_simp; first | done | (with_reducible rfl)))
            simp only [Act.put, List.getElem_toArray, List.getElem_cons_zero, List.getElem_cons_succ, List.setIfInBounds_toArray, List.set_cons_zero, List.set_cons_succ]
            refine wpAnyH_take (i := 11) (v := ?v52) rfl (by kernel_rfl) (by kernel_rfl) (by kernel_rfl) (fun _ _ _ h => h) (Or.inl ⟨by rfl, ?hy52⟩) (by assumption) ?rest52
            case hy52 => ((intro w hSw; (try dsimp only at hSw); (try simp only [List.getElem_toArray, List.getElem_cons_zero, List.getElem_cons_succ]); go_simp; first | done | (with_reducible rfl)))
            simp only [Act.put, List.getElem_toArray, List.getElem_cons_zero, List.getElem_cons_succ, List.setIfInBounds_toArray, List.set_cons_zero, List.set_cons_succ]
            refine wpAnyH_take (i := 12) (v := ?v53) rfl (by kernel_rfl) (by kernel_rfl) (by kernel_rfl) (fun _ _ _ h => h) (Or.inl ⟨by rfl, ?hy53⟩) (by assumption) ?rest53
            case hy53 => ((intro w hSw; (try dsimp only at hSw); (try simp only [List.getElem_toArray, List.getElem_cons_zero, List.getElem_cons_succ]); go_simp; first | done | (with_reducible rfl)))
            simp only [Act.put, List.getElem_toArray, List.getElem_cons_zero, List.getElem_cons_succ, List.setIfInBounds_toArray, List.set_cons_zero, List.set_cons_succ]
            refine wpAnyH_take (i := 13) (v := ?v54) rfl (by kernel_rfl) (by kernel_rfl) (by kernel_rfl) (fun _ _ _ h => h) (Or.inl ⟨by rfl, ?hy54⟩) (by assumption) ?rest54
            case hy54 => ((intro w hSw; (try dsimp only at hSw); (try simp only [List.getElem_toArray, List.getElem_cons_zero, List.getElem_cons_succ]); go_simp; first | done | (with_reducible rfl)))
            simp only [Act.put, List.getElem_toArray, List.getElem_cons_zero, List.getElem_cons_succ, List.setIfInBounds_toArray, List.set_cons_zero, List.set_cons_succ]
            refine wpAnyH_take (i := 14) (v := ?v55) rfl (by kernel_rfl) (by kernel_rfl) (by kernel_rfl) (fun _ _ _ h => h) (Or.inl ⟨by rfl, ?hy55⟩) (by assumption) ?rest55
            case hy55 => ((intro w hSw; (try dsimp only at hSw); (try simp only [List.getElem_toArray, List.getElem_cons_zero, List.getElem_cons_succ]); go_simp; first | done | (with_reducible rfl)))
            simp only [Act.put, List.getElem_toArray, List.getElem_cons_zero, List.getElem_cons_succ, List.setIfInBounds_toArray, List.set_cons_zero, List.set_cons_succ]
            refine wpAnyH_take (i := 15) (v := ?v56) rfl (by kernel_rfl) (by kernel_rfl) (by kernel_rfl) (fun _ _ _ h => h) (Or.inl ⟨by rfl, ?hy56⟩) (by assumption) ?rest56
            case hy56 => ((intro w hSw; (try dsimp only at hSw); (try simp only [List.getElem_toArray, List.getElem_cons_zero, List.getElem_cons_succ]); go_simp; first | done | (with_reducible rfl)))
            simp only [Act.put, List.getElem_toArray, List.getElem_cons_zero, List.getElem_cons_succ, List.setIfInBounds_toArray, List.set_cons_zero, List.set_cons_succ]
            refine wpAnyH_take (i := 16) (v := ?v57) rfl (by kernel_rfl) (by kernel_rfl) (by kernel_rfl) (fun _ _ _ h => h) (Or.inl ⟨by rfl, ?hy57⟩) (by assumption) ?rest57
            case hy57 => ((intro w hSw; (try dsimp only at hSw); (try simp only [List.getElem_toArray, List.getElem_cons_zero, List.getElem_cons_succ]); go_simp; first | done | (with_reducible rfl)))
            simp only [Act.put, List.getElem_toArray, List.getElem_cons_zero, List.getElem_cons_succ, List.setIfInBounds_toArray, List.set_cons_zero, List.set_cons_succ]
            refine wpAnyH_take (i := 17) (v := ?v58) rfl (by kernel_rfl) (by kernel_rfl) (by kernel_rfl) (fun _ _ _ h => h) (Or.inl ⟨by rfl, ?hy58⟩) (by assumption) ?rest58
            case hy58 => ((intro w hSw; (try dsimp only at hSw); (try simp only [List.getElem_toArray, List.getElem_cons_zero, List.getElem_cons_succ]); go_simp; first | done | (with_reducible rfl)))
            simp only [Act.put, List.getElem_toArray, List.getElem_cons_zero, List.getElem_cons_succ, List.setIfInBounds_toArray, List.set_cons_zero, List.set_cons_succ]
            refine wpAnyH_take (i := 18) (v := ?v59) rfl (by kernel_rfl) (by kernel_rfl) (by kernel_rfl) (fun _ _ _ h => h) (Or.inl ⟨by rfl, ?hy59⟩) (by assumption) ?rest59
            case hy59 => ((intro w hSw; (try dsimp only at hSw); (try simp only [List.getElem_toArray, List.getElem_cons_zero, List.getElem_cons_succ]); go_simp; first | done | (with_reducible rfl)))
            simp only [Act.put, List.getElem_toArray, List.getElem_cons_zero, List.getElem_cons_succ, List.setIfInBounds_toArray, List.set_cons_zero, List.set_cons_succ]
            refine wpAnyH_take (i := 19) (v := ?v60) rfl (by kernel_rfl) (by kernel_rfl) (by kernel_rfl) (fun _ _ _ h => h) (Or.inl ⟨by rfl, ?hy60⟩) (by assumption) ?rest60
            case hy60 => ((intro w hSw; (try dsimp only at hSw); (try simp only [List.getElem_toArray, List.getElem_cons_zero, List.getElem_cons_succ]); go_simp; first | done | (with_reducible rfl)))
            simp only [Act.put, List.getElem_toArray, List.getElem_cons_zero, List.getElem_cons_succ, List.setIfInBounds_toArray, List.set_cons_zero, List.set_cons_succ]
            refine wpAnyH_take (i := 20) (v := ?v61) rfl (by kernel_rfl) (by kernel_rfl) (by kernel_rfl) (fun _ _ _ h => h) (Or.inl ⟨by rfl, ?hy61⟩) (by assumption) ?rest61
            case hy61 => ((intro w hSw; (try dsimp only at hSw); (try simp only [List.getElem_toArray, List.getElem_cons_zero, List.getElem_cons_succ]); go_simp; first | done | (with_reducible rfl)))
            simp only [Act.put, List.getElem_toArray, List.getElem_cons_zero, List.getElem_cons_succ, List.setIfInBounds_toArray, List.set_cons_zero, List.set_cons_succ]
            refine wpAnyH_take (i := 21) (v := ?v62) rfl (by kernel_rfl) (by kernel_rfl) (by kernel_rfl) (fun _ _ _ h => h) (Or.inl ⟨by rfl, ?hy62⟩) (by assumption) ?rest62
            case hy62 => ((intro w hSw; (try dsimp only at hSw); (try simp only [List.getElem_toArray, List.getElem_cons_zero, List.getElem_cons_succ]); go_simp; first | done | (with_reducible rfl)))
            simp only [Act.put, List.getElem_toArray, List.getElem_cons_zero, List.getElem_cons_succ, List.setIfInBounds_toArray, List.set_cons_zero, List.set_cons_succ]
            refine wpAnyH_take (i := 22) (v := ?v63) rfl (by kernel_rfl) (by kernel_rfl) (by kernel_rfl) (fun _ _ _ h => h) (Or.inl ⟨by rfl, ?hy63⟩) (by assumption) ?rest63
            case hy63 => ((intro w hSw; (try dsimp only at hSw); (try simp only [List.getElem_toArray, List.getElem_cons_zero, List.getElem_cons_succ]); go_simp; first | done | (with_reducible rfl)))
            simp only [Act.put, List.getElem_toArray, List.getElem_cons_zero, List.getElem_cons_succ, List.setIfInBounds_toArray, List.set_cons_zero, List.set_cons_succ]
            refine wpAnyH_take (i := 23) (v := ?v64) rfl (by kernel_rfl) (by kernel_rfl) (by kernel_rfl) (fun _ _ _ h => h) (Or.inl ⟨by rfl, ?hy64⟩) (by assumption) ?rest64
            case hy64 => ((intro w hSw; (try dsimp only at hSw); (try simp only [List.getElem_toArray, List.getElem_cons_zero, List.getElem_cons_succ]); go_simp; first | done | (with_reducible rfl)))
            simp only [Act.put, List.getElem_toArray, List.getElem_cons_zero, List.getElem_cons_succ, List.setIfInBounds_toArray, List.set_cons_zero, List.set_cons_succ]
            refine wpAnyH_take (i := 24) (v := ?v65) rfl (by kernel_rfl) (by kernel_rfl) (by kernel_rfl) (fun _ _ _ h => h) (Or.inl ⟨by rfl, ?hy65⟩) (by assumption) ?rest65
            case hy65 => ((intro w hSw; (try dsimp only at hSw); (try simp only [List.getElem_toArray, List.getElem_cons_zero, List.getElem_cons_succ]); go_simp; first | done | (with_reducible rfl)))
            simp only [Act.put, List.getElem_toArray, List.getElem_cons_zero, List.getElem_cons_succ, List.setIfInBounds_toArray, List.set_cons_zero, List.set_cons_succ]
            refine wpAnyH_take (i := 25) (v := ?v66) rfl (by kernel_rfl) (by kernel_rfl) (by kernel_rfl) (fun _ _ _ h => h) (Or.inl ⟨by rfl, ?hy66⟩) (by assumption) ?rest66
            case hy66 => ((intro w hSw; (try dsimp only at hSw); (try simp only [List.getElem_toArray, List.getElem_cons_zero, List.getElem_cons_succ]); go_simp; first | done | (with_reducible rfl)))
            simp only [Act.put, List.getElem_toArray, List.getElem_cons_zero, List.getElem_cons_succ, List.setIfInBounds_toArray, List.set_cons_zero, List.set_cons_succ]
            refine wpAnyH_take (i := 26) (v := ?v67) rfl (by kernel_rfl) (by kernel_rfl) (by kernel_rfl) (fun _ _ _ h => h) (Or.inl ⟨by rfl, ?hy67⟩) (by assumption) ?rest67
            case hy67 => ((intro w hSw; (try dsimp only at hSw); (try simp only [List.getElem_toArray, List.getElem_cons_zero, List.getElem_cons_succ]); go_simp; first | done | (with_reducible rfl)))
            simp only [Act.put, List.getElem_toArray, List.getElem_cons_zero, List.getElem_cons_succ, List.setIfInBounds_toArray, List.set_cons_zero, List.set_cons_succ]
            refine wpAnyH_take (i := 27) (v := ?v68) rfl (by kernel_rfl) (by kernel_rfl) (by kernel_rfl) (fun _ _ _ h => h) (Or.inl ⟨by rfl, ?hy68⟩) (by assumption) ?rest68
            case hy68 => ((intro w hSw; (try dsimp only at hSw); (try simp only [List.getElem_toArray, List.getElem_cons_zero, List.getElem_cons_succ]); go_simp; first | done | (with_reducible rfl)))
            simp only [Act.put, List.getElem_toArray, List.getElem_cons_zero, List.getElem_cons_succ, List.setIfInBounds_toArray, List.set_cons_zero, List.set_cons_succ]
            refine wpAnyH_done (by kernel_rfl) ?_ _
            refine NoPanic.normal ?_
            go_wp2
            go_ret
            exact ⟨by rw [hno.out]; rfl, bAll al (bAll hbel d1')⟩
    · have hi3 : ¬ (k : Int) < (c.ds.length : Int) := by omega
      have G0 : Hid ((List.range c.ds.length).all (goodAt (fitD c.nx) ordD c.ds) = true) := by show _ = _; rw [List.all_eq_true]; exact fun j hj => HG.out j (by have := List.mem_range.1 hj; omega)
      go_wp2
      clear HG y3 hlt hk hi3
      generalize hX1 : wr = X1 at hbel ⊢
      clear hX1
      go_loopw [4] (fun i wr => ∃ k : Nat, k ≤ 3 ∧ i = .int .i64 k ∧ (∀ j x, j < k → c.vs[j]? = some x → fitW c.sv x = true) ∧ Below W0.heap.size W0 wr) (fun i _ => 3 - (intOf i).toNat)
      case atStart => exact ⟨0, Nat.zero_le _, rfl, fun j x hj => by omega, hbel⟩
      case round =>
        obtain ⟨k, hk, rfl, hgood, hbel⟩ := hrel
        have HG := hide hgood
        clear hgood
        have h3v := H1.out
        have y4 : wr.cell? ⟨w.heap.size, 4, none⟩ = some (.slice a1 3 k1) := by have := boxAt (bKeeps hbel A0.out) 4; rw [← h3v]; exact this
        by_cases hlt : k < 3
        · have hi : (k : Int) < 3 := by omega
          obtain ⟨⟨n, a, b⟩, hx⟩ := getAt c.vs k (by omega)
          have HX := hide hx
          obtain ⟨-, b1, o1, ha1, cs, -, -, hc, he⟩ := (rowVw (HA.out.keep hbel).vs).elem hx
          rw [he.cells] at hc
          have f0 : wr.cell? ⟨b1, o1 + k * 3, none⟩ = some (.int .i64 n) := hc 0 _ rfl
          have f1 : wr.cell? ⟨b1, o1 + k * 3 + 1, none⟩ = some (.int .i64 a) := hc 1 _ rfl
          have f2 : wr.cell? ⟨b1, o1 + k * 3 + 2, none⟩ = some (.int .i64 b) := hc 2 _ rfl
          subst ha1
          have hwx : IntKind.i64.wrap (c.sv - 1) = c.sv - 1 := wrapI _ (by omega) (by omega)
          obtain ⟨i1, h1⟩ : ∃ i, inI n 1 99999 = i := ⟨_, rfl⟩
          obtain ⟨i2, h2⟩ : ∃ i, inI a 0 (c.sv - 1) = i := ⟨_, rfl⟩
          obtain ⟨i3, h3⟩ : ∃ i, inI b (-1) (c.sv - 1) = i := ⟨_, rfl⟩
          have hfit : Hid (fitW c.sv (n, a, b) = (i1 && (i2 && (i3 && !decide (a = b))))) := by show _ = _; simp only [fitW, h1, h2, h3]
          have c1 := fun w => l6In_inI n 1 99999 w
          have c2 := fun w => l6In_inI a 0 (c.sv - 1) w
          have c3 := fun w => l6In_inI b (-1) (c.sv - 1) w
          rw [h1] at c1
          rw [h2] at c2
          rw [h3] at c3
          have al2 := bal (Below.refl wr.heap.size wr) (.cells #[.int .i64 n, .int .i64 a, .int .i64 b] 43)
          have N0 := hide (heap_alloc_new wr (.cells #[.int .i64 n, .int .i64 a, .int .i64 b] 43))
          have bad : fitW c.sv (n, a, b) = false → Q = false := fun h => by rw [← HQ.out]; have := all_no (p := fitW c.sv) HX.out h; simp only [okMs, this, Bool.false_and, Bool.and_false]
          have BAD := hide bad
          clear h1 h2 h3 he hc hx bad h3v
          go_upto_region 12 with fail
          generalize hV : World.alloc _ _ = V at al2 N0 ⊢
          have z1 : V.cell? ⟨w.heap.size, 1, none⟩ = some (.int .i64 c.sv) := boxAt (bKeeps (bAll hbel al2) A0.out) 1
          have g0 : V.cell? ⟨wr.heap.size, 0, none⟩ = some (.int .i64 n) := boxAt N0.out 0
          have g1 : V.cell? ⟨wr.heap.size, 1, none⟩ = some (.int .i64 a) := boxAt N0.out 1
          have g2 : V.cell? ⟨wr.heap.size, 2, none⟩ = some (.int .i64 b) := boxAt N0.out 2
          have bel2 := bAll hbel al2
          clear hV f0 f1 f2 y4
          go_wp2_with fail
          refine (c1 _).mono ?_
          rintro e w' ⟨rfl, hw⟩
          rw [hw]
          clear hw w'
          cases i1 with
          | false =>
            have hno := BAD.out (by rw [hfit.out]; simp)
            go_wp2
            go_ret
            exact ⟨by rw [hno]; rfl, bAll al bel2⟩
          | true =>
          go_wp2_with fail
          refine (c2 _).mono ?_
          rintro e w' ⟨rfl, hw⟩
          rw [hw]
          clear hw w'
          cases i2 with
          | false =>
            have hno := BAD.out (by rw [hfit.out]; simp)
            go_wp2
            go_ret
            exact ⟨by rw [hno]; rfl, bAll al bel2⟩
          | true =>
          go_wp2_with fail
          refine (c3 _).mono ?_
          rintro e w' ⟨rfl, hw⟩
          rw [hw]
          clear hw w'
          cases i3 with
          | false =>
            have hno := BAD.out (by rw [hfit.out]; simp)
            go_wp2
            go_ret
            exact ⟨by rw [hno]; rfl, bAll al bel2⟩
          | true =>
          by_cases hab : a = b
          · have hno := BAD.out (by rw [hfit.out]; simp [hab])
            have eab : (a == b) = true := by simpa using hab
            clear hab
            go_wp2
            go_ret
            exact ⟨by rw [hno]; rfl, bAll al bel2⟩
          · have hyes : Hid (fitW c.sv (n, a, b) = true) := by show _ = _; rw [hfit.out]; simp [hab]
            have eab : (a == b) = false := by simpa using hab
            clear hab
            go_wp2
            go_roundw
            case rel =>
              refine ⟨k + 1, by omega, by go_num, fun j y hj hy => ?_, bel2⟩
              by_cases hjk : j = k
              · subst hjk
                rw [HX.out] at hy
                obtain rfl := Option.some.inj hy
                exact hyes.out
              · exact HG.out j y (by omega) hy
            case measure => simp [intOf]; omega
        · have hi3 : ¬ (k : Int) < 3 := by omega
          have G1 : Hid (c.vs.all (fitW c.sv) = true) := by show _ = _; exact all_yes (fun j x hj hx => HG.out j x (by have := H1.out; omega) hx)
          go_wp2
          clear HG y4 hlt hk hi3 h3v
          generalize hX1 : wr = X2 at hbel ⊢
          clear hX1
          go_loopw [6] (fun i wr => ∃ k : Nat, k ≤ c.es.length ∧ i = .int .i64 k ∧ (∀ j, j < k → goodAt fitE ordE c.es j = true) ∧ Below W0.heap.size W0 wr) (fun i _ => c.es.length - (intOf i).toNat)
          case atStart => exact ⟨0, Nat.zero_le _, rfl, fun j hj => by omega, hbel⟩
          case round =>
            obtain ⟨k, hk, rfl, hgood, hbel⟩ := hrel
            have HG := hide hgood
            clear hgood
            have y5 : wr.cell? ⟨w.heap.size, 5, none⟩ = some (.slice a2 c.es.length k2) := boxAt (bKeeps hbel A0.out) 5
            have hb2 := H2.out
            by_cases hlt : k < c.es.length
            · have hi : (k : Int) < (c.es.length : Int) := by omega
              obtain ⟨⟨n, p, o, z⟩, hx⟩ := getAt c.es k hlt
              have HX := hide hx
              obtain ⟨-, b1, o1, ha2, cs, -, -, hc, he⟩ := (rowDn (HA.out.keep hbel).es).elem hx
              rw [he.cells] at hc
              have f0 : wr.cell? ⟨b1, o1 + k * 4, none⟩ = some (.int .i64 n) := hc 0 _ rfl
              have f1 : wr.cell? ⟨b1, o1 + k * 4 + 1, none⟩ = some (.int .i64 p) := hc 1 _ rfl
              have f2 : wr.cell? ⟨b1, o1 + k * 4 + 2, none⟩ = some (.int .i64 o) := hc 2 _ rfl
              have f3 : wr.cell? ⟨b1, o1 + k * 4 + 3, none⟩ = some (.int .i64 z) := hc 3 _ rfl
              subst ha2
              have al2 := bal (Below.refl wr.heap.size wr) (.cells #[.int .i64 n, .int .i64 p, .int .i64 o, .int .i64 z] 59)
              have N0 := hide (heap_alloc_new wr (.cells #[.int .i64 n, .int .i64 p, .int .i64 o, .int .i64 z] 59))
              have bad : goodAt fitE ordE c.es k = false → Q = false := fun h => by rw [← HQ.out]; have := all_bad hlt h; simp only [okMs, this, Bool.and_false]
              have BAD := hide bad
              clear he hc hx bad
              have OC := hide (fun y (hy : c.es[k - 1]? = some y) => (rowDn (HA.out.keep hbel).es).elem hy)
              go_upto_region 18 with fail
              generalize hG : wr.heap.size = G at al2 N0 ⊢
              generalize hV : World.alloc _ _ = V at al2 N0 ⊢
              have bel2 := bAll hbel (by rw [hG]; exact al2)
              have z5 : V.cell? ⟨w.heap.size, 5, none⟩ = some (.slice (some ⟨b1, o1, none⟩) c.es.length k2) := boxAt (bKeeps bel2 A0.out) 5
              have g0 : V.cell? ⟨G, 0, none⟩ = some (.int .i64 n) := boxAt N0.out 0
              have g1 : V.cell? ⟨G, 1, none⟩ = some (.int .i64 p) := boxAt N0.out 1
              have g2 : V.cell? ⟨G, 2, none⟩ = some (.int .i64 o) := boxAt N0.out 2
              have g3 : V.cell? ⟨G, 3, none⟩ = some (.int .i64 z) := boxAt N0.out 3
              have oldV : Hid (∀ (q : Nat) (u : Value), wr.cell? ⟨b1, q, none⟩ = some u → V.cell? ⟨b1, q, none⟩ = some u) := fun q u h => oldCell h (by rw [hG]; exact al2)
              clear hV f0 f1 f2 f3 y5 al2
              cases h1 : inI n 0 3 with
              | false =>
                have hno := BAD.out (bad_fit HX.out (by simp [fitE, h1]))
                go_wp2
                go_quiet (first | (go_at_call 29; exact Calls.quiet_of_same (l6In_inI _ _ _ _)) | (go_at_call 31; exact Calls.quiet_of_same (l11Num_any _ _)))
                go_wp2
                go_ret
                exact ⟨by rw [hno]; rfl, bAll al (below_drewN bel2 _)⟩
              | true =>
              cases h2 : inI p 1 99999 with
              | false =>
                have hno := BAD.out (bad_fit HX.out (by simp [fitE, h2]))
                go_wp2
                go_quiet (first | (go_at_call 29; exact Calls.quiet_of_same (l6In_inI _ _ _ _)) | (go_at_call 31; exact Calls.quiet_of_same (l11Num_any _ _)))
                go_wp2
                go_ret
                exact ⟨by rw [hno]; rfl, bAll al (below_drewN bel2 _)⟩
              | true =>
              cases h3 : inI o 0 6 with
              | false =>
                have hno := BAD.out (bad_fit HX.out (by simp [fitE, h3]))
                go_wp2
                go_quiet (first | (go_at_call 29; exact Calls.quiet_of_same (l6In_inI _ _ _ _)) | (go_at_call 31; exact Calls.quiet_of_same (l11Num_any _ _)))
                go_wp2
                go_ret
                exact ⟨by rw [hno]; rfl, bAll al (below_drewN bel2 _)⟩
              | true =>
              cases h4 : numI z with
              | false =>
                have hno := BAD.out (bad_fit HX.out (by simp [fitE, h4, ← numI_def]))
                go_wp2
                go_quiet (first | (go_at_call 29; exact Calls.quiet_of_same (l6In_inI _ _ _ _)) | (go_at_call 31; exact Calls.quiet_of_same (l11Num_any _ _)))
                go_wp2
                go_ret
                exact ⟨by rw [hno]; rfl, bAll al (below_drewN bel2 _)⟩
              | true =>
              have hq : Hid (fitE (n, p, o, z) = true) := by show _ = _; simp [fitE, h1, h2, h3, ← numI_def, h4]
              rcases Nat.eq_zero_or_pos k with rfl | hpos
              · have hyes : Hid (goodAt fitE ordE c.es 0 = true) := by show _ = _; rw [goodAt_zero HX.out, hq.out]
                go_wp2
                go_quiet (first | (go_at_call 29; exact Calls.quiet_of_same (l6In_inI _ _ _ _)) | (go_at_call 31; exact Calls.quiet_of_same (l11Num_any _ _)))
                go_wp2
                go_roundw
                case rel => exact ⟨1, by omega, by go_num, fun j hj => (by obtain rfl : j = 0 := (by omega); exact hyes.out), below_drewN bel2 _⟩
                case measure => simp [intOf]; omega
              · obtain ⟨m, rfl⟩ : ∃ m, k = m + 1 := ⟨k - 1, by omega⟩
                obtain ⟨y, hy⟩ := getAt c.es m (by omega)
                obtain ⟨-, b2, o2, e2, cs2, -, -, hc2, he2⟩ := OC.out y hy
                injection e2 with e2
                injection e2 with e3 e4 _
                subst e3 e4
                rw [he2.cells] at hc2
                have hid2 : wr.cell? ⟨b1, o1 + m * 4, none⟩ = some (.int .i64 y.1) := hc2 0 _ rfl
                have zp := oldV.out _ _ hid2
                have hgk : Hid (goodAt fitE ordE c.es (m + 1) = decide (ordE y (n, p, o, z) < 0)) := by show _ = _; rw [goodAt_succ HX.out hy, hq.out, Bool.true_and]
                have hm1 : (m : Int) < (c.es.length : Int) := by omega
                have hwm : IntKind.i64.wrap (m : Int) = (m : Int) := wrapN m (by omega)
                obtain ⟨y1, hy1⟩ : ∃ q, y.1 = q := ⟨_, rfl⟩
                rw [hy1] at zp
                have HY1 := hide hy1
                clear hy hc2 he2 hid2 hy1
                by_cases hneg : y1 < n
                · have hd1 : decide (y1 ≥ n) = false := by simp; omega
                  have hd2 : decide (n ≤ y1) = false := by simp; omega
                  go_wp2
                  go_quiet (first | (go_at_call 29; exact Calls.quiet_of_same (l6In_inI _ _ _ _)) | (go_at_call 31; exact Calls.quiet_of_same (l11Num_any _ _)))
                  go_wp2
                  go_roundw
                  case rel => exact ⟨m + 1 + 1, by omega, by go_num, lt_succ HG.out (by rw [hgk.out]; simpa [ordE, cmpI_neg, HY1.out] using hneg), below_drewN bel2 _⟩
                  case measure => simp [intOf]; omega
                · have hno := BAD.out (by rw [hgk.out]; simpa [ordE, cmpI_neg, HY1.out] using hneg)
                  have hd1 : decide (y1 ≥ n) = true := by simp; omega
                  have hd2 : decide (n ≤ y1) = true := by simp; omega
                  go_wp2
                  go_quiet (first | (go_at_call 29; exact Calls.quiet_of_same (l6In_inI _ _ _ _)) | (go_at_call 31; exact Calls.quiet_of_same (l11Num_any _ _)))
                  go_wp2
                  go_ret
                  exact ⟨by rw [hno]; rfl, bAll al (below_drewN bel2 _)⟩
            · have G2 : (List.range c.es.length).all (goodAt fitE ordE c.es) = true := by rw [List.all_eq_true]; exact fun j hj => HG.out j (by have := List.mem_range.1 hj; omega)
              have hyes : Q = true := by
                have g0 := G0.out
                have g1 := G1.out
                have h0 := H0.out
                have h1 := H1.out
                have h2 := H2.out
                have i0 := I0.out
                have i1 := I1.out
                have i2 := I2.out
                rw [← HQ.out]
                simp only [okMs, h0, h1, h2, i0, i1, i2, g0, g1, G2, decide_true, Bool.and_self]
              go_wp2
              go_ret
              exact ⟨by rw [hyes]; rfl, bAll al hbel⟩

end Go.Proofs.Ythdnnmmaalgpaaa
