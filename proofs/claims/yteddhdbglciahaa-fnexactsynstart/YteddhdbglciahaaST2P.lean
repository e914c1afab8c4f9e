/- The program's SynStart: contracts; no statement of the seat is proved here. (Written by wip/tools/mkst2.py.) -/
import Derived.Test.YteddhdbglciahaaTk3
import Derived.Test.YteddhdbglciahaaTk4
namespace Go.Proofs.Yteddhdbglciahaa
open Go.RowKit

def kz : Array Value := #[.int .i64 0, .int .i64 0, .int .i64 0, .int .i64 0, .int .i64 0, .int .i64 0, .int .i64 0, .int .i64 0, .int .i64 0, .int .i64 0, .int .i64 0, .int .i64 0, .int .i64 0, .int .i64 0, .int .i64 0, .int .i64 0, .int .i64 0, .int .i64 0, .int .i64 0, .int .i64 0, .int .i64 0, .int .i64 0, .int .i64 0, .int .i64 0, .int .i64 0, .slice none 0 0]
def mem30 : Array Value := #[.int .i64 0, .slice none 0 0, .int .i64 0, .int .i64 0, .int .i64 0, .int .i64 0, .int .i64 0, .int .i64 0, .int .i64 0, .int .i64 0, .int .i64 0, .int .i64 0, .int .i64 0, .int .i64 0, .int .i64 0, .int .i64 0, .int .i64 0, .int .i64 0, .int .i64 0, .int .i64 0, .int .i64 0, .int .i64 0, .int .i64 0, .int .i64 0, .int .i64 0, .int .i64 0, .int .i64 0, .slice none 0 0, .int .i64 0, .int .i64 0]
def mem90 : Array Value := #[.int .i64 0, .slice none 0 0, .int .i64 0, .int .i64 0, .int .i64 0, .int .i64 0, .int .i64 0, .int .i64 0, .int .i64 0, .int .i64 0, .int .i64 0, .int .i64 0, .int .i64 0, .int .i64 0, .int .i64 0, .int .i64 0, .int .i64 0, .int .i64 0, .int .i64 0, .int .i64 0, .int .i64 0, .int .i64 0, .int .i64 0, .int .i64 0, .int .i64 0, .int .i64 0, .int .i64 0, .slice none 0 0, .int .i64 0, .int .i64 0, .int .i64 0, .slice none 0 0, .int .i64 0, .int .i64 0, .int .i64 0, .int .i64 0, .int .i64 0, .int .i64 0, .int .i64 0, .int .i64 0, .int .i64 0, .int .i64 0, .int .i64 0, .int .i64 0, .int .i64 0, .int .i64 0, .int .i64 0, .int .i64 0, .int .i64 0, .int .i64 0, .int .i64 0, .int .i64 0, .int .i64 0, .int .i64 0, .int .i64 0, .int .i64 0, .int .i64 0, .slice none 0 0, .int .i64 0, .int .i64 0, .int .i64 0, .slice none 0 0, .int .i64 0, .int .i64 0, .int .i64 0, .int .i64 0, .int .i64 0, .int .i64 0, .int .i64 0, .int .i64 0, .int .i64 0, .int .i64 0, .int .i64 0, .int .i64 0, .int .i64 0, .int .i64 0, .int .i64 0, .int .i64 0, .int .i64 0, .int .i64 0, .int .i64 0, .int .i64 0, .int .i64 0, .int .i64 0, .int .i64 0, .int .i64 0, .int .i64 0, .slice none 0 0, .int .i64 0, .int .i64 0]
def meet94 : Array Value := #[.int .i64 0, .slice none 0 0, .int .i64 0, .int .i64 0, .int .i64 0, .int .i64 0, .int .i64 0, .int .i64 0, .int .i64 0, .int .i64 0, .int .i64 0, .int .i64 0, .int .i64 0, .int .i64 0, .int .i64 0, .int .i64 0, .int .i64 0, .int .i64 0, .int .i64 0, .int .i64 0, .int .i64 0, .int .i64 0, .int .i64 0, .int .i64 0, .int .i64 0, .int .i64 0, .int .i64 0, .slice none 0 0, .int .i64 0, .int .i64 0, .int .i64 0, .slice none 0 0, .int .i64 0, .int .i64 0, .int .i64 0, .int .i64 0, .int .i64 0, .int .i64 0, .int .i64 0, .int .i64 0, .int .i64 0, .int .i64 0, .int .i64 0, .int .i64 0, .int .i64 0, .int .i64 0, .int .i64 0, .int .i64 0, .int .i64 0, .int .i64 0, .int .i64 0, .int .i64 0, .int .i64 0, .int .i64 0, .int .i64 0, .int .i64 0, .int .i64 0, .slice none 0 0, .int .i64 0, .int .i64 0, .int .i64 0, .slice none 0 0, .int .i64 0, .int .i64 0, .int .i64 0, .int .i64 0, .int .i64 0, .int .i64 0, .int .i64 0, .int .i64 0, .int .i64 0, .int .i64 0, .int .i64 0, .int .i64 0, .int .i64 0, .int .i64 0, .int .i64 0, .int .i64 0, .int .i64 0, .int .i64 0, .int .i64 0, .int .i64 0, .int .i64 0, .int .i64 0, .int .i64 0, .int .i64 0, .int .i64 0, .slice none 0 0, .int .i64 0, .int .i64 0, .slice none 0 0, .int .i64 0, .int .i64 0, .slice none 0 0]
theorem infoMb : (Try.prog.info? 122).map (·.size) = some 30 := by kernel_rfl
theorem infoMb3 : (Try.prog.info? 123).map (·.size) = some 90 := by kernel_rfl
theorem infoSvF : (Try.prog.info? 120).map (fun i => (i.zero, i.size, i.bytes)) = some (some (.agg #[.int .i64 0, .slice none 0 0]), 2, 32) := by kernel_rfl
theorem infoSkF : (Try.prog.info? 39).map (fun i => (i.zero, i.size, i.bytes)) = some (some (.agg #[.int .i64 0, .int .i64 0, .int .i64 0, .int .i64 0, .int .i64 0, .int .i64 0, .int .i64 0, .int .i64 0, .int .i64 0, .int .i64 0, .int .i64 0, .int .i64 0, .int .i64 0, .int .i64 0, .int .i64 0, .int .i64 0, .int .i64 0, .int .i64 0, .int .i64 0, .int .i64 0, .int .i64 0, .int .i64 0, .int .i64 0, .int .i64 0, .int .i64 0, .slice none 0 0]), 26, 224) := by kernel_rfl
theorem indexM0 (w : World) : (Instr.index 123 (.agg mem90) (.int .i64 0)).run Try.prog w = .ok (.agg mem30) w := by kernel_rfl
theorem indexM1 (w : World) : (Instr.index 123 (.agg mem90) (.int .i64 1)).run Try.prog w = .ok (.agg mem30) w := by kernel_rfl
theorem indexM2 (w : World) : (Instr.index 123 (.agg mem90) (.int .i64 2)).run Try.prog w = .ok (.agg mem30) w := by kernel_rfl
theorem indexM (k : Nat) (hk : k < 3) (w : World) : (Instr.index 123 (.agg mem90) (.int .i64 k)).run Try.prog w = .ok (.agg mem30) w := by
  rcases (by omega : k = 0 ∨ k = 1 ∨ k = 2) with rfl | rfl | rfl
  · exact indexM0 w
  · exact indexM1 w
  · exact indexM2 w

set_option maxRecDepth 100000 in
set_option maxHeartbeats 4000000 in
theorem ringList_zero (g o : Nat) (w : World) (h : w.cell? ⟨g, o + 2, none⟩ = some (.int .i64 0)) :
    Calls Try.prog 124 #[.pointer (some ⟨g, o, none⟩)] w fun e w' => e = .returned (.slice none 0 0) ∧ w' = w := by
  go_enter Try.func124, Try.ntmps124
  go_wp2
  refine wp_loop_rounds 1 ?_
  rw [rounds_succ]
  go_wp2
  go_ret
  exact ⟨rfl, rfl⟩

/-- The three lists so far, in their box. -/
def StI (V : World) (base p k0 k1 k2 : Nat) (v0 v1 v2 : Value) : Prop :=
  RowA V base 120 2 v0 k0 (vcells (List.replicate k0 (0, []))) ∧ RowA V base 3 1 v1 k1 (ints (List.replicate k1 0)) ∧ RowA V base 39 26 v2 k2 (kcells (List.replicate k2 zeroK)) ∧
    V.heap[p]? = some (.cells #[v0, v1, v2, .slice none 0 0, .slice none 0 0] 65 (0, 0))
theorem RowA.keepTz {w w' : World} {base : Nat} {e f : TypeId} (hne : e ≠ f) {size : Nat} {v : Value} {n : Nat} {cs : List Value} (h : RowA w base e size v n cs) (hb : Upd (typed w (fun k => base ≤ k) f) w w') : RowA w' base e size v n cs := by
  rcases h with ⟨hl, h⟩ | h
  · refine .inl ⟨hl, ?_⟩
    rcases h with h | ⟨g, cap, cur, rfl, hg, hh, h1, h2, h3, h4⟩
    · exact .inl h
    · exact .inr ⟨g, cap, cur, rfl, hg, hb.keeps hh (typed_apart hne g ⟨hg, cur, hh⟩), h1, h2, h3, h4⟩
  · exact .inr h
theorem StI.keep {V V1 : World} {base p k0 k1 k2 : Nat} {v0 v1 v2 : Value} (h : StI V base p k0 k1 k2 v0 v1 v2) (b : Below V.heap.size V V1) : StI V1 base p k0 k1 k2 v0 v1 v2 :=
  ⟨h.1.keepB b, h.2.1.keepB b, h.2.2.1.keepB b, bKeeps b h.2.2.2⟩
theorem StI.app0 {V V2 : World} {base p k0 k1 k2 : Nat} {v0 v1 v2 v : Value} (h : StI V base p k0 k1 k2 v0 v1 v2) (r : V2.ownsRow base 120 2 v (k0 + 1) (vcells (List.replicate k0 (0, [])) ++ vcell (0, [])))
    (u : Upd (typed V (fun k => base ≤ k) 120) V V2) : V2.heap[p]? = some (.cells #[v0, v1, v2, .slice none 0 0, .slice none 0 0] 65 (0, 0)) ∧ StI (V2.setCell ⟨p, 0, none⟩ v) base p (k0 + 1) k1 k2 v v1 v2 := by
  obtain ⟨r0, r1, r2, hp⟩ := h
  have hp2 := typed_keeps (by decide) u hp
  have us := Upd.setCell (S := fun j => j = p) V2 p 0 v rfl
  refine ⟨hp2, rowA_keep_box (by decide) (.inl ?_) hp2 us, rowA_keep_box (by decide) (r1.keepTz (by decide) u) hp2 us, rowA_keep_box (by decide) (r2.keepTz (by decide) u) hp2 us, row_set _ hp2⟩
  have e : vcells (List.replicate (k0 + 1) (0, [])) = vcells (List.replicate k0 (0, [])) ++ vcell (0, []) := by rw [List.replicate_succ']; simp [vcells]
  rw [e]
  exact r
theorem StI.app1 {V V2 : World} {base p k0 k1 k2 : Nat} {v0 v1 v2 v : Value} (h : StI V base p k0 k1 k2 v0 v1 v2) (r : V2.ownsRow base 3 1 v (k1 + 1) (ints (List.replicate k1 0) ++ [.int .i64 0]))
    (u : Upd (typed V (fun k => base ≤ k) 3) V V2) : V2.heap[p]? = some (.cells #[v0, v1, v2, .slice none 0 0, .slice none 0 0] 65 (0, 0)) ∧ StI (V2.setCell ⟨p, 1, none⟩ v) base p k0 (k1 + 1) k2 v0 v v2 := by
  obtain ⟨r0, r1, r2, hp⟩ := h
  have hp2 := typed_keeps (by decide) u hp
  have us := Upd.setCell (S := fun j => j = p) V2 p 1 v rfl
  refine ⟨hp2, rowA_keep_box (by decide) (r0.keepTz (by decide) u) hp2 us, rowA_keep_box (by decide) (.inl ?_) hp2 us, rowA_keep_box (by decide) (r2.keepTz (by decide) u) hp2 us, row_set _ hp2⟩
  have e : ints (List.replicate (k1 + 1) 0) = ints (List.replicate k1 0) ++ [.int .i64 0] := by rw [List.replicate_succ']; simp [ints]
  rw [e]
  exact r
theorem StI.app2 {V V2 : World} {base p k0 k1 k2 : Nat} {v0 v1 v2 v : Value} (h : StI V base p k0 k1 k2 v0 v1 v2) (r : V2.ownsRow base 39 26 v (k2 + 1) (kcells (List.replicate k2 zeroK) ++ kcell zeroK))
    (u : Upd (typed V (fun k => base ≤ k) 39) V V2) : V2.heap[p]? = some (.cells #[v0, v1, v2, .slice none 0 0, .slice none 0 0] 65 (0, 0)) ∧ StI (V2.setCell ⟨p, 2, none⟩ v) base p k0 k1 (k2 + 1) v0 v1 v := by
  obtain ⟨r0, r1, r2, hp⟩ := h
  have hp2 := typed_keeps (by decide) u hp
  have us := Upd.setCell (S := fun j => j = p) V2 p 2 v rfl
  refine ⟨hp2, rowA_keep_box (by decide) (r0.keepTz (by decide) u) hp2 us, rowA_keep_box (by decide) (r1.keepTz (by decide) u) hp2 us, rowA_keep_box (by decide) (.inl ?_) hp2 us, row_set _ hp2⟩
  have e : kcells (List.replicate (k2 + 1) zeroK) = kcells (List.replicate k2 zeroK) ++ kcell zeroK := by rw [List.replicate_succ']; simp [kcells]
  rw [e]
  exact r
theorem newL_cells (w : World) (cs : Array Value) (l : List Value) (e : TypeId) (h : cs.toList = l) : ∀ j u, l[j]? = some u → (w.alloc (.cells cs e)).cell? ((⟨w.heap.size, 0, none⟩ : Addr).add j) = some u := by
  subst h
  intro j u h
  rw [Addr.add_lit, Nat.zero_add, cell_of_row _ _ j _ _ (0, 0) (al1_0 w _)]
  simpa using h
theorem mem30_one : mem30.all (·.oneCell') = true := all_of_list rfl
theorem meet_mem {V : World} {g : Nat} (h : V.heap[g]? = some (.cells meet94 127 (0, 0))) : ∀ j u, mem90[j]? = some u → V.cell? ⟨g, 0 + j, none⟩ = some u := by
  intro j u hj
  have hlt : j < 90 := (Array.getElem?_eq_some_iff.1 hj).1
  rw [Nat.zero_add, cell_of_row _ _ j _ _ (0, 0) h, ← hj]
  have e : mem90.toList = meet94.toList.take 90 := rfl
  rw [← Array.getElem?_toList, ← Array.getElem?_toList, e, List.getElem?_take_of_lt hlt]
theorem mem_sk {V : World} {g : Nat} (h : V.heap[g]? = some (.cells mem30 122 (0, 0))) : ∀ j u, kz[j]? = some u → V.cell? ⟨g, 2 + j, none⟩ = some u := by
  intro j u hj
  have hlt : j < 26 := (Array.getElem?_eq_some_iff.1 hj).1
  rw [cell_of_row _ _ _ _ _ (0, 0) h, ← hj]
  have e : kz.toList = (mem30.toList.drop 2).take 26 := rfl
  rw [← Array.getElem?_toList, ← Array.getElem?_toList, e, List.getElem?_take_of_lt hlt, List.getElem?_drop]

set_option maxRecDepth 100000 in
set_option maxHeartbeats 16000000 in
theorem implCouncil_zero (g : Nat) (w : World) (h : w.heap[g]? = some (.cells meet94 127 (0, 0))) :
    Calls Try.prog 76 #[.pointer (some ⟨g, 0, none⟩)] w fun e w' => ∃ v0 v1 v2 D, e = .returned (.agg #[v0, v1, v2, .slice none 0 0, .slice none 0 0]) ∧ CnD w' w.heap.size D v0 v1 v2 (.slice none 0 0) (.slice none 0 0) zeroC ∧ Below w.heap.size w w' := by
  have HM := hide h
  clear h
  go_enter Try.func76, Try.ntmps76
  go_upto_region 1 with fail
  generalize hW : World.alloc _ _ = W
  have al : Below w.heap.size w W := by rw [← hW]; exact bal (Below.refl _ _) _
  have A0 : Hid (W.heap[w.heap.size]? = some (.cells #[.slice none 0 0, .slice none 0 0, .slice none 0 0, .slice none 0 0, .slice none 0 0] 65 (0, 0))) := by show _ = _; rw [← hW]; exact al1_0 w _
  have zW : W.heap.size = w.heap.size + 1 := by rw [← hW]; simp
  have ZW := hide zW
  clear hW zW
  have fS : Hid (∀ V : World, Below W.heap.size W V → V.heap[g]? = some (.cells meet94 127 (0, 0)) ∧ V.heap[w.heap.size]? = some (.cells #[.slice none 0 0, .slice none 0 0, .slice none 0 0, .slice none 0 0, .slice none 0 0] 65 (0, 0))) := fun V hV => ⟨bKeeps (bAll al hV) HM.out, bKeeps hV A0.out⟩
  go_cut [3] (fun s3 wx => s3 = .pointer (some ⟨W.heap.size, 0, none⟩) ∧ wx.heap[W.heap.size]? = some (.cells #[.slice none 0 0, .slice none 0 0, .slice none 0 0, .slice none 0 0, .slice none 0 0] 65 (0, 0)) ∧ Below W.heap.size W wx)
  case first =>
    have dW : Below W.heap.size W W.drew := bDrewB (Below.refl _ _)
    have a9 : Below W.heap.size W (W.drew.alloc (.cells #[.slice none 0 0, .slice none 0 0, .slice none 0 0, .slice none 0 0, .slice none 0 0] 65)) := bal dW _
    have r8 := updRow (W.drew.alloc (.cells #[.slice none 0 0, .slice none 0 0, .slice none 0 0, .slice none 0 0, .slice none 0 0] 65)) W.heap.size #[.slice none 0 0, .slice none 0 0, .slice none 0 0, .slice none 0 0, .slice none 0 0]
    have b8 : Below W.heap.size W (World.setRow (W.drew.alloc (.cells #[.slice none 0 0, .slice none 0 0, .slice none 0 0, .slice none 0 0, .slice none 0 0] 65)) W.heap.size #[.slice none 0 0, .slice none 0 0, .slice none 0 0, .slice none 0 0, .slice none 0 0]) := a9.trans (r8.below a9.size (fun k h => by omega))
    refine wp_region_noPanic ?_
    refine wp_region_held_drew (S := (fun w' => w'.cell? ⟨g, 93, none⟩ = some (.slice none 0 0))) (by kernel_rfl) ?_ (fun hHeld => ?_)
    · exact boxAt (fS.out _ dW).1 93
    refine wpAnyH_take (i := 0) (v := ?v1) rfl (by kernel_rfl) (by kernel_rfl) (by kernel_rfl) (fun _ _ _ h => h) (Or.inl ⟨by rfl, ?hy1⟩) (by assumption) ?rest1
    case hy1 => ((intro w hSw; (try dsimp only at hSw); (try simp only [List.getElem_toArray, List.getElem_cons_zero]); go_simp; first | done | (with_reducible rfl)))
    simp only [Act.put, List.getElem_toArray, List.getElem_cons_zero, List.setIfInBounds_toArray, List.set_cons_zero, List.set_cons_succ]
    refine wpAnyH_take (i := 1) (v := ?v2) rfl (by kernel_rfl) (by kernel_rfl) (by kernel_rfl) (fun _ _ _ h => h) (Or.inl ⟨by rfl, ?hy2⟩) (by assumption) ?rest2
    case hy2 => ((intro w hSw; (try dsimp only at hSw); (try simp only [List.getElem_toArray, List.getElem_cons_zero, List.getElem_cons_succ]); go_simp; first | done | (with_reducible rfl)))
    simp only [Act.put, List.getElem_toArray, List.getElem_cons_zero, List.getElem_cons_succ, List.setIfInBounds_toArray, List.set_cons_zero, List.set_cons_succ]
    refine wpAnyH_take (i := 2) (v := ?v3) rfl (by kernel_rfl) (by kernel_rfl) (by kernel_rfl) (fun _ _ _ h => h) (Or.inl ⟨by rfl, ?hy3⟩) (by assumption) ?rest3
    case hy3 => ((intro w hSw; (try dsimp only at hSw); (try simp only [List.getElem_toArray, List.getElem_cons_zero, List.getElem_cons_succ]); go_simp; first | done | (with_reducible rfl)))
    simp only [Act.put, List.getElem_toArray, List.getElem_cons_zero, List.getElem_cons_succ, List.setIfInBounds_toArray, List.set_cons_zero, List.set_cons_succ]
    refine wpAnyH_take (i := 4) (v := ?v4) rfl (by kernel_rfl) (by kernel_rfl) (by kernel_rfl) (fun _ _ _ h => h) (Or.inl ⟨by rfl, ?hy4⟩) (by assumption) ?rest4
    case hy4 => ((intro w hSw; (try dsimp only at hSw); (try simp only [List.getElem_toArray, List.getElem_cons_zero, List.getElem_cons_succ]); go_simp; first | done | (with_reducible rfl)))
    simp only [Act.put, List.getElem_toArray, List.getElem_cons_zero, List.getElem_cons_succ, List.setIfInBounds_toArray, List.set_cons_zero, List.set_cons_succ]
    refine wpAnyH_take (i := 5) (v := ?v5) rfl (by kernel_rfl) (by kernel_rfl) (by kernel_rfl) (fun _ _ _ h => h) (Or.inl ⟨by rfl, ?hy5⟩) (by assumption) ?rest5
    case hy5 => ((intro w hSw; (try dsimp only at hSw); (try simp only [List.getElem_toArray, List.getElem_cons_zero, List.getElem_cons_succ]); go_simp; first | done | (with_reducible rfl)))
    simp only [Act.put, List.getElem_toArray, List.getElem_cons_zero, List.getElem_cons_succ, List.setIfInBounds_toArray, List.set_cons_zero, List.set_cons_succ]
    refine wpAnyH_take (i := 6) (v := ?v6) rfl (by kernel_rfl) (by kernel_rfl) (by kernel_rfl) (fun _ _ _ h => h) (Or.inl ⟨by rfl, ?hy6⟩) (by assumption) ?rest6
    case hy6 => ((intro w hSw; (try dsimp only at hSw); (try simp only [List.getElem_toArray, List.getElem_cons_zero, List.getElem_cons_succ]); go_simp; first | done | (with_reducible rfl)))
    simp only [Act.put, List.getElem_toArray, List.getElem_cons_zero, List.getElem_cons_succ, List.setIfInBounds_toArray, List.set_cons_zero, List.set_cons_succ]
    refine wpAnyH_take (i := 7) (v := ?v7) rfl (by kernel_rfl) (by kernel_rfl) (by kernel_rfl) (fun _ _ _ h => h) (Or.inl ⟨by rfl, ?hy7⟩) (by assumption) ?rest7
    case hy7 => ((intro w hSw; (try dsimp only at hSw); (try simp only [List.getElem_toArray, List.getElem_cons_zero, List.getElem_cons_succ]); go_simp; first | done | (with_reducible rfl)))
    simp only [Act.put, List.getElem_toArray, List.getElem_cons_zero, List.getElem_cons_succ, List.setIfInBounds_toArray, List.set_cons_zero, List.set_cons_succ]
    refine wpAnyH_ready (rs := [3, 9]) (by kernel_rfl) (by simp) ?_
    refine AllReadyH.cons rfl (fun K hK => ?_) (AllReadyH.cons rfl (fun K hK => ?_) AllReadyH.nil)
    · go_simp
      go_at_call 124
      refine (ringList_zero g 90 _ (boxAt (fS.out _ dW).1 92)).mono ?_
      rintro e w7 ⟨rfl, rfl⟩
      refine hK.out _ _ ?_ (fun hHeld => ?_)
      · exact boxAt (fS.out _ dW).1 93
      clear hK K
      refine wpAnyH_take (i := 8) (v := ?v8) rfl (by kernel_rfl) (by kernel_rfl) (by kernel_rfl) (fun _ _ _ h => h) (Or.inl ⟨by rfl, ?hy8⟩) (by assumption) ?rest8
      case hy8 => ((intro w hSw; (try dsimp only at hSw); (try simp only [List.getElem_toArray, List.getElem_cons_zero, List.getElem_cons_succ]); go_simp; first | done | (with_reducible rfl)))
      simp only [Act.put, List.getElem_toArray, List.getElem_cons_zero, List.getElem_cons_succ, List.setIfInBounds_toArray, List.set_cons_zero, List.set_cons_succ]
      refine wpAnyH_ready (rs := [9]) (by kernel_rfl) (by simp) ?_
      refine AllReadyH.cons rfl (fun K hK => ?_) AllReadyH.nil
      go_simp
      (skip)
      refine hK.out _ _ ?_ (fun hHeld => ?_)
      · exact boxAt (fS.out _ a9).1 93
      clear hK K
      refine wpAnyH_ready (rs := [10]) (by kernel_rfl) (by simp) ?_
      refine AllReadyH.cons rfl (fun K hK => ?_) AllReadyH.nil
      (refine wp_store_row 65 (.tmp 3) (.tmp 14) rfl W.heap.size #[.slice none 0 0, .slice none 0 0, .slice none 0 0, .slice none 0 0, .slice none 0 0] rfl rfl _ _ (heap_alloc_new W.drew _) infoCnI rfl (all_of_list rfl) ?_)
      refine hK.out _ _ ?_ (fun hHeld => ?_)
      · exact boxAt (fS.out _ b8).1 93
      clear hK K
      refine wpAnyH_done (by kernel_rfl) ?_ _
      refine NoPanic.normal ?_
      clear hHeld
      go_wp2_with fail
      go_meet
      exact ⟨rfl, setRow_heap _ _ _ _ _ _ (heap_alloc_new W.drew _), b8⟩
    · go_simp
      refine hK.out _ _ ?_ (fun hHeld => ?_)
      · exact boxAt (fS.out _ a9).1 93
      clear hK K
      refine wpAnyH_ready (rs := [3]) (by kernel_rfl) (by simp) ?_
      refine AllReadyH.cons rfl (fun K hK => ?_) AllReadyH.nil
      go_simp
      (go_at_call 124; refine (ringList_zero g 90 _ (boxAt (fS.out _ a9).1 92)).mono ?_; rintro e w7 ⟨rfl, rfl⟩)
      refine hK.out _ _ ?_ (fun hHeld => ?_)
      · exact boxAt (fS.out _ a9).1 93
      clear hK K
      refine wpAnyH_take (i := 8) (v := ?v9) rfl (by kernel_rfl) (by kernel_rfl) (by kernel_rfl) (fun _ _ _ h => h) (Or.inl ⟨by rfl, ?hy9⟩) (by assumption) ?rest9
      case hy9 => ((intro w hSw; (try dsimp only at hSw); (try simp only [List.getElem_toArray, List.getElem_cons_zero, List.getElem_cons_succ]); go_simp; first | done | (with_reducible rfl)))
      simp only [Act.put, List.getElem_toArray, List.getElem_cons_zero, List.getElem_cons_succ, List.setIfInBounds_toArray, List.set_cons_zero, List.set_cons_succ]
      refine wpAnyH_ready (rs := [10]) (by kernel_rfl) (by simp) ?_
      refine AllReadyH.cons rfl (fun K hK => ?_) AllReadyH.nil
      (refine wp_store_row 65 (.tmp 3) (.tmp 14) rfl W.heap.size #[.slice none 0 0, .slice none 0 0, .slice none 0 0, .slice none 0 0, .slice none 0 0] rfl rfl _ _ (heap_alloc_new W.drew _) infoCnI rfl (all_of_list rfl) ?_)
      refine hK.out _ _ ?_ (fun hHeld => ?_)
      · exact boxAt (fS.out _ b8).1 93
      clear hK K
      refine wpAnyH_done (by kernel_rfl) ?_ _
      refine NoPanic.normal ?_
      clear hHeld
      go_wp2_with fail
      go_meet
      exact ⟨rfl, setRow_heap _ _ _ _ _ _ (heap_alloc_new W.drew _), b8⟩
  case rest =>
    obtain ⟨rfl, hB, bc⟩ := hcut
    obtain ⟨base, hbase⟩ : ∃ b, b = W.heap.size := ⟨_, rfl⟩
    obtain ⟨p, hpp⟩ : ∃ p, p = W.heap.size := ⟨_, rfl⟩
    have lp := heap_lt hB
    have PB : Hid (p = base) := by rw [hbase, hpp]; rfl
    have WB : Hid (w.heap.size < base) := by have := ZW.out; show _ < _; omega
    have A0c := hide (fS.out _ bc)
    have BB := hide (show StI wc base p 0 0 0 (.slice none 0 0) (.slice none 0 0) (.slice none 0 0) from ⟨.inr ⟨rfl, rfl, _, rfl⟩, .inr ⟨rfl, rfl, _, rfl⟩, .inr ⟨rfl, rfl, _, rfl⟩, by rw [hpp]; exact hB⟩)
    rw [← hpp] at lp ⊢
    have LP := hide lp
    have BC := hide (bAll al bc)
    have M0 := hide (meet_mem A0c.out.1)
    clear hB bc hbase hpp lp ZW fS al A0 HM
    go_upto_region 3 with (refine wpList_load_at rfl 123 (.tmp 17) rfl g 0 rfl mem90 _ M0.out Try.underlying123 rfl infoMb3 ?_)
    go_loopw [19] (fun iv wr => ∃ k : Nat, k ≤ 3 ∧ iv = .int .i64 k ∧ ∃ v0 v1 v2, StI wr base p k k k v0 v1 v2 ∧ Upd (fun b => base ≤ b) wc wr) (fun iv _ => 3 - (intOf iv).toNat)
    case atStart => exact ⟨0, Nat.zero_le _, rfl, _, _, _, BB.out, Upd.refl _ _⟩
    case round =>
      obtain ⟨k, hk3, rfl, v0, v1, v2, hst, hup⟩ := hrel
      by_cases hlt : k < 3
      · have hi : (k : Int) < 3 := by omega
        obtain ⟨o0, c0, rfl⟩ := hst.1.shape
        obtain ⟨o1, c1, rfl⟩ := hst.2.1.shape
        obtain ⟨o2, c2, rfl⟩ := hst.2.2.1.shape
        have zr := hup.size
        have aX := bal (Below.refl wr.heap.size wr) (.cells mem30 122)
        have S0 := hide (hst.keep aX)
        have N := hide (heap_alloc_new wr (.cells mem30 122))
        have SZ : Hid (base ≤ (wr.alloc (.cells mem30 122)).heap.size) := by have := aX.size; have := LP.out; have := PB.out; show _ ≤ _; omega
        have GP : Hid (p < wr.heap.size ∧ base ≤ p ∧ p = base) := by have := LP.out; have := PB.out; show _ ∧ _ ∧ _; omega
        have U0 : Upd (fun b => base ≤ b) wc (wr.alloc (.cells mem30 122)) := hup.trans (Upd.ofBelow aX)
        have hix := fun w => indexM k hlt w
        clear hst hup zr aX
        go_upto_region 5 with (refine wpList_store_row rfl 122 (.tmp 5) (.tmp 21) rfl wr.heap.size mem30 rfl rfl _ _ (heap_alloc_new wr _) infoMb (show (30 : Nat) = 30 from rfl) mem30_one ?_; rw [World.setRow_alloc_new])
        generalize hX : wr.alloc (.cells mem30 122) = X at S0 N SZ U0 ⊢
        generalize wr.heap.size = gm at N GP ⊢
        clear hX hix
        have S0 := hide S0.out

        have alB := bal (Below.refl X.heap.size X) (.cells #[.int .i64 0, .slice none 0 0] 120)
        have SB := hide (S0.out.keep alB)
        have rowV := SB.out.1
        have NV := hide (newL_cells X #[.int .i64 0, .slice none 0 0] (vcell (0, [])) 120 rfl)
        have zB := alB.size
        have x0 : X.cell? ⟨p, 0, none⟩ = some (.slice o0 k c0) := boxAt S0.out.2.2.2 0
        have y0 : X.cell? ⟨gm, 0, none⟩ = some (.int .i64 0) := boxAt N.out 0
        have y1 : X.cell? ⟨gm, 1, none⟩ = some (.slice none 0 0) := boxAt N.out 1
        obtain ⟨i1, gi, gz0, gz1, gz2⟩ := info_parts infoSvF
        go_wp2_with (first
          | (at_builtin; refine wpList_appendA _ rfl _ _ 61 rfl base 120 i1 (.agg #[.int .i64 0, .slice none 0 0]) 2 32 Try.underlying61 gi gz0 gz1 gz2 rfl (by decide) _ k (vcells (List.replicate k (0, []))) rfl rowV ⟨X.heap.size, 0, none⟩ 1 1 (vcell (0, [])) rfl rfl NV.out (fun u hu => List.all_eq_true.1 (show List.all (vcell (0, [])) (·.oneCell') = true from rfl) u hu) (by decide) ?q63 ?qby ?qbase ?_))
        case q63 => unfold maxLen; omega
        case qby => omega
        case qbase => (have := SZ.out; omega)
        intro v' wA r u
        obtain ⟨hp, SN⟩ := SB.out.app0 r u
        obtain ⟨d0, e0, rfl, -⟩ := owns_shape r
        have p0 := boxAt hp 0
        have f0 := boxFz hp 0
        have N := hide (typed_keeps (by decide) u (bKeeps alB N.out))
        have b1 : Upd (fun b => base ≤ b) X wA := (Upd.ofBelow alB).trans (u.mono (fun b h => h.1))
        clear alB SB rowV NV x0 r u i1 gi gz0 gz1 gz2 zB
        go_upto_region 6 with fail
        generalize hV : World.setCell _ _ _ = Y
        have us : Upd (fun b => b = p) wA Y := by rw [← hV]; exact Upd.setCell _ _ _ _ rfl
        have S1 := hide (show StI Y base p _ _ _ _ _ _ by rw [← hV]; exact SN)
        have N := hide (us.keeps N.out (by have := GP.out; omega))
        have U1 : Upd (fun b => base ≤ b) X Y := b1.trans (us.mono (fun b h => by have := GP.out; omega))
        have SZ : Hid (base ≤ Y.heap.size) := by have := U1.size; have := SZ.out; show _ ≤ _; omega
        clear hV us SN hp p0 f0 b1 y0 y1

        have alB := bal (Below.refl Y.heap.size Y) (.cells #[.int .i64 0] 3)
        have SB := hide (S1.out.keep alB)
        have rowV := SB.out.2.1
        have NV := hide (newL_cells Y #[.int .i64 0] ([.int .i64 0]) 3 rfl)
        have zB := alB.size
        have x1 : Y.cell? ⟨p, 1, none⟩ = some (.slice o1 k c1) := boxAt S1.out.2.2.2 1
        have y0 : Y.cell? ⟨gm, 29, none⟩ = some (.int .i64 0) := boxAt N.out 29
        obtain ⟨i1, gi, gz0, gz1, gz2⟩ := info_parts infoInt
        go_wp2_with (first
          | (at_builtin; refine wpList_appendA _ rfl _ _ 26 rfl base 3 i1 (.int .i64 0) 1 8 Try.underlying26 gi gz0 gz1 gz2 rfl (by decide) _ k (ints (List.replicate k 0)) rfl rowV ⟨Y.heap.size, 0, none⟩ 1 1 ([.int .i64 0]) rfl rfl NV.out (fun u hu => List.all_eq_true.1 (show List.all ([.int .i64 0]) (·.oneCell') = true from rfl) u hu) (by decide) ?q63 ?qby ?qbase ?_))
        case q63 => unfold maxLen; omega
        case qby => omega
        case qbase => (have := SZ.out; omega)
        intro v' wA r u
        obtain ⟨hp, SN⟩ := SB.out.app1 r u
        obtain ⟨d1, e1, rfl, -⟩ := owns_shape r
        have p0 := boxAt hp 1
        have f0 := boxFz hp 1
        have N := hide (typed_keeps (by decide) u (bKeeps alB N.out))
        have b1 : Upd (fun b => base ≤ b) Y wA := (Upd.ofBelow alB).trans (u.mono (fun b h => h.1))
        clear alB SB rowV NV x1 r u i1 gi gz0 gz1 gz2 zB
        go_upto_region 7 with fail
        generalize hV : World.setCell _ _ _ = Z
        have us : Upd (fun b => b = p) wA Z := by rw [← hV]; exact Upd.setCell _ _ _ _ rfl
        have S2 := hide (show StI Z base p _ _ _ _ _ _ by rw [← hV]; exact SN)
        have N := hide (us.keeps N.out (by have := GP.out; omega))
        have U2 : Upd (fun b => base ≤ b) Y Z := b1.trans (us.mono (fun b h => by have := GP.out; omega))
        have SZ : Hid (base ≤ Z.heap.size) := by have := U2.size; have := SZ.out; show _ ≤ _; omega
        clear hV us SN hp p0 f0 b1 y0

        have alB := bal (Below.refl Z.heap.size Z) (.cells #[.int .i64 0, .int .i64 0, .int .i64 0, .int .i64 0, .int .i64 0, .int .i64 0, .int .i64 0, .int .i64 0, .int .i64 0, .int .i64 0, .int .i64 0, .int .i64 0, .int .i64 0, .int .i64 0, .int .i64 0, .int .i64 0, .int .i64 0, .int .i64 0, .int .i64 0, .int .i64 0, .int .i64 0, .int .i64 0, .int .i64 0, .int .i64 0, .int .i64 0, .slice none 0 0] 39)
        have SB := hide (S2.out.keep alB)
        have rowV := SB.out.2.2.1
        have NV := hide (newL_cells Z #[.int .i64 0, .int .i64 0, .int .i64 0, .int .i64 0, .int .i64 0, .int .i64 0, .int .i64 0, .int .i64 0, .int .i64 0, .int .i64 0, .int .i64 0, .int .i64 0, .int .i64 0, .int .i64 0, .int .i64 0, .int .i64 0, .int .i64 0, .int .i64 0, .int .i64 0, .int .i64 0, .int .i64 0, .int .i64 0, .int .i64 0, .int .i64 0, .int .i64 0, .slice none 0 0] (kcell zeroK) 39 rfl)
        have zB := alB.size
        have x2 : Z.cell? ⟨p, 2, none⟩ = some (.slice o2 k c2) := boxAt S2.out.2.2.2 2
        have y0 := mem_sk N.out
        obtain ⟨i1, gi, gz0, gz1, gz2⟩ := info_parts infoSkF
        go_wp2_with (first
          | (at_builtin; refine wpList_appendA _ rfl _ _ 62 rfl base 39 i1 (.agg #[.int .i64 0, .int .i64 0, .int .i64 0, .int .i64 0, .int .i64 0, .int .i64 0, .int .i64 0, .int .i64 0, .int .i64 0, .int .i64 0, .int .i64 0, .int .i64 0, .int .i64 0, .int .i64 0, .int .i64 0, .int .i64 0, .int .i64 0, .int .i64 0, .int .i64 0, .int .i64 0, .int .i64 0, .int .i64 0, .int .i64 0, .int .i64 0, .int .i64 0, .slice none 0 0]) 26 224 Try.underlying62 gi gz0 gz1 gz2 rfl (by decide) _ k (kcells (List.replicate k zeroK)) rfl rowV ⟨Z.heap.size, 0, none⟩ 1 1 (kcell zeroK) rfl rfl NV.out (fun u hu => List.all_eq_true.1 (show List.all (kcell zeroK) (·.oneCell') = true from rfl) u hu) (by decide) ?q63 ?qby ?qbase ?_)
          | (refine wpList_load_at rfl 39 (.tmp 38) rfl gm 2 rfl #[.int .i64 0, .int .i64 0, .int .i64 0, .int .i64 0, .int .i64 0, .int .i64 0, .int .i64 0, .int .i64 0, .int .i64 0, .int .i64 0, .int .i64 0, .int .i64 0, .int .i64 0, .int .i64 0, .int .i64 0, .int .i64 0, .int .i64 0, .int .i64 0, .int .i64 0, .int .i64 0, .int .i64 0, .int .i64 0, .int .i64 0, .int .i64 0, .int .i64 0, .slice none 0 0] _ y0 Try.underlying39 rfl infoSk ?_))
        case q63 => unfold maxLen; omega
        case qby => omega
        case qbase => (have := SZ.out; omega)
        intro v' wA r u
        obtain ⟨hp, SN⟩ := SB.out.app2 r u
        obtain ⟨d2, e2, rfl, -⟩ := owns_shape r
        have p0 := boxAt hp 2
        have f0 := boxFz hp 2
        have N := hide (typed_keeps (by decide) u (bKeeps alB N.out))
        have b1 : Upd (fun b => base ≤ b) Z wA := (Upd.ofBelow alB).trans (u.mono (fun b h => h.1))
        clear alB SB rowV NV x2 r u i1 gi gz0 gz1 gz2 zB
        go_upto_region 8 with fail
        generalize hV : World.setCell _ _ _ = V
        have us : Upd (fun b => b = p) wA V := by rw [← hV]; exact Upd.setCell _ _ _ _ rfl
        have S3 := hide (show StI V base p _ _ _ _ _ _ by rw [← hV]; exact SN)
        have N := hide (us.keeps N.out (by have := GP.out; omega))
        have U3 : Upd (fun b => base ≤ b) Z V := b1.trans (us.mono (fun b h => by have := GP.out; omega))
        have SZ : Hid (base ≤ V.heap.size) := by have := U3.size; have := SZ.out; show _ ≤ _; omega
        clear hV us SN hp p0 f0 b1 y0

        go_wp2
        go_roundw
        case rel => exact ⟨k + 1, by omega, by go_num, _, _, _, S3.out, ((U0.trans U1).trans U2).trans U3⟩
        case measure => simp [intOf]; omega
      · obtain rfl : k = 3 := by omega
        have hst := hide hst
        have q0 := hst.out.2.2.2
        obtain ⟨o0, c0, rfl⟩ := hst.out.1.shape
        obtain ⟨o1, c1, rfl⟩ := hst.out.2.1.shape
        obtain ⟨o2, c2, rfl⟩ := hst.out.2.2.1.shape
        have hbc : Below w.heap.size w wr := BC.out.trans (hup.below BC.out.size (fun b h => by have := WB.out; omega))
        have qA := hup.keeps A0c.out.2 (by have := WB.out; omega)
        have us := updRow wr w.heap.size #[.slice o0 3 c0, .slice o1 3 c1, .slice o2 3 c2, .slice none 0 0, .slice none 0 0]
        go_wp2_with (first
          | (refine wpList_load_row rfl 65 (.tmp 3) rfl p rfl _ #[.slice o0 3 c0, .slice o1 3 c1, .slice o2 3 c2, .slice none 0 0, .slice none 0 0] (0, 0) _ q0 Try.underlying65 rfl infoCnI ?_)
          | (refine wpList_store_row rfl 65 (.tmp 2) (.tmp 44) rfl w.heap.size #[.slice o0 3 c0, .slice o1 3 c1, .slice o2 3 c2, .slice none 0 0, .slice none 0 0] rfl rfl _ _ qA infoCnI (show (5 : Nat) = 5 from rfl) (all_of_list rfl) ?_))
        refine bodyPost_ret (results_cell_row Try.results76 _ _ w.heap.size _ _ (0, 0) _ rfl (setRow_heap _ _ _ _ _ _ qA) Try.underlying65 rfl infoCnI) rfl ?_
        have hw := hbc.size
        have hwb := WB.out
        refine ⟨_, _, _, fun i b => (i = 0 ∧ typed wr (fun k => base ≤ k) 120 b) ∨ (i = 1 ∧ typed wr (fun k => base ≤ k) 3 b) ∨ (i = 2 ∧ typed wr (fun k => base ≤ k) 39 b), rfl, ⟨?_, ?_, ?_, ?_, ?_, noRowO, Row.nil _ _ _ _⟩, hbc.trans (us.below hw (fun j h => by omega))⟩
        · intro i b h
          have hs := us.size
          rcases h with ⟨-, h1, c, h2⟩ | ⟨-, h1, c, h2⟩ | ⟨-, h1, c, h2⟩ <;> (have := heap_lt h2; omega)
        · intro i j b h1 h2
          rcases h1 with ⟨rfl, h1⟩ | ⟨rfl, h1⟩ | ⟨rfl, h1⟩ <;> rcases h2 with ⟨rfl, h2⟩ | ⟨rfl, h2⟩ | ⟨rfl, h2⟩ <;> first | rfl | exact absurd h2 (typed_apart (by decide) b h1)
        · have r := (hst.out.1.row (by omega)).typed
          refine ((rowO_vs (xs := zeroC.vs) (by simp [zeroC]) rfl r).mono (S' := _) (fun b h => .inl ⟨rfl, h⟩)).keep (R := fun j => j = w.heap.size) (fun T v x hT h => VxO.keep h us hT) us (fun b h1 h2 => ?_)
          rcases h1 with ⟨-, h1, -⟩ | ⟨-, h1, -⟩ | ⟨-, h1, -⟩ <;> omega
        · have r := (hst.out.2.1.row (by omega)).typed
          refine (r.mono (T := _) (fun b _ h => .inr (.inl ⟨rfl, h⟩))).keep us (fun b h1 h2 => ?_)
          rcases h1 with ⟨-, h1, -⟩ | ⟨-, h1, -⟩ | ⟨-, h1, -⟩ <;> omega
        · have r := (hst.out.2.2.1.row (by omega)).typed
          refine ((rowO_ks (xs := zeroC.ks) (by simp [zeroC, zeroK]) rfl r).mono (S' := _) (fun b h => .inr (.inr ⟨rfl, h⟩))).keep (R := fun j => j = w.heap.size) (fun T v x hT h => SkO.keep h us hT) us (fun b h1 h2 => ?_)
          rcases h1 with ⟨-, h1, -⟩ | ⟨-, h1, -⟩ | ⟨-, h1, -⟩ <;> omega

theorem CnD.keepU {w w' : World} {base base' : Nat} {R : Nat → Prop} {D : Nat → Nat → Prop} {v0 v1 v2 v3 v4 : Value} {c : Cn} (h : CnD w base D v0 v1 v2 v3 v4 c) (u : Upd R w w') (hb : base' ≤ base) (hR : ∀ i b, D i b → ¬ R b) : CnD w' base' D v0 v1 v2 v3 v4 c := by
  obtain ⟨p, q, h0, h1, h2, h3, h4⟩ := h
  exact ⟨fun i b h => ⟨Nat.le_trans hb (p i b h).1, Nat.lt_of_lt_of_le (p i b h).2 u.size⟩, q, h0.keep (fun T v x hT h => VxO.keep h u hT) u (hR 0), h1.keep u (hR 1), h2.keep (fun T v x hT h => SkO.keep h u hT) u (hR 2), h3.keep (fun T v x hT h => WdO.keep h u hT) u (hR 3), h4.keep u (hR 4)⟩
theorem meetZero : Try.prog.built 127 [] = some meet94 := by kernel_rfl

set_option maxRecDepth 100000 in
set_option maxHeartbeats 8000000 in
theorem implSynStart_any (w : World) :
    Calls Try.prog 27 #[] w fun e w' => ∃ v0 v1 v2 D, e = .returned (.agg #[v0, v1, v2, .slice none 0 0, .slice none 0 0]) ∧ CnD w' w.heap.size D v0 v1 v2 (.slice none 0 0) (.slice none 0 0) zeroC ∧ Below w.heap.size w w' := by
  go_enter Try.func27, Try.ntmps27
  go_upto_region 2 with fail
  generalize hW : World.alloc _ _ = W
  have al : Below w.heap.size w W := by rw [← hW]; exact bal (bal (Below.refl _ _) _) _
  have A0 : Hid (W.heap[w.heap.size]? = some (.cells #[.slice none 0 0, .slice none 0 0, .slice none 0 0, .slice none 0 0, .slice none 0 0] 65 (0, 0))) := by show _ = _; rw [← hW]; exact al2_0 w _ _
  have A1 : Hid (W.heap[w.heap.size + 1]? = some (.cells meet94 127 (0, 0))) := by show _ = _; rw [← hW]; exact al2_1 w _ _
  have lt0 := heap_lt A0.out
  clear hW
  go_wp2_with fail
  refine (implCouncil_zero (w.heap.size + 1) W A1.out).mono ?_
  rintro e V ⟨v0, v1, v2, D, rfl, hd, bV⟩
  have HD := hide hd
  obtain ⟨⟨o0, c0, e0⟩, ⟨o1, c1, e1⟩, ⟨o2, c2, e2⟩, -, -⟩ := hd.reads.shapes
  have e0 : v0 = .slice o0 3 c0 := e0
  have e1 : v1 = .slice o1 3 c1 := e1
  have e2 : v2 = .slice o2 3 c2 := e2
  subst e0 e1 e2
  have qA := bKeeps bV A0.out
  have us := updRow V w.heap.size #[.slice o0 3 c0, .slice o1 3 c1, .slice o2 3 c2, .slice none 0 0, .slice none 0 0]
  have cV := bAll al bV
  clear hd
  go_wp2_with (refine wpList_store_row rfl 65 (.tmp 0) (.tmp 2) rfl w.heap.size #[.slice o0 3 c0, .slice o1 3 c1, .slice o2 3 c2, .slice none 0 0, .slice none 0 0] rfl rfl _ _ qA infoCnI (show (5 : Nat) = 5 from rfl) (all_of_list rfl) ?_)
  refine bodyPost_ret (results_cell_row Try.results27 _ _ w.heap.size _ _ (0, 0) _ rfl (setRow_heap _ _ _ _ _ _ qA) Try.underlying65 rfl infoCnI) rfl ?_
  exact ⟨_, _, _, D, rfl, HD.out.keepU us (by omega) (fun i b h hb => by have := (HD.out.1 i b h).1; omega), cV.trans (us.below cV.size (fun j h => by omega))⟩

end Go.Proofs.Yteddhdbglciahaa
