/- Contracts and plain facts that this claim leans on (texts XA); no statement of the seat is proved here. -/
import Derived.Test.YtdnojnkcmncffaaWk22
import Derived.Test.YtdnojnkcmncffaaWk24
import Derived.Test.YtdnojnkcmncffaaWk26

/- All numbers of a word, as the specification lists them: a contract; no statement of the seat is proved here. -/
namespace Go.Proofs.Ytdnojnkcmncffaa
open Go.RowKit

theorem infoI64 : (Try.prog.info? 3).map (fun i => (i.zero, i.size, i.bytes)) = some (some (.int .i64 0), 1, 8) := by kernel_rfl
def intsV (xs : List Int) : List Value := xs.map (Value.int .i64)
theorem intsV_one (xs : List Int) : ∀ u ∈ intsV xs, u.oneCell' = true := by
  intro u hu
  obtain ⟨a, _, rfl⟩ := List.mem_map.1 hu
  rfl
theorem intsV_append (xs ys : List Int) : intsV (xs ++ ys) = intsV xs ++ intsV ys := by simp [intsV]
theorem new_ints (w : World) (xs : List Int) (e : TypeId) : ∀ j u, (intsV xs)[j]? = some u → (w.alloc (.cells (intsV xs).toArray e)).cell? ((⟨w.heap.size, 0, none⟩ : Addr).add j) = some u := by
  intro j u h
  rw [Addr.add_lit, cell_of_row _ _ _ _ _ (0, 0) (al1_0 w _)]
  simpa using h

theorem RowA.base {w : World} {b b' : Nat} {e : TypeId} {size : Nat} {v : Value} {n : Nat} {cs : List Value} (h : RowA w b e size v n cs) (hb : b' ≤ b) : RowA w b' e size v n cs := by
  rcases h with h | h
  · exact .inl ⟨h.1, h.2.imp id (fun ⟨g, cap, cur, e, hg, rest⟩ => ⟨g, cap, cur, e, Nat.le_trans hb hg, rest⟩)⟩
  · exact .inr h
theorem updCell {S : Nat → Prop} {w w' : World} {b o : Nat} {v : Value} (u : Upd S w w') (h : w.cell? ⟨b, o, none⟩ = some v) (hS : ¬ S b) : w'.cell? ⟨b, o, none⟩ = some v :=
  (World.cell?_of_block (a := ⟨b, o, none⟩) (u.block b (World.block_lt_of_cell? w _ h) hS)).trans h

theorem wp_appendA {P : Program} {o : Oper} {a : Act} {w : World} {K : Act → World → Prop} {Q : Exit → Act → World → Prop}
    (s x : Operand) (t : TypeId) (ho : o.op = Op.call { callee := Callee.builtin Builtin.append, args := #[s, x], argTypes := #[t, t] })
    (base : Nat) (e : TypeId) (i : TypeInfo) (z : Value) (size bytes : Nat) (ht : P.underlying t = some (.slice e)) (hi : P.info? e = some i) (hz : i.zero = some z)
    (hsize : i.size = size) (hby : i.bytes = bytes) (hzs : z.cells.size = size) (hsz : 0 < size)
    (v : Value) (n : Nat) (xs : List Value) (hs : a.eval s = v) (hown : RowA w base e size v n xs)
    (ad : Addr) (m c : Nat) (news : List Value) (hx : a.eval x = .slice (some ad) m c) (hl : news.length = m * size) (hnews : ∀ j u, news[j]? = some u → w.cell? (ad.add j) = some u) (h1 : ∀ u ∈ news, u.oneCell' = true)
    (hm : 0 < m) (h63 : n + m ≤ maxLen) (hbytes : (n + m) * bytes ≤ 140737488355328) (hbase : base ≤ w.heap.size)
    (hK : ∀ v' w', w'.ownsRow base e size v' (n + m) (xs ++ news) → Upd (typed w (fun k => base ≤ k) e) w w' → K (a.put o.dst v') w') : Oper.wp P o a w K Q := by
  obtain ⟨v', w', hrun, r1, r2⟩ := run_appendA (P := P) (w := w) base t o.type e i z size bytes ht hi hz hsize hby hzs hsz v n xs hown ad m c news hl hnews h1 hm h63 hbytes hbase
  unfold Oper.wp
  simp [execOp, ho, resolve, invoke, builtin, hs, hx, hrun, Result.andThen]
  exact hK v' w' r1 r2

theorem l11Nums_own (x : Wd) (po lo : Option Addr) (pn pc ln lc : Nat) (w : World) :
    Calls Try.prog 29 #[ .agg #[.int .i64 x.a0, .int .i64 x.a1, .int .i64 x.a2, .int .i64 x.a3, .int .i64 x.a4, .int .i64 x.a5, .int .i64 x.c0, .int .i64 x.c1, .int .i64 x.c2, .int .i64 x.c3, .int .i64 x.c4, .int .i64 x.c5, .int .i64 x.c6, .int .i64 x.c7, .int .i64 x.c8, .int .i64 x.c9, .int .i64 x.b0, .int .i64 x.b1, .int .i64 x.b2, .int .i64 x.b3, .int .i64 x.b4, .int .i64 x.b5, .int .i64 x.b6, .int .i64 x.b7, .slice po pn pc, .slice lo ln lc] ] w fun e w' => ∃ so, e = .returned (.slice so 24 24) ∧ w'.ownsRow w.heap.size 3 1 (.slice so 24 24) 24 (intsV x.nums) ∧ Below w.heap.size w w' := by
  refine (l11Nums_any x po lo pn pc ln lc w).mono ?_
  rintro e w' ⟨rfl, rfl⟩
  refine ⟨_, rfl, ?_, bal (bal (bal (Below.refl _ _) _) _) _⟩
  have := World.ownsRow_lit (base := w.heap.size) (e := 3) (size := 1) ((w.alloc (.cells (#[.int .i64 x.a0, .int .i64 x.a1, .int .i64 x.a2, .int .i64 x.a3, .int .i64 x.a4, .int .i64 x.a5, .int .i64 x.c0, .int .i64 x.c1, .int .i64 x.c2, .int .i64 x.c3, .int .i64 x.c4, .int .i64 x.c5, .int .i64 x.c6, .int .i64 x.c7, .int .i64 x.c8, .int .i64 x.c9, .int .i64 x.b0, .int .i64 x.b1, .int .i64 x.b2, .int .i64 x.b3, .int .i64 x.b4, .int .i64 x.b5, .int .i64 x.b6, .int .i64 x.b7, .slice po pn pc, .slice lo ln lc] : Array Value) 34)).alloc (.cells #[.int .i64 x.c0, .int .i64 x.c1, .int .i64 x.c2, .int .i64 x.c3, .int .i64 x.c4, .int .i64 x.c5, .int .i64 x.c6, .int .i64 x.c7, .int .i64 x.c8, .int .i64 x.c9] 30)) (x.nums.map (Value.int .i64)).toArray 24 (by simp; omega) (by unfold maxLen; omega) rfl
  simp only [World.size_alloc] at this
  exact this

set_option maxRecDepth 100000 in
set_option maxHeartbeats 8000000 in
theorem l11All_any (v : Value) (x : Wd) (w : World) (h : WdR w v x) (hp : x.ps.length ≤ 60) (hl : x.ls.length ≤ 4) :
    Calls Try.prog 44 #[v] w fun e w' => ∃ so n sc, e = .returned (.slice so n sc) ∧ n = (allW x).length ∧ RowR w' 1 (.slice so n sc) n ((allW x).map (Value.int .i64)) ∧ Below w.heap.size w w' := by
  obtain ⟨po, pc, lo, lc, rfl, a1, a2⟩ := h
  obtain ⟨i1, gi, gz0, gz1, gz2⟩ := info_parts infoI64
  have A1 := hide a1
  have A2 := hide a2
  clear a1 a2
  go_enter Try.func44, Try.ntmps44
  go_wp2
  generalize hW : World.alloc _ _ = W
  have hal : Below w.heap.size w W := by rw [← hW]; exact bal (Below.refl _ _) _
  have B0 : Hid (W.heap[w.heap.size]? = some (.cells (#[.int .i64 x.a0, .int .i64 x.a1, .int .i64 x.a2, .int .i64 x.a3, .int .i64 x.a4, .int .i64 x.a5, .int .i64 x.c0, .int .i64 x.c1, .int .i64 x.c2, .int .i64 x.c3, .int .i64 x.c4, .int .i64 x.c5, .int .i64 x.c6, .int .i64 x.c7, .int .i64 x.c8, .int .i64 x.c9, .int .i64 x.b0, .int .i64 x.b1, .int .i64 x.b2, .int .i64 x.b3, .int .i64 x.b4, .int .i64 x.b5, .int .i64 x.b6, .int .i64 x.b7, .slice po x.ps.length pc, .slice lo x.ls.length lc] : Array Value) 34 (0, 0))) := by rw [← hW]; exact heap_alloc_new w _
  clear hW
  have z0 := hal.size
  refine wp_region_noPanic ?_
  refine wp_region_held_drew (S := (fun w' => w'.heap[w.heap.size]? = some (.cells (#[.int .i64 x.a0, .int .i64 x.a1, .int .i64 x.a2, .int .i64 x.a3, .int .i64 x.a4, .int .i64 x.a5, .int .i64 x.c0, .int .i64 x.c1, .int .i64 x.c2, .int .i64 x.c3, .int .i64 x.c4, .int .i64 x.c5, .int .i64 x.c6, .int .i64 x.c7, .int .i64 x.c8, .int .i64 x.c9, .int .i64 x.b0, .int .i64 x.b1, .int .i64 x.b2, .int .i64 x.b3, .int .i64 x.b4, .int .i64 x.b5, .int .i64 x.b6, .int .i64 x.b7, .slice po x.ps.length pc, .slice lo x.ls.length lc] : Array Value) 34 (0, 0)) ∧ w'.cell? ⟨w.heap.size, 24, none⟩ = some (.slice po x.ps.length pc))) (by kernel_rfl) ?_ (fun hHeld => ?_)
  · exact ⟨B0.out, boxAt B0.out 24⟩
  refine wpAnyH_take (i := 0) (v := .agg (#[.int .i64 x.a0, .int .i64 x.a1, .int .i64 x.a2, .int .i64 x.a3, .int .i64 x.a4, .int .i64 x.a5, .int .i64 x.c0, .int .i64 x.c1, .int .i64 x.c2, .int .i64 x.c3, .int .i64 x.c4, .int .i64 x.c5, .int .i64 x.c6, .int .i64 x.c7, .int .i64 x.c8, .int .i64 x.c9, .int .i64 x.b0, .int .i64 x.b1, .int .i64 x.b2, .int .i64 x.b3, .int .i64 x.b4, .int .i64 x.b5, .int .i64 x.b6, .int .i64 x.b7, .slice po x.ps.length pc, .slice lo x.ls.length lc] : Array Value)) rfl (by kernel_rfl) (by kernel_rfl) (by kernel_rfl) (fun _ _ _ h => h) (yields_row rfl 34 (.tmp 1) rfl (w.heap.size) rfl _ (#[.int .i64 x.a0, .int .i64 x.a1, .int .i64 x.a2, .int .i64 x.a3, .int .i64 x.a4, .int .i64 x.a5, .int .i64 x.c0, .int .i64 x.c1, .int .i64 x.c2, .int .i64 x.c3, .int .i64 x.c4, .int .i64 x.c5, .int .i64 x.c6, .int .i64 x.c7, .int .i64 x.c8, .int .i64 x.c9, .int .i64 x.b0, .int .i64 x.b1, .int .i64 x.b2, .int .i64 x.b3, .int .i64 x.b4, .int .i64 x.b5, .int .i64 x.b6, .int .i64 x.b7, .slice po x.ps.length pc, .slice lo x.ls.length lc] : Array Value) _ (fun _ h => h.1) Try.underlying34 rfl infoWd) (by assumption) ?_
  simp only [Act.put, List.getElem_toArray, List.getElem_cons_zero, List.setIfInBounds_toArray, List.set_cons_zero, List.set_cons_succ]
  refine wpAnyH_take (i := 2) (v := ?v1) rfl (by kernel_rfl) (by kernel_rfl) (by kernel_rfl) (fun _ _ _ h => h) (Or.inl ⟨by rfl, ?hy1⟩) (by assumption) ?rest1
  case hy1 => ((intro w hSw; (try dsimp only at hSw); (try simp only [List.getElem_toArray, List.getElem_cons_zero, List.getElem_cons_succ]); go_simp; first | done | (with_reducible rfl)))
  simp only [Act.put, List.getElem_toArray, List.getElem_cons_zero, List.getElem_cons_succ, List.setIfInBounds_toArray, List.set_cons_zero, List.set_cons_succ]
  refine wpAnyH_take (i := 3) (v := ?v2) rfl (by kernel_rfl) (by kernel_rfl) (by kernel_rfl) (fun _ _ _ h => h) (Or.inl ⟨by rfl, ?hy2⟩) (by assumption) ?rest2
  case hy2 => ((intro w hSw; (try dsimp only at hSw); (try simp only [List.getElem_toArray, List.getElem_cons_zero, List.getElem_cons_succ]); go_simp; first | done | (with_reducible rfl)))
  simp only [Act.put, List.getElem_toArray, List.getElem_cons_zero, List.getElem_cons_succ, List.setIfInBounds_toArray, List.set_cons_zero, List.set_cons_succ]
  refine wpAnyH_take (i := 4) (v := ?v3) rfl (by kernel_rfl) (by kernel_rfl) (by kernel_rfl) (fun _ _ _ h => h) (Or.inl ⟨by rfl, ?hy3⟩) (by assumption) ?rest3
  case hy3 => ((intro w hSw; (try dsimp only at hSw); (try simp only [List.getElem_toArray, List.getElem_cons_zero, List.getElem_cons_succ]); go_simp; first | done | (with_reducible rfl)))
  simp only [Act.put, List.getElem_toArray, List.getElem_cons_zero, List.getElem_cons_succ, List.setIfInBounds_toArray, List.set_cons_zero, List.set_cons_succ]
  refine wpAnyH_ready (rs := [1, 5]) (by kernel_rfl) (by simp) ?_
  refine AllReadyH.cons rfl (fun K hK => ?_) (AllReadyH.cons rfl (fun K hK => ?_) AllReadyH.nil)
  · go_simp
    go_at_call 29
    refine (l11Nums_own x _ _ _ _ _ _ _).mono ?_
    rintro e w1 ⟨so1, rfl, o1, b1⟩
    have b1' : Below W.heap.size W w1 := bUndrew b1
    have B1 := hide (bKeeps b1' B0.out)
    refine hK.out _ _ ⟨B1.out, boxAt B1.out 24⟩ (fun hHeld => ?_)
    clear hK K
    have al := bal (Below.refl w1.heap.size w1) (.cells (intsV [(x.ps.length : Int)]).toArray 3)
    have B2 := hide (bKeeps al B1.out)
    have row := (RowA.base (.inl o1) (b' := w.heap.size) (by show w.heap.size ≤ W.heap.size; omega)).keepB al
    have zz := b1'.size
    refine wpAnyH_ready (rs := [5]) (by kernel_rfl) (by simp) ?_
    refine AllReadyH.cons rfl (fun K hK => ?_) AllReadyH.nil
    go_simp
    (skip)
    refine hK.out _ _ ?_ (fun hHeld => ?_)
    · exact ⟨B2.out, boxAt B2.out 24⟩
    clear hK K
    refine wpAnyH_ready (rs := [6]) (by kernel_rfl) (by simp) ?_
    refine AllReadyH.cons rfl (fun K hK => ?_) AllReadyH.nil
    (refine wp_appendA _ _ 50 rfl w.heap.size 3 i1 (.int .i64 0) 1 8 Try.underlying50 gi gz0 gz1 gz2 rfl (by decide) _ 24 (intsV x.nums) rfl row ⟨w1.heap.size, 0, none⟩ 1 1 (intsV [(x.ps.length : Int)]) rfl rfl (new_ints w1 _ _) (intsV_one _) (by decide) (by unfold maxLen; omega) (by omega) (by simp; omega) ?_; intro v4 w4 hown u4; obtain ⟨mo, cm, rfl⟩ := (Row.ofOwns hown (by omega)).shape; have B4 := hide (u4.keeps B2.out (typed_box B2.out (by decide) rfl)))
    refine hK.out _ _ ?_ (fun hHeld => ?_)
    · exact ⟨B4.out, boxAt B4.out 24⟩
    clear hK K
    refine wpAnyH_take (i := 7) (v := ?v4) rfl (by kernel_rfl) (by kernel_rfl) (by kernel_rfl) (fun _ _ _ h => h) (Or.inl ⟨by rfl, ?hy4⟩) (by assumption) ?rest4
    case hy4 => ((intro w hSw; (try dsimp only at hSw); (try simp only [List.getElem_toArray, List.getElem_cons_zero, List.getElem_cons_succ]); go_simp; first | done | (with_reducible rfl)))
    simp only [Act.put, List.getElem_toArray, List.getElem_cons_zero, List.getElem_cons_succ, List.setIfInBounds_toArray, List.set_cons_zero, List.set_cons_succ]
    refine wpAnyH_done (by kernel_rfl) ?_ _
    refine NoPanic.normal ?_
    have c4 : Below w.heap.size w w4 := (bAll (bAll hal b1') al).trans (u4.below (by simp; omega) (fun k h => h.1))
    clear o1 b1 b1' B1 al B2 row zz u4 B0 z0 hal
    revert hown B4 c4
    generalize w4 = V
    intro hown B4 c4
    clear hHeld
    simp only [Nat.reduceAdd] at hown ⊢
    go_wp2
    go_loopw [3, 4] (fun ov i wr => ∃ (k n : Nat) (ao : Option Addr) (ca : Nat), k ≤ x.ps.length ∧ i = .int .i64 k ∧ ov = .slice ao n ca ∧ n = 25 + k * 4 ∧ RowA wr w.heap.size 3 1 (.slice ao n ca) n (intsV (x.nums ++ ((x.ps.length : Int) :: (x.ps.take k).flatMap pnum))) ∧ Below w.heap.size w wr ∧ wr.heap[w.heap.size]? = some (.cells (#[.int .i64 x.a0, .int .i64 x.a1, .int .i64 x.a2, .int .i64 x.a3, .int .i64 x.a4, .int .i64 x.a5, .int .i64 x.c0, .int .i64 x.c1, .int .i64 x.c2, .int .i64 x.c3, .int .i64 x.c4, .int .i64 x.c5, .int .i64 x.c6, .int .i64 x.c7, .int .i64 x.c8, .int .i64 x.c9, .int .i64 x.b0, .int .i64 x.b1, .int .i64 x.b2, .int .i64 x.b3, .int .i64 x.b4, .int .i64 x.b5, .int .i64 x.b6, .int .i64 x.b7, .slice po x.ps.length pc, .slice lo x.ls.length lc] : Array Value) 34 (0, 0))) (fun _ i _ => x.ps.length - (intOf i).toNat)
    case atStart =>
      refine ⟨0, 25, mo, cm, Nat.zero_le _, rfl, rfl, rfl, .inl ?_, c4, B4.out⟩
      rw [show intsV (x.nums ++ ((x.ps.length : Int) :: (x.ps.take 0).flatMap pnum)) = intsV x.nums ++ intsV [(x.ps.length : Int)] by simp [intsV]]
      exact hown
    case round =>
      clear hown c4 B4
      obtain ⟨k, n, ao, ca, hk, rfl, rfl, hn, hrow, hbel, hbx⟩ := hrel
      have HN := hide hn
      have hn2 : n ≤ 300 := by omega
      have hzw := hbel.size
      clear hn
      by_cases hlt : k < x.ps.length
      · obtain ⟨b1, o1, hpo, hc1⟩ : ∃ b1 o1, po = some ⟨b1, o1, none⟩ ∧ ∀ j u, (pcells x.ps)[j]? = some u → w.cell? ⟨b1, o1 + j, none⟩ = some u := by
          obtain ⟨ao', cap', e, _, _, hr⟩ := A1.out
          obtain ⟨b1, o1, e2, hc⟩ := hr (by omega)
          simp only [Value.slice.injEq, true_and] at e
          exact ⟨b1, o1, e.1.trans e2, hc⟩
        subst hpo
        obtain ⟨⟨d, b, p, t⟩, hx⟩ := getAt x.ps k hlt
        obtain ⟨f0, f1, f2, f3, l1⟩ := pc_cells hc1 hx hbel
        have d24 : wr.cell? ⟨w.heap.size, 24, none⟩ = some (.slice (some ⟨b1, o1, none⟩) x.ps.length pc) := boxAt hbx 24
        have Hbx := hide hbx
        have Hx := hide hx
        have hi : (k : Int) < (x.ps.length : Int) := by omega
        have al3 := bal (bal (Below.refl wr.heap.size wr) (.cells #[.int .i64 d, .int .i64 b, .int .i64 p, .int .i64 t] 83)) (.cells (intsV [d, b, p, t]).toArray 3)
        have row3 := hrow.keepB al3
        have N3 := new_ints (wr.alloc (.cells #[.int .i64 d, .int .i64 b, .int .i64 p, .int .i64 t] 83)) [d, b, p, t] 3
        simp only [World.size_alloc] at N3
        have HN3 := hide N3
        clear hc1 hx hbx N3
        go_wp2_with (at_builtin; refine wpList_appendA _ rfl _ _ 50 rfl w.heap.size 3 i1 (.int .i64 0) 1 8 Try.underlying50 gi gz0 gz1 gz2 rfl (by decide) _ n (intsV (x.nums ++ ((x.ps.length : Int) :: (x.ps.take k).flatMap pnum))) rfl row3 ⟨wr.heap.size + 1, 0, none⟩ 4 4 (intsV [d, b, p, t]) rfl rfl HN3.out (intsV_one _) (by decide) ?q63 ?qby ?qbase ?_)
        case q63 => unfold maxLen; omega
        case qby => omega
        case qbase => first | omega | (simp; omega)
        intro v4 w4 hown u4
        obtain ⟨mo', cm', rfl⟩ := (Row.ofOwns hown (by omega)).shape
        go_wp2
        have Hb2 := bKeeps al3 Hbx.out
        go_roundw
        case rel =>
          refine ⟨k + 1, n + 4, mo', cm', by omega, by go_num, rfl, by rw [HN.out]; omega, .inl ?_, (bAll hbel al3).trans (u4.below (by first | omega | (simp; omega)) (fun k h => h.1)), u4.keeps Hb2 (typed_box Hb2 (by decide) rfl)⟩
          rw [show x.ps.take (k + 1) = x.ps.take k ++ [(d, b, p, t)] by rw [List.take_add_one, Hx.out]; rfl, List.flatMap_append, ← List.cons_append, ← List.append_assoc, intsV_append]
          exact hown
        case measure => simp [intOf]; omega
      · obtain rfl : k = x.ps.length := by omega
        rw [List.take_length] at hrow
        have hge : ¬ ((x.ps.length : Nat) : Int) < (x.ps.length : Int) := by omega
        have d24 : wr.cell? ⟨w.heap.size, 24, none⟩ = some (.slice po x.ps.length pc) := boxAt hbx 24
        have d25 : wr.cell? ⟨w.heap.size, 25, none⟩ = some (.slice lo x.ls.length lc) := boxAt hbx 25
        have al3 := bal (Below.refl wr.heap.size wr) (.cells (intsV [(x.ls.length : Int)]).toArray 3)
        have row3 := hrow.keepB al3
        have HN3 := hide (new_ints wr [(x.ls.length : Int)] 3)
        have Hb2 := hide (bKeeps al3 hbx)
        clear hbx hrow
        go_wp2_with (at_builtin; refine wpList_appendA _ rfl _ _ 50 rfl w.heap.size 3 i1 (.int .i64 0) 1 8 Try.underlying50 gi gz0 gz1 gz2 rfl (by decide) _ n (intsV (x.nums ++ ((x.ps.length : Int) :: x.ps.flatMap pnum))) rfl row3 ⟨wr.heap.size, 0, none⟩ 1 1 (intsV [(x.ls.length : Int)]) rfl rfl HN3.out (intsV_one _) (by decide) ?q63 ?qby ?qbase ?_)
        case q63 => unfold maxLen; omega
        case qby => omega
        case qbase => first | omega | (simp; omega)
        intro v4 w4 hown u4
        obtain ⟨mo', cm', rfl⟩ := (Row.ofOwns hown (by omega)).shape
        have c5 := (bAll hbel al3).trans (u4.below (by first | omega | (simp; omega)) (fun k h => h.1))
        have B5 := hide (u4.keeps Hb2.out (typed_box Hb2.out (by decide) rfl))
        clear d24 d25 al3 row3 HN3 Hb2 hbel u4 hzw
        go_wp2
        go_loopw [3, 6] (fun ov i wr => ∃ (k m : Nat) (ao : Option Addr) (ca : Nat), k ≤ x.ls.length ∧ i = .int .i64 k ∧ ov = .slice ao m ca ∧ m = n + 1 + k * 2 ∧ RowA wr w.heap.size 3 1 (.slice ao m ca) m (intsV (x.nums ++ ((x.ps.length : Int) :: x.ps.flatMap pnum) ++ ((x.ls.length : Int) :: (x.ls.take k).flatMap lnum))) ∧ Below w.heap.size w wr ∧ wr.heap[w.heap.size]? = some (.cells (#[.int .i64 x.a0, .int .i64 x.a1, .int .i64 x.a2, .int .i64 x.a3, .int .i64 x.a4, .int .i64 x.a5, .int .i64 x.c0, .int .i64 x.c1, .int .i64 x.c2, .int .i64 x.c3, .int .i64 x.c4, .int .i64 x.c5, .int .i64 x.c6, .int .i64 x.c7, .int .i64 x.c8, .int .i64 x.c9, .int .i64 x.b0, .int .i64 x.b1, .int .i64 x.b2, .int .i64 x.b3, .int .i64 x.b4, .int .i64 x.b5, .int .i64 x.b6, .int .i64 x.b7, .slice po x.ps.length pc, .slice lo x.ls.length lc] : Array Value) 34 (0, 0))) (fun _ i _ => x.ls.length - (intOf i).toNat)
        case atStart =>
          refine ⟨0, n + 1, mo', cm', Nat.zero_le _, rfl, rfl, rfl, .inl ?_, c5, B5.out⟩
          rw [intsV_append]
          exact hown
        case round =>
          clear hown c5 B5
          obtain ⟨k, m, ao, ca, hk, rfl, rfl, hm, hrow, hbel, hbx⟩ := hrel
          have HM := hide hm
          have hm2 : m ≤ 320 := by omega
          have hzw := hbel.size
          clear hm
          by_cases hlt : k < x.ls.length
          · obtain ⟨b1, o1, hpo, hc1⟩ : ∃ b1 o1, lo = some ⟨b1, o1, none⟩ ∧ ∀ j u, (lcells x.ls)[j]? = some u → w.cell? ⟨b1, o1 + j, none⟩ = some u := by
              obtain ⟨ao', cap', e, _, _, hr⟩ := A2.out
              obtain ⟨b1, o1, e2, hc⟩ := hr (by omega)
              simp only [Value.slice.injEq, true_and] at e
              exact ⟨b1, o1, e.1.trans e2, hc⟩
            subst hpo
            obtain ⟨⟨d, b⟩, hx⟩ := getAt x.ls k hlt
            obtain ⟨f0, f1, l1⟩ := lc_cells hc1 hx hbel
            have d25 : wr.cell? ⟨w.heap.size, 25, none⟩ = some (.slice (some ⟨b1, o1, none⟩) x.ls.length lc) := boxAt hbx 25
            have Hbx := hide hbx
            have Hx := hide hx
            have hi : (k : Int) < (x.ls.length : Int) := by omega
            have al3 := bal (Below.refl wr.heap.size wr) (.cells (intsV [d, b]).toArray 3)
            have al3d := bDrewB al3
            have row3 := hrow.keepB al3
            have HN3 := hide (new_ints wr [d, b] 3)
            have Hb2 := hide (bKeeps al3 Hbx.out)
            have F0 := hide f0
            have F1 := hide f1
            have zw := heap_lt Hbx.out
            clear hc1 hx hbx
            go_wp2
            refine wp_region_noPanic ?_
            refine wp_region_held_drew (S := (fun w' => w'.cell? ⟨w.heap.size, 25, none⟩ = some (.slice (some ⟨b1, o1, none⟩) x.ls.length lc) ∧ w'.cell? ⟨b1, o1 + k * 2, none⟩ = some (.int .i64 d) ∧ w'.cell? ⟨b1, o1 + k * 2 + 1, none⟩ = some (.int .i64 b))) (by kernel_rfl) ?_ (fun hHeld => ?_)
            · exact ⟨d25, F0.out, F1.out⟩
            clear f0 f1 d25
            refine wpAnyH_take (i := 0) (v := ?v5) rfl (by kernel_rfl) (by kernel_rfl) (by kernel_rfl) (fun _ _ _ h => h) (Or.inl ⟨by rfl, ?hy5⟩) (by assumption) ?rest5
            case hy5 => ((intro w hSw; (try dsimp only at hSw); (try simp only [List.getElem_toArray, List.getElem_cons_zero]); go_simp; first | done | (with_reducible rfl)))
            simp only [Act.put, List.getElem_toArray, List.getElem_cons_zero, List.setIfInBounds_toArray, List.set_cons_zero, List.set_cons_succ]
            refine wpAnyH_take (i := 1) (v := ?v6) rfl (by kernel_rfl) (by kernel_rfl) (by kernel_rfl) (fun _ _ _ h => h) (Or.inl ⟨by rfl, ?hy6⟩) (by assumption) ?rest6
            case hy6 => ((intro w hSw; (try dsimp only at hSw); (try simp only [List.getElem_toArray, List.getElem_cons_zero, List.getElem_cons_succ]); go_simp; first | done | (with_reducible rfl)))
            simp only [Act.put, List.getElem_toArray, List.getElem_cons_zero, List.getElem_cons_succ, List.setIfInBounds_toArray, List.set_cons_zero, List.set_cons_succ]
            refine wpAnyH_take (i := 2) (v := ?v7) rfl (by kernel_rfl) (by kernel_rfl) (by kernel_rfl) (fun _ _ _ h => h) (Or.inl ⟨by rfl, ?hy7⟩) (by assumption) ?rest7
            case hy7 => ((intro w hSw; (try dsimp only at hSw); (try simp only [List.getElem_toArray, List.getElem_cons_zero, List.getElem_cons_succ]); go_simp; first | done | (with_reducible rfl)))
            simp only [Act.put, List.getElem_toArray, List.getElem_cons_zero, List.getElem_cons_succ, List.setIfInBounds_toArray, List.set_cons_zero, List.set_cons_succ]
            refine wpAnyH_take (i := 3) (v := ?v8) rfl (by kernel_rfl) (by kernel_rfl) (by kernel_rfl) (fun _ _ _ h => h) (Or.inl ⟨by rfl, ?hy8⟩) (by assumption) ?rest8
            case hy8 => ((intro w hSw; (try dsimp only at hSw); (try simp only [List.getElem_toArray, List.getElem_cons_zero, List.getElem_cons_succ]); go_simp; first | done | (with_reducible rfl)))
            simp only [Act.put, List.getElem_toArray, List.getElem_cons_zero, List.getElem_cons_succ, List.setIfInBounds_toArray, List.set_cons_zero, List.set_cons_succ]
            refine wpAnyH_take (i := 4) (v := ?v9) rfl (by kernel_rfl) (by kernel_rfl) (by kernel_rfl) (fun _ _ _ h => h) (Or.inl ⟨by rfl, ?hy9⟩) (by assumption) ?rest9
            case hy9 => ((intro w hSw; (try dsimp only at hSw); (try simp only [List.getElem_toArray, List.getElem_cons_zero, List.getElem_cons_succ]); go_simp; first | done | (with_reducible rfl)))
            simp only [Act.put, List.getElem_toArray, List.getElem_cons_zero, List.getElem_cons_succ, List.setIfInBounds_toArray, List.set_cons_zero, List.set_cons_succ]
            refine wpAnyH_take (i := 5) (v := ?v10) rfl (by kernel_rfl) (by kernel_rfl) (by kernel_rfl) (fun _ _ _ h => h) (Or.inl ⟨by rfl, ?hy10⟩) (by assumption) ?rest10
            case hy10 => ((intro w hSw; (try dsimp only at hSw); (try simp only [List.getElem_toArray, List.getElem_cons_zero, List.getElem_cons_succ]); go_simp; first | done | (with_reducible rfl)))
            simp only [Act.put, List.getElem_toArray, List.getElem_cons_zero, List.getElem_cons_succ, List.setIfInBounds_toArray, List.set_cons_zero, List.set_cons_succ]
            refine wpAnyH_take (i := 6) (v := ?v11) rfl (by kernel_rfl) (by kernel_rfl) (by kernel_rfl) (fun _ _ _ h => h) (Or.inl ⟨by rfl, ?hy11⟩) (by assumption) ?rest11
            case hy11 => ((intro w hSw; (try dsimp only at hSw); (try simp only [List.getElem_toArray, List.getElem_cons_zero, List.getElem_cons_succ]); go_simp; first | done | (with_reducible rfl)))
            simp only [Act.put, List.getElem_toArray, List.getElem_cons_zero, List.getElem_cons_succ, List.setIfInBounds_toArray, List.set_cons_zero, List.set_cons_succ]
            refine wpAnyH_take (i := 7) (v := ?v12) rfl (by kernel_rfl) (by kernel_rfl) (by kernel_rfl) (fun _ _ _ h => h) (Or.inl ⟨by rfl, ?hy12⟩) (by assumption) ?rest12
            case hy12 => ((intro w hSw; (try dsimp only at hSw); (try simp only [List.getElem_toArray, List.getElem_cons_zero, List.getElem_cons_succ]); go_simp; first | done | (with_reducible rfl)))
            simp only [Act.put, List.getElem_toArray, List.getElem_cons_zero, List.getElem_cons_succ, List.setIfInBounds_toArray, List.set_cons_zero, List.set_cons_succ]
            refine wpAnyH_take (i := 8) (v := ?v13) rfl (by kernel_rfl) (by kernel_rfl) (by kernel_rfl) (fun _ _ _ h => h) (Or.inl ⟨by rfl, ?hy13⟩) (by assumption) ?rest13
            case hy13 => ((intro w hSw; (try dsimp only at hSw); (try simp only [List.getElem_toArray, List.getElem_cons_zero, List.getElem_cons_succ]); go_simp; first | done | (with_reducible rfl)))
            simp only [Act.put, List.getElem_toArray, List.getElem_cons_zero, List.getElem_cons_succ, List.setIfInBounds_toArray, List.set_cons_zero, List.set_cons_succ]
            refine wpAnyH_take (i := 9) (v := ?v14) rfl (by kernel_rfl) (by kernel_rfl) (by kernel_rfl) (fun _ _ _ h => h) (Or.inl ⟨by rfl, ?hy14⟩) (by assumption) ?rest14
            case hy14 => ((intro w hSw; (try dsimp only at hSw); (try simp only [List.getElem_toArray, List.getElem_cons_zero, List.getElem_cons_succ]); go_simp; first | done | (with_reducible rfl)))
            simp only [Act.put, List.getElem_toArray, List.getElem_cons_zero, List.getElem_cons_succ, List.setIfInBounds_toArray, List.set_cons_zero, List.set_cons_succ]
            refine wpAnyH_take (i := 10) (v := ?v15) rfl (by kernel_rfl) (by kernel_rfl) (by kernel_rfl) (fun _ _ _ h => h) (Or.inl ⟨by rfl, ?hy15⟩) (by assumption) ?rest15
            case hy15 => ((intro w hSw; (try dsimp only at hSw); (try simp only [List.getElem_toArray, List.getElem_cons_zero, List.getElem_cons_succ]); go_simp; first | done | (with_reducible rfl)))
            simp only [Act.put, List.getElem_toArray, List.getElem_cons_zero, List.getElem_cons_succ, List.setIfInBounds_toArray, List.set_cons_zero, List.set_cons_succ]
            refine wpAnyH_take (i := 11) (v := ?v16) rfl (by kernel_rfl) (by kernel_rfl) (by kernel_rfl) (fun _ _ _ h => h) (Or.inl ⟨by rfl, ?hy16⟩) (by assumption) ?rest16
            case hy16 => ((intro w hSw; (try dsimp only at hSw); (try simp only [List.getElem_toArray, List.getElem_cons_zero, List.getElem_cons_succ]); go_simp; first | done | (with_reducible rfl)))
            simp only [Act.put, List.getElem_toArray, List.getElem_cons_zero, List.getElem_cons_succ, List.setIfInBounds_toArray, List.set_cons_zero, List.set_cons_succ]
            refine wpAnyH_take (i := 12) (v := ?v17) rfl (by kernel_rfl) (by kernel_rfl) (by kernel_rfl) (fun _ _ _ h => h) (Or.inl ⟨by rfl, ?hy17⟩) (by assumption) ?rest17
            case hy17 => ((intro w hSw; (try dsimp only at hSw); (try simp only [List.getElem_toArray, List.getElem_cons_zero, List.getElem_cons_succ]); go_simp; first | done | (with_reducible rfl)))
            simp only [Act.put, List.getElem_toArray, List.getElem_cons_zero, List.getElem_cons_succ, List.setIfInBounds_toArray, List.set_cons_zero, List.set_cons_succ]
            refine wpAnyH_ready (rs := [13]) (by kernel_rfl) (by simp) ?_
            refine AllReadyH.cons rfl (fun K hK => ?_) AllReadyH.nil
            go_simp
            (skip)
            refine hK.out _ _ ?_ (fun hHeld => ?_)
            · exact ⟨boxAt Hb2.out 25, updCell (Upd.ofBelow al3d (S := fun _ => False)) F0.out (fun h => h), updCell (Upd.ofBelow al3d (S := fun _ => False)) F1.out (fun h => h)⟩
            clear hK K
            refine wpAnyH_ready (rs := [14]) (by kernel_rfl) (by simp) ?_
            refine AllReadyH.cons rfl (fun K hK => ?_) AllReadyH.nil
            (refine wp_appendA _ _ 50 rfl w.heap.size 3 i1 (.int .i64 0) 1 8 Try.underlying50 gi gz0 gz1 gz2 rfl (by decide) _ m _ rfl row3 ⟨wr.heap.size, 0, none⟩ 2 2 (intsV [d, b]) rfl rfl HN3.out (intsV_one _) (by decide) (by unfold maxLen; omega) (by omega) (by show _ ≤ (wr.alloc _).heap.size; simp; omega) ?_; intro v4 w4 hown u4; obtain ⟨mo2, cm2, rfl⟩ := (Row.ofOwns hown (by omega)).shape)
            refine hK.out _ _ ?_ (fun hHeld => ?_)
            · exact ⟨boxAt (u4.keeps Hb2.out (typed_box Hb2.out (by decide) rfl)) 25, updCell u4 (updCell (Upd.ofBelow al3d (S := fun _ => False)) F0.out (fun h => h)) (fun h => by have := h.1; omega), updCell u4 (updCell (Upd.ofBelow al3d (S := fun _ => False)) F1.out (fun h => h)) (fun h => by have := h.1; omega)⟩
            clear hK K
            refine wpAnyH_take (i := 15) (v := ?v18) rfl (by kernel_rfl) (by kernel_rfl) (by kernel_rfl) (fun _ _ _ h => h) (Or.inl ⟨by rfl, ?hy18⟩) (by assumption) ?rest18
            case hy18 => ((intro w hSw; (try dsimp only at hSw); (try simp only [List.getElem_toArray, List.getElem_cons_zero, List.getElem_cons_succ]); go_simp; first | done | (with_reducible rfl)))
            simp only [Act.put, List.getElem_toArray, List.getElem_cons_zero, List.getElem_cons_succ, List.setIfInBounds_toArray, List.set_cons_zero, List.set_cons_succ]
            refine wpAnyH_done (by kernel_rfl) ?_ _
            refine NoPanic.normal ?_
            clear hHeld
            go_wp2
            go_roundw
            case rel =>
              refine ⟨k + 1, m + 2, mo2, cm2, by omega, by go_num, rfl, by rw [HM.out]; omega, .inl ?_, (bAll hbel al3d).trans (u4.below (by show _ ≤ (wr.alloc _).heap.size; simp; omega) (fun k h => h.1)), u4.keeps Hb2.out (typed_box Hb2.out (by decide) rfl)⟩
              rw [show x.ls.take (k + 1) = x.ls.take k ++ [(d, b)] by rw [List.take_add_one, Hx.out]; rfl, List.flatMap_append, ← List.cons_append, ← List.append_assoc, intsV_append]
              exact hown
            case measure => simp [intOf]; omega
          · obtain rfl : k = x.ls.length := by omega
            rw [List.take_length] at hrow
            have hge : ¬ ((x.ls.length : Nat) : Int) < (x.ls.length : Int) := by omega
            have d25 : wr.cell? ⟨w.heap.size, 25, none⟩ = some (.slice lo x.ls.length lc) := boxAt hbx 25
            have e1 : intsV (x.nums ++ ((x.ps.length : Int) :: x.ps.flatMap pnum) ++ ((x.ls.length : Int) :: x.ls.flatMap lnum)) = (allW x).map (Value.int .i64) := by simp only [allW, allP, allL, intsV, List.append_assoc]
            have hlen : Hid (m = (allW x).length) := by show _ = _; rw [allW_len, HM.out, HN.out]; omega
            rw [e1] at hrow
            have RR := hide (hrow.row (by omega)).reads
            clear hbx hrow e1
            go_wp2
            go_ret
            exact ⟨_, _, _, rfl, hlen.out, RR.out, hbel⟩
  · go_simp
    have al := bal (Below.refl W.heap.size W) (.cells (intsV [(x.ps.length : Int)]).toArray 3)
    have B1 := hide (bKeeps al B0.out)
    refine hK.out _ _ ⟨B1.out, boxAt B1.out 24⟩ (fun hHeld => ?_)
    clear hK K
    refine wpAnyH_ready (rs := [1]) (by kernel_rfl) (by simp) ?_
    refine AllReadyH.cons rfl (fun K hK => ?_) AllReadyH.nil
    go_simp
    (go_at_call 29; refine (l11Nums_own x _ _ _ _ _ _ _).mono ?_; rintro e w1 ⟨so1, rfl, o1, b1⟩; have b1' : Below (W.alloc (.cells (intsV [(x.ps.length : Int)]).toArray 3)).heap.size (W.alloc (.cells (intsV [(x.ps.length : Int)]).toArray 3)) w1 := bUndrew b1; have B2 := hide (bKeeps b1' B1.out))
    refine hK.out _ _ ?_ (fun hHeld => ?_)
    · exact ⟨B2.out, boxAt B2.out 24⟩
    clear hK K
    have zz := b1'.size
    simp only [World.size_alloc] at zz
    have row := RowA.base (.inl o1) (b' := w.heap.size) (by show w.heap.size ≤ (W.alloc _).heap.size; simp; omega)
    have hnew : ∀ j u, (intsV [(x.ps.length : Int)])[j]? = some u → w1.cell? ((⟨W.heap.size, 0, none⟩ : Addr).add j) = some u := by
      intro j u h
      have g := new_ints W [(x.ps.length : Int)] 3 j u h
      rw [Addr.add_lit] at g ⊢
      exact (b1'.cell (p := ⟨W.heap.size, 0 + j, none⟩) (by simp)).trans g
    refine wpAnyH_ready (rs := [6]) (by kernel_rfl) (by simp) ?_
    refine AllReadyH.cons rfl (fun K hK => ?_) AllReadyH.nil
    (refine wp_appendA _ _ 50 rfl w.heap.size 3 i1 (.int .i64 0) 1 8 Try.underlying50 gi gz0 gz1 gz2 rfl (by decide) _ 24 (intsV x.nums) rfl row ⟨W.heap.size, 0, none⟩ 1 1 (intsV [(x.ps.length : Int)]) rfl rfl hnew (intsV_one _) (by decide) (by unfold maxLen; omega) (by omega) (by omega) ?_; intro v4 w4 hown u4; obtain ⟨mo, cm, rfl⟩ := (Row.ofOwns hown (by omega)).shape; have B4 := hide (u4.keeps B2.out (typed_box B2.out (by decide) rfl)))
    refine hK.out _ _ ?_ (fun hHeld => ?_)
    · exact ⟨B4.out, boxAt B4.out 24⟩
    clear hK K
    refine wpAnyH_take (i := 7) (v := ?v19) rfl (by kernel_rfl) (by kernel_rfl) (by kernel_rfl) (fun _ _ _ h => h) (Or.inl ⟨by rfl, ?hy19⟩) (by assumption) ?rest19
    case hy19 => ((intro w hSw; (try dsimp only at hSw); (try simp only [List.getElem_toArray, List.getElem_cons_zero, List.getElem_cons_succ]); go_simp; first | done | (with_reducible rfl)))
    simp only [Act.put, List.getElem_toArray, List.getElem_cons_zero, List.getElem_cons_succ, List.setIfInBounds_toArray, List.set_cons_zero, List.set_cons_succ]
    refine wpAnyH_done (by kernel_rfl) ?_ _
    refine NoPanic.normal ?_
    have c4 : Below w.heap.size w w4 := (bAll (bAll hal al) b1').trans (u4.below (by omega) (fun k h => h.1))
    clear o1 b1 b1' B1 al B2 row zz u4 B0 z0 hal hnew
    revert hown B4 c4
    generalize w4 = V
    intro hown B4 c4
    clear hHeld
    simp only [Nat.reduceAdd] at hown ⊢
    go_wp2
    go_loopw [3, 4] (fun ov i wr => ∃ (k n : Nat) (ao : Option Addr) (ca : Nat), k ≤ x.ps.length ∧ i = .int .i64 k ∧ ov = .slice ao n ca ∧ n = 25 + k * 4 ∧ RowA wr w.heap.size 3 1 (.slice ao n ca) n (intsV (x.nums ++ ((x.ps.length : Int) :: (x.ps.take k).flatMap pnum))) ∧ Below w.heap.size w wr ∧ wr.heap[w.heap.size]? = some (.cells (#[.int .i64 x.a0, .int .i64 x.a1, .int .i64 x.a2, .int .i64 x.a3, .int .i64 x.a4, .int .i64 x.a5, .int .i64 x.c0, .int .i64 x.c1, .int .i64 x.c2, .int .i64 x.c3, .int .i64 x.c4, .int .i64 x.c5, .int .i64 x.c6, .int .i64 x.c7, .int .i64 x.c8, .int .i64 x.c9, .int .i64 x.b0, .int .i64 x.b1, .int .i64 x.b2, .int .i64 x.b3, .int .i64 x.b4, .int .i64 x.b5, .int .i64 x.b6, .int .i64 x.b7, .slice po x.ps.length pc, .slice lo x.ls.length lc] : Array Value) 34 (0, 0))) (fun _ i _ => x.ps.length - (intOf i).toNat)
    case atStart =>
      refine ⟨0, 25, mo, cm, Nat.zero_le _, rfl, rfl, rfl, .inl ?_, c4, B4.out⟩
      rw [show intsV (x.nums ++ ((x.ps.length : Int) :: (x.ps.take 0).flatMap pnum)) = intsV x.nums ++ intsV [(x.ps.length : Int)] by simp [intsV]]
      exact hown
    case round =>
      clear hown c4 B4
      obtain ⟨k, n, ao, ca, hk, rfl, rfl, hn, hrow, hbel, hbx⟩ := hrel
      have HN := hide hn
      have hn2 : n ≤ 300 := by omega
      have hzw := hbel.size
      clear hn
      by_cases hlt : k < x.ps.length
      · obtain ⟨b1, o1, hpo, hc1⟩ : ∃ b1 o1, po = some ⟨b1, o1, none⟩ ∧ ∀ j u, (pcells x.ps)[j]? = some u → w.cell? ⟨b1, o1 + j, none⟩ = some u := by
          obtain ⟨ao', cap', e, _, _, hr⟩ := A1.out
          obtain ⟨b1, o1, e2, hc⟩ := hr (by omega)
          simp only [Value.slice.injEq, true_and] at e
          exact ⟨b1, o1, e.1.trans e2, hc⟩
        subst hpo
        obtain ⟨⟨d, b, p, t⟩, hx⟩ := getAt x.ps k hlt
        obtain ⟨f0, f1, f2, f3, l1⟩ := pc_cells hc1 hx hbel
        have d24 : wr.cell? ⟨w.heap.size, 24, none⟩ = some (.slice (some ⟨b1, o1, none⟩) x.ps.length pc) := boxAt hbx 24
        have Hbx := hide hbx
        have Hx := hide hx
        have hi : (k : Int) < (x.ps.length : Int) := by omega
        have al3 := bal (bal (Below.refl wr.heap.size wr) (.cells #[.int .i64 d, .int .i64 b, .int .i64 p, .int .i64 t] 83)) (.cells (intsV [d, b, p, t]).toArray 3)
        have row3 := hrow.keepB al3
        have N3 := new_ints (wr.alloc (.cells #[.int .i64 d, .int .i64 b, .int .i64 p, .int .i64 t] 83)) [d, b, p, t] 3
        simp only [World.size_alloc] at N3
        have HN3 := hide N3
        clear hc1 hx hbx N3
        go_wp2_with (at_builtin; refine wpList_appendA _ rfl _ _ 50 rfl w.heap.size 3 i1 (.int .i64 0) 1 8 Try.underlying50 gi gz0 gz1 gz2 rfl (by decide) _ n (intsV (x.nums ++ ((x.ps.length : Int) :: (x.ps.take k).flatMap pnum))) rfl row3 ⟨wr.heap.size + 1, 0, none⟩ 4 4 (intsV [d, b, p, t]) rfl rfl HN3.out (intsV_one _) (by decide) ?q63 ?qby ?qbase ?_)
        case q63 => unfold maxLen; omega
        case qby => omega
        case qbase => first | omega | (simp; omega)
        intro v4 w4 hown u4
        obtain ⟨mo', cm', rfl⟩ := (Row.ofOwns hown (by omega)).shape
        go_wp2
        have Hb2 := bKeeps al3 Hbx.out
        go_roundw
        case rel =>
          refine ⟨k + 1, n + 4, mo', cm', by omega, by go_num, rfl, by rw [HN.out]; omega, .inl ?_, (bAll hbel al3).trans (u4.below (by first | omega | (simp; omega)) (fun k h => h.1)), u4.keeps Hb2 (typed_box Hb2 (by decide) rfl)⟩
          rw [show x.ps.take (k + 1) = x.ps.take k ++ [(d, b, p, t)] by rw [List.take_add_one, Hx.out]; rfl, List.flatMap_append, ← List.cons_append, ← List.append_assoc, intsV_append]
          exact hown
        case measure => simp [intOf]; omega
      · obtain rfl : k = x.ps.length := by omega
        rw [List.take_length] at hrow
        have hge : ¬ ((x.ps.length : Nat) : Int) < (x.ps.length : Int) := by omega
        have d24 : wr.cell? ⟨w.heap.size, 24, none⟩ = some (.slice po x.ps.length pc) := boxAt hbx 24
        have d25 : wr.cell? ⟨w.heap.size, 25, none⟩ = some (.slice lo x.ls.length lc) := boxAt hbx 25
        have al3 := bal (Below.refl wr.heap.size wr) (.cells (intsV [(x.ls.length : Int)]).toArray 3)
        have row3 := hrow.keepB al3
        have HN3 := hide (new_ints wr [(x.ls.length : Int)] 3)
        have Hb2 := hide (bKeeps al3 hbx)
        clear hbx hrow
        go_wp2_with (at_builtin; refine wpList_appendA _ rfl _ _ 50 rfl w.heap.size 3 i1 (.int .i64 0) 1 8 Try.underlying50 gi gz0 gz1 gz2 rfl (by decide) _ n (intsV (x.nums ++ ((x.ps.length : Int) :: x.ps.flatMap pnum))) rfl row3 ⟨wr.heap.size, 0, none⟩ 1 1 (intsV [(x.ls.length : Int)]) rfl rfl HN3.out (intsV_one _) (by decide) ?q63 ?qby ?qbase ?_)
        case q63 => unfold maxLen; omega
        case qby => omega
        case qbase => first | omega | (simp; omega)
        intro v4 w4 hown u4
        obtain ⟨mo', cm', rfl⟩ := (Row.ofOwns hown (by omega)).shape
        have c5 := (bAll hbel al3).trans (u4.below (by first | omega | (simp; omega)) (fun k h => h.1))
        have B5 := hide (u4.keeps Hb2.out (typed_box Hb2.out (by decide) rfl))
        clear d24 d25 al3 row3 HN3 Hb2 hbel u4 hzw
        go_wp2
        go_loopw [3, 6] (fun ov i wr => ∃ (k m : Nat) (ao : Option Addr) (ca : Nat), k ≤ x.ls.length ∧ i = .int .i64 k ∧ ov = .slice ao m ca ∧ m = n + 1 + k * 2 ∧ RowA wr w.heap.size 3 1 (.slice ao m ca) m (intsV (x.nums ++ ((x.ps.length : Int) :: x.ps.flatMap pnum) ++ ((x.ls.length : Int) :: (x.ls.take k).flatMap lnum))) ∧ Below w.heap.size w wr ∧ wr.heap[w.heap.size]? = some (.cells (#[.int .i64 x.a0, .int .i64 x.a1, .int .i64 x.a2, .int .i64 x.a3, .int .i64 x.a4, .int .i64 x.a5, .int .i64 x.c0, .int .i64 x.c1, .int .i64 x.c2, .int .i64 x.c3, .int .i64 x.c4, .int .i64 x.c5, .int .i64 x.c6, .int .i64 x.c7, .int .i64 x.c8, .int .i64 x.c9, .int .i64 x.b0, .int .i64 x.b1, .int .i64 x.b2, .int .i64 x.b3, .int .i64 x.b4, .int .i64 x.b5, .int .i64 x.b6, .int .i64 x.b7, .slice po x.ps.length pc, .slice lo x.ls.length lc] : Array Value) 34 (0, 0))) (fun _ i _ => x.ls.length - (intOf i).toNat)
        case atStart =>
          refine ⟨0, n + 1, mo', cm', Nat.zero_le _, rfl, rfl, rfl, .inl ?_, c5, B5.out⟩
          rw [intsV_append]
          exact hown
        case round =>
          clear hown c5 B5
          obtain ⟨k, m, ao, ca, hk, rfl, rfl, hm, hrow, hbel, hbx⟩ := hrel
          have HM := hide hm
          have hm2 : m ≤ 320 := by omega
          have hzw := hbel.size
          clear hm
          by_cases hlt : k < x.ls.length
          · obtain ⟨b1, o1, hpo, hc1⟩ : ∃ b1 o1, lo = some ⟨b1, o1, none⟩ ∧ ∀ j u, (lcells x.ls)[j]? = some u → w.cell? ⟨b1, o1 + j, none⟩ = some u := by
              obtain ⟨ao', cap', e, _, _, hr⟩ := A2.out
              obtain ⟨b1, o1, e2, hc⟩ := hr (by omega)
              simp only [Value.slice.injEq, true_and] at e
              exact ⟨b1, o1, e.1.trans e2, hc⟩
            subst hpo
            obtain ⟨⟨d, b⟩, hx⟩ := getAt x.ls k hlt
            obtain ⟨f0, f1, l1⟩ := lc_cells hc1 hx hbel
            have d25 : wr.cell? ⟨w.heap.size, 25, none⟩ = some (.slice (some ⟨b1, o1, none⟩) x.ls.length lc) := boxAt hbx 25
            have Hbx := hide hbx
            have Hx := hide hx
            have hi : (k : Int) < (x.ls.length : Int) := by omega
            have al3 := bal (Below.refl wr.heap.size wr) (.cells (intsV [d, b]).toArray 3)
            have al3d := bDrewB al3
            have row3 := hrow.keepB al3
            have HN3 := hide (new_ints wr [d, b] 3)
            have Hb2 := hide (bKeeps al3 Hbx.out)
            have F0 := hide f0
            have F1 := hide f1
            have zw := heap_lt Hbx.out
            clear hc1 hx hbx
            go_wp2
            refine wp_region_noPanic ?_
            refine wp_region_held_drew (S := (fun w' => w'.cell? ⟨w.heap.size, 25, none⟩ = some (.slice (some ⟨b1, o1, none⟩) x.ls.length lc) ∧ w'.cell? ⟨b1, o1 + k * 2, none⟩ = some (.int .i64 d) ∧ w'.cell? ⟨b1, o1 + k * 2 + 1, none⟩ = some (.int .i64 b))) (by kernel_rfl) ?_ (fun hHeld => ?_)
            · exact ⟨d25, F0.out, F1.out⟩
            clear f0 f1 d25
            refine wpAnyH_take (i := 0) (v := ?v20) rfl (by kernel_rfl) (by kernel_rfl) (by kernel_rfl) (fun _ _ _ h => h) (Or.inl ⟨by rfl, ?hy20⟩) (by assumption) ?rest20
            case hy20 => ((intro w hSw; (try dsimp only at hSw); (try simp only [List.getElem_toArray, List.getElem_cons_zero]); go_simp; first | done | (with_reducible rfl)))
            simp only [Act.put, List.getElem_toArray, List.getElem_cons_zero, List.setIfInBounds_toArray, List.set_cons_zero, List.set_cons_succ]
            refine wpAnyH_take (i := 1) (v := ?v21) rfl (by kernel_rfl) (by kernel_rfl) (by kernel_rfl) (fun _ _ _ h => h) (Or.inl ⟨by rfl, ?hy21⟩) (by assumption) ?rest21
            case hy21 => ((intro w hSw; (try dsimp only at hSw); (try simp only [List.getElem_toArray, List.getElem_cons_zero, List.getElem_cons_succ]); go_simp; first | done | (with_reducible rfl)))
            simp only [Act.put, List.getElem_toArray, List.getElem_cons_zero, List.getElem_cons_succ, List.setIfInBounds_toArray, List.set_cons_zero, List.set_cons_succ]
            refine wpAnyH_take (i := 2) (v := ?v22) rfl (by kernel_rfl) (by kernel_rfl) (by kernel_rfl) (fun _ _ _ h => h) (Or.inl ⟨by rfl, ?hy22⟩) (by assumption) ?rest22
            case hy22 => ((intro w hSw; (try dsimp only at hSw); (try simp only [List.getElem_toArray, List.getElem_cons_zero, List.getElem_cons_succ]); go_simp; first | done | (with_reducible rfl)))
            simp only [Act.put, List.getElem_toArray, List.getElem_cons_zero, List.getElem_cons_succ, List.setIfInBounds_toArray, List.set_cons_zero, List.set_cons_succ]
            refine wpAnyH_take (i := 3) (v := ?v23) rfl (by kernel_rfl) (by kernel_rfl) (by kernel_rfl) (fun _ _ _ h => h) (Or.inl ⟨by rfl, ?hy23⟩) (by assumption) ?rest23
            case hy23 => ((intro w hSw; (try dsimp only at hSw); (try simp only [List.getElem_toArray, List.getElem_cons_zero, List.getElem_cons_succ]); go_simp; first | done | (with_reducible rfl)))
            simp only [Act.put, List.getElem_toArray, List.getElem_cons_zero, List.getElem_cons_succ, List.setIfInBounds_toArray, List.set_cons_zero, List.set_cons_succ]
            refine wpAnyH_take (i := 4) (v := ?v24) rfl (by kernel_rfl) (by kernel_rfl) (by kernel_rfl) (fun _ _ _ h => h) (Or.inl ⟨by rfl, ?hy24⟩) (by assumption) ?rest24
            case hy24 => ((intro w hSw; (try dsimp only at hSw); (try simp only [List.getElem_toArray, List.getElem_cons_zero, List.getElem_cons_succ]); go_simp; first | done | (with_reducible rfl)))
            simp only [Act.put, List.getElem_toArray, List.getElem_cons_zero, List.getElem_cons_succ, List.setIfInBounds_toArray, List.set_cons_zero, List.set_cons_succ]
            refine wpAnyH_take (i := 5) (v := ?v25) rfl (by kernel_rfl) (by kernel_rfl) (by kernel_rfl) (fun _ _ _ h => h) (Or.inl ⟨by rfl, ?hy25⟩) (by assumption) ?rest25
            case hy25 => ((intro w hSw; (try dsimp only at hSw); (try simp only [List.getElem_toArray, List.getElem_cons_zero, List.getElem_cons_succ]); go_simp; first | done | (with_reducible rfl)))
            simp only [Act.put, List.getElem_toArray, List.getElem_cons_zero, List.getElem_cons_succ, List.setIfInBounds_toArray, List.set_cons_zero, List.set_cons_succ]
            refine wpAnyH_take (i := 6) (v := ?v26) rfl (by kernel_rfl) (by kernel_rfl) (by kernel_rfl) (fun _ _ _ h => h) (Or.inl ⟨by rfl, ?hy26⟩) (by assumption) ?rest26
            case hy26 => ((intro w hSw; (try dsimp only at hSw); (try simp only [List.getElem_toArray, List.getElem_cons_zero, List.getElem_cons_succ]); go_simp; first | done | (with_reducible rfl)))
            simp only [Act.put, List.getElem_toArray, List.getElem_cons_zero, List.getElem_cons_succ, List.setIfInBounds_toArray, List.set_cons_zero, List.set_cons_succ]
            refine wpAnyH_take (i := 7) (v := ?v27) rfl (by kernel_rfl) (by kernel_rfl) (by kernel_rfl) (fun _ _ _ h => h) (Or.inl ⟨by rfl, ?hy27⟩) (by assumption) ?rest27
            case hy27 => ((intro w hSw; (try dsimp only at hSw); (try simp only [List.getElem_toArray, List.getElem_cons_zero, List.getElem_cons_succ]); go_simp; first | done | (with_reducible rfl)))
            simp only [Act.put, List.getElem_toArray, List.getElem_cons_zero, List.getElem_cons_succ, List.setIfInBounds_toArray, List.set_cons_zero, List.set_cons_succ]
            refine wpAnyH_take (i := 8) (v := ?v28) rfl (by kernel_rfl) (by kernel_rfl) (by kernel_rfl) (fun _ _ _ h => h) (Or.inl ⟨by rfl, ?hy28⟩) (by assumption) ?rest28
            case hy28 => ((intro w hSw; (try dsimp only at hSw); (try simp only [List.getElem_toArray, List.getElem_cons_zero, List.getElem_cons_succ]); go_simp; first | done | (with_reducible rfl)))
            simp only [Act.put, List.getElem_toArray, List.getElem_cons_zero, List.getElem_cons_succ, List.setIfInBounds_toArray, List.set_cons_zero, List.set_cons_succ]
            refine wpAnyH_take (i := 9) (v := ?v29) rfl (by kernel_rfl) (by kernel_rfl) (by kernel_rfl) (fun _ _ _ h => h) (Or.inl ⟨by rfl, ?hy29⟩) (by assumption) ?rest29
            case hy29 => ((intro w hSw; (try dsimp only at hSw); (try simp only [List.getElem_toArray, List.getElem_cons_zero, List.getElem_cons_succ]); go_simp; first | done | (with_reducible rfl)))
            simp only [Act.put, List.getElem_toArray, List.getElem_cons_zero, List.getElem_cons_succ, List.setIfInBounds_toArray, List.set_cons_zero, List.set_cons_succ]
            refine wpAnyH_take (i := 10) (v := ?v30) rfl (by kernel_rfl) (by kernel_rfl) (by kernel_rfl) (fun _ _ _ h => h) (Or.inl ⟨by rfl, ?hy30⟩) (by assumption) ?rest30
            case hy30 => ((intro w hSw; (try dsimp only at hSw); (try simp only [List.getElem_toArray, List.getElem_cons_zero, List.getElem_cons_succ]); go_simp; first | done | (with_reducible rfl)))
            simp only [Act.put, List.getElem_toArray, List.getElem_cons_zero, List.getElem_cons_succ, List.setIfInBounds_toArray, List.set_cons_zero, List.set_cons_succ]
            refine wpAnyH_take (i := 11) (v := ?v31) rfl (by kernel_rfl) (by kernel_rfl) (by kernel_rfl) (fun _ _ _ h => h) (Or.inl ⟨by rfl, ?hy31⟩) (by assumption) ?rest31
            case hy31 => ((intro w hSw; (try dsimp only at hSw); (try simp only [List.getElem_toArray, List.getElem_cons_zero, List.getElem_cons_succ]); go_simp; first | done | (with_reducible rfl)))
            simp only [Act.put, List.getElem_toArray, List.getElem_cons_zero, List.getElem_cons_succ, List.setIfInBounds_toArray, List.set_cons_zero, List.set_cons_succ]
            refine wpAnyH_take (i := 12) (v := ?v32) rfl (by kernel_rfl) (by kernel_rfl) (by kernel_rfl) (fun _ _ _ h => h) (Or.inl ⟨by rfl, ?hy32⟩) (by assumption) ?rest32
            case hy32 => ((intro w hSw; (try dsimp only at hSw); (try simp only [List.getElem_toArray, List.getElem_cons_zero, List.getElem_cons_succ]); go_simp; first | done | (with_reducible rfl)))
            simp only [Act.put, List.getElem_toArray, List.getElem_cons_zero, List.getElem_cons_succ, List.setIfInBounds_toArray, List.set_cons_zero, List.set_cons_succ]
            refine wpAnyH_ready (rs := [13]) (by kernel_rfl) (by simp) ?_
            refine AllReadyH.cons rfl (fun K hK => ?_) AllReadyH.nil
            go_simp
            (skip)
            refine hK.out _ _ ?_ (fun hHeld => ?_)
            · exact ⟨boxAt Hb2.out 25, updCell (Upd.ofBelow al3d (S := fun _ => False)) F0.out (fun h => h), updCell (Upd.ofBelow al3d (S := fun _ => False)) F1.out (fun h => h)⟩
            clear hK K
            refine wpAnyH_ready (rs := [14]) (by kernel_rfl) (by simp) ?_
            refine AllReadyH.cons rfl (fun K hK => ?_) AllReadyH.nil
            (refine wp_appendA _ _ 50 rfl w.heap.size 3 i1 (.int .i64 0) 1 8 Try.underlying50 gi gz0 gz1 gz2 rfl (by decide) _ m _ rfl row3 ⟨wr.heap.size, 0, none⟩ 2 2 (intsV [d, b]) rfl rfl HN3.out (intsV_one _) (by decide) (by unfold maxLen; omega) (by omega) (by show _ ≤ (wr.alloc _).heap.size; simp; omega) ?_; intro v4 w4 hown u4; obtain ⟨mo2, cm2, rfl⟩ := (Row.ofOwns hown (by omega)).shape)
            refine hK.out _ _ ?_ (fun hHeld => ?_)
            · exact ⟨boxAt (u4.keeps Hb2.out (typed_box Hb2.out (by decide) rfl)) 25, updCell u4 (updCell (Upd.ofBelow al3d (S := fun _ => False)) F0.out (fun h => h)) (fun h => by have := h.1; omega), updCell u4 (updCell (Upd.ofBelow al3d (S := fun _ => False)) F1.out (fun h => h)) (fun h => by have := h.1; omega)⟩
            clear hK K
            refine wpAnyH_take (i := 15) (v := ?v33) rfl (by kernel_rfl) (by kernel_rfl) (by kernel_rfl) (fun _ _ _ h => h) (Or.inl ⟨by rfl, ?hy33⟩) (by assumption) ?rest33
            case hy33 => ((intro w hSw; (try dsimp only at hSw); (try simp only [List.getElem_toArray, List.getElem_cons_zero, List.getElem_cons_succ]); go_simp; first | done | (with_reducible rfl)))
            simp only [Act.put, List.getElem_toArray, List.getElem_cons_zero, List.getElem_cons_succ, List.setIfInBounds_toArray, List.set_cons_zero, List.set_cons_succ]
            refine wpAnyH_done (by kernel_rfl) ?_ _
            refine NoPanic.normal ?_
            clear hHeld
            go_wp2
            go_roundw
            case rel =>
              refine ⟨k + 1, m + 2, mo2, cm2, by omega, by go_num, rfl, by rw [HM.out]; omega, .inl ?_, (bAll hbel al3d).trans (u4.below (by show _ ≤ (wr.alloc _).heap.size; simp; omega) (fun k h => h.1)), u4.keeps Hb2.out (typed_box Hb2.out (by decide) rfl)⟩
              rw [show x.ls.take (k + 1) = x.ls.take k ++ [(d, b)] by rw [List.take_add_one, Hx.out]; rfl, List.flatMap_append, ← List.cons_append, ← List.append_assoc, intsV_append]
              exact hown
            case measure => simp [intOf]; omega
          · obtain rfl : k = x.ls.length := by omega
            rw [List.take_length] at hrow
            have hge : ¬ ((x.ls.length : Nat) : Int) < (x.ls.length : Int) := by omega
            have d25 : wr.cell? ⟨w.heap.size, 25, none⟩ = some (.slice lo x.ls.length lc) := boxAt hbx 25
            have e1 : intsV (x.nums ++ ((x.ps.length : Int) :: x.ps.flatMap pnum) ++ ((x.ls.length : Int) :: x.ls.flatMap lnum)) = (allW x).map (Value.int .i64) := by simp only [allW, allP, allL, intsV, List.append_assoc]
            have hlen : Hid (m = (allW x).length) := by show _ = _; rw [allW_len, HM.out, HN.out]; omega
            rw [e1] at hrow
            have RR := hide (hrow.row (by omega)).reads
            clear hbx hrow e1
            go_wp2
            go_ret
            exact ⟨_, _, _, rfl, hlen.out, RR.out, hbel⟩

end Go.Proofs.Ytdnojnkcmncffaa
