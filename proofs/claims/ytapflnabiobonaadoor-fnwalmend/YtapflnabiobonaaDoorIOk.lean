/- What SecOk of the program does: contracts; no statement of the seat is proved here. -/
import Derived.Test.YtapflnabiobonaaDoorTold
import Derived.Test.YtapflnabiobonaaDoorR
namespace Go.Proofs.YtapflnabiobonaaDoor
open Go.RowKit Go.Shelf

attribute [local go_sem] Oper.semAt_some

theorem has_any (ao : Option Addr) (n cap : Nat) (a : Int) (w : World) (_hn : n ≤ 9223372036854775807) :
    Calls Tryd.prog 64 #[.agg #[.slice ao n cap], .int .i64 a] w fun e w' => e = .returned (.bool (inB a 0 ((n : Int) - 1))) ∧ Below w.heap.size w w' := by
  have hal : Below w.heap.size w (w.alloc (.cells #[.slice ao n cap] 66)) := (Below.refl _ _).alloc (Nat.le_refl _) _
  by_cases h1 : 0 ≤ a
  · by_cases h2 : a < n
    · have : inB a 0 ((n : Int) - 1) = true := by simp [inB]; omega
      rw [this]
      clear this
      go_enter Tryd.func64, Tryd.ntmps64
      go_wp2
      go_ret
      exact ⟨rfl, hal⟩
    · have : inB a 0 ((n : Int) - 1) = false := by simp [inB]; omega
      rw [this]
      clear this
      go_enter Tryd.func64, Tryd.ntmps64
      go_wp2
      go_ret
      exact ⟨rfl, hal⟩
  · have : inB a 0 ((n : Int) - 1) = false := by simp [inB]; omega
    rw [this]
    clear this
    go_enter Tryd.func64, Tryd.ntmps64
    go_wp2
    go_ret
    exact ⟨rfl, hal⟩

set_option maxHeartbeats 400000 in
theorem fits_any (ao : Option Addr) (n cap : Nat) (a : Int) (s : ByteArray) (w : World) (hn : n ≤ 9223372036854775807) (hs : s.size ≤ 9223372036854775807) :
    Calls Tryd.prog 86 #[.agg #[.slice ao n cap], .agg #[.int .i64 a, .string s]] w fun e w' => e = .returned (.bool (writeOkB n (a, s))) ∧ Below w.heap.size w w' := by
  have hal : Below w.heap.size w ((w.alloc (.cells #[.slice ao n cap] 66)).alloc (.cells #[.int .i64 a, .string s] 63)) := ((Below.refl _ _).alloc (Nat.le_refl _) _).alloc (by simp) _
  have B1 := al2_1 w (.cells #[.slice ao n cap] 66) (.cells #[.int .i64 a, .string s] 63)
  have H1 := hide B1
  clear B1
  go_enter Tryd.func86, Tryd.ntmps86
  go_wp2_with fail
  refine (has_any ao n cap a _ hn).mono ?_
  rintro e w1 ⟨rfl, b1⟩
  obtain ⟨c0, c1, cl⟩ := box2 (bKeeps b1 H1.out)
  cases h1 : inB a 0 ((n : Int) - 1)
  · have : writeOkB n (a, s) = false := by simp [writeOkB, h1]
    have Hx := hide this
    clear this
    go_wp2
    go_ret
    exact ⟨by rw [Hx.out]; rfl, bAll hal b1⟩
  · by_cases h2 : (s.size : Int) ≤ 16
    · have : writeOkB n (a, s) = true := by simp [writeOkB, h1]; omega
      have Hx := hide this
      clear this
      go_wp2
      go_ret
      exact ⟨by rw [Hx.out]; rfl, bAll hal b1⟩
    · have : writeOkB n (a, s) = false := by simp [writeOkB, h1]; omega
      have Hx := hide this
      clear this
      go_wp2
      go_ret
      exact ⟨by rw [Hx.out]; simp; omega, bAll hal b1⟩

theorem secSeen_any (ao bo : Option Addr) (n cap m cap' : Nat) (w : World) :
    Calls Tryd.prog 62 #[.agg #[.slice ao n cap, .slice bo m cap']] w fun e w' => e = .returned (.agg #[.slice ao n cap, .slice bo m cap']) ∧ Below w.heap.size w w' := by
  go_enter Tryd.func62, Tryd.ntmps62
  go_wp2
  exact bodyPost_ret (v := .agg #[.slice ao n cap, .slice bo m cap']) (by simp [results, Tryd.results62, go_sem]) rfl ⟨rfl, ((Below.refl _ _).alloc (Nat.le_refl _) _).alloc (by simp) _⟩

set_option maxRecDepth 100000 in
set_option maxHeartbeats 4000000 in
theorem stateOk_in (kept : List ByteArray) (wait : List (Int × ByteArray)) (ao bo : Option Addr) (ca cb : Nat) (w : World)
    (a1 : RowR w 1 (.slice ao kept.length ca) kept.length (kept.map Value.string)) (a2 : RowR w 2 (.slice bo wait.length cb) wait.length (wcells wait))
    (hs : ∀ s ∈ kept, s.size ≤ 9223372036854775807) (hs' : ∀ s ∈ wait, s.2.size ≤ 9223372036854775807) (h1 : kept.length ≤ 512) (h2 : wait.length ≤ 600) :
    CallsIn Fence.wide 9 Tryd.prog 63 #[.agg #[.slice ao kept.length ca, .slice bo wait.length cb]] w fun e w' => e = .returned (.bool (okB kept wait)) ∧ Below w.heap.size w w' := by
  have Hs := hide hs
  have Hs' := hide hs'
  clear hs hs'
  refine callsIn_of_wp_marks Tryd.func63 rfl trivial ?_ rfl
  simp only [ Tryd.ntmps63, List.size_toArray, List.length_cons, List.length_nil, Nat.reduceAdd, Nat.reduceSub, Array.replicate_succ, Array.replicate_zero, List.push_toArray, List.append_toArray, List.nil_append, List.cons_append]
  have hal : Below w.heap.size w ((w.alloc (.cells #[.slice ao kept.length ca, .slice bo wait.length cb] 94)).alloc (.cells #[.bool false] 4)) := ((Below.refl _ _).alloc (Nat.le_refl _) _).alloc (by simp) _
  have HB0 := hide (al2_0 w (.cells #[.slice ao kept.length ca, .slice bo wait.length cb] 94) (.cells #[.bool false] 4))
  have HB1 := hide (al2_1 w (.cells #[.slice ao kept.length ca, .slice bo wait.length cb] 94) (.cells #[.bool false] 4))
  obtain ⟨ao', ca', e1, hn1, hl1, b1⟩ := a1
  simp only [Value.slice.injEq, true_and] at e1
  obtain ⟨rfl, rfl⟩ := e1
  clear hl1
  gi_wp2
  gi_loopw [23] (fun i wr => ∃ k : Nat, k ≤ kept.length ∧ i = .int .i64 k ∧ (∀ j s, j < k → kept[j]? = some s → s.size ≤ 16) ∧ wr.heap[w.heap.size]? = some (.cells #[.slice ao kept.length ca, .slice bo wait.length cb] 94 (0, 0)) ∧ wr.heap[w.heap.size + 1]? = some (.cells #[.bool false] 4 (0, 0)) ∧ Below w.heap.size w wr) (fun i _ => kept.length - (intOf i).toNat)
  case atStart => exact ⟨0, Nat.zero_le _, rfl, fun j s hj => by omega, HB0.out, HB1.out, hal⟩
  case round =>
    obtain ⟨k, hk, rfl, hok, hbox, hres, hbel⟩ := hrel
    have Hok := hide hok
    obtain ⟨c0, c1, cl⟩ := box2 hbox
    have Hbox := hide hbox
    have r0 : wr.cell? ⟨w.heap.size + 1, 0, none⟩ = some (.bool false) := (cell_of_row wr _ 0 _ _ (0, 0) hres).trans rfl
    have r1 : wr.frozen? ⟨w.heap.size + 1, 0, none⟩ = false := frozen_of_row wr _ 0 _ _ hres
    have Hres := hide hres
    clear hok hbox hres
    by_cases hlt : k < kept.length
    · obtain ⟨b2, o1, rfl, hc1⟩ := b1 (by omega)
      obtain ⟨s, hsk⟩ := getAt kept k hlt
      have Hsk := hide hsk
      have g1 := hc1 k (.string s) (by simp [hsk])
      have hsz : s.size ≤ 9223372036854775807 := Hs.out s (List.mem_of_getElem? hsk)
      have f1 : wr.cell? ⟨b2, o1 + k, none⟩ = some (.string s) := (hbel.cell (p := ⟨b2, o1 + k, none⟩) (World.block_lt_of_cell? w _ g1)).trans g1
      have hi : (k : Int) < (kept.length : Int) := by omega
      clear b1 hc1 hsk g1
      by_cases h16 : s.size ≤ 16
      · gi_wp2
        go_roundw
        case rel =>
          refine ⟨k + 1, by omega, by go_num, fun j t hj ht => ?_, Hbox.out, Hres.out, hbel⟩
          by_cases hjk : j = k
          · subst hjk
            rw [Hsk.out] at ht
            rw [← Option.some.inj ht]
            exact h16
          · exact Hok.out j t (by omega) ht
        case measure => simp [intOf]; omega
      · have Hx : Hid (okB kept wait = false) := by
          have : kept.all (fun s => decide (s.size ≤ 16)) = false := by
            rw [List.all_eq_false]
            exact ⟨s, List.mem_of_getElem? Hsk.out, by simpa using h16⟩
          show _ = false
          simp [okB, this]
        have r2 : (wr.setCell ⟨w.heap.size + 1, 0, none⟩ (.bool false)).cell? ⟨w.heap.size + 1, 0, none⟩ = some (.bool false) := World.cell?_setCell_same _ _ _ r0
        gi_wp2
        refine ⟨.bool false, by simp [results, Tryd.results63, go_sem, r2], by rw [Hx.out], hbel.setCell (p := ⟨w.heap.size + 1, 0, none⟩) (by show _ ≤ w.heap.size + 1; omega) _⟩
    · obtain rfl : k = kept.length := by omega
      have HK : Hid (kept.all (fun s => decide (s.size ≤ 16)) = true) := by
        show _ = true
        rw [List.all_eq_true]
        intro s hs
        obtain ⟨j, hj, rfl⟩ := List.getElem_of_mem hs
        simpa using Hok.out j _ hj (by simp [hj])
      clear Hok b1 hk hlt HB0 HB1
      gi_wp2_with fail
      refine ⟨trivial, ?_⟩
      refine (told_in Fence.wide 8 trivial rfl bo wait.length cb wr).mono ?_
      rintro e w' ⟨rfl, rfl⟩
      obtain ⟨bo', cb', e2, hn2, hl2, q2⟩ := a2
      simp only [Value.slice.injEq, true_and] at e2
      obtain ⟨rfl, rfl⟩ := e2
      clear hl2
      obtain ⟨W0, hW0⟩ : ∃ W0, W0 = wr.alloc (.cells #[.slice bo wait.length cb] 92) := ⟨_, rfl⟩
      have hbW : Below wr.heap.size wr W0 := by rw [hW0]; exact (Below.refl _ _).alloc (Nat.le_refl _) _
      have hBs : W0.heap[wr.heap.size]? = some (.cells #[.slice bo wait.length cb] 92 (0, 0)) := by rw [hW0]; exact al1_0 wr _
      have hsz : W0.heap.size = wr.heap.size + 1 := by rw [hW0]; simp
      rw [← hW0]
      clear hW0
      have hbel0 := bAll hbel hbW
      have hbox0 := bKeeps hbW Hbox.out
      have hres0 := bKeeps hbW Hres.out
      obtain ⟨b, off, hbl, hao, hcs⟩ : ∃ b off, b < W0.heap.size ∧ (0 < wait.length → bo = some ⟨b, off, none⟩) ∧ ∀ j u, (wcells wait)[j]? = some u → W0.cell? ⟨b, off + j, none⟩ = some u := by
        by_cases h0 : 0 < wait.length
        · obtain ⟨b, off, e, hc⟩ := q2 h0
          have hc' : ∀ j u, (wcells wait)[j]? = some u → W0.cell? ⟨b, off + j, none⟩ = some u := fun j u hj => (hbel0.cell (p := ⟨b, off + j, none⟩) (World.block_lt_of_cell? w _ (hc j u hj))).trans (hc j u hj)
          refine ⟨b, off, ?_, fun _ => e, hc'⟩
          obtain ⟨x, hx⟩ := getAt wait 0 h0
          exact World.block_lt_of_cell? W0 _ (hc' _ _ (wcells_at wait 0 x hx).1)
        · refine ⟨w.heap.size, 0, heap_lt hbox0, fun h => by omega, fun j u hj => ?_⟩
          have : wait = [] := List.eq_nil_of_length_eq_zero (by omega)
          subst this
          simp [wcells] at hj
      clear c0 c1 cl r0 r1 Hbox Hres
      have Hcs := hide hcs
      have Hao := hide hao
      clear hcs hao q2 hal
      gi_wp2_with fail
      refine range_boxed rfl (by omega) (gf := 100) (lb := #[.pointer (some ⟨wr.heap.size, 0, none⟩)]) rfl trivial (enters_of Tryd.func100 (by kernel_rfl) rfl)
        (told_stops Fence.wide (9 - 1) trivial rfl (by omega) wr.heap.size b off cb bo wait W0 hn2 Hao.out hBs Hcs.out) kpB_t (kpB_b hbl) (Below.refl _ _) (fun _ => rfl)
        (fun pre W => ((∀ j ∈ pre, writeOkB kept.length (wAt wait j) = true) ∧ W.heap[w.heap.size]? = some (.cells #[.slice ao kept.length ca, .slice bo wait.length cb] 94 (0, 0)) ∧ W.heap[w.heap.size + 1]? = some (.cells #[.bool false] 4 (0, 0))) ∧ (Below w.heap.size w W ∧ W0.heap.size ≤ W.heap.size))
        (fun c pre W => (c = .ret ∧ (∃ ini x, pre = ini ++ [x] ∧ writeOkB kept.length (wAt wait x) = false) ∧ W.heap[w.heap.size + 1]? = some (.cells #[.bool false] 4 (0, 0))) ∧ Below w.heap.size w W)
        ?hI ?hIx ?h0 ?hIs ?hKa 6 63 (fun x => #[.int .i64 (wAt wait x).1, .string (wAt wait x).2]) ?assign ?body ?done ?stop
      case hI => exact OwnFrom.and (OwnFrom.and (own_pure _ _) (OwnFrom.and (own_cells _ _ _ _) (own_cells _ _ _ _))) (OwnFrom.and (ownFrom_below (Nat.le_refl _) (by have := hbel0.size; omega)) (own_size _ _))
      case hIx => exact fun c => OwnFrom.and (OwnFrom.and (own_pure _ _) (OwnFrom.and (own_pure _ _) (own_cells _ _ _ _))) (ownFrom_below (Nat.le_refl _) (by have := hbel0.size; omega))
      case h0 => exact ⟨⟨by simp, hbox0, hres0⟩, hbel0, Nat.le_refl _⟩
      case hIs => exact fun pre W h => h.2.2
      case hKa => exact fun pre W o h => Below.heap_alloc W o b (by have := h.2.2; omega)
      case assign =>
        intro l pre x W K hi hK
        obtain ⟨a, s, hx⟩ : ∃ a s, wAt wait x = (a, s) := ⟨_, _, rfl⟩
        rw [wEnc_eq hx] at hK ⊢
        simp only [hx] at hK
        rw [roundTmps_two] at hK
        clear hi hbox0 hres0 hBs
        gi_wp2
        exact hK
      case body =>
        rintro l pre x Bx W hl hBx hxb ⟨⟨hok, hbox, hres⟩, hbel, hsW⟩ hN
        have hsz := wAt_size Hs'.out x
        obtain ⟨a, s, hx⟩ : ∃ a s, wAt wait x = (a, s) := ⟨_, _, rfl⟩
        rw [wEnc_eq hx]
        simp only [hx] at hxb hsz
        obtain ⟨x0, x1, xl⟩ := box2 hxb
        obtain ⟨c0, c1, cl⟩ := box2 hbox
        have r0 : W.cell? ⟨w.heap.size + 1, 0, none⟩ = some (.bool false) := (cell_of_row W _ 0 _ _ (0, 0) hres).trans rfl
        have r1 : W.frozen? ⟨w.heap.size + 1, 0, none⟩ = false := frozen_of_row W _ 0 _ _ hres
        have Hbox := hide hbox
        have Hres := hide hres
        have Hok := hide hok
        have Hx := hide hx
        clear hbox hres hok hxb hx hbox0 hres0 hBs
        rw [roundTmps_two]
        gi_wp2_with fail
        refine ⟨trivial, ?_⟩
        refine (CallsIn.inRound l (callsIn_wide.2 (fits_any ao kept.length ca a s W hn1 hsz))).mono ?_
        rintro e W1 ⟨rfl, b1⟩
        have hres1 := bKeeps b1 Hres.out
        have r2 : W1.cell? ⟨w.heap.size + 1, 0, none⟩ = some (.bool false) := (cell_of_row W1 _ 0 _ _ (0, 0) hres1).trans rfl
        have r3 : W1.frozen? ⟨w.heap.size + 1, 0, none⟩ = false := frozen_of_row W1 _ 0 _ _ hres1
        have Hres1 := hide hres1
        clear hres1
        have k1 : KeepsFrom W0.heap.size W W1 := ⟨b1.size, fun k o _ hk _ => bKeeps b1 hk⟩
        cases hwo : writeOkB kept.length (a, s)
        · gi_wp2
          have hg := row_set (j := 0) (.bool false) Hres1.out
          refine ⟨k1.trans ((KeepsOthers.setCell _ _ _).from _), ⟨rfl, ⟨pre, x, rfl, by rw [Hx.out]; exact hwo⟩, hg⟩, (bAll hbel b1).setCell (p := ⟨w.heap.size + 1, 0, none⟩) (by show _ ≤ w.heap.size + 1; omega) _⟩
        · gi_wp2
          refine ⟨k1, b1.block b (by omega), ⟨fun j hj => ?_, bKeeps b1 Hbox.out, Hres1.out⟩, bAll hbel b1, Nat.le_trans hsW b1.size⟩
          rcases List.mem_append.1 hj with h | h
          · exact Hok.out j h
          · obtain rfl : j = x := by simpa using h
            rw [Hx.out]
            exact hwo
      case done =>
        rintro D ys W hD rfl ⟨⟨hok, hbox, hres⟩, hbel, hsW⟩ hK
        have r2 : W.cell? ⟨w.heap.size + 1, 0, none⟩ = some (.bool false) := (cell_of_row W _ 0 _ _ (0, 0) hres).trans rfl
        have r3 : W.frozen? ⟨w.heap.size + 1, 0, none⟩ = false := frozen_of_row W _ 0 _ _ hres
        have Hok := hide hok
        have HKD := hide hK
        have Hres := hide hres
        clear hok hbox hres hK hbox0 hres0 hBs
        gi_wp2
        have hK' := (KeepsOthers.setCell W ⟨w.heap.size + 1, 0, none⟩ (.bool true)).same D _ HKD.out rfl
        refine ⟨by simp, .inl ⟨_, _, rfl, run_takeDeferred hK', ?_⟩⟩
        have hc5 := cell_kept (World.cell?_setCell_same' W ⟨w.heap.size + 1, 0, none⟩ (.bool true) (by rw [r2]; rfl)) (grownBy_putObj' _ D (.deferred none)) (fun r e => by cases e; exact ⟨_, hK', rfl⟩)
        have hb : okB kept wait = true := by
          have : wait.all (writeOkB kept.length) = true := by
            rw [List.all_eq_true]
            intro s hs
            obtain ⟨j, hj, rfl⟩ := List.getElem_of_mem hs
            have := Hok.out j (by simpa using hj)
            simpa [wAt, hj] using this
          simp only [okB, this, HK.out, h1, h2, decide_true, Bool.and_self]
        refine ⟨.bool true, by simp [results, Tryd.results63, go_sem, hc5], by rw [hb], ?_⟩
        exact (hbel.setCell (p := ⟨w.heap.size + 1, 0, none⟩) (by show _ ≤ w.heap.size + 1; omega) _).trans (belowK_b (w := W0) (by have := hbel0.size; omega) _ D _ _ hD hK' rfl rfl)
      case stop =>
        rintro D c pre W hD ⟨k, hk, rfl⟩ ⟨⟨rfl, ⟨ini, x, e1, hwo⟩, hres⟩, hbel⟩ hK
        have HKD := hide hK
        have Hres := hide hres
        clear hres hK hbox0 hres0 hBs
        gi_wp2
        refine ⟨by simp, .inl ⟨_, _, rfl, run_takeDeferred HKD.out, ?_⟩⟩
        have hc5 := cell_kept ((cell_of_row W (w.heap.size + 1) 0 _ _ (0, 0) Hres.out).trans rfl) (grownBy_putObj' _ D (.deferred none)) (fun r e => by cases e; exact ⟨_, HKD.out, rfl⟩)
        have hb : okB kept wait = false := by
          have hxl : x < wait.length := by
            have : x ∈ List.range k := by rw [e1]; simp
            have := List.mem_range.1 this
            omega
          have : wait.all (writeOkB kept.length) = false := by
            rw [List.all_eq_false]
            refine ⟨wait[x], List.getElem_mem hxl, ?_⟩
            simpa [wAt, hxl] using hwo
          simp [okB, this]
        refine ⟨.bool false, by simp [results, Tryd.results63, go_sem, hc5], by rw [hb], ?_⟩
        exact hbel.trans (belowK_b (w := W0) (by have := hbel0.size; omega) _ D _ _ hD HKD.out rfl rfl)

set_option maxHeartbeats 400000 in
theorem stateOk_any (kept : List ByteArray) (wait : List (Int × ByteArray)) (v : Value) (w : World) (hr : DiskR w v kept wait)
    (hs : ∀ s ∈ kept, s.size ≤ 9223372036854775807) (hs' : ∀ s ∈ wait, s.2.size ≤ 9223372036854775807) :
    Calls Tryd.prog 63 #[v] w fun e w' => e = .returned (.bool (okB kept wait)) ∧ Below w.heap.size w w' := by
  obtain ⟨ak, aw, rfl, a1, a2⟩ := hr
  obtain ⟨ao, ca, rfl⟩ : ∃ ao ca, ak = .slice ao kept.length ca := by obtain ⟨ao, ca, h, -⟩ := a1; exact ⟨ao, ca, h⟩
  obtain ⟨bo, cb, rfl⟩ : ∃ ao ca, aw = .slice ao wait.length ca := by obtain ⟨ao, ca, h, -⟩ := a2; exact ⟨ao, ca, h⟩
  by_cases h1 : kept.length ≤ 512
  · by_cases h2 : wait.length ≤ 600
    · exact callsIn_wide.1 (stateOk_in kept wait ao bo ca cb w a1 a2 hs hs' h1 h2)
    · have Hx : Hid (okB kept wait = false) := by show _ = false; simp [okB, h2]
      clear a1 a2 hs hs'
      go_enter Tryd.func63, Tryd.ntmps63
      go_wp2
      exact bodyPost_ret (v := .bool false) (by simp [results, Tryd.results63, go_sem]) rfl ⟨by rw [Hx.out], ((Below.refl _ _).alloc (Nat.le_refl _) _).alloc (by simp) _⟩
  · have Hx : Hid (okB kept wait = false) := by show _ = false; simp [okB, h1]
    clear a1 a2 hs hs'
    go_enter Tryd.func63, Tryd.ntmps63
    go_wp2
    exact bodyPost_ret (v := .bool false) (by simp [results, Tryd.results63, go_sem]) rfl ⟨by rw [Hx.out], ((Below.refl _ _).alloc (Nat.le_refl _) _).alloc (by simp) _⟩

set_option maxHeartbeats 400000 in
theorem implSecOk_any (kept : List ByteArray) (wait : List (Int × ByteArray)) (v : Value) (w : World) (hr : DiskR w v kept wait)
    (hs : ∀ s ∈ kept, s.size ≤ 9223372036854775807) (hs' : ∀ s ∈ wait, s.2.size ≤ 9223372036854775807) :
    Calls Tryd.prog 57 #[v] w fun e w' => e = .returned (.bool (okB kept wait)) ∧ Below w.heap.size w w' := by
  have Hr := hide hr
  obtain ⟨ak, aw, rfl, ⟨ao, ca, rfl, -⟩, ⟨bo, cb, rfl, -⟩⟩ := hr
  have hal : Below w.heap.size w (w.alloc (.cells #[.slice ao kept.length ca, .slice bo wait.length cb] 31)) := (Below.refl _ _).alloc (Nat.le_refl _) _
  have Hs := hide hs
  have Hs' := hide hs'
  clear hs hs'
  go_enter Tryd.func57, Tryd.ntmps57
  go_wp2_with fail
  refine (secSeen_any ao bo _ ca _ cb _).mono ?_
  rintro e w1 ⟨rfl, b1⟩
  go_wp2_with fail
  refine (stateOk_any kept wait _ _ ((Hr.out.keep hal).keep b1) Hs.out Hs'.out).mono ?_
  rintro e w2 ⟨rfl, b2⟩
  go_wp2
  go_ret
  exact ⟨rfl, bAll (bAll hal b1) b2⟩

end Go.Proofs.YtapflnabiobonaaDoor
