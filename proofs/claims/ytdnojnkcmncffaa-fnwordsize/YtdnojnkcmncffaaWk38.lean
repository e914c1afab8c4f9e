/- Contracts and plain facts that this claim leans on (texts XD); no statement of the seat is proved here. -/
import Derived.Test.YtdnojnkcmncffaaWk37
import Derived.Test.YtdnojnkcmncffaaWk27

/- Words that are drawn: contracts; no statement of the seat is proved here. -/
namespace Go.Proofs.Ytdnojnkcmncffaa
open Go.RowKit

theorem infoCm : (Try.prog.info? 30).map (·.size) = some 10 := by kernel_rfl
/-- A number of a row of numbers. -/
theorem litAt (w : World) (xs : List Int) (t : TypeId) (k : Nat) (hk : k < xs.length) : ∃ z : Int, (w.alloc (.cells (xs.map (Value.int .i64)).toArray t)).cell? ⟨w.heap.size, k, none⟩ = some (.int .i64 z) := by
  obtain ⟨z, hz⟩ := getAt xs k hk
  exact ⟨z, by rw [boxAt (heap_alloc_new w _)]; simp [hz]⟩

set_option maxRecDepth 100000 in
set_option maxHeartbeats 8000000 in
theorem l72Cmd_any (w0 w : World) (R p : Nat) (hr : Rd w0 w R p) (hp : p ≤ 800000) :
    Calls Try.prog 72 #[.pointer (some ⟨R, 0, none⟩)] w fun e w' => ∃ (x : Wd) (p' : Nat), e = .returned (.agg #[.int .i64 x.c0, .int .i64 x.c1, .int .i64 x.c2, .int .i64 x.c3, .int .i64 x.c4, .int .i64 x.c5, .int .i64 x.c6, .int .i64 x.c7, .int .i64 x.c8, .int .i64 x.c9]) ∧ Rd w0 w' R p' ∧ p' ≤ p + 20 ∧ Upd (fun j => j = R) w w' := by
  obtain ⟨hRl, hR0, hw0⟩ := hr.lt
  have al0 := bal (Below.refl w.heap.size w) (.cells #[.int .i64 0, .int .i64 0, .int .i64 0, .int .i64 0, .int .i64 0, .int .i64 0, .int .i64 0, .int .i64 0, .int .i64 0, .int .i64 0] 30)
  have hr0 := hr.keepB al0
  have U0 : Upd (fun j => j = R) (w.alloc (.cells #[.int .i64 0, .int .i64 0, .int .i64 0, .int .i64 0, .int .i64 0, .int .i64 0, .int .i64 0, .int .i64 0, .int .i64 0, .int .i64 0] 30)) (w.alloc (.cells #[.int .i64 0, .int .i64 0, .int .i64 0, .int .i64 0, .int .i64 0, .int .i64 0, .int .i64 0, .int .i64 0, .int .i64 0, .int .i64 0] 30)) := Upd.refl _ _
  have G := hide (heap_alloc_new w (.cells #[.int .i64 0, .int .i64 0, .int .i64 0, .int .i64 0, .int .i64 0, .int .i64 0, .int .i64 0, .int .i64 0, .int .i64 0, .int .i64 0] 30))
  clear hr
  go_enter Try.func72, Try.ntmps72
  go_wp2_with fail
  refine (pick_any w0 _ R _ 8 hr0 (by omega) (by omega) (by omega)).mono ?_
  rintro e w1 ⟨q1, rfl, -, hr1, hu1⟩
  have U1 := U0.trans hu1
  clear hr0 hu1 U0
  go_wp2_with fail
  refine (pick_any w0 _ R _ 4 hr1 (by omega) (by omega) (by omega)).mono ?_
  rintro e w2 ⟨q2, rfl, -, hr2, hu2⟩
  have U2 := U1.trans hu2
  clear hr1 hu2 U1
  go_wp2_with fail
  refine (pick_any w0 _ R _ 4 hr2 (by omega) (by omega) (by omega)).mono ?_
  rintro e w3 ⟨q3, rfl, -, hr3, hu3⟩
  have U3 := U2.trans hu3
  clear hr2 hu3 U2
  go_wp2_with fail
  refine (pick_any w0 _ R _ 3 hr3 (by omega) (by omega) (by omega)).mono ?_
  rintro e w4 ⟨q4, rfl, -, hr4, hu4⟩
  have U4 := U3.trans hu4
  clear hr3 hu4 U3
  go_wp2_with fail
  refine (pick_any w0 _ R _ 5 hr4 (by omega) (by omega) (by omega)).mono ?_
  rintro e w5 ⟨q5, rfl, -, hr5, hu5⟩
  have U5 := U4.trans hu5
  clear hr4 hu5 U4
  go_wp2_with fail
  refine (pick_any w0 _ R _ 3 hr5 (by omega) (by omega) (by omega)).mono ?_
  rintro e w6 ⟨q6, rfl, -, hr6, hu6⟩
  have U6 := U5.trans hu6
  clear hr5 hu6 U5
  go_wp2_with fail
  refine (pick_any w0 _ R _ 3 hr6 (by omega) (by omega) (by omega)).mono ?_
  rintro e w7 ⟨q7, rfl, -, hr7, hu7⟩
  have U7 := U6.trans hu7
  clear hr6 hu7 U6
  go_wp2_with fail
  refine (pick_any w0 _ R _ 4 hr7 (by omega) (by omega) (by omega)).mono ?_
  rintro e w8 ⟨q8, rfl, -, hr8, hu8⟩
  have U8 := U7.trans hu8
  clear hr7 hu8 U7
  go_wp2_with fail
  refine (pick_any w0 _ R _ 4 hr8 (by omega) (by omega) (by omega)).mono ?_
  rintro e w9 ⟨q9, rfl, -, hr9, hu9⟩
  have U9 := U8.trans hu9
  clear hr8 hu9 U8
  go_wp2_with fail
  refine (pick_any w0 _ R _ 5 hr9 (by omega) (by omega) (by omega)).mono ?_
  rintro e w10 ⟨q10, rfl, -, hr10, hu10⟩
  have U10 := U9.trans hu10
  clear hr9 hu10 U9
  have G0 := hide (U10.keeps G.out (by omega))
  have z10 := U10.size
  simp only [World.size_alloc] at z10
  have UU := hide ((Upd.ofBelow al0).trans U10)
  clear G U10 al0
  go_wp2_with fail
  generalize (q1 : Int) = y0
  generalize (q2 : Int) = y1
  generalize wrap64 (1 + (q3 : Int)) = y2
  generalize wrap64 (1 + (q4 : Int)) = y3
  generalize wrap64 (1 + (q5 : Int)) = y4
  generalize (q6 : Int) = y5
  generalize (q7 : Int) = y6
  generalize wrap64 (1 + (q8 : Int)) = y7
  generalize (q9 : Int) = y8
  generalize wrap64 ((q10 : Int) - 1) = y9
  have hRl10 := hr10.lt.1
  have alc := bal (Below.refl w10.heap.size w10) (.cells #[.int .i64 y0, .int .i64 y1, .int .i64 y2, .int .i64 y3, .int .i64 y4, .int .i64 y5, .int .i64 y6, .int .i64 y7, .int .i64 y8, .int .i64 y9] 30)
  have K0 := hide (heap_up (.cells #[.int .i64 y0, .int .i64 y1, .int .i64 y2, .int .i64 y3, .int .i64 y4, .int .i64 y5, .int .i64 y6, .int .i64 y7, .int .i64 y8, .int .i64 y9] 30) G0.out)
  have K1 := hide (heap_alloc_new w10 (.cells #[.int .i64 y0, .int .i64 y1, .int .i64 y2, .int .i64 y3, .int .i64 y4, .int .i64 y5, .int .i64 y6, .int .i64 y7, .int .i64 y8, .int .i64 y9] 30))
  have hrc := hr10.keepB alc
  refine (pick_any w0 _ R _ 16 hrc (by omega) (by omega) (by omega)).mono ?_
  rintro e w11 ⟨q11, rfl, hq11, hr11, hu11⟩
  have L0 := hide (hu11.keeps K0.out (by omega))
  have L1 := hide (hu11.keeps K1.out (by omega))
  have U11 := hide ((UU.out.trans (Upd.ofBelow alc)).trans hu11)
  have hz11 := hu11.size
  simp only [World.size_alloc] at hz11
  clear hr10 G0 K0 K1 hrc alc hu11 UU
  rcases (by omega : q11 = 0 ∨ q11 = 1 ∨ q11 = 2 ∨ 3 ≤ q11) with h | h | h | h
  · subst h
    go_wp2_with fail
    refine (l72Num_any w0 _ R _ hr11 (by omega)).mono ?_
    rintro e w12 ⟨z, rfl, hr12, hu12⟩
    have N0 := hide (hu12.keeps L0.out (by omega))
    have N1 := hide (hu12.keeps L1.out (by omega))
    have U12 := U11.out.trans hu12
    have hz12 := hu12.size
    clear L0 L1 U11 hr11 hu12
    have M0 := hide ((Upd.setCell (S := fun j => j = w10.heap.size) w12 w10.heap.size 4 (.int .i64 z) rfl).keeps N0.out (by omega))
    have M1 : Hid ((w12.setCell ⟨w10.heap.size, 4, none⟩ (.int .i64 z)).heap[w10.heap.size]? = some (.cells #[.int .i64 y0, .int .i64 y1, .int .i64 y2, .int .i64 y3, .int .i64 z, .int .i64 y5, .int .i64 y6, .int .i64 y7, .int .i64 y8, .int .i64 y9] 30 (0, 0))) := row_set _ N1.out
    have us := Upd.setCell (S := fun j => j = w10.heap.size) w12 w10.heap.size 4 (.int .i64 z) rfl
    have c0 : w12.cell? ⟨w10.heap.size, 4, none⟩ = some (.int .i64 y4) := boxAt N1.out 4
    have c1 : w12.frozen? ⟨w10.heap.size, 4, none⟩ = false := boxFz N1.out 4
    go_wp2_with (first | (refine wpList_load_row rfl 30 (.tmp 3) rfl w10.heap.size rfl _ #[.int .i64 y0, .int .i64 y1, .int .i64 y2, .int .i64 y3, .int .i64 z, .int .i64 y5, .int .i64 y6, .int .i64 y7, .int .i64 y8, .int .i64 y9] (0, 0) _ M1.out Try.underlying30 rfl infoCm ?_) | (refine wpList_store_row rfl 30 (.tmp 2) (.tmp 53) rfl w.heap.size #[.int .i64 y0, .int .i64 y1, .int .i64 y2, .int .i64 y3, .int .i64 z, .int .i64 y5, .int .i64 y6, .int .i64 y7, .int .i64 y8, .int .i64 y9] rfl rfl _ _ M0.out infoCm rfl (all_of_list rfl) ?_))
    refine bodyPost_ret (v := .agg #[.int .i64 y0, .int .i64 y1, .int .i64 y2, .int .i64 y3, .int .i64 z, .int .i64 y5, .int .i64 y6, .int .i64 y7, .int .i64 y8, .int .i64 y9]) (results_cell_row Try.results72 _ _ w.heap.size _ _ (0, 0) _ rfl (setRow_heap _ _ _ _ _ _ M0.out) Try.underlying30 rfl infoCm) rfl ?_
    have u6 : Upd (fun j => j = w.heap.size) (w12.setCell ⟨w10.heap.size, 4, none⟩ (.int .i64 z)) ((w12.setCell ⟨w10.heap.size, 4, none⟩ (.int .i64 z)).setRow w.heap.size #[.int .i64 y0, .int .i64 y1, .int .i64 y2, .int .i64 y3, .int .i64 z, .int .i64 y5, .int .i64 y6, .int .i64 y7, .int .i64 y8, .int .i64 y9]) := ⟨rfl, rfl, rfl, by simp, fun k _ h => setRow_other _ _ _ _ h⟩
    exact ⟨⟨0, 0, 0, 0, 0, 0, y0, y1, y2, y3, z, y5, y6, y7, y8, y9, 0, 0, 0, 0, 0, 0, 0, 0, [], []⟩, _, rfl, (hr12.keep us (by omega) (fun k h => by omega)).keep u6 (by omega) (fun k h => by omega), by omega, (U12.transN us (fun k h => by omega)).transN u6 (fun k h => by omega)⟩
  · subst h
    have al := bal (Below.refl w11.heap.size w11) (.cells #[.int .i64 (-1), .int .i64 8, .int .i64 99] 3)
    have LA := hide (litAt w11 [(-1), 8, 99] 3)
    have hr11a := hr11.keepB al
    go_wp2_with fail
    refine (pick_any w0 _ R _ 3 hr11a (by omega) (by omega) (by omega)).mono ?_
    rintro e w12 ⟨q12, rfl, hq12, hr12, hu12⟩
    obtain ⟨z, hz⟩ := LA.out q12 hq12
    have f0 : w12.cell? ⟨w11.heap.size, q12, none⟩ = some (.int .i64 z) := updCell hu12 hz (by omega)
    have hi : (q12 : Int) < 3 := by omega
    have N0 := hide (hu12.keeps (bKeeps al L0.out) (by omega))
    have N1 := hide (hu12.keeps (bKeeps al L1.out) (by omega))
    have U12 := (U11.out.trans (Upd.ofBelow al)).trans hu12
    have hz12 := hu12.size
    simp only [World.size_alloc] at hz12
    clear L0 L1 U11 hr11 hr11a hu12 al LA hz
    have M0 := hide ((Upd.setCell (S := fun j => j = w10.heap.size) w12 w10.heap.size 0 (.int .i64 z) rfl).keeps N0.out (by omega))
    have M1 : Hid ((w12.setCell ⟨w10.heap.size, 0, none⟩ (.int .i64 z)).heap[w10.heap.size]? = some (.cells #[.int .i64 z, .int .i64 y1, .int .i64 y2, .int .i64 y3, .int .i64 y4, .int .i64 y5, .int .i64 y6, .int .i64 y7, .int .i64 y8, .int .i64 y9] 30 (0, 0))) := row_set _ N1.out
    have us := Upd.setCell (S := fun j => j = w10.heap.size) w12 w10.heap.size 0 (.int .i64 z) rfl
    have c0 : w12.cell? ⟨w10.heap.size, 0, none⟩ = some (.int .i64 y0) := boxAt N1.out 0
    have c1 : w12.frozen? ⟨w10.heap.size, 0, none⟩ = false := boxFz N1.out 0
    go_wp2_with (first | (refine wpList_load_row rfl 30 (.tmp 3) rfl w10.heap.size rfl _ #[.int .i64 z, .int .i64 y1, .int .i64 y2, .int .i64 y3, .int .i64 y4, .int .i64 y5, .int .i64 y6, .int .i64 y7, .int .i64 y8, .int .i64 y9] (0, 0) _ M1.out Try.underlying30 rfl infoCm ?_) | (refine wpList_store_row rfl 30 (.tmp 2) (.tmp 53) rfl w.heap.size #[.int .i64 z, .int .i64 y1, .int .i64 y2, .int .i64 y3, .int .i64 y4, .int .i64 y5, .int .i64 y6, .int .i64 y7, .int .i64 y8, .int .i64 y9] rfl rfl _ _ M0.out infoCm rfl (all_of_list rfl) ?_))
    refine bodyPost_ret (v := .agg #[.int .i64 z, .int .i64 y1, .int .i64 y2, .int .i64 y3, .int .i64 y4, .int .i64 y5, .int .i64 y6, .int .i64 y7, .int .i64 y8, .int .i64 y9]) (results_cell_row Try.results72 _ _ w.heap.size _ _ (0, 0) _ rfl (setRow_heap _ _ _ _ _ _ M0.out) Try.underlying30 rfl infoCm) rfl ?_
    have u6 : Upd (fun j => j = w.heap.size) (w12.setCell ⟨w10.heap.size, 0, none⟩ (.int .i64 z)) ((w12.setCell ⟨w10.heap.size, 0, none⟩ (.int .i64 z)).setRow w.heap.size #[.int .i64 z, .int .i64 y1, .int .i64 y2, .int .i64 y3, .int .i64 y4, .int .i64 y5, .int .i64 y6, .int .i64 y7, .int .i64 y8, .int .i64 y9]) := ⟨rfl, rfl, rfl, by simp, fun k _ h => setRow_other _ _ _ _ h⟩
    exact ⟨⟨0, 0, 0, 0, 0, 0, z, y1, y2, y3, y4, y5, y6, y7, y8, y9, 0, 0, 0, 0, 0, 0, 0, 0, [], []⟩, _, rfl, (hr12.keep us (by omega) (fun k h => by omega)).keep u6 (by omega) (fun k h => by omega), by omega, (U12.transN us (fun k h => by omega)).transN u6 (fun k h => by omega)⟩
  · subst h
    have al := bal (Below.refl w11.heap.size w11) (.cells #[.int .i64 (-2), .int .i64 100000] 3)
    have LA := hide (litAt w11 [(-2), 100000] 3)
    have hr11a := hr11.keepB al
    go_wp2_with fail
    refine (pick_any w0 _ R _ 2 hr11a (by omega) (by omega) (by omega)).mono ?_
    rintro e w12 ⟨q12, rfl, hq12, hr12, hu12⟩
    obtain ⟨z, hz⟩ := LA.out q12 hq12
    have f0 : w12.cell? ⟨w11.heap.size, q12, none⟩ = some (.int .i64 z) := updCell hu12 hz (by omega)
    have hi : (q12 : Int) < 2 := by omega
    have N0 := hide (hu12.keeps (bKeeps al L0.out) (by omega))
    have N1 := hide (hu12.keeps (bKeeps al L1.out) (by omega))
    have U12 := (U11.out.trans (Upd.ofBelow al)).trans hu12
    have hz12 := hu12.size
    simp only [World.size_alloc] at hz12
    clear L0 L1 U11 hr11 hr11a hu12 al LA hz
    have M0 := hide ((Upd.setCell (S := fun j => j = w10.heap.size) w12 w10.heap.size 7 (.int .i64 z) rfl).keeps N0.out (by omega))
    have M1 : Hid ((w12.setCell ⟨w10.heap.size, 7, none⟩ (.int .i64 z)).heap[w10.heap.size]? = some (.cells #[.int .i64 y0, .int .i64 y1, .int .i64 y2, .int .i64 y3, .int .i64 y4, .int .i64 y5, .int .i64 y6, .int .i64 z, .int .i64 y8, .int .i64 y9] 30 (0, 0))) := row_set _ N1.out
    have us := Upd.setCell (S := fun j => j = w10.heap.size) w12 w10.heap.size 7 (.int .i64 z) rfl
    have c0 : w12.cell? ⟨w10.heap.size, 7, none⟩ = some (.int .i64 y7) := boxAt N1.out 7
    have c1 : w12.frozen? ⟨w10.heap.size, 7, none⟩ = false := boxFz N1.out 7
    go_wp2_with (first | (refine wpList_load_row rfl 30 (.tmp 3) rfl w10.heap.size rfl _ #[.int .i64 y0, .int .i64 y1, .int .i64 y2, .int .i64 y3, .int .i64 y4, .int .i64 y5, .int .i64 y6, .int .i64 z, .int .i64 y8, .int .i64 y9] (0, 0) _ M1.out Try.underlying30 rfl infoCm ?_) | (refine wpList_store_row rfl 30 (.tmp 2) (.tmp 53) rfl w.heap.size #[.int .i64 y0, .int .i64 y1, .int .i64 y2, .int .i64 y3, .int .i64 y4, .int .i64 y5, .int .i64 y6, .int .i64 z, .int .i64 y8, .int .i64 y9] rfl rfl _ _ M0.out infoCm rfl (all_of_list rfl) ?_))
    refine bodyPost_ret (v := .agg #[.int .i64 y0, .int .i64 y1, .int .i64 y2, .int .i64 y3, .int .i64 y4, .int .i64 y5, .int .i64 y6, .int .i64 z, .int .i64 y8, .int .i64 y9]) (results_cell_row Try.results72 _ _ w.heap.size _ _ (0, 0) _ rfl (setRow_heap _ _ _ _ _ _ M0.out) Try.underlying30 rfl infoCm) rfl ?_
    have u6 : Upd (fun j => j = w.heap.size) (w12.setCell ⟨w10.heap.size, 7, none⟩ (.int .i64 z)) ((w12.setCell ⟨w10.heap.size, 7, none⟩ (.int .i64 z)).setRow w.heap.size #[.int .i64 y0, .int .i64 y1, .int .i64 y2, .int .i64 y3, .int .i64 y4, .int .i64 y5, .int .i64 y6, .int .i64 z, .int .i64 y8, .int .i64 y9]) := ⟨rfl, rfl, rfl, by simp, fun k _ h => setRow_other _ _ _ _ h⟩
    exact ⟨⟨0, 0, 0, 0, 0, 0, y0, y1, y2, y3, y4, y5, y6, z, y8, y9, 0, 0, 0, 0, 0, 0, 0, 0, [], []⟩, _, rfl, (hr12.keep us (by omega) (fun k h => by omega)).keep u6 (by omega) (fun k h => by omega), by omega, (U12.transN us (fun k h => by omega)).transN u6 (fun k h => by omega)⟩
  · have h0 : ¬ (q11 : Int) = 0 := by omega
    have h1 : ¬ (q11 : Int) = 1 := by omega
    have h2 : ¬ (q11 : Int) = 2 := by omega
    have g0 : ((q11 : Int) == 0) = false := by simpa using h0
    have g1 : ((q11 : Int) == 1) = false := by simpa using h1
    have g2 : ((q11 : Int) == 2) = false := by simpa using h2
    have M0 := hide L0.out
    have M1 := hide L1.out
    go_wp2_with (first | (refine wpList_load_row rfl 30 (.tmp 3) rfl w10.heap.size rfl _ #[.int .i64 y0, .int .i64 y1, .int .i64 y2, .int .i64 y3, .int .i64 y4, .int .i64 y5, .int .i64 y6, .int .i64 y7, .int .i64 y8, .int .i64 y9] (0, 0) _ M1.out Try.underlying30 rfl infoCm ?_) | (refine wpList_store_row rfl 30 (.tmp 2) (.tmp 53) rfl w.heap.size #[.int .i64 y0, .int .i64 y1, .int .i64 y2, .int .i64 y3, .int .i64 y4, .int .i64 y5, .int .i64 y6, .int .i64 y7, .int .i64 y8, .int .i64 y9] rfl rfl _ _ M0.out infoCm rfl (all_of_list rfl) ?_))
    refine bodyPost_ret (v := .agg #[.int .i64 y0, .int .i64 y1, .int .i64 y2, .int .i64 y3, .int .i64 y4, .int .i64 y5, .int .i64 y6, .int .i64 y7, .int .i64 y8, .int .i64 y9]) (results_cell_row Try.results72 _ _ w.heap.size _ _ (0, 0) _ rfl (setRow_heap _ _ _ _ _ _ M0.out) Try.underlying30 rfl infoCm) rfl ?_
    have u6 : Upd (fun j => j = w.heap.size) w11 (w11.setRow w.heap.size #[.int .i64 y0, .int .i64 y1, .int .i64 y2, .int .i64 y3, .int .i64 y4, .int .i64 y5, .int .i64 y6, .int .i64 y7, .int .i64 y8, .int .i64 y9]) := ⟨rfl, rfl, rfl, by simp, fun k _ h => setRow_other _ _ _ _ h⟩
    exact ⟨⟨0, 0, 0, 0, 0, 0, y0, y1, y2, y3, y4, y5, y6, y7, y8, y9, 0, 0, 0, 0, 0, 0, 0, 0, [], []⟩, _, rfl, hr11.keep u6 (by omega) (fun k h => by omega), by omega, U11.out.transN u6 (fun k h => by omega)⟩

end Go.Proofs.Ytdnojnkcmncffaa
