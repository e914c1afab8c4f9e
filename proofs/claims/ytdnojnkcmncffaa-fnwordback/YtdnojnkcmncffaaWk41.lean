/- Contracts and plain facts that this claim leans on (texts XUC); no statement of the seat is proved here. -/
import Derived.Test.YtdnojnkcmncffaaWk33
import Derived.Test.YtdnojnkcmncffaaWk38

/- The specification's reader of commands: a contract; no statement of the seat is proved here. -/
namespace Go.Proofs.Ytdnojnkcmncffaa
open Go.RowKit

/-- What reading numbers gives: those numbers, the reader behind them. -/
def NumsR (w0 w : World) (R : Nat) (bo : Option Addr) (n cap : Nat) (bs : List Nat) (p : Nat) (bad : Bool) (xs : List Int) (w' : World) : Prop :=
  ∃ (p' : Nat) (bad' : Bool), Rg w0 w' R bo n cap bs p' bad' ∧ Rdn (vw bs p bad) xs (vw bs p' bad') ∧ Upd (fun j => j = R) w w'

theorem Rg.lt {w0 w : World} {R n cap p : Nat} {bo : Option Addr} {bs : List Nat} {bad : Bool} (h : Rg w0 w R bo n cap bs p bad) : R < w.heap.size ∧ w0.heap.size ≤ R ∧ w0.heap.size ≤ w.heap.size :=
  ⟨heap_lt h.2.2.2.2.1, h.2.2.2.2.2.1, h.2.2.2.2.2.2.size⟩

set_option maxRecDepth 100000 in
set_option maxHeartbeats 8000000 in
theorem readCmd_any (w0 w : World) (R p n cap : Nat) (bo : Option Addr) (bs : List Nat) (bad : Bool) (h : Rg w0 w R bo n cap bs p bad) :
    Calls Try.prog 65 #[.pointer (some ⟨R, 0, none⟩)] w fun e w' => ∃ (x : Wd), e = .returned (.agg #[.int .i64 x.c0, .int .i64 x.c1, .int .i64 x.c2, .int .i64 x.c3, .int .i64 x.c4, .int .i64 x.c5, .int .i64 x.c6, .int .i64 x.c7, .int .i64 x.c8, .int .i64 x.c9]) ∧ NumsR w0 w R bo n cap bs p bad [x.c0, x.c1, x.c2, x.c3, x.c4, x.c5, x.c6, x.c7, x.c8, x.c9] w' := by
  obtain ⟨hRl, hR0, hw0⟩ := h.lt
  have al0 := bal (Below.refl w.heap.size w) (.cells #[.int .i64 0, .int .i64 0, .int .i64 0, .int .i64 0, .int .i64 0, .int .i64 0, .int .i64 0, .int .i64 0, .int .i64 0, .int .i64 0] 30)
  have hr0 := h.keepB al0
  have G := hide (heap_alloc_new w (.cells #[.int .i64 0, .int .i64 0, .int .i64 0, .int .i64 0, .int .i64 0, .int .i64 0, .int .i64 0, .int .i64 0, .int .i64 0, .int .i64 0] 30))
  have HU0 := hide (Upd.ofBelow (S := fun j => j = R) al0)
  clear h
  go_enter Try.func65, Try.ntmps65
  go_wp2_with fail
  refine (num_any w0 _ R _ n cap bo bs _ hr0).mono ?_
  rintro e w1 ⟨a0, rfl, p1, bad1, -, -, hr1, rd1, hu1⟩
  have G1 := hide (hu1.keeps G.out (by omega))
  have U1 := hide (HU0.out.trans hu1)
  have z1 := hu1.size
  simp only [World.size_alloc] at z1
  have alc := bal (Below.refl w1.heap.size w1) (.cells #[.int .i64 a0, .int .i64 0, .int .i64 0, .int .i64 0, .int .i64 0, .int .i64 0, .int .i64 0, .int .i64 0, .int .i64 0, .int .i64 0] 30)
  have N0 := hide (heap_up (.cells #[.int .i64 a0, .int .i64 0, .int .i64 0, .int .i64 0, .int .i64 0, .int .i64 0, .int .i64 0, .int .i64 0, .int .i64 0, .int .i64 0] 30) G1.out)
  have N1 := hide (heap_alloc_new w1 (.cells #[.int .i64 a0, .int .i64 0, .int .i64 0, .int .i64 0, .int .i64 0, .int .i64 0, .int .i64 0, .int .i64 0, .int .i64 0, .int .i64 0] 30))
  have hrc := hr1.keepB alc
  have V1 := hide (U1.out.trans (Upd.ofBelow (S := fun j => j = R) alc))
  have hRl1 := hr1.lt.1
  clear hr0 hu1 G G1 HU0 U1 hr1 alc

  go_wp2_with fail
  refine (num_any w0 _ R _ n cap bo bs _ hrc).mono ?_
  rintro e w2 ⟨a1, rfl, p2, bad2, -, -, hr2, rd2', hu2⟩
  have rd2 := rd1.append rd2'
  have M0 := hide (hu2.keeps N0.out (by omega))
  have M1 := hide (hu2.keeps N1.out (by omega))
  have z2 := hu2.size
  simp only [World.size_alloc] at z2
  have c0 : w2.cell? ⟨w1.heap.size, 1, none⟩ = some (.int .i64 0) := boxAt M1.out 1
  have c1 : w2.frozen? ⟨w1.heap.size, 1, none⟩ = false := boxFz M1.out 1
  have us := Upd.setCell (S := fun j => j = w1.heap.size) w2 w1.heap.size 1 (.int .i64 a1) rfl
  have V2 := hide ((V1.out.trans hu2).transN us (fun k h => by omega))
  have hrd := hr2.keep us (by omega) (fun k h => by omega)
  clear N0 N1 hrc V1 rd1 rd2' hr2
  have N0 := hide (us.keeps M0.out (by omega))
  have N1 : Hid ((w2.setCell ⟨w1.heap.size, 1, none⟩ (.int .i64 a1)).heap[w1.heap.size]? = some (.cells #[.int .i64 a0, .int .i64 a1, .int .i64 0, .int .i64 0, .int .i64 0, .int .i64 0, .int .i64 0, .int .i64 0, .int .i64 0, .int .i64 0] 30 (0, 0))) := row_set _ M1.out
  have hrc := hrd
  clear M0 M1 us hu2 hrd

  go_wp2_with fail
  refine (num_any w0 _ R _ n cap bo bs _ hrc).mono ?_
  rintro e w3 ⟨a2, rfl, p3, bad3, -, -, hr3, rd3', hu3⟩
  have rd3 := rd2.append rd3'
  have M0 := hide (hu3.keeps N0.out (by omega))
  have M1 := hide (hu3.keeps N1.out (by omega))
  have z3 := hu3.size
  simp only [World.size_setCell] at z3
  have c0 : w3.cell? ⟨w1.heap.size, 2, none⟩ = some (.int .i64 0) := boxAt M1.out 2
  have c1 : w3.frozen? ⟨w1.heap.size, 2, none⟩ = false := boxFz M1.out 2
  have us := Upd.setCell (S := fun j => j = w1.heap.size) w3 w1.heap.size 2 (.int .i64 a2) rfl
  have V3 := hide ((V2.out.trans hu3).transN us (fun k h => by omega))
  have hrd := hr3.keep us (by omega) (fun k h => by omega)
  clear N0 N1 hrc V2 rd2 rd3' hr3
  have N0 := hide (us.keeps M0.out (by omega))
  have N1 : Hid ((w3.setCell ⟨w1.heap.size, 2, none⟩ (.int .i64 a2)).heap[w1.heap.size]? = some (.cells #[.int .i64 a0, .int .i64 a1, .int .i64 a2, .int .i64 0, .int .i64 0, .int .i64 0, .int .i64 0, .int .i64 0, .int .i64 0, .int .i64 0] 30 (0, 0))) := row_set _ M1.out
  have hrc := hrd
  clear M0 M1 us hu3 hrd

  go_wp2_with fail
  refine (num_any w0 _ R _ n cap bo bs _ hrc).mono ?_
  rintro e w4 ⟨a3, rfl, p4, bad4, -, -, hr4, rd4', hu4⟩
  have rd4 := rd3.append rd4'
  have M0 := hide (hu4.keeps N0.out (by omega))
  have M1 := hide (hu4.keeps N1.out (by omega))
  have z4 := hu4.size
  simp only [World.size_setCell] at z4
  have c0 : w4.cell? ⟨w1.heap.size, 3, none⟩ = some (.int .i64 0) := boxAt M1.out 3
  have c1 : w4.frozen? ⟨w1.heap.size, 3, none⟩ = false := boxFz M1.out 3
  have us := Upd.setCell (S := fun j => j = w1.heap.size) w4 w1.heap.size 3 (.int .i64 a3) rfl
  have V4 := hide ((V3.out.trans hu4).transN us (fun k h => by omega))
  have hrd := hr4.keep us (by omega) (fun k h => by omega)
  clear N0 N1 hrc V3 rd3 rd4' hr4
  have N0 := hide (us.keeps M0.out (by omega))
  have N1 : Hid ((w4.setCell ⟨w1.heap.size, 3, none⟩ (.int .i64 a3)).heap[w1.heap.size]? = some (.cells #[.int .i64 a0, .int .i64 a1, .int .i64 a2, .int .i64 a3, .int .i64 0, .int .i64 0, .int .i64 0, .int .i64 0, .int .i64 0, .int .i64 0] 30 (0, 0))) := row_set _ M1.out
  have hrc := hrd
  clear M0 M1 us hu4 hrd

  go_wp2_with fail
  refine (num_any w0 _ R _ n cap bo bs _ hrc).mono ?_
  rintro e w5 ⟨a4, rfl, p5, bad5, -, -, hr5, rd5', hu5⟩
  have rd5 := rd4.append rd5'
  have M0 := hide (hu5.keeps N0.out (by omega))
  have M1 := hide (hu5.keeps N1.out (by omega))
  have z5 := hu5.size
  simp only [World.size_setCell] at z5
  have c0 : w5.cell? ⟨w1.heap.size, 4, none⟩ = some (.int .i64 0) := boxAt M1.out 4
  have c1 : w5.frozen? ⟨w1.heap.size, 4, none⟩ = false := boxFz M1.out 4
  have us := Upd.setCell (S := fun j => j = w1.heap.size) w5 w1.heap.size 4 (.int .i64 a4) rfl
  have V5 := hide ((V4.out.trans hu5).transN us (fun k h => by omega))
  have hrd := hr5.keep us (by omega) (fun k h => by omega)
  clear N0 N1 hrc V4 rd4 rd5' hr5
  have N0 := hide (us.keeps M0.out (by omega))
  have N1 : Hid ((w5.setCell ⟨w1.heap.size, 4, none⟩ (.int .i64 a4)).heap[w1.heap.size]? = some (.cells #[.int .i64 a0, .int .i64 a1, .int .i64 a2, .int .i64 a3, .int .i64 a4, .int .i64 0, .int .i64 0, .int .i64 0, .int .i64 0, .int .i64 0] 30 (0, 0))) := row_set _ M1.out
  have hrc := hrd
  clear M0 M1 us hu5 hrd

  go_wp2_with fail
  refine (num_any w0 _ R _ n cap bo bs _ hrc).mono ?_
  rintro e w6 ⟨a5, rfl, p6, bad6, -, -, hr6, rd6', hu6⟩
  have rd6 := rd5.append rd6'
  have M0 := hide (hu6.keeps N0.out (by omega))
  have M1 := hide (hu6.keeps N1.out (by omega))
  have z6 := hu6.size
  simp only [World.size_setCell] at z6
  have c0 : w6.cell? ⟨w1.heap.size, 5, none⟩ = some (.int .i64 0) := boxAt M1.out 5
  have c1 : w6.frozen? ⟨w1.heap.size, 5, none⟩ = false := boxFz M1.out 5
  have us := Upd.setCell (S := fun j => j = w1.heap.size) w6 w1.heap.size 5 (.int .i64 a5) rfl
  have V6 := hide ((V5.out.trans hu6).transN us (fun k h => by omega))
  have hrd := hr6.keep us (by omega) (fun k h => by omega)
  clear N0 N1 hrc V5 rd5 rd6' hr6
  have N0 := hide (us.keeps M0.out (by omega))
  have N1 : Hid ((w6.setCell ⟨w1.heap.size, 5, none⟩ (.int .i64 a5)).heap[w1.heap.size]? = some (.cells #[.int .i64 a0, .int .i64 a1, .int .i64 a2, .int .i64 a3, .int .i64 a4, .int .i64 a5, .int .i64 0, .int .i64 0, .int .i64 0, .int .i64 0] 30 (0, 0))) := row_set _ M1.out
  have hrc := hrd
  clear M0 M1 us hu6 hrd

  go_wp2_with fail
  refine (num_any w0 _ R _ n cap bo bs _ hrc).mono ?_
  rintro e w7 ⟨a6, rfl, p7, bad7, -, -, hr7, rd7', hu7⟩
  have rd7 := rd6.append rd7'
  have M0 := hide (hu7.keeps N0.out (by omega))
  have M1 := hide (hu7.keeps N1.out (by omega))
  have z7 := hu7.size
  simp only [World.size_setCell] at z7
  have c0 : w7.cell? ⟨w1.heap.size, 6, none⟩ = some (.int .i64 0) := boxAt M1.out 6
  have c1 : w7.frozen? ⟨w1.heap.size, 6, none⟩ = false := boxFz M1.out 6
  have us := Upd.setCell (S := fun j => j = w1.heap.size) w7 w1.heap.size 6 (.int .i64 a6) rfl
  have V7 := hide ((V6.out.trans hu7).transN us (fun k h => by omega))
  have hrd := hr7.keep us (by omega) (fun k h => by omega)
  clear N0 N1 hrc V6 rd6 rd7' hr7
  have N0 := hide (us.keeps M0.out (by omega))
  have N1 : Hid ((w7.setCell ⟨w1.heap.size, 6, none⟩ (.int .i64 a6)).heap[w1.heap.size]? = some (.cells #[.int .i64 a0, .int .i64 a1, .int .i64 a2, .int .i64 a3, .int .i64 a4, .int .i64 a5, .int .i64 a6, .int .i64 0, .int .i64 0, .int .i64 0] 30 (0, 0))) := row_set _ M1.out
  have hrc := hrd
  clear M0 M1 us hu7 hrd

  go_wp2_with fail
  refine (num_any w0 _ R _ n cap bo bs _ hrc).mono ?_
  rintro e w8 ⟨a7, rfl, p8, bad8, -, -, hr8, rd8', hu8⟩
  have rd8 := rd7.append rd8'
  have M0 := hide (hu8.keeps N0.out (by omega))
  have M1 := hide (hu8.keeps N1.out (by omega))
  have z8 := hu8.size
  simp only [World.size_setCell] at z8
  have c0 : w8.cell? ⟨w1.heap.size, 7, none⟩ = some (.int .i64 0) := boxAt M1.out 7
  have c1 : w8.frozen? ⟨w1.heap.size, 7, none⟩ = false := boxFz M1.out 7
  have us := Upd.setCell (S := fun j => j = w1.heap.size) w8 w1.heap.size 7 (.int .i64 a7) rfl
  have V8 := hide ((V7.out.trans hu8).transN us (fun k h => by omega))
  have hrd := hr8.keep us (by omega) (fun k h => by omega)
  clear N0 N1 hrc V7 rd7 rd8' hr8
  have N0 := hide (us.keeps M0.out (by omega))
  have N1 : Hid ((w8.setCell ⟨w1.heap.size, 7, none⟩ (.int .i64 a7)).heap[w1.heap.size]? = some (.cells #[.int .i64 a0, .int .i64 a1, .int .i64 a2, .int .i64 a3, .int .i64 a4, .int .i64 a5, .int .i64 a6, .int .i64 a7, .int .i64 0, .int .i64 0] 30 (0, 0))) := row_set _ M1.out
  have hrc := hrd
  clear M0 M1 us hu8 hrd

  go_wp2_with fail
  refine (num_any w0 _ R _ n cap bo bs _ hrc).mono ?_
  rintro e w9 ⟨a8, rfl, p9, bad9, -, -, hr9, rd9', hu9⟩
  have rd9 := rd8.append rd9'
  have M0 := hide (hu9.keeps N0.out (by omega))
  have M1 := hide (hu9.keeps N1.out (by omega))
  have z9 := hu9.size
  simp only [World.size_setCell] at z9
  have c0 : w9.cell? ⟨w1.heap.size, 8, none⟩ = some (.int .i64 0) := boxAt M1.out 8
  have c1 : w9.frozen? ⟨w1.heap.size, 8, none⟩ = false := boxFz M1.out 8
  have us := Upd.setCell (S := fun j => j = w1.heap.size) w9 w1.heap.size 8 (.int .i64 a8) rfl
  have V9 := hide ((V8.out.trans hu9).transN us (fun k h => by omega))
  have hrd := hr9.keep us (by omega) (fun k h => by omega)
  clear N0 N1 hrc V8 rd8 rd9' hr9
  have N0 := hide (us.keeps M0.out (by omega))
  have N1 : Hid ((w9.setCell ⟨w1.heap.size, 8, none⟩ (.int .i64 a8)).heap[w1.heap.size]? = some (.cells #[.int .i64 a0, .int .i64 a1, .int .i64 a2, .int .i64 a3, .int .i64 a4, .int .i64 a5, .int .i64 a6, .int .i64 a7, .int .i64 a8, .int .i64 0] 30 (0, 0))) := row_set _ M1.out
  have hrc := hrd
  clear M0 M1 us hu9 hrd

  go_wp2_with fail
  refine (num_any w0 _ R _ n cap bo bs _ hrc).mono ?_
  rintro e w10 ⟨a9, rfl, p10, bad10, -, -, hr10, rd10', hu10⟩
  have rd10 := rd9.append rd10'
  have M0 := hide (hu10.keeps N0.out (by omega))
  have M1 := hide (hu10.keeps N1.out (by omega))
  have z10 := hu10.size
  simp only [World.size_setCell] at z10
  have c0 : w10.cell? ⟨w1.heap.size, 9, none⟩ = some (.int .i64 0) := boxAt M1.out 9
  have c1 : w10.frozen? ⟨w1.heap.size, 9, none⟩ = false := boxFz M1.out 9
  have us := Upd.setCell (S := fun j => j = w1.heap.size) w10 w1.heap.size 9 (.int .i64 a9) rfl
  have V10 := hide ((V9.out.trans hu10).transN us (fun k h => by omega))
  have hrd := hr10.keep us (by omega) (fun k h => by omega)
  clear N0 N1 hrc V9 rd9 rd10' hr10
  have N0 := hide (us.keeps M0.out (by omega))
  have N1 : Hid ((w10.setCell ⟨w1.heap.size, 9, none⟩ (.int .i64 a9)).heap[w1.heap.size]? = some (.cells #[.int .i64 a0, .int .i64 a1, .int .i64 a2, .int .i64 a3, .int .i64 a4, .int .i64 a5, .int .i64 a6, .int .i64 a7, .int .i64 a8, .int .i64 a9] 30 (0, 0))) := row_set _ M1.out
  have hrc := hrd
  clear M0 M1 us hu10 hrd

  go_wp2_with (first | (refine wpList_load_row rfl 30 (.tmp 3) rfl w1.heap.size rfl _ #[.int .i64 a0, .int .i64 a1, .int .i64 a2, .int .i64 a3, .int .i64 a4, .int .i64 a5, .int .i64 a6, .int .i64 a7, .int .i64 a8, .int .i64 a9] (0, 0) _ N1.out Try.underlying30 rfl infoCm ?_) | (refine wpList_store_row rfl 30 (.tmp 2) (.tmp 34) rfl w.heap.size #[.int .i64 a0, .int .i64 a1, .int .i64 a2, .int .i64 a3, .int .i64 a4, .int .i64 a5, .int .i64 a6, .int .i64 a7, .int .i64 a8, .int .i64 a9] rfl rfl _ _ N0.out infoCm rfl (all_of_list rfl) ?_))
  refine bodyPost_ret (v := .agg #[.int .i64 a0, .int .i64 a1, .int .i64 a2, .int .i64 a3, .int .i64 a4, .int .i64 a5, .int .i64 a6, .int .i64 a7, .int .i64 a8, .int .i64 a9]) (results_cell_row Try.results65 _ _ w.heap.size _ _ (0, 0) _ rfl (setRow_heap _ _ _ _ _ _ N0.out) Try.underlying30 rfl infoCm) rfl ?_
  have u6 : Upd (fun j => j = w.heap.size) (w10.setCell ⟨w1.heap.size, 9, none⟩ (.int .i64 a9)) ((w10.setCell ⟨w1.heap.size, 9, none⟩ (.int .i64 a9)).setRow w.heap.size #[.int .i64 a0, .int .i64 a1, .int .i64 a2, .int .i64 a3, .int .i64 a4, .int .i64 a5, .int .i64 a6, .int .i64 a7, .int .i64 a8, .int .i64 a9]) := ⟨rfl, rfl, rfl, by simp, fun k _ h => setRow_other _ _ _ _ h⟩
  exact ⟨⟨0, 0, 0, 0, 0, 0, a0, a1, a2, a3, a4, a5, a6, a7, a8, a9, 0, 0, 0, 0, 0, 0, 0, 0, [], []⟩, rfl, p10, bad10, hrc.keep u6 (by omega) (fun k h => by omega), rd10, V10.out.transN u6 (fun k h => by omega)⟩

end Go.Proofs.Ytdnojnkcmncffaa
