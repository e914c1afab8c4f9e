/- Contracts and plain facts that this claim leans on (texts XUW); no statement of the seat is proved here. -/
import Derived.Test.YtdnojnkcmncffaaWk41
import Derived.Test.YtdnojnkcmncffaaWk39

/- The specification's reader of words: a contract; no statement of the seat is proved here. -/
namespace Go.Proofs.Ytdnojnkcmncffaa
open Go.RowKit

theorem built34a (a0 : Int) : Try.prog.built 34 [(0, .int .i64 a0)] = some #[.int .i64 a0, .int .i64 0, .int .i64 0, .int .i64 0, .int .i64 0, .int .i64 0, .int .i64 0, .int .i64 0, .int .i64 0, .int .i64 0, .int .i64 0, .int .i64 0, .int .i64 0, .int .i64 0, .int .i64 0, .int .i64 0, .int .i64 0, .int .i64 0, .int .i64 0, .int .i64 0, .int .i64 0, .int .i64 0, .int .i64 0, .int .i64 0, .slice none 0 0, .slice none 0 0] := by kernel_rfl
theorem wpList_built34a {ops : Array Oper} {rest : List Oper} {o : Oper} {a : Act} {w : World} {Q : Exit → Act → World → Prop} (a0 : Int) (hg : o.guard = none) (parts : Array (Nat × Operand)) (ho : o.op = .build 34 parts)
    (hp : (parts.map fun (i, x) => (i, a.eval x)).toList = [(0, .int .i64 a0)])
    (h : wpList Try.prog ops Q rest (a.put o.dst (.agg #[.int .i64 a0, .int .i64 0, .int .i64 0, .int .i64 0, .int .i64 0, .int .i64 0, .int .i64 0, .int .i64 0, .int .i64 0, .int .i64 0, .int .i64 0, .int .i64 0, .int .i64 0, .int .i64 0, .int .i64 0, .int .i64 0, .int .i64 0, .int .i64 0, .int .i64 0, .int .i64 0, .int .i64 0, .int .i64 0, .int .i64 0, .int .i64 0, .slice none 0 0, .slice none 0 0])) w) : wpList Try.prog ops Q (o :: rest) a w :=
  wpList_build hg 34 parts ho (by rw [hp, built34a]; rfl) (by rw [hp, built34a]; exact h)

/-- What reading a word gives: that word, the reader behind it. -/
def WordR (w0 w : World) (R : Nat) (bo : Option Addr) (n cap : Nat) (bs : List Nat) (p : Nat) (bad : Bool) (x : Wd) (w' : World) : Prop :=
  ∃ (p' : Nat) (bad' : Bool), Rg w0 w' R bo n cap bs p' bad' ∧ (∃ b1 b2, Rdn (vw bs p bad) x.nums b1 ∧ Rdl 60 pnum b1 x.ps b2 ∧ Rdl 4 lnum b2 x.ls (vw bs p' bad')) ∧ Upd (fun j => j = R) w w'

theorem set10 {w : World} {g : Nat} {t : TypeId} {a0 a1 a2 a3 a4 a5 z0 z1 z2 z3 z4 z5 z6 z7 z8 z9 b0 b1 b2 b3 b4 b5 b6 b7 p l : Value} (c0 c1 c2 c3 c4 c5 c6 c7 c8 c9 : Value) (h : w.heap[g]? = some (.cells #[a0, a1, a2, a3, a4, a5, z0, z1, z2, z3, z4, z5, z6, z7, z8, z9, b0, b1, b2, b3, b4, b5, b6, b7, p, l] t (0, 0))) :
    ((((((((((w.setCell ⟨g, 6, none⟩ c0).setCell ⟨g, 7, none⟩ c1).setCell ⟨g, 8, none⟩ c2).setCell ⟨g, 9, none⟩ c3).setCell ⟨g, 10, none⟩ c4).setCell ⟨g, 11, none⟩ c5).setCell ⟨g, 12, none⟩ c6).setCell ⟨g, 13, none⟩ c7).setCell ⟨g, 14, none⟩ c8).setCell ⟨g, 15, none⟩ c9).heap[g]? = some (.cells #[a0, a1, a2, a3, a4, a5, c0, c1, c2, c3, c4, c5, c6, c7, c8, c9, b0, b1, b2, b3, b4, b5, b6, b7, p, l] t (0, 0)) :=
  by
    have h1 : (w.setCell ⟨g, 6, none⟩ c0).heap[g]? = some (.cells #[a0, a1, a2, a3, a4, a5, c0, z1, z2, z3, z4, z5, z6, z7, z8, z9, b0, b1, b2, b3, b4, b5, b6, b7, p, l] t (0, 0)) := row_set _ h
    have h2 : ((w.setCell ⟨g, 6, none⟩ c0).setCell ⟨g, 7, none⟩ c1).heap[g]? = some (.cells #[a0, a1, a2, a3, a4, a5, c0, c1, z2, z3, z4, z5, z6, z7, z8, z9, b0, b1, b2, b3, b4, b5, b6, b7, p, l] t (0, 0)) := row_set _ h1
    have h3 : (((w.setCell ⟨g, 6, none⟩ c0).setCell ⟨g, 7, none⟩ c1).setCell ⟨g, 8, none⟩ c2).heap[g]? = some (.cells #[a0, a1, a2, a3, a4, a5, c0, c1, c2, z3, z4, z5, z6, z7, z8, z9, b0, b1, b2, b3, b4, b5, b6, b7, p, l] t (0, 0)) := row_set _ h2
    have h4 : ((((w.setCell ⟨g, 6, none⟩ c0).setCell ⟨g, 7, none⟩ c1).setCell ⟨g, 8, none⟩ c2).setCell ⟨g, 9, none⟩ c3).heap[g]? = some (.cells #[a0, a1, a2, a3, a4, a5, c0, c1, c2, c3, z4, z5, z6, z7, z8, z9, b0, b1, b2, b3, b4, b5, b6, b7, p, l] t (0, 0)) := row_set _ h3
    have h5 : (((((w.setCell ⟨g, 6, none⟩ c0).setCell ⟨g, 7, none⟩ c1).setCell ⟨g, 8, none⟩ c2).setCell ⟨g, 9, none⟩ c3).setCell ⟨g, 10, none⟩ c4).heap[g]? = some (.cells #[a0, a1, a2, a3, a4, a5, c0, c1, c2, c3, c4, z5, z6, z7, z8, z9, b0, b1, b2, b3, b4, b5, b6, b7, p, l] t (0, 0)) := row_set _ h4
    have h6 : ((((((w.setCell ⟨g, 6, none⟩ c0).setCell ⟨g, 7, none⟩ c1).setCell ⟨g, 8, none⟩ c2).setCell ⟨g, 9, none⟩ c3).setCell ⟨g, 10, none⟩ c4).setCell ⟨g, 11, none⟩ c5).heap[g]? = some (.cells #[a0, a1, a2, a3, a4, a5, c0, c1, c2, c3, c4, c5, z6, z7, z8, z9, b0, b1, b2, b3, b4, b5, b6, b7, p, l] t (0, 0)) := row_set _ h5
    have h7 : (((((((w.setCell ⟨g, 6, none⟩ c0).setCell ⟨g, 7, none⟩ c1).setCell ⟨g, 8, none⟩ c2).setCell ⟨g, 9, none⟩ c3).setCell ⟨g, 10, none⟩ c4).setCell ⟨g, 11, none⟩ c5).setCell ⟨g, 12, none⟩ c6).heap[g]? = some (.cells #[a0, a1, a2, a3, a4, a5, c0, c1, c2, c3, c4, c5, c6, z7, z8, z9, b0, b1, b2, b3, b4, b5, b6, b7, p, l] t (0, 0)) := row_set _ h6
    have h8 : ((((((((w.setCell ⟨g, 6, none⟩ c0).setCell ⟨g, 7, none⟩ c1).setCell ⟨g, 8, none⟩ c2).setCell ⟨g, 9, none⟩ c3).setCell ⟨g, 10, none⟩ c4).setCell ⟨g, 11, none⟩ c5).setCell ⟨g, 12, none⟩ c6).setCell ⟨g, 13, none⟩ c7).heap[g]? = some (.cells #[a0, a1, a2, a3, a4, a5, c0, c1, c2, c3, c4, c5, c6, c7, z8, z9, b0, b1, b2, b3, b4, b5, b6, b7, p, l] t (0, 0)) := row_set _ h7
    have h9 : (((((((((w.setCell ⟨g, 6, none⟩ c0).setCell ⟨g, 7, none⟩ c1).setCell ⟨g, 8, none⟩ c2).setCell ⟨g, 9, none⟩ c3).setCell ⟨g, 10, none⟩ c4).setCell ⟨g, 11, none⟩ c5).setCell ⟨g, 12, none⟩ c6).setCell ⟨g, 13, none⟩ c7).setCell ⟨g, 14, none⟩ c8).heap[g]? = some (.cells #[a0, a1, a2, a3, a4, a5, c0, c1, c2, c3, c4, c5, c6, c7, c8, z9, b0, b1, b2, b3, b4, b5, b6, b7, p, l] t (0, 0)) := row_set _ h8
    have h10 : ((((((((((w.setCell ⟨g, 6, none⟩ c0).setCell ⟨g, 7, none⟩ c1).setCell ⟨g, 8, none⟩ c2).setCell ⟨g, 9, none⟩ c3).setCell ⟨g, 10, none⟩ c4).setCell ⟨g, 11, none⟩ c5).setCell ⟨g, 12, none⟩ c6).setCell ⟨g, 13, none⟩ c7).setCell ⟨g, 14, none⟩ c8).setCell ⟨g, 15, none⟩ c9).heap[g]? = some (.cells #[a0, a1, a2, a3, a4, a5, c0, c1, c2, c3, c4, c5, c6, c7, c8, c9, b0, b1, b2, b3, b4, b5, b6, b7, p, l] t (0, 0)) := row_set _ h9
    exact h10
theorem set10u (w : World) (g : Nat) (c0 c1 c2 c3 c4 c5 c6 c7 c8 c9 : Value) :
    Upd (fun j => j = g) w ((((((((((w.setCell ⟨g, 6, none⟩ c0).setCell ⟨g, 7, none⟩ c1).setCell ⟨g, 8, none⟩ c2).setCell ⟨g, 9, none⟩ c3).setCell ⟨g, 10, none⟩ c4).setCell ⟨g, 11, none⟩ c5).setCell ⟨g, 12, none⟩ c6).setCell ⟨g, 13, none⟩ c7).setCell ⟨g, 14, none⟩ c8).setCell ⟨g, 15, none⟩ c9) :=
  ((((((((((Upd.setCell (S := fun j => j = g) w g 6 c0 rfl).trans (Upd.setCell _ g 7 c1 rfl)).trans (Upd.setCell _ g 8 c2 rfl)).trans (Upd.setCell _ g 9 c3 rfl)).trans (Upd.setCell _ g 10 c4 rfl)).trans (Upd.setCell _ g 11 c5 rfl)).trans (Upd.setCell _ g 12 c6 rfl)).trans (Upd.setCell _ g 13 c7 rfl)).trans (Upd.setCell _ g 14 c8 rfl)).trans (Upd.setCell _ g 15 c9 rfl))

theorem pc_new (w : World) (x : Pc) (e : TypeId) : ∀ j u, (pcell x)[j]? = some u → (w.alloc (.cells #[.int .i64 x.1, .int .i64 x.2.1, .int .i64 x.2.2.1, .int .i64 x.2.2.2] e)).cell? ((⟨w.heap.size, 0, none⟩ : Addr).add j) = some u := by
  intro j u h
  rw [Addr.add_lit, Nat.zero_add, boxAt (heap_alloc_new w _)]
  simpa [pcell] using h
theorem lc_new (w : World) (x : Lc) (e : TypeId) : ∀ j u, (lcell x)[j]? = some u → (w.alloc (.cells #[.int .i64 x.1, .int .i64 x.2] e)).cell? ((⟨w.heap.size, 0, none⟩ : Addr).add j) = some u := by
  intro j u h
  rw [Addr.add_lit, Nat.zero_add, boxAt (heap_alloc_new w _)]
  simpa [lcell] using h

set_option maxRecDepth 100000 in
set_option maxHeartbeats 16000000 in
theorem readWord_any (w0 w : World) (R p n cap : Nat) (bo : Option Addr) (bs : List Nat) (bad : Bool) (h : Rg w0 w R bo n cap bs p bad) :
    Calls Try.prog 47 #[.pointer (some ⟨R, 0, none⟩)] w fun e w' => ∃ (v : Value) (x : Wd), e = .returned v ∧ WdO w' (fun k => w.heap.size ≤ k) v x ∧ WordR w0 w R bo n cap bs p bad x w' := by
  obtain ⟨hRl, hR0, hw0⟩ := h.lt
  have al0 := bal (Below.refl w.heap.size w) (.cells #[.int .i64 0, .int .i64 0, .int .i64 0, .int .i64 0, .int .i64 0, .int .i64 0, .int .i64 0, .int .i64 0, .int .i64 0, .int .i64 0, .int .i64 0, .int .i64 0, .int .i64 0, .int .i64 0, .int .i64 0, .int .i64 0, .int .i64 0, .int .i64 0, .int .i64 0, .int .i64 0, .int .i64 0, .int .i64 0, .int .i64 0, .int .i64 0, .slice none 0 0, .slice none 0 0] 34)
  have hr0 := h.keepB al0
  have G := hide (heap_alloc_new w (.cells #[.int .i64 0, .int .i64 0, .int .i64 0, .int .i64 0, .int .i64 0, .int .i64 0, .int .i64 0, .int .i64 0, .int .i64 0, .int .i64 0, .int .i64 0, .int .i64 0, .int .i64 0, .int .i64 0, .int .i64 0, .int .i64 0, .int .i64 0, .int .i64 0, .int .i64 0, .int .i64 0, .int .i64 0, .int .i64 0, .int .i64 0, .int .i64 0, .slice none 0 0, .slice none 0 0] 34))
  have HU0 := hide (Upd.ofBelow (S := fun j => j = R) al0)
  clear h
  go_enter Try.func47, Try.ntmps47
  go_wp2_with fail
  refine (num_any w0 _ R _ n cap bo bs _ hr0).mono ?_
  rintro e w1 ⟨a0, rfl, p1, bad1, -, -, hr1, rd1, hu1⟩
  have G1 := hide (hu1.keeps G.out (by omega))
  have U1 := hide (HU0.out.trans hu1)
  have z1 := hu1.size
  simp only [World.size_alloc] at z1
  have alc := bal (Below.refl w1.heap.size w1) (.cells #[.int .i64 a0, .int .i64 0, .int .i64 0, .int .i64 0, .int .i64 0, .int .i64 0, .int .i64 0, .int .i64 0, .int .i64 0, .int .i64 0, .int .i64 0, .int .i64 0, .int .i64 0, .int .i64 0, .int .i64 0, .int .i64 0, .int .i64 0, .int .i64 0, .int .i64 0, .int .i64 0, .int .i64 0, .int .i64 0, .int .i64 0, .int .i64 0, .slice none 0 0, .slice none 0 0] 34)
  have N0 := hide (heap_up (.cells #[.int .i64 a0, .int .i64 0, .int .i64 0, .int .i64 0, .int .i64 0, .int .i64 0, .int .i64 0, .int .i64 0, .int .i64 0, .int .i64 0, .int .i64 0, .int .i64 0, .int .i64 0, .int .i64 0, .int .i64 0, .int .i64 0, .int .i64 0, .int .i64 0, .int .i64 0, .int .i64 0, .int .i64 0, .int .i64 0, .int .i64 0, .int .i64 0, .slice none 0 0, .slice none 0 0] 34) G1.out)
  have N1 := hide (heap_alloc_new w1 (.cells #[.int .i64 a0, .int .i64 0, .int .i64 0, .int .i64 0, .int .i64 0, .int .i64 0, .int .i64 0, .int .i64 0, .int .i64 0, .int .i64 0, .int .i64 0, .int .i64 0, .int .i64 0, .int .i64 0, .int .i64 0, .int .i64 0, .int .i64 0, .int .i64 0, .int .i64 0, .int .i64 0, .int .i64 0, .int .i64 0, .int .i64 0, .int .i64 0, .slice none 0 0, .slice none 0 0] 34))
  have hrc := hr1.keepB alc
  have V1 := hide (U1.out.trans (Upd.ofBelow (S := fun j => j = R) alc))
  have hRl1 := hr1.lt.1
  clear hr0 hu1 G G1 HU0 U1 hr1 alc al0
  go_wp2_with (first
    | (refine wpList_built34a a0 rfl _ rfl ?hp ?_; (case hp => ((conv => lhs; simp only [List.map_toArray, List.map_cons, List.map_nil]); rfl)))
    | (refine wpList_store_row rfl 34 (.tmp 3) (.tmp 10) rfl w1.heap.size _ rfl rfl _ _ (heap_alloc_new w1 _) infoWd (show (26 : Nat) = 26 from rfl) (all_of_list rfl) ?_; rw [World.setRow_alloc_new]))

  refine (num_any w0 _ R _ n cap bo bs _ hrc).mono ?_
  rintro e w2 ⟨a1, rfl, p2, bad2, -, -, hr2, rd2', hu2⟩
  have rd2 := rd1.append rd2'
  simp only [List.cons_append, List.nil_append] at rd2
  have M0 := hide (hu2.keeps N0.out (by omega))
  have M1 := hide (hu2.keeps N1.out (by omega))
  have z2 := hu2.size
  simp only [World.size_alloc] at z2
  have c0 : w2.cell? ⟨w1.heap.size, 1, none⟩ = some (.int .i64 0) := boxAt M1.out 1
  have c1 : w2.frozen? ⟨w1.heap.size, 1, none⟩ = false := boxFz M1.out 1
  have us := Upd.setCell (S := fun j => j = w1.heap.size) w2 w1.heap.size 1 (.int .i64 a1) rfl
  have V2 := hide ((V1.out.trans hu2).transN us (fun k h => by omega))
  have hrd := hr2.keep us (by omega) (fun k h => by omega)
  clear N0 N1 hrc V1 rd1 rd2' hr2
  have N0 := hide (us.keeps M0.out (by omega))
  have N1 : Hid ((w2.setCell ⟨w1.heap.size, 1, none⟩ (.int .i64 a1)).heap[w1.heap.size]? = some (.cells #[.int .i64 a0, .int .i64 a1, .int .i64 0, .int .i64 0, .int .i64 0, .int .i64 0, .int .i64 0, .int .i64 0, .int .i64 0, .int .i64 0, .int .i64 0, .int .i64 0, .int .i64 0, .int .i64 0, .int .i64 0, .int .i64 0, .int .i64 0, .int .i64 0, .int .i64 0, .int .i64 0, .int .i64 0, .int .i64 0, .int .i64 0, .int .i64 0, .slice none 0 0, .slice none 0 0] 34 (0, 0))) := row_set _ M1.out
  have hrc := hrd
  clear M0 M1 us hu2 hrd
  go_wp2_with fail
  clear c0 c1
  refine (num_any w0 _ R _ n cap bo bs _ hrc).mono ?_
  rintro e w3 ⟨a2, rfl, p3, bad3, -, -, hr3, rd3', hu3⟩
  have rd3 := rd2.append rd3'
  simp only [List.cons_append, List.nil_append] at rd3
  have M0 := hide (hu3.keeps N0.out (by omega))
  have M1 := hide (hu3.keeps N1.out (by omega))
  have z3 := hu3.size
  simp only [World.size_setCell] at z3
  have c0 : w3.cell? ⟨w1.heap.size, 2, none⟩ = some (.int .i64 0) := boxAt M1.out 2
  have c1 : w3.frozen? ⟨w1.heap.size, 2, none⟩ = false := boxFz M1.out 2
  have us := Upd.setCell (S := fun j => j = w1.heap.size) w3 w1.heap.size 2 (.int .i64 a2) rfl
  have V3 := hide ((V2.out.trans hu3).transN us (fun k h => by omega))
  have hrd := hr3.keep us (by omega) (fun k h => by omega)
  clear N0 N1 hrc V2 rd2 rd3' hr3
  have N0 := hide (us.keeps M0.out (by omega))
  have N1 : Hid ((w3.setCell ⟨w1.heap.size, 2, none⟩ (.int .i64 a2)).heap[w1.heap.size]? = some (.cells #[.int .i64 a0, .int .i64 a1, .int .i64 a2, .int .i64 0, .int .i64 0, .int .i64 0, .int .i64 0, .int .i64 0, .int .i64 0, .int .i64 0, .int .i64 0, .int .i64 0, .int .i64 0, .int .i64 0, .int .i64 0, .int .i64 0, .int .i64 0, .int .i64 0, .int .i64 0, .int .i64 0, .int .i64 0, .int .i64 0, .int .i64 0, .int .i64 0, .slice none 0 0, .slice none 0 0] 34 (0, 0))) := row_set _ M1.out
  have hrc := hrd
  clear M0 M1 us hu3 hrd
  go_wp2_with fail
  clear c0 c1
  refine (num_any w0 _ R _ n cap bo bs _ hrc).mono ?_
  rintro e w4 ⟨a3, rfl, p4, bad4, -, -, hr4, rd4', hu4⟩
  have rd4 := rd3.append rd4'
  simp only [List.cons_append, List.nil_append] at rd4
  have M0 := hide (hu4.keeps N0.out (by omega))
  have M1 := hide (hu4.keeps N1.out (by omega))
  have z4 := hu4.size
  simp only [World.size_setCell] at z4
  have c0 : w4.cell? ⟨w1.heap.size, 3, none⟩ = some (.int .i64 0) := boxAt M1.out 3
  have c1 : w4.frozen? ⟨w1.heap.size, 3, none⟩ = false := boxFz M1.out 3
  have us := Upd.setCell (S := fun j => j = w1.heap.size) w4 w1.heap.size 3 (.int .i64 a3) rfl
  have V4 := hide ((V3.out.trans hu4).transN us (fun k h => by omega))
  have hrd := hr4.keep us (by omega) (fun k h => by omega)
  clear N0 N1 hrc V3 rd3 rd4' hr4
  have N0 := hide (us.keeps M0.out (by omega))
  have N1 : Hid ((w4.setCell ⟨w1.heap.size, 3, none⟩ (.int .i64 a3)).heap[w1.heap.size]? = some (.cells #[.int .i64 a0, .int .i64 a1, .int .i64 a2, .int .i64 a3, .int .i64 0, .int .i64 0, .int .i64 0, .int .i64 0, .int .i64 0, .int .i64 0, .int .i64 0, .int .i64 0, .int .i64 0, .int .i64 0, .int .i64 0, .int .i64 0, .int .i64 0, .int .i64 0, .int .i64 0, .int .i64 0, .int .i64 0, .int .i64 0, .int .i64 0, .int .i64 0, .slice none 0 0, .slice none 0 0] 34 (0, 0))) := row_set _ M1.out
  have hrc := hrd
  clear M0 M1 us hu4 hrd
  go_wp2_with fail
  clear c0 c1
  refine (num_any w0 _ R _ n cap bo bs _ hrc).mono ?_
  rintro e w5 ⟨a4, rfl, p5, bad5, -, -, hr5, rd5', hu5⟩
  have rd5 := rd4.append rd5'
  simp only [List.cons_append, List.nil_append] at rd5
  have M0 := hide (hu5.keeps N0.out (by omega))
  have M1 := hide (hu5.keeps N1.out (by omega))
  have z5 := hu5.size
  simp only [World.size_setCell] at z5
  have c0 : w5.cell? ⟨w1.heap.size, 4, none⟩ = some (.int .i64 0) := boxAt M1.out 4
  have c1 : w5.frozen? ⟨w1.heap.size, 4, none⟩ = false := boxFz M1.out 4
  have us := Upd.setCell (S := fun j => j = w1.heap.size) w5 w1.heap.size 4 (.int .i64 a4) rfl
  have V5 := hide ((V4.out.trans hu5).transN us (fun k h => by omega))
  have hrd := hr5.keep us (by omega) (fun k h => by omega)
  clear N0 N1 hrc V4 rd4 rd5' hr5
  have N0 := hide (us.keeps M0.out (by omega))
  have N1 : Hid ((w5.setCell ⟨w1.heap.size, 4, none⟩ (.int .i64 a4)).heap[w1.heap.size]? = some (.cells #[.int .i64 a0, .int .i64 a1, .int .i64 a2, .int .i64 a3, .int .i64 a4, .int .i64 0, .int .i64 0, .int .i64 0, .int .i64 0, .int .i64 0, .int .i64 0, .int .i64 0, .int .i64 0, .int .i64 0, .int .i64 0, .int .i64 0, .int .i64 0, .int .i64 0, .int .i64 0, .int .i64 0, .int .i64 0, .int .i64 0, .int .i64 0, .int .i64 0, .slice none 0 0, .slice none 0 0] 34 (0, 0))) := row_set _ M1.out
  have hrc := hrd
  clear M0 M1 us hu5 hrd
  go_wp2_with fail
  clear c0 c1
  refine (num_any w0 _ R _ n cap bo bs _ hrc).mono ?_
  rintro e w6 ⟨a5, rfl, p6, bad6, -, -, hr6, rd6', hu6⟩
  have rd6 := rd5.append rd6'
  simp only [List.cons_append, List.nil_append] at rd6
  have M0 := hide (hu6.keeps N0.out (by omega))
  have M1 := hide (hu6.keeps N1.out (by omega))
  have z6 := hu6.size
  simp only [World.size_setCell] at z6
  have c0 : w6.cell? ⟨w1.heap.size, 5, none⟩ = some (.int .i64 0) := boxAt M1.out 5
  have c1 : w6.frozen? ⟨w1.heap.size, 5, none⟩ = false := boxFz M1.out 5
  have us := Upd.setCell (S := fun j => j = w1.heap.size) w6 w1.heap.size 5 (.int .i64 a5) rfl
  have V6 := hide ((V5.out.trans hu6).transN us (fun k h => by omega))
  have hrd := hr6.keep us (by omega) (fun k h => by omega)
  clear N0 N1 hrc V5 rd5 rd6' hr6
  have N0 := hide (us.keeps M0.out (by omega))
  have N1 : Hid ((w6.setCell ⟨w1.heap.size, 5, none⟩ (.int .i64 a5)).heap[w1.heap.size]? = some (.cells #[.int .i64 a0, .int .i64 a1, .int .i64 a2, .int .i64 a3, .int .i64 a4, .int .i64 a5, .int .i64 0, .int .i64 0, .int .i64 0, .int .i64 0, .int .i64 0, .int .i64 0, .int .i64 0, .int .i64 0, .int .i64 0, .int .i64 0, .int .i64 0, .int .i64 0, .int .i64 0, .int .i64 0, .int .i64 0, .int .i64 0, .int .i64 0, .int .i64 0, .slice none 0 0, .slice none 0 0] 34 (0, 0))) := row_set _ M1.out
  have hrc := hrd
  clear M0 M1 us hu6 hrd
  go_wp2_with fail
  clear c0 c1
  refine (readCmd_any w0 _ R _ n cap bo bs _ hrc).mono ?_
  rintro e w7 ⟨C, rfl, p7, bad7, hr7, rd7', hu7⟩
  obtain ⟨a6, a7, a8, a9, a10, a11, a12, a13, a14, a15, hC⟩ : ∃ a6 a7 a8 a9 a10 a11 a12 a13 a14 a15, (C.c0 = a6 ∧ C.c1 = a7 ∧ C.c2 = a8 ∧ C.c3 = a9 ∧ C.c4 = a10 ∧ C.c5 = a11 ∧ C.c6 = a12 ∧ C.c7 = a13 ∧ C.c8 = a14 ∧ C.c9 = a15) := ⟨_, _, _, _, _, _, _, _, _, _, rfl, rfl, rfl, rfl, rfl, rfl, rfl, rfl, rfl, rfl⟩
  obtain ⟨h6, h7, h8, h9, h10, h11, h12, h13, h14, h15⟩ := hC
  rw [h6, h7, h8, h9, h10, h11, h12, h13, h14, h15] at rd7' ⊢
  have rd7 := rd6.append rd7'
  simp only [List.cons_append, List.nil_append] at rd7
  have M0 := hide (hu7.keeps N0.out (by omega))
  have M1 := hide (hu7.keeps N1.out (by omega))
  have z7 := hu7.size
  simp only [World.size_setCell] at z7
  have c6 : w7.cell? ⟨w1.heap.size, 6, none⟩ = some (.int .i64 0) := boxAt M1.out 6
  have d6 : w7.frozen? ⟨w1.heap.size, 6, none⟩ = false := boxFz M1.out 6
  have c7 : w7.cell? ⟨w1.heap.size, 7, none⟩ = some (.int .i64 0) := boxAt M1.out 7
  have d7 : w7.frozen? ⟨w1.heap.size, 7, none⟩ = false := boxFz M1.out 7
  have c8 : w7.cell? ⟨w1.heap.size, 8, none⟩ = some (.int .i64 0) := boxAt M1.out 8
  have d8 : w7.frozen? ⟨w1.heap.size, 8, none⟩ = false := boxFz M1.out 8
  have c9 : w7.cell? ⟨w1.heap.size, 9, none⟩ = some (.int .i64 0) := boxAt M1.out 9
  have d9 : w7.frozen? ⟨w1.heap.size, 9, none⟩ = false := boxFz M1.out 9
  have c10 : w7.cell? ⟨w1.heap.size, 10, none⟩ = some (.int .i64 0) := boxAt M1.out 10
  have d10 : w7.frozen? ⟨w1.heap.size, 10, none⟩ = false := boxFz M1.out 10
  have c11 : w7.cell? ⟨w1.heap.size, 11, none⟩ = some (.int .i64 0) := boxAt M1.out 11
  have d11 : w7.frozen? ⟨w1.heap.size, 11, none⟩ = false := boxFz M1.out 11
  have c12 : w7.cell? ⟨w1.heap.size, 12, none⟩ = some (.int .i64 0) := boxAt M1.out 12
  have d12 : w7.frozen? ⟨w1.heap.size, 12, none⟩ = false := boxFz M1.out 12
  have c13 : w7.cell? ⟨w1.heap.size, 13, none⟩ = some (.int .i64 0) := boxAt M1.out 13
  have d13 : w7.frozen? ⟨w1.heap.size, 13, none⟩ = false := boxFz M1.out 13
  have c14 : w7.cell? ⟨w1.heap.size, 14, none⟩ = some (.int .i64 0) := boxAt M1.out 14
  have d14 : w7.frozen? ⟨w1.heap.size, 14, none⟩ = false := boxFz M1.out 14
  have c15 : w7.cell? ⟨w1.heap.size, 15, none⟩ = some (.int .i64 0) := boxAt M1.out 15
  have d15 : w7.frozen? ⟨w1.heap.size, 15, none⟩ = false := boxFz M1.out 15
  have us := set10u w7 w1.heap.size (.int .i64 a6) (.int .i64 a7) (.int .i64 a8) (.int .i64 a9) (.int .i64 a10) (.int .i64 a11) (.int .i64 a12) (.int .i64 a13) (.int .i64 a14) (.int .i64 a15)
  have V7 := hide ((V6.out.trans hu7).transN us (fun k h => by omega))
  have hrd := hr7.keep us (by omega) (fun k h => by omega)
  clear N0 N1 hrc V6 rd6 rd7' hr7 h6 h7 h8 h9 h10 h11 h12 h13 h14 h15
  have N0 := hide (us.keeps M0.out (by omega))
  have N1 := hide (set10 (.int .i64 a6) (.int .i64 a7) (.int .i64 a8) (.int .i64 a9) (.int .i64 a10) (.int .i64 a11) (.int .i64 a12) (.int .i64 a13) (.int .i64 a14) (.int .i64 a15) M1.out)
  have hrc := hrd
  clear M0 M1 us hu7 hrd
  go_wp2_with fail
  clear c6 d6 c7 d7 c8 d8 c9 d9 c10 d10 c11 d11 c12 d12 c13 d13 c14 d14 c15 d15
  generalize World.setCell _ ⟨w1.heap.size, 15, none⟩ (.int .i64 a15) = Wc at N0 N1 hrc V7 ⊢

  refine (num_any w0 _ R _ n cap bo bs _ hrc).mono ?_
  rintro e w8 ⟨a16, rfl, p8, bad8, -, -, hr8, rd8', hu8⟩
  have rd8 := rd7.append rd8'
  simp only [List.cons_append, List.nil_append] at rd8
  have M0 := hide (hu8.keeps N0.out (by omega))
  have M1 := hide (hu8.keeps N1.out (by omega))
  have z8 := hu8.size
  have c0 : w8.cell? ⟨w1.heap.size, 16, none⟩ = some (.int .i64 0) := boxAt M1.out 16
  have c1 : w8.frozen? ⟨w1.heap.size, 16, none⟩ = false := boxFz M1.out 16
  have us := Upd.setCell (S := fun j => j = w1.heap.size) w8 w1.heap.size 16 (.int .i64 a16) rfl
  have V8 := hide ((V7.out.trans hu8).transN us (fun k h => by omega))
  have hrd := hr8.keep us (by omega) (fun k h => by omega)
  clear N0 N1 hrc V7 rd7 rd8' hr8
  have N0 := hide (us.keeps M0.out (by omega))
  have N1 : Hid ((w8.setCell ⟨w1.heap.size, 16, none⟩ (.int .i64 a16)).heap[w1.heap.size]? = some (.cells #[.int .i64 a0, .int .i64 a1, .int .i64 a2, .int .i64 a3, .int .i64 a4, .int .i64 a5, .int .i64 a6, .int .i64 a7, .int .i64 a8, .int .i64 a9, .int .i64 a10, .int .i64 a11, .int .i64 a12, .int .i64 a13, .int .i64 a14, .int .i64 a15, .int .i64 a16, .int .i64 0, .int .i64 0, .int .i64 0, .int .i64 0, .int .i64 0, .int .i64 0, .int .i64 0, .slice none 0 0, .slice none 0 0] 34 (0, 0))) := row_set _ M1.out
  have hrc := hrd
  clear M0 M1 us hu8 hrd
  go_wp2_with fail
  clear c0 c1
  refine (num_any w0 _ R _ n cap bo bs _ hrc).mono ?_
  rintro e w9 ⟨a17, rfl, p9, bad9, -, -, hr9, rd9', hu9⟩
  have rd9 := rd8.append rd9'
  simp only [List.cons_append, List.nil_append] at rd9
  have M0 := hide (hu9.keeps N0.out (by omega))
  have M1 := hide (hu9.keeps N1.out (by omega))
  have z9 := hu9.size
  simp only [World.size_setCell] at z9
  have c0 : w9.cell? ⟨w1.heap.size, 17, none⟩ = some (.int .i64 0) := boxAt M1.out 17
  have c1 : w9.frozen? ⟨w1.heap.size, 17, none⟩ = false := boxFz M1.out 17
  have us := Upd.setCell (S := fun j => j = w1.heap.size) w9 w1.heap.size 17 (.int .i64 a17) rfl
  have V9 := hide ((V8.out.trans hu9).transN us (fun k h => by omega))
  have hrd := hr9.keep us (by omega) (fun k h => by omega)
  clear N0 N1 hrc V8 rd8 rd9' hr9
  have N0 := hide (us.keeps M0.out (by omega))
  have N1 : Hid ((w9.setCell ⟨w1.heap.size, 17, none⟩ (.int .i64 a17)).heap[w1.heap.size]? = some (.cells #[.int .i64 a0, .int .i64 a1, .int .i64 a2, .int .i64 a3, .int .i64 a4, .int .i64 a5, .int .i64 a6, .int .i64 a7, .int .i64 a8, .int .i64 a9, .int .i64 a10, .int .i64 a11, .int .i64 a12, .int .i64 a13, .int .i64 a14, .int .i64 a15, .int .i64 a16, .int .i64 a17, .int .i64 0, .int .i64 0, .int .i64 0, .int .i64 0, .int .i64 0, .int .i64 0, .slice none 0 0, .slice none 0 0] 34 (0, 0))) := row_set _ M1.out
  have hrc := hrd
  clear M0 M1 us hu9 hrd
  go_wp2_with fail
  clear c0 c1
  refine (num_any w0 _ R _ n cap bo bs _ hrc).mono ?_
  rintro e w10 ⟨a18, rfl, p10, bad10, -, -, hr10, rd10', hu10⟩
  have rd10 := rd9.append rd10'
  simp only [List.cons_append, List.nil_append] at rd10
  have M0 := hide (hu10.keeps N0.out (by omega))
  have M1 := hide (hu10.keeps N1.out (by omega))
  have z10 := hu10.size
  simp only [World.size_setCell] at z10
  have c0 : w10.cell? ⟨w1.heap.size, 18, none⟩ = some (.int .i64 0) := boxAt M1.out 18
  have c1 : w10.frozen? ⟨w1.heap.size, 18, none⟩ = false := boxFz M1.out 18
  have us := Upd.setCell (S := fun j => j = w1.heap.size) w10 w1.heap.size 18 (.int .i64 a18) rfl
  have V10 := hide ((V9.out.trans hu10).transN us (fun k h => by omega))
  have hrd := hr10.keep us (by omega) (fun k h => by omega)
  clear N0 N1 hrc V9 rd9 rd10' hr10
  have N0 := hide (us.keeps M0.out (by omega))
  have N1 : Hid ((w10.setCell ⟨w1.heap.size, 18, none⟩ (.int .i64 a18)).heap[w1.heap.size]? = some (.cells #[.int .i64 a0, .int .i64 a1, .int .i64 a2, .int .i64 a3, .int .i64 a4, .int .i64 a5, .int .i64 a6, .int .i64 a7, .int .i64 a8, .int .i64 a9, .int .i64 a10, .int .i64 a11, .int .i64 a12, .int .i64 a13, .int .i64 a14, .int .i64 a15, .int .i64 a16, .int .i64 a17, .int .i64 a18, .int .i64 0, .int .i64 0, .int .i64 0, .int .i64 0, .int .i64 0, .slice none 0 0, .slice none 0 0] 34 (0, 0))) := row_set _ M1.out
  have hrc := hrd
  clear M0 M1 us hu10 hrd
  go_wp2_with fail
  clear c0 c1
  refine (num_any w0 _ R _ n cap bo bs _ hrc).mono ?_
  rintro e w11 ⟨a19, rfl, p11, bad11, -, -, hr11, rd11', hu11⟩
  have rd11 := rd10.append rd11'
  simp only [List.cons_append, List.nil_append] at rd11
  have M0 := hide (hu11.keeps N0.out (by omega))
  have M1 := hide (hu11.keeps N1.out (by omega))
  have z11 := hu11.size
  simp only [World.size_setCell] at z11
  have c0 : w11.cell? ⟨w1.heap.size, 19, none⟩ = some (.int .i64 0) := boxAt M1.out 19
  have c1 : w11.frozen? ⟨w1.heap.size, 19, none⟩ = false := boxFz M1.out 19
  have us := Upd.setCell (S := fun j => j = w1.heap.size) w11 w1.heap.size 19 (.int .i64 a19) rfl
  have V11 := hide ((V10.out.trans hu11).transN us (fun k h => by omega))
  have hrd := hr11.keep us (by omega) (fun k h => by omega)
  clear N0 N1 hrc V10 rd10 rd11' hr11
  have N0 := hide (us.keeps M0.out (by omega))
  have N1 : Hid ((w11.setCell ⟨w1.heap.size, 19, none⟩ (.int .i64 a19)).heap[w1.heap.size]? = some (.cells #[.int .i64 a0, .int .i64 a1, .int .i64 a2, .int .i64 a3, .int .i64 a4, .int .i64 a5, .int .i64 a6, .int .i64 a7, .int .i64 a8, .int .i64 a9, .int .i64 a10, .int .i64 a11, .int .i64 a12, .int .i64 a13, .int .i64 a14, .int .i64 a15, .int .i64 a16, .int .i64 a17, .int .i64 a18, .int .i64 a19, .int .i64 0, .int .i64 0, .int .i64 0, .int .i64 0, .slice none 0 0, .slice none 0 0] 34 (0, 0))) := row_set _ M1.out
  have hrc := hrd
  clear M0 M1 us hu11 hrd
  go_wp2_with fail
  clear c0 c1
  refine (num_any w0 _ R _ n cap bo bs _ hrc).mono ?_
  rintro e w12 ⟨a20, rfl, p12, bad12, -, -, hr12, rd12', hu12⟩
  have rd12 := rd11.append rd12'
  simp only [List.cons_append, List.nil_append] at rd12
  have M0 := hide (hu12.keeps N0.out (by omega))
  have M1 := hide (hu12.keeps N1.out (by omega))
  have z12 := hu12.size
  simp only [World.size_setCell] at z12
  have c0 : w12.cell? ⟨w1.heap.size, 20, none⟩ = some (.int .i64 0) := boxAt M1.out 20
  have c1 : w12.frozen? ⟨w1.heap.size, 20, none⟩ = false := boxFz M1.out 20
  have us := Upd.setCell (S := fun j => j = w1.heap.size) w12 w1.heap.size 20 (.int .i64 a20) rfl
  have V12 := hide ((V11.out.trans hu12).transN us (fun k h => by omega))
  have hrd := hr12.keep us (by omega) (fun k h => by omega)
  clear N0 N1 hrc V11 rd11 rd12' hr12
  have N0 := hide (us.keeps M0.out (by omega))
  have N1 : Hid ((w12.setCell ⟨w1.heap.size, 20, none⟩ (.int .i64 a20)).heap[w1.heap.size]? = some (.cells #[.int .i64 a0, .int .i64 a1, .int .i64 a2, .int .i64 a3, .int .i64 a4, .int .i64 a5, .int .i64 a6, .int .i64 a7, .int .i64 a8, .int .i64 a9, .int .i64 a10, .int .i64 a11, .int .i64 a12, .int .i64 a13, .int .i64 a14, .int .i64 a15, .int .i64 a16, .int .i64 a17, .int .i64 a18, .int .i64 a19, .int .i64 a20, .int .i64 0, .int .i64 0, .int .i64 0, .slice none 0 0, .slice none 0 0] 34 (0, 0))) := row_set _ M1.out
  have hrc := hrd
  clear M0 M1 us hu12 hrd
  go_wp2_with fail
  clear c0 c1
  refine (num_any w0 _ R _ n cap bo bs _ hrc).mono ?_
  rintro e w13 ⟨a21, rfl, p13, bad13, -, -, hr13, rd13', hu13⟩
  have rd13 := rd12.append rd13'
  simp only [List.cons_append, List.nil_append] at rd13
  have M0 := hide (hu13.keeps N0.out (by omega))
  have M1 := hide (hu13.keeps N1.out (by omega))
  have z13 := hu13.size
  simp only [World.size_setCell] at z13
  have c0 : w13.cell? ⟨w1.heap.size, 21, none⟩ = some (.int .i64 0) := boxAt M1.out 21
  have c1 : w13.frozen? ⟨w1.heap.size, 21, none⟩ = false := boxFz M1.out 21
  have us := Upd.setCell (S := fun j => j = w1.heap.size) w13 w1.heap.size 21 (.int .i64 a21) rfl
  have V13 := hide ((V12.out.trans hu13).transN us (fun k h => by omega))
  have hrd := hr13.keep us (by omega) (fun k h => by omega)
  clear N0 N1 hrc V12 rd12 rd13' hr13
  have N0 := hide (us.keeps M0.out (by omega))
  have N1 : Hid ((w13.setCell ⟨w1.heap.size, 21, none⟩ (.int .i64 a21)).heap[w1.heap.size]? = some (.cells #[.int .i64 a0, .int .i64 a1, .int .i64 a2, .int .i64 a3, .int .i64 a4, .int .i64 a5, .int .i64 a6, .int .i64 a7, .int .i64 a8, .int .i64 a9, .int .i64 a10, .int .i64 a11, .int .i64 a12, .int .i64 a13, .int .i64 a14, .int .i64 a15, .int .i64 a16, .int .i64 a17, .int .i64 a18, .int .i64 a19, .int .i64 a20, .int .i64 a21, .int .i64 0, .int .i64 0, .slice none 0 0, .slice none 0 0] 34 (0, 0))) := row_set _ M1.out
  have hrc := hrd
  clear M0 M1 us hu13 hrd
  go_wp2_with fail
  clear c0 c1
  refine (num_any w0 _ R _ n cap bo bs _ hrc).mono ?_
  rintro e w14 ⟨a22, rfl, p14, bad14, -, -, hr14, rd14', hu14⟩
  have rd14 := rd13.append rd14'
  simp only [List.cons_append, List.nil_append] at rd14
  have M0 := hide (hu14.keeps N0.out (by omega))
  have M1 := hide (hu14.keeps N1.out (by omega))
  have z14 := hu14.size
  simp only [World.size_setCell] at z14
  have c0 : w14.cell? ⟨w1.heap.size, 22, none⟩ = some (.int .i64 0) := boxAt M1.out 22
  have c1 : w14.frozen? ⟨w1.heap.size, 22, none⟩ = false := boxFz M1.out 22
  have us := Upd.setCell (S := fun j => j = w1.heap.size) w14 w1.heap.size 22 (.int .i64 a22) rfl
  have V14 := hide ((V13.out.trans hu14).transN us (fun k h => by omega))
  have hrd := hr14.keep us (by omega) (fun k h => by omega)
  clear N0 N1 hrc V13 rd13 rd14' hr14
  have N0 := hide (us.keeps M0.out (by omega))
  have N1 : Hid ((w14.setCell ⟨w1.heap.size, 22, none⟩ (.int .i64 a22)).heap[w1.heap.size]? = some (.cells #[.int .i64 a0, .int .i64 a1, .int .i64 a2, .int .i64 a3, .int .i64 a4, .int .i64 a5, .int .i64 a6, .int .i64 a7, .int .i64 a8, .int .i64 a9, .int .i64 a10, .int .i64 a11, .int .i64 a12, .int .i64 a13, .int .i64 a14, .int .i64 a15, .int .i64 a16, .int .i64 a17, .int .i64 a18, .int .i64 a19, .int .i64 a20, .int .i64 a21, .int .i64 a22, .int .i64 0, .slice none 0 0, .slice none 0 0] 34 (0, 0))) := row_set _ M1.out
  have hrc := hrd
  clear M0 M1 us hu14 hrd
  go_wp2_with fail
  clear c0 c1
  refine (num_any w0 _ R _ n cap bo bs _ hrc).mono ?_
  rintro e w15 ⟨a23, rfl, p15, bad15, -, -, hr15, rd15', hu15⟩
  have rd15 := rd14.append rd15'
  simp only [List.cons_append, List.nil_append] at rd15
  have M0 := hide (hu15.keeps N0.out (by omega))
  have M1 := hide (hu15.keeps N1.out (by omega))
  have z15 := hu15.size
  simp only [World.size_setCell] at z15
  have c0 : w15.cell? ⟨w1.heap.size, 23, none⟩ = some (.int .i64 0) := boxAt M1.out 23
  have c1 : w15.frozen? ⟨w1.heap.size, 23, none⟩ = false := boxFz M1.out 23
  have us := Upd.setCell (S := fun j => j = w1.heap.size) w15 w1.heap.size 23 (.int .i64 a23) rfl
  have V15 := hide ((V14.out.trans hu15).transN us (fun k h => by omega))
  have hrd := hr15.keep us (by omega) (fun k h => by omega)
  clear N0 N1 hrc V14 rd14 rd15' hr15
  have N0 := hide (us.keeps M0.out (by omega))
  have N1 : Hid ((w15.setCell ⟨w1.heap.size, 23, none⟩ (.int .i64 a23)).heap[w1.heap.size]? = some (.cells #[.int .i64 a0, .int .i64 a1, .int .i64 a2, .int .i64 a3, .int .i64 a4, .int .i64 a5, .int .i64 a6, .int .i64 a7, .int .i64 a8, .int .i64 a9, .int .i64 a10, .int .i64 a11, .int .i64 a12, .int .i64 a13, .int .i64 a14, .int .i64 a15, .int .i64 a16, .int .i64 a17, .int .i64 a18, .int .i64 a19, .int .i64 a20, .int .i64 a21, .int .i64 a22, .int .i64 a23, .slice none 0 0, .slice none 0 0] 34 (0, 0))) := row_set _ M1.out
  have hrc := hrd
  clear M0 M1 us hu15 hrd
  go_wp2_with fail
  clear c0 c1
  obtain ⟨x, hx⟩ : ∃ x : Wd, x = ⟨a0, a1, a2, a3, a4, a5, a6, a7, a8, a9, a10, a11, a12, a13, a14, a15, a16, a17, a18, a19, a20, a21, a22, a23, [], []⟩ := ⟨_, rfl⟩
  generalize World.setCell _ ⟨w1.heap.size, 23, none⟩ (.int .i64 a23) = W at N0 N1 hrc V15 ⊢
  have K1 : Hid (W.heap[w1.heap.size]? = some (.cells (#[.int .i64 x.a0, .int .i64 x.a1, .int .i64 x.a2, .int .i64 x.a3, .int .i64 x.a4, .int .i64 x.a5, .int .i64 x.c0, .int .i64 x.c1, .int .i64 x.c2, .int .i64 x.c3, .int .i64 x.c4, .int .i64 x.c5, .int .i64 x.c6, .int .i64 x.c7, .int .i64 x.c8, .int .i64 x.c9, .int .i64 x.b0, .int .i64 x.b1, .int .i64 x.b2, .int .i64 x.b3, .int .i64 x.b4, .int .i64 x.b5, .int .i64 x.b6, .int .i64 x.b7, .slice none 0 0, .slice none 0 0] : Array Value) 34 (0, 0))) := by rw [hx]; exact N1.out
  have RD : Hid (Rdn (vw bs p bad) x.nums (vw bs p15 bad15)) := by rw [hx]; exact rd15
  have zW := V15.out.size
  have hlW := heap_lt N1.out
  clear hx N1 rd15 z2 z3 z4 z5 z6 z7 z8 z9 z10 z11 z12 z13 z14 z15
  refine (num_any w0 W R p15 n cap bo bs bad15 hrc).mono ?_
  rintro e w16 ⟨k0, rfl, p16, bad16, hk0a, hk0b, hr16, rd16, hu16⟩
  obtain ⟨B, hB⟩ : ∃ B, vw bs p15 bad15 = B := ⟨_, rfl⟩
  rw [hB] at rd16 RD
  clear hB
  have LP := hide (Lpt.start (num := pnum) rd16)
  have J0 := hide (hu16.keeps N0.out (by omega))
  have J1 := hide (hu16.keeps K1.out (by omega))
  have JU := hide (V15.out.trans hu16)
  have hr16' := hide hr16
  obtain ⟨i1, gi, gz0, gz1, gz2⟩ := info_parts infoPc
  obtain ⟨i2, gi2, gy0, gy1, gy2⟩ := info_parts infoLc
  clear N0 K1 V15 hrc rd16 hr16 hu16
  go_wp2
  go_loopw [4] (fun nv wr => ∃ (k : Int) (xs : List Pc) (p' : Nat) (bad' : Bool) (po : Option Addr) (pc : Nat), nv = .int .i64 k ∧ -1 ≤ k ∧ (xs.length : Int) + k ≤ 2097150 ∧ RowA wr w.heap.size 83 4 (.slice po xs.length pc) xs.length (pcells xs) ∧ wr.heap[w1.heap.size]? = some (.cells (#[.int .i64 x.a0, .int .i64 x.a1, .int .i64 x.a2, .int .i64 x.a3, .int .i64 x.a4, .int .i64 x.a5, .int .i64 x.c0, .int .i64 x.c1, .int .i64 x.c2, .int .i64 x.c3, .int .i64 x.c4, .int .i64 x.c5, .int .i64 x.c6, .int .i64 x.c7, .int .i64 x.c8, .int .i64 x.c9, .int .i64 x.b0, .int .i64 x.b1, .int .i64 x.b2, .int .i64 x.b3, .int .i64 x.b4, .int .i64 x.b5, .int .i64 x.b6, .int .i64 x.b7, .slice po xs.length pc, .slice none 0 0] : Array Value) 34 (0, 0)) ∧ wr.heap[w.heap.size]? = some (.cells #[.int .i64 0, .int .i64 0, .int .i64 0, .int .i64 0, .int .i64 0, .int .i64 0, .int .i64 0, .int .i64 0, .int .i64 0, .int .i64 0, .int .i64 0, .int .i64 0, .int .i64 0, .int .i64 0, .int .i64 0, .int .i64 0, .int .i64 0, .int .i64 0, .int .i64 0, .int .i64 0, .int .i64 0, .int .i64 0, .int .i64 0, .int .i64 0, .slice none 0 0, .slice none 0 0] 34 (0, 0)) ∧ Rg w0 wr R bo n cap bs p' bad' ∧ Lpt pnum B xs k (vw bs p' bad') ∧ Upd (fun j => j = R) w wr) (fun nv _ => (intOf nv).toNat)
  case atStart => exact ⟨k0, [], p16, bad16, none, 0, rfl, hk0a, by simpa using hk0b, .inr ⟨rfl, rfl, _, rfl⟩, J1.out, J0.out, hr16'.out, LP.out, JU.out⟩
  case round =>
    clear J0 J1 JU hr16' LP
    obtain ⟨k, xs, p', bad', po, pc, rfl, hka, hkb, hrow, hbx, hres, hrr, hlp, hupd⟩ := hrel
    obtain ⟨m, hm⟩ : ∃ m, xs.length = m := ⟨_, rfl⟩
    rw [hm] at hkb hrow hbx
    have HM := hide hm
    have HBX := hide hbx
    have HRS := hide hres
    have HRW := hide hrow
    have HLP := hide hlp
    have HUP := hide hupd
    have hzr := hupd.size
    have hlx := heap_lt hbx
    have hbox := hrr.2.2.2.2.1
    obtain ⟨-, -, b2, -⟩ := box3u hbox
    clear hm hbx hres hrow hlp hupd hbox
    by_cases hgo : 0 < k ∧ bad' = false
    · obtain ⟨hk, rfl⟩ := hgo
      go_wp2_with fail
      refine (num_any w0 _ R _ n cap bo bs _ hrr).mono ?_
      rintro e v1 ⟨d, rfl, q1, e1, -, -, hs1, rs1, hv1⟩
      have alp := bal (Below.refl v1.heap.size v1) (.cells #[.int .i64 d, .int .i64 0, .int .i64 0, .int .i64 0] 83)
      have P1 := hide (heap_alloc_new v1 (.cells #[.int .i64 d, .int .i64 0, .int .i64 0, .int .i64 0] 83))
      have hsa := hs1.keepB alp
      have X1 := hide (hv1.trans (Upd.ofBelow (S := fun j => j = R) alp))
      have zv1 := hv1.size
      have hRv := hs1.lt.1
      clear hrr hv1 hs1 alp
      go_wp2_with fail
      refine (num_any w0 _ R _ n cap bo bs _ hsa).mono ?_
      rintro e v2 ⟨b, rfl, q2, e2, -, -, hs2, rs2', hv2⟩
      have rs2 := rs1.append rs2'
      simp only [List.cons_append, List.nil_append] at rs2
      have Q1 := hide (hv2.keeps P1.out (by omega))
      have zv2 := hv2.size
      simp only [World.size_alloc] at zv2
      have c0 : v2.cell? ⟨v1.heap.size, 1, none⟩ = some (.int .i64 0) := boxAt Q1.out 1
      have c1 : v2.frozen? ⟨v1.heap.size, 1, none⟩ = false := boxFz Q1.out 1
      have us := Upd.setCell (S := fun j => j = v1.heap.size) v2 v1.heap.size 1 (.int .i64 b) rfl
      have X2 := hide ((X1.out.trans hv2).transN us (fun k h => by omega))
      have hsb := hs2.keep us (by omega) (fun k h => by omega)
      clear P1 hsa X1 rs1 rs2'
      have P1 : Hid ((v2.setCell ⟨v1.heap.size, 1, none⟩ (.int .i64 b)).heap[v1.heap.size]? = some (.cells #[.int .i64 d, .int .i64 b, .int .i64 0, .int .i64 0] 83 (0, 0))) := row_set _ Q1.out
      have hsa := hsb
      clear Q1 us hsb hs2 hv2
      go_wp2_with fail
      refine (num_any w0 _ R _ n cap bo bs _ hsa).mono ?_
      rintro e v3 ⟨c, rfl, q3, e3, -, -, hs3, rs3', hv3⟩
      have rs3 := rs2.append rs3'
      simp only [List.cons_append, List.nil_append] at rs3
      have Q1 := hide (hv3.keeps P1.out (by omega))
      have zv3 := hv3.size
      simp only [World.size_setCell] at zv3
      have c0 : v3.cell? ⟨v1.heap.size, 2, none⟩ = some (.int .i64 0) := boxAt Q1.out 2
      have c1 : v3.frozen? ⟨v1.heap.size, 2, none⟩ = false := boxFz Q1.out 2
      have us := Upd.setCell (S := fun j => j = v1.heap.size) v3 v1.heap.size 2 (.int .i64 c) rfl
      have X3 := hide ((X2.out.trans hv3).transN us (fun k h => by omega))
      have hsb := hs3.keep us (by omega) (fun k h => by omega)
      clear P1 hsa X2 rs2 rs3'
      have P1 : Hid ((v3.setCell ⟨v1.heap.size, 2, none⟩ (.int .i64 c)).heap[v1.heap.size]? = some (.cells #[.int .i64 d, .int .i64 b, .int .i64 c, .int .i64 0] 83 (0, 0))) := row_set _ Q1.out
      have hsa := hsb
      clear Q1 us hsb hs3 hv3
      go_wp2_with fail
      refine (num_any w0 _ R _ n cap bo bs _ hsa).mono ?_
      rintro e v4 ⟨t, rfl, q4, e4, -, -, hs4, rs4', hv4⟩
      have rs4 := rs3.append rs4'
      simp only [List.cons_append, List.nil_append] at rs4
      have Q1 := hide (hv4.keeps P1.out (by omega))
      have zv4 := hv4.size
      simp only [World.size_setCell] at zv4
      have c0 : v4.cell? ⟨v1.heap.size, 3, none⟩ = some (.int .i64 0) := boxAt Q1.out 3
      have c1 : v4.frozen? ⟨v1.heap.size, 3, none⟩ = false := boxFz Q1.out 3
      have us := Upd.setCell (S := fun j => j = v1.heap.size) v4 v1.heap.size 3 (.int .i64 t) rfl
      have X4 := hide ((X3.out.trans hv4).transN us (fun k h => by omega))
      have hsb := hs4.keep us (by omega) (fun k h => by omega)
      clear P1 hsa X3 rs3 rs4'
      have P1 : Hid ((v4.setCell ⟨v1.heap.size, 3, none⟩ (.int .i64 t)).heap[v1.heap.size]? = some (.cells #[.int .i64 d, .int .i64 b, .int .i64 c, .int .i64 t] 83 (0, 0))) := row_set _ Q1.out
      have hsa := hsb
      have hne : ¬ v1.heap.size = w1.heap.size := by omega
      have hne' : ¬ w1.heap.size = v1.heap.size := by omega
      have y0 : v4.cell? ⟨v1.heap.size, 0, none⟩ = some (.int .i64 d) := boxAt Q1.out 0
      have y1 : v4.cell? ⟨v1.heap.size, 1, none⟩ = some (.int .i64 b) := boxAt Q1.out 1
      have y2 : v4.cell? ⟨v1.heap.size, 2, none⟩ = some (.int .i64 c) := boxAt Q1.out 2
      have HBX3 := hide (X4.out.keeps HBX.out (by omega))
      have HRS3 := hide (X4.out.keeps HRS.out (by omega))
      have f24 : (v4.setCell ⟨v1.heap.size, 3, none⟩ (.int .i64 t)).cell? ⟨w1.heap.size, 24, none⟩ = some (.slice po m pc) := boxAt HBX3.out 24
      have g24 : v4.cell? ⟨w1.heap.size, 24, none⟩ = some (.slice po m pc) := by
        rw [← f24]
        exact (World.cell?_of_block (a := ⟨w1.heap.size, 24, none⟩) (us.block _ (by show w1.heap.size < v4.heap.size; omega) hne')).symm
      have al5 := bal (Below.refl (v4.setCell ⟨v1.heap.size, 3, none⟩ (.int .i64 t)).heap.size (v4.setCell ⟨v1.heap.size, 3, none⟩ (.int .i64 t))) (.cells #[.int .i64 d, .int .i64 b, .int .i64 c, .int .i64 t] 83)
      have row3 := (HRW.out.keep X4.out (fun k h e => by omega)).keepB al5
      have N3 := pc_new (v4.setCell ⟨v1.heap.size, 3, none⟩ (.int .i64 t)) (d, b, c, t) 83
      simp only [World.size_setCell] at N3
      have HN3 := hide N3
      have LP2 := hide (HLP.out.step (x := (d, b, c, t)) hk rs4 (fun _ => rfl) (fun y e => by obtain ⟨y0, y1, y2, y3⟩ := y; simp [pnum] at e; simp [e]))
      have HX4 := hide X4.out
      have Hsa := hide hsa
      clear N3 f24 X4 hsa hsb rs4 hs4 hv4 us Q1 P1 HLP
      go_wp2_with (at_builtin; refine wpList_appendA _ rfl _ _ 31 rfl w.heap.size 83 i1 (.agg #[.int .i64 0, .int .i64 0, .int .i64 0, .int .i64 0]) 4 32 Try.underlying31 gi gz0 gz1 gz2 rfl (by decide) _ m (pcells xs) rfl row3 ⟨v4.heap.size, 0, none⟩ 1 1 (pcell (d, b, c, t)) rfl rfl HN3.out (pcell_one _) (by decide) ?q63 ?qby ?qbase ?_)
      case q63 => unfold maxLen; omega
      case qby => omega
      case qbase => first | omega | (simp; omega)
      intro v5 w5 hown u5
      obtain ⟨mo, cm, rfl⟩ := (Row.ofOwns hown (by omega)).shape
      have HB4 := hide (bKeeps al5 HBX3.out)
      have HB5 := hide (u5.keeps HB4.out (typed_box HB4.out (by decide) rfl))
      have HR4 := hide (bKeeps al5 HRS3.out)
      have HR5 := hide (u5.keeps HR4.out (typed_box HR4.out (by decide) rfl))
      have h24 : w5.cell? ⟨w1.heap.size, 24, none⟩ = some (.slice po m pc) := boxAt HB5.out 24
      have i24 : w5.frozen? ⟨w1.heap.size, 24, none⟩ = false := boxFz HB5.out 24
      have ut := Upd.setCell (S := fun j => j = w1.heap.size) w5 w1.heap.size 24 (.slice mo (m + 1) cm) rfl
      have UU := hide (((HUP.out.trans HX4.out).trans (Upd.ofBelow (S := fun j => j = R) al5)).transN u5 (fun k h => h.1))
      have Hsc := hide ((Hsa.out.keepB al5).keep u5 (fun h => by have := h.1; omega) (fun k h => by have := h.1; omega))
      have zz := u5.size
      simp only [World.size_alloc, World.size_setCell] at zz
      clear al5 HRW HX4 Hsa HN3 HBX HRS
      go_wp2
      go_roundw
      case rel =>
        refine ⟨k - 1, xs ++ [(d, b, c, t)], _, _, mo, cm, rfl, by omega, by rw [List.length_append, HM.out]; simp; omega, ?_, ?_, ut.keeps HR5.out (by omega), Hsc.out.keep ut (by omega) (fun k h => by omega), LP2.out, UU.out.transN ut (fun k h => by omega)⟩
        · rw [List.length_append, HM.out, pcells_snoc]
          exact RowA.keepTy8 (.inl hown) ut (fun k h1 h2 => by subst h2; exact typed_box HB5.out (by decide) rfl h1)
        · rw [List.length_append, HM.out]
          exact row_set _ HB5.out
      case measure => simp [intOf]; omega
    · have hd : Rdl 60 pnum B xs (vw bs p' bad') := by
        by_cases hk : 0 < k
        · have hb : bad' = true := by cases bad' <;> simp_all
          subst hb
          exact (show Lpt pnum B xs k [256] from HLP.out).bad (by omega) hk (fun y => by simp)
        · exact HLP.out.done (by omega) (.inl (by omega))
      obtain ⟨B2, hB2⟩ : ∃ B2, vw bs p' bad' = B2 := ⟨_, rfl⟩
      rw [hB2] at hd
      have HB2 := hide hB2
      have HD := hide hd
      clear hB2
      obtain hk | ⟨hk, rfl⟩ : ¬ 0 < k ∨ (0 < k ∧ bad' = true) := by
        by_cases hk : 0 < k
        · exact .inr ⟨hk, by cases bad' <;> simp_all⟩
        · exact .inl hk
      all_goals
        clear hd hgo
        go_wp2_with fail
        clear b2
        refine (num_any w0 wr R p' n cap bo bs _ hrr).mono ?_
        rintro e w17 ⟨l0, rfl, p17, bad17, hl0a, hl0b, hr17, rd17, hu17⟩
        have J0 := hide (hu17.keeps HRS.out (by omega))
        have J1 := hide (hu17.keeps HBX.out (by omega))
        have JU := hide (HUP.out.trans hu17)
        have JP := hide (HRW.out.keep hu17 (fun k h e => by omega))
        have hr17' := hide hr17
        rw [HB2.out] at rd17
        have LP := hide (Lpt.start (num := lnum) rd17)
        have hm2 : m ≤ 2097151 := by omega
        clear HLP HBX HRS HRW HUP hr17 hu17 rd17 hrr hzr hlx hka hkb hk
        go_wp2
        go_loopw [6] (fun nv wr => ∃ (k : Int) (ls : List Lc) (p'' : Nat) (bad'' : Bool) (lo : Option Addr) (lc : Nat), nv = .int .i64 k ∧ -1 ≤ k ∧ (ls.length : Int) + k ≤ 2097150 ∧ RowA wr w.heap.size 86 2 (.slice lo ls.length lc) ls.length (lcells ls) ∧ wr.heap[w1.heap.size]? = some (.cells (#[.int .i64 x.a0, .int .i64 x.a1, .int .i64 x.a2, .int .i64 x.a3, .int .i64 x.a4, .int .i64 x.a5, .int .i64 x.c0, .int .i64 x.c1, .int .i64 x.c2, .int .i64 x.c3, .int .i64 x.c4, .int .i64 x.c5, .int .i64 x.c6, .int .i64 x.c7, .int .i64 x.c8, .int .i64 x.c9, .int .i64 x.b0, .int .i64 x.b1, .int .i64 x.b2, .int .i64 x.b3, .int .i64 x.b4, .int .i64 x.b5, .int .i64 x.b6, .int .i64 x.b7, .slice po m pc, .slice lo ls.length lc] : Array Value) 34 (0, 0)) ∧ wr.heap[w.heap.size]? = some (.cells #[.int .i64 0, .int .i64 0, .int .i64 0, .int .i64 0, .int .i64 0, .int .i64 0, .int .i64 0, .int .i64 0, .int .i64 0, .int .i64 0, .int .i64 0, .int .i64 0, .int .i64 0, .int .i64 0, .int .i64 0, .int .i64 0, .int .i64 0, .int .i64 0, .int .i64 0, .int .i64 0, .int .i64 0, .int .i64 0, .int .i64 0, .int .i64 0, .slice none 0 0, .slice none 0 0] 34 (0, 0)) ∧ Rg w0 wr R bo n cap bs p'' bad'' ∧ Lpt lnum B2 ls k (vw bs p'' bad'') ∧ Upd (fun j => j = R) w wr ∧ RowA wr w.heap.size 83 4 (.slice po m pc) m (pcells xs)) (fun nv _ => (intOf nv).toNat)
        case atStart => exact ⟨l0, [], p17, bad17, none, 0, rfl, hl0a, by simpa using hl0b, .inr ⟨rfl, rfl, _, rfl⟩, J1.out, J0.out, hr17'.out, LP.out, JU.out, JP.out⟩
        case round =>
          clear J0 J1 JU hr17' LP JP
          obtain ⟨k, ls, p'', bad'', lo, lc, rfl, hka, hkb, hrow, hbx, hres, hrr, hlp, hupd, hpr⟩ := hrel
          obtain ⟨ml, hm⟩ : ∃ m, ls.length = m := ⟨_, rfl⟩
          rw [hm] at hkb hrow hbx
          have HML := hide hm
          have HBX := hide hbx
          have HRS := hide hres
          have HRW := hide hrow
          have HPR := hide hpr
          have HLP := hide hlp
          have HUP := hide hupd
          have hzr := hupd.size
          have hlx := heap_lt hbx
          have hbox := hrr.2.2.2.2.1
          obtain ⟨-, -, b2, -⟩ := box3u hbox
          clear hm hbx hres hrow hlp hupd hbox hpr
          by_cases hgo : 0 < k ∧ bad'' = false
          · obtain ⟨hk, rfl⟩ := hgo
            go_wp2_with fail
            refine (num_any w0 _ R _ n cap bo bs _ hrr).mono ?_
            rintro e v1 ⟨d, rfl, q1, e1, -, -, hs1, rs1, hv1⟩
            have alp := bal (Below.refl v1.heap.size v1) (.cells #[.int .i64 d, .int .i64 0] 86)
            have P1 := hide (heap_alloc_new v1 (.cells #[.int .i64 d, .int .i64 0] 86))
            have hsa := hs1.keepB alp
            have X1 := hide (hv1.trans (Upd.ofBelow (S := fun j => j = R) alp))
            have zv1 := hv1.size
            have hRv := hs1.lt.1
            clear hrr hv1 hs1 alp
            go_wp2_with fail
            refine (num_any w0 _ R _ n cap bo bs _ hsa).mono ?_
            rintro e v2 ⟨b, rfl, q2, e2, -, -, hs2, rs2', hv2⟩
            have rs2 := rs1.append rs2'
            simp only [List.cons_append, List.nil_append] at rs2
            have Q1 := hide (hv2.keeps P1.out (by omega))
            have zv2 := hv2.size
            simp only [World.size_alloc] at zv2
            have c0 : v2.cell? ⟨v1.heap.size, 1, none⟩ = some (.int .i64 0) := boxAt Q1.out 1
            have c1 : v2.frozen? ⟨v1.heap.size, 1, none⟩ = false := boxFz Q1.out 1
            have us := Upd.setCell (S := fun j => j = v1.heap.size) v2 v1.heap.size 1 (.int .i64 b) rfl
            have X2 := hide ((X1.out.trans hv2).transN us (fun k h => by omega))
            have hsb := hs2.keep us (by omega) (fun k h => by omega)
            clear P1 hsa X1 rs1 rs2'
            have P1 : Hid ((v2.setCell ⟨v1.heap.size, 1, none⟩ (.int .i64 b)).heap[v1.heap.size]? = some (.cells #[.int .i64 d, .int .i64 b] 86 (0, 0))) := row_set _ Q1.out
            have hsa := hsb
            have hne : ¬ v1.heap.size = w1.heap.size := by omega
            have hne' : ¬ w1.heap.size = v1.heap.size := by omega
            have y0 : v2.cell? ⟨v1.heap.size, 0, none⟩ = some (.int .i64 d) := boxAt Q1.out 0
            have HBX3 := hide (X2.out.keeps HBX.out (by omega))
            have HRS3 := hide (X2.out.keeps HRS.out (by omega))
            have f25 : (v2.setCell ⟨v1.heap.size, 1, none⟩ (.int .i64 b)).cell? ⟨w1.heap.size, 25, none⟩ = some (.slice lo ml lc) := boxAt HBX3.out 25
            have g25 : v2.cell? ⟨w1.heap.size, 25, none⟩ = some (.slice lo ml lc) := by
              rw [← f25]
              exact (World.cell?_of_block (a := ⟨w1.heap.size, 25, none⟩) (us.block _ (by show w1.heap.size < v2.heap.size; omega) hne')).symm
            have al5 := bal (Below.refl (v2.setCell ⟨v1.heap.size, 1, none⟩ (.int .i64 b)).heap.size (v2.setCell ⟨v1.heap.size, 1, none⟩ (.int .i64 b))) (.cells #[.int .i64 d, .int .i64 b] 86)
            have row3 := (HRW.out.keep X2.out (fun k h e => by omega)).keepB al5
            have PR3 := hide ((HPR.out.keep X2.out (fun k h e => by omega)).keepB al5)
            have N3 := lc_new (v2.setCell ⟨v1.heap.size, 1, none⟩ (.int .i64 b)) (d, b) 86
            simp only [World.size_setCell] at N3
            have HN3 := hide N3
            have LP2 := hide (HLP.out.step (x := (d, b)) hk rs2 (fun _ => rfl) (fun y e => by obtain ⟨y0, y1⟩ := y; simp [lnum] at e; simp [e]))
            have HX2 := hide X2.out
            have Hsa := hide hsa
            clear N3 f25 X2 hsa hsb rs2 hs2 hv2 us Q1 P1 HLP HPR
            go_wp2_with (at_builtin; refine wpList_appendA _ rfl _ _ 32 rfl w.heap.size 86 i2 (.agg #[.int .i64 0, .int .i64 0]) 2 16 Try.underlying32 gi2 gy0 gy1 gy2 rfl (by decide) _ ml (lcells ls) rfl row3 ⟨v2.heap.size, 0, none⟩ 1 1 (lcell (d, b)) rfl rfl HN3.out (lcell_one _) (by decide) ?q63 ?qby ?qbase ?_)
            case q63 => unfold maxLen; omega
            case qby => omega
            case qbase => first | omega | (simp; omega)
            intro v5 w5 hown u5
            obtain ⟨mo, cm, rfl⟩ := (Row.ofOwns hown (by omega)).shape
            have HB4 := hide (bKeeps al5 HBX3.out)
            have HB5 := hide (u5.keeps HB4.out (typed_box HB4.out (by decide) rfl))
            have HR4 := hide (bKeeps al5 HRS3.out)
            have HR5 := hide (u5.keeps HR4.out (typed_box HR4.out (by decide) rfl))
            have PR5 := hide (RowA.keepTy8 PR3.out u5 (fun k => typed_apart (by decide) k))
            have h25 : w5.cell? ⟨w1.heap.size, 25, none⟩ = some (.slice lo ml lc) := boxAt HB5.out 25
            have i25 : w5.frozen? ⟨w1.heap.size, 25, none⟩ = false := boxFz HB5.out 25
            have ut := Upd.setCell (S := fun j => j = w1.heap.size) w5 w1.heap.size 25 (.slice mo (ml + 1) cm) rfl
            have UU := hide (((HUP.out.trans HX2.out).trans (Upd.ofBelow (S := fun j => j = R) al5)).transN u5 (fun k h => h.1))
            have Hsc := hide ((Hsa.out.keepB al5).keep u5 (fun h => by have := h.1; omega) (fun k h => by have := h.1; omega))
            have zz := u5.size
            simp only [World.size_alloc, World.size_setCell] at zz
            clear al5 HRW HX2 Hsa HN3 HBX HRS PR3
            go_wp2
            go_roundw
            case rel =>
              refine ⟨k - 1, ls ++ [(d, b)], _, _, mo, cm, rfl, by omega, by rw [List.length_append, HML.out]; simp; omega, ?_, ?_, ut.keeps HR5.out (by omega), Hsc.out.keep ut (by omega) (fun k h => by omega), LP2.out, UU.out.transN ut (fun k h => by omega), RowA.keepTy8 PR5.out ut (fun k h1 h2 => by subst h2; exact typed_box HB5.out (by decide) rfl h1)⟩
              · rw [List.length_append, HML.out, lcells_snoc]
                exact RowA.keepTy8 (.inl hown) ut (fun k h1 h2 => by subst h2; exact typed_box HB5.out (by decide) rfl h1)
              · rw [List.length_append, HML.out]
                exact row_set _ HB5.out
            case measure => simp [intOf]; omega
          · have hd : Rdl 4 lnum B2 ls (vw bs p'' bad'') := by
              by_cases hk : 0 < k
              · have hb : bad'' = true := by cases bad'' <;> simp_all
                subst hb
                exact (show Lpt lnum B2 ls k [256] from HLP.out).bad (by omega) hk (fun y => by simp)
              · exact HLP.out.done (by omega) (.inl (by omega))
            have HD2 := hide hd
            obtain ⟨y, hy⟩ : ∃ y : Wd, y = { x with ps := xs, ls := ls } := ⟨_, rfl⟩
            have M1 : Hid (wr.heap[w1.heap.size]? = some (.cells (#[.int .i64 y.a0, .int .i64 y.a1, .int .i64 y.a2, .int .i64 y.a3, .int .i64 y.a4, .int .i64 y.a5, .int .i64 y.c0, .int .i64 y.c1, .int .i64 y.c2, .int .i64 y.c3, .int .i64 y.c4, .int .i64 y.c5, .int .i64 y.c6, .int .i64 y.c7, .int .i64 y.c8, .int .i64 y.c9, .int .i64 y.b0, .int .i64 y.b1, .int .i64 y.b2, .int .i64 y.b3, .int .i64 y.b4, .int .i64 y.b5, .int .i64 y.b6, .int .i64 y.b7, .slice po m pc, .slice lo ml lc] : Array Value) 34 (0, 0))) := by rw [hy]; exact HBX.out
            have fin : ∀ V, V = wr.setRow w.heap.size (#[.int .i64 y.a0, .int .i64 y.a1, .int .i64 y.a2, .int .i64 y.a3, .int .i64 y.a4, .int .i64 y.a5, .int .i64 y.c0, .int .i64 y.c1, .int .i64 y.c2, .int .i64 y.c3, .int .i64 y.c4, .int .i64 y.c5, .int .i64 y.c6, .int .i64 y.c7, .int .i64 y.c8, .int .i64 y.c9, .int .i64 y.b0, .int .i64 y.b1, .int .i64 y.b2, .int .i64 y.b3, .int .i64 y.b4, .int .i64 y.b5, .int .i64 y.b6, .int .i64 y.b7, .slice po m pc, .slice lo ml lc] : Array Value) → WdO V (fun k => w.heap.size ≤ k) (.agg #[.int .i64 y.a0, .int .i64 y.a1, .int .i64 y.a2, .int .i64 y.a3, .int .i64 y.a4, .int .i64 y.a5, .int .i64 y.c0, .int .i64 y.c1, .int .i64 y.c2, .int .i64 y.c3, .int .i64 y.c4, .int .i64 y.c5, .int .i64 y.c6, .int .i64 y.c7, .int .i64 y.c8, .int .i64 y.c9, .int .i64 y.b0, .int .i64 y.b1, .int .i64 y.b2, .int .i64 y.b3, .int .i64 y.b4, .int .i64 y.b5, .int .i64 y.b6, .int .i64 y.b7, .slice po m pc, .slice lo ml lc]) y ∧ WordR w0 w R bo n cap bs p bad y V := by
              intro V hV
              have u6 : Upd (fun j => j = w.heap.size) wr V := by rw [hV]; exact ⟨rfl, rfl, rfl, by simp, fun k _ h => setRow_other _ _ _ _ h⟩
              refine ⟨⟨po, pc, lo, lc, ?_, ?_, ?_⟩, p'', bad'', hrr.keep u6 (by omega) (fun k h => by omega), ⟨B, B2, ?_, ?_, ?_⟩, HUP.out.transN u6 (fun k h => by omega)⟩
              · rw [hy, ← HM.out, ← HML.out]
              · rw [hy]
                show Row V _ _ _ (.slice po xs.length pc) xs.length (pcells xs)
                rw [HM.out]
                exact (RowA.keepTy8 HPR.out u6 (fun k h1 h2 => by subst h2; exact typed_box HRS.out (by decide) rfl h1)).row (by omega)
              · rw [hy]
                show Row V _ _ _ (.slice lo ls.length lc) ls.length (lcells ls)
                rw [HML.out]
                exact (RowA.keepTy8 HRW.out u6 (fun k h1 h2 => by subst h2; exact typed_box HRS.out (by decide) rfl h1)).row (by omega)
              · rw [hy]; exact RD.out
              · rw [hy]; exact HD.out
              · rw [hy]; exact HD2.out
            have HF := hide fin
            have H1s := hide (all_of_list (List.all_eq_true.2 (wd_one y po lo m pc ml lc)))
            have HRS2 := HRS
            clear hy hd fin HBX HLP HRW HPR HD2 HUP HML
            obtain hk | ⟨hk, rfl⟩ : ¬ 0 < k ∨ (0 < k ∧ bad'' = true) := by
              by_cases hk : 0 < k
              · exact .inr ⟨hk, by cases bad'' <;> simp_all⟩
              · exact .inl hk
            all_goals
              clear hgo
              go_wp2_with (first | (refine wpList_load_row rfl 34 (.tmp 3) rfl w1.heap.size rfl _ _ (0, 0) _ M1.out Try.underlying34 rfl infoWd ?_) | (refine wpList_store_row rfl 34 (.tmp 2) (.tmp 109) rfl w.heap.size _ rfl rfl _ _ HRS2.out infoWd (show (26 : Nat) = 26 from rfl) H1s.out ?_))
              refine bodyPost_ret (v := .agg #[.int .i64 y.a0, .int .i64 y.a1, .int .i64 y.a2, .int .i64 y.a3, .int .i64 y.a4, .int .i64 y.a5, .int .i64 y.c0, .int .i64 y.c1, .int .i64 y.c2, .int .i64 y.c3, .int .i64 y.c4, .int .i64 y.c5, .int .i64 y.c6, .int .i64 y.c7, .int .i64 y.c8, .int .i64 y.c9, .int .i64 y.b0, .int .i64 y.b1, .int .i64 y.b2, .int .i64 y.b3, .int .i64 y.b4, .int .i64 y.b5, .int .i64 y.b6, .int .i64 y.b7, .slice po m pc, .slice lo ml lc]) (results_cell_row Try.results47 _ _ w.heap.size _ _ (0, 0) _ rfl (setRow_heap _ _ _ _ _ _ HRS2.out) Try.underlying34 rfl infoWd) rfl ?_
              obtain ⟨g1, g2⟩ := HF.out _ rfl
              first | exact ⟨_, y, rfl, g1, g2⟩ | exact ⟨_, rfl, y, g1, g2⟩

end Go.Proofs.Ytdnojnkcmncffaa
