/- Contracts and plain facts that this claim leans on (texts XQ2); no statement of the seat is proved here. -/
import Derived.Test.YtdnojnkcmncffaaWk28

/- Lists of a word written as bytes, and WordPack, in the program: contracts; no statement of the seat is proved here. -/
namespace Go.Proofs.Ytdnojnkcmncffaa
open Go.RowKit

set_option maxRecDepth 100000 in
set_option maxHeartbeats 2000000 in
theorem pieceNumbers_any (b : Nat) (w : World) :
    Calls Try.prog 69 #[.pointer (some ⟨b, 0, none⟩)] w fun e w' => e = .returned (.slice (some ⟨w.heap.size, 0, none⟩) 4 4) ∧ w' = (w.alloc (.cells (#[.pointer (some ⟨b, 0, none⟩), .pointer (some ⟨b, 1, none⟩), .pointer (some ⟨b, 2, none⟩), .pointer (some ⟨b, 3, none⟩)] : Array Value) 115)).drew := by
  go_enter Try.func69, Try.ntmps69
  go_wp2
  refine wp_region_noPanic ?_
  refine wp_region_held_drew (S := (fun _ => True)) (by kernel_rfl) ?_ (fun hHeld => ?_)
  · trivial
  refine wpAnyH_take (i := 0) (v := ?v1) rfl (by kernel_rfl) (by kernel_rfl) (by kernel_rfl) (fun _ _ _ h => h) (Or.inl ⟨by rfl, ?hy1⟩) (by assumption) ?rest1
  case hy1 => ((intro w hSw; (try dsimp only at hSw); (try simp only [List.getElem_toArray, List.getElem_cons_zero]); go_simp; first | done | (with_reducible rfl)))
  simp only [Act.put, List.getElem_toArray, List.getElem_cons_zero, List.setIfInBounds_toArray, List.set_cons_zero, List.set_cons_succ]
  refine wpAnyH_take (i := 1) (v := ?v2) rfl (by kernel_rfl) (by kernel_rfl) (by kernel_rfl) (fun _ _ _ h => h) (Or.inl ⟨by rfl, ?hy2⟩) (by assumption) ?rest2
  case hy2 => ((intro w hSw; (try dsimp only at hSw); (try simp only [List.getElem_toArray, List.getElem_cons_zero, List.getElem_cons_succ]); go_simp; first | done | (with_reducible rfl)))
  simp only [Act.put, List.getElem_toArray, List.getElem_cons_zero, List.getElem_cons_succ, List.setIfInBounds_toArray, List.set_cons_zero, List.set_cons_succ]
  refine wpAnyH_take (i := 2) (v := ?v3) rfl (by kernel_rfl) (by kernel_rfl) (by kernel_rfl) (fun _ _ _ h => h) (Or.inl ⟨by rfl, ?hy3⟩) (by assumption) ?rest3
  case hy3 => ((intro w hSw; (try dsimp only at hSw); (try simp only [List.getElem_toArray, List.getElem_cons_zero, List.getElem_cons_succ]); go_simp; first | done | (with_reducible rfl)))
  simp only [Act.put, List.getElem_toArray, List.getElem_cons_zero, List.getElem_cons_succ, List.setIfInBounds_toArray, List.set_cons_zero, List.set_cons_succ]
  refine wpAnyH_take (i := 3) (v := ?v4) rfl (by kernel_rfl) (by kernel_rfl) (by kernel_rfl) (fun _ _ _ h => h) (Or.inl ⟨by rfl, ?hy4⟩) (by assumption) ?rest4
  case hy4 => ((intro w hSw; (try dsimp only at hSw); (try simp only [List.getElem_toArray, List.getElem_cons_zero, List.getElem_cons_succ]); go_simp; first | done | (with_reducible rfl)))
  simp only [Act.put, List.getElem_toArray, List.getElem_cons_zero, List.getElem_cons_succ, List.setIfInBounds_toArray, List.set_cons_zero, List.set_cons_succ]
  refine wpAnyH_take (i := 4) (v := ?v5) rfl (by kernel_rfl) (by kernel_rfl) (by kernel_rfl) (fun _ _ _ h => h) (Or.inl ⟨by rfl, ?hy5⟩) (by assumption) ?rest5
  case hy5 => ((intro w hSw; (try dsimp only at hSw); (try simp only [List.getElem_toArray, List.getElem_cons_zero, List.getElem_cons_succ]); go_simp; first | done | (with_reducible rfl)))
  simp only [Act.put, List.getElem_toArray, List.getElem_cons_zero, List.getElem_cons_succ, List.setIfInBounds_toArray, List.set_cons_zero, List.set_cons_succ]
  refine wpAnyH_take (i := 5) (v := ?v6) rfl (by kernel_rfl) (by kernel_rfl) (by kernel_rfl) (fun _ _ _ h => h) (Or.inl ⟨by rfl, ?hy6⟩) (by assumption) ?rest6
  case hy6 => ((intro w hSw; (try dsimp only at hSw); (try simp only [List.getElem_toArray, List.getElem_cons_zero, List.getElem_cons_succ]); go_simp; first | done | (with_reducible rfl)))
  simp only [Act.put, List.getElem_toArray, List.getElem_cons_zero, List.getElem_cons_succ, List.setIfInBounds_toArray, List.set_cons_zero, List.set_cons_succ]
  refine wpAnyH_take (i := 6) (v := ?v7) rfl (by kernel_rfl) (by kernel_rfl) (by kernel_rfl) (fun _ _ _ h => h) (Or.inl ⟨by rfl, ?hy7⟩) (by assumption) ?rest7
  case hy7 => ((intro w hSw; (try dsimp only at hSw); (try simp only [List.getElem_toArray, List.getElem_cons_zero, List.getElem_cons_succ]); go_simp; first | done | (with_reducible rfl)))
  simp only [Act.put, List.getElem_toArray, List.getElem_cons_zero, List.getElem_cons_succ, List.setIfInBounds_toArray, List.set_cons_zero, List.set_cons_succ]
  refine wpAnyH_take (i := 7) (v := ?v8) rfl (by kernel_rfl) (by kernel_rfl) (by kernel_rfl) (fun _ _ _ h => h) (Or.inl ⟨by rfl, ?hy8⟩) (by assumption) ?rest8
  case hy8 => ((intro w hSw; (try dsimp only at hSw); (try simp only [List.getElem_toArray, List.getElem_cons_zero, List.getElem_cons_succ]); go_simp; first | done | (with_reducible rfl)))
  simp only [Act.put, List.getElem_toArray, List.getElem_cons_zero, List.getElem_cons_succ, List.setIfInBounds_toArray, List.set_cons_zero, List.set_cons_succ]
  refine wpAnyH_take (i := 8) (v := ?v9) rfl (by kernel_rfl) (by kernel_rfl) (by kernel_rfl) (fun _ _ _ h => h) (Or.inl ⟨by rfl, ?hy9⟩) (by assumption) ?rest9
  case hy9 => ((intro w hSw; (try dsimp only at hSw); (try simp only [List.getElem_toArray, List.getElem_cons_zero, List.getElem_cons_succ]); go_simp; first | done | (with_reducible rfl)))
  simp only [Act.put, List.getElem_toArray, List.getElem_cons_zero, List.getElem_cons_succ, List.setIfInBounds_toArray, List.set_cons_zero, List.set_cons_succ]
  refine wpAnyH_take (i := 9) (v := ?v10) rfl (by kernel_rfl) (by kernel_rfl) (by kernel_rfl) (fun _ _ _ h => h) (Or.inl ⟨by rfl, ?hy10⟩) (by assumption) ?rest10
  case hy10 => ((intro w hSw; (try dsimp only at hSw); (try simp only [List.getElem_toArray, List.getElem_cons_zero, List.getElem_cons_succ]); go_simp; first | done | (with_reducible rfl)))
  simp only [Act.put, List.getElem_toArray, List.getElem_cons_zero, List.getElem_cons_succ, List.setIfInBounds_toArray, List.set_cons_zero, List.set_cons_succ]
  refine wpAnyH_take (i := 10) (v := ?v11) rfl (by kernel_rfl) (by kernel_rfl) (by kernel_rfl) (fun _ _ _ h => h) (Or.inl ⟨by rfl, ?hy11⟩) (by assumption) ?rest11
  case hy11 => ((intro w hSw; (try dsimp only at hSw); (try simp only [List.getElem_toArray, List.getElem_cons_zero, List.getElem_cons_succ]); go_simp; first | done | (with_reducible rfl)))
  simp only [Act.put, List.getElem_toArray, List.getElem_cons_zero, List.getElem_cons_succ, List.setIfInBounds_toArray, List.set_cons_zero, List.set_cons_succ]
  refine wpAnyH_take (i := 11) (v := ?v12) rfl (by kernel_rfl) (by kernel_rfl) (by kernel_rfl) (fun _ _ _ h => h) (Or.inl ⟨by rfl, ?hy12⟩) (by assumption) ?rest12
  case hy12 => ((intro w hSw; (try dsimp only at hSw); (try simp only [List.getElem_toArray, List.getElem_cons_zero, List.getElem_cons_succ]); go_simp; first | done | (with_reducible rfl)))
  simp only [Act.put, List.getElem_toArray, List.getElem_cons_zero, List.getElem_cons_succ, List.setIfInBounds_toArray, List.set_cons_zero, List.set_cons_succ]
  refine wpAnyH_ready (rs := [12]) (by kernel_rfl) (by simp) ?_
  refine AllReadyH.cons rfl (fun K hK => ?_) AllReadyH.nil
  go_simp
  (skip)
  refine hK.out _ _ ?_ (fun hHeld => ?_)
  · trivial
  clear hK K
  refine wpAnyH_take (i := 13) (v := ?v13) rfl (by kernel_rfl) (by kernel_rfl) (by kernel_rfl) (fun _ _ _ h => h) (Or.inl ⟨by rfl, ?hy13⟩) (by assumption) ?rest13
  case hy13 => ((intro w hSw; (try dsimp only at hSw); (try simp only [List.getElem_toArray, List.getElem_cons_zero, List.getElem_cons_succ]); go_simp; first | done | (with_reducible rfl)))
  simp only [Act.put, List.getElem_toArray, List.getElem_cons_zero, List.getElem_cons_succ, List.setIfInBounds_toArray, List.set_cons_zero, List.set_cons_succ]
  refine wpAnyH_done (by kernel_rfl) ?_ _
  refine NoPanic.normal ?_
  go_wp2
  go_ret
  exact ⟨rfl, rfl⟩

set_option maxRecDepth 100000 in
set_option maxHeartbeats 4000000 in
theorem put_pieces (w0 : World) (B : Nat) (so : Option Addr) (sc : Nat) (xs : List Pc) (bs : List Nat) (w : World) (h : Out w w0.heap.size B bs) (hb : Below w0.heap.size w0 w) (hr : RowR w0 4 (.slice so xs.length sc) xs.length (pcells xs)) (hx : ∀ a ∈ allP xs, -1 ≤ a ∧ a ≤ 99999) (hl : bs.length + 3 * (1 + 4 * xs.length) ≤ 10000) :
    Calls Try.prog 106 #[.pointer (some ⟨B, 0, none⟩), .slice so xs.length sc, .func (.func 69) #[] #[]] w fun e w' => e = .returned (.tuple #[]) ∧ Out w' w0.heap.size B (bs ++ enc (allP xs)) ∧ Still w w' B ∧ Below w0.heap.size w w' := by
  have H := hide h
  have HR := hide hr
  have HX := hide hx
  have hBl : B < w.heap.size := by obtain ⟨_, _, g, _⟩ := h; exact heap_lt g
  have hz0 := hb.size
  have hxn : xs.length ≤ 10000 := by omega
  have hx0 := hx (xs.length : Int) (by simp [allP])
  have CP := hide (putNumber_any w0.heap.size B (xs.length : Int) bs w h hz0 hx0.1 hx0.2 (by omega))
  clear h hr hx hx0
  go_enter Try.func106, Try.ntmps106
  go_wp2_with fail
  refine CP.out.mono ?_
  rintro e w1 ⟨rfl, o1, s1, b1⟩
  have S1 : Hid (Still w w1 B) := s1
  have O1 := hide o1
  clear CP o1 s1
  go_wp2
  go_loopw [14] (fun i wr => ∃ k : Nat, k ≤ xs.length ∧ i = .int .i64 k ∧ Out wr w0.heap.size B (bs ++ encI (xs.length : Int) ++ enc ((xs.take k).flatMap pnum)) ∧ Still w wr B ∧ Below w0.heap.size w wr) (fun i _ => xs.length - (intOf i).toNat)
  case atStart => exact ⟨0, Nat.zero_le _, rfl, by simpa [enc] using O1.out, S1.out, b1⟩
  case round =>
    obtain ⟨k, hk, rfl, ho, hst, hbel⟩ := hrel
    have HO := hide ho
    have HST := hide hst
    have hzw := hbel.size
    clear ho hst O1 S1 b1
    by_cases hlt : k < xs.length
    · obtain ⟨b1, o1, hpo, hc1⟩ : ∃ b1 o1, so = some ⟨b1, o1, none⟩ ∧ ∀ j u, (pcells xs)[j]? = some u → w0.cell? ⟨b1, o1 + j, none⟩ = some u := by
        obtain ⟨ao', cap', e, _, _, hr⟩ := HR.out
        obtain ⟨b1, o1, e2, hc⟩ := hr (by omega)
        simp only [Value.slice.injEq, true_and] at e
        exact ⟨b1, o1, e.1.trans e2, hc⟩
      subst hpo
      obtain ⟨⟨d, b, p, t⟩, hx⟩ := getAt xs k hlt
      obtain ⟨f0, f1, f2, f3, l1⟩ := pc_cells hc1 hx (hb.trans hbel)
      have hi : (k : Int) < (xs.length : Int) := by omega
      have Hx := hide hx
      have hmem : ∀ a ∈ pnum (d, b, p, t), -1 ≤ a ∧ a ≤ 99999 := fun a ha => HX.out a (List.mem_cons_of_mem _ (List.mem_flatMap.2 ⟨_, List.mem_of_getElem? hx, ha⟩))
      have HM := hide hmem
      have hlen : (bs ++ encI (xs.length : Int) ++ enc ((xs.take k).flatMap pnum)).length + 3 * (pnum (d, b, p, t)).length ≤ 10000 := by
        have g1 := (enc_len ((xs.take k).flatMap pnum) (fun a ha => (HX.out a (by
          obtain ⟨y, hy, hay⟩ := List.mem_flatMap.1 ha
          exact List.mem_cons_of_mem _ (List.mem_flatMap.2 ⟨y, List.mem_of_mem_take hy, hay⟩))).2)).2
        have g2 := (encN_len ((xs.length : Int) + 1).toNat (by have := (HX.out (xs.length : Int) (by simp [allP])).2; omega)).2
        have g3 : ((xs.take k).flatMap pnum).length = (xs.take k).length * 4 := by
          generalize xs.take k = ys
          induction ys with
          | nil => rfl
          | cons y ys ih => rw [List.flatMap_cons, List.length_append, ih, List.length_cons]; simp; omega
        have g4 : (encI (xs.length : Int)).length ≤ 3 := g2
        have g5 : (pnum (d, b, p, t)).length = 4 := rfl
        rw [List.length_append, List.length_append, g5]
        rw [g3, List.length_take] at g1
        omega
      have HLn := hide hlen
      clear hc1 hx hmem hlen
      go_wp2_with fail
      refine (pieceNumbers_any wr.heap.size _).mono ?_
      rintro e w2 ⟨rfl, rfl⟩
      have hO2 : Hid (Out ((wr.alloc (.cells #[.int .i64 d, .int .i64 b, .int .i64 p, .int .i64 t] 83)).alloc (.cells (#[.pointer (some ⟨wr.heap.size, 0, none⟩), .pointer (some ⟨wr.heap.size, 1, none⟩), .pointer (some ⟨wr.heap.size, 2, none⟩), .pointer (some ⟨wr.heap.size, 3, none⟩)] : Array Value) 115)).drew w0.heap.size B (bs ++ encI (xs.length : Int) ++ enc ((xs.take k).flatMap pnum))) := by
        obtain ⟨ao, ca, g1, g2, g3⟩ := HO.out
        exact ⟨ao, ca, heap_up _ (heap_up _ g1), (g2.keepB (bal (Below.refl _ _) _)).keepB (bDrewB (bal (Below.refl _ _) _)), g3⟩
      have hBw : B < wr.heap.size := by omega
      have CP := hide (put_numbers w0.heap.size B (wr.heap.size + 1) wr.heap.size 0 4 4 (pnum (d, b, p, t)) _ (#[.pointer (some ⟨wr.heap.size, 0, none⟩), .pointer (some ⟨wr.heap.size, 1, none⟩), .pointer (some ⟨wr.heap.size, 2, none⟩), .pointer (some ⟨wr.heap.size, 3, none⟩)] : Array Value) #[.int .i64 d, .int .i64 b, .int .i64 p, .int .i64 t] 115 83 _ hO2.out (by show _ ≤ ((wr.alloc _).alloc _).heap.size; simp; omega) HM.out HLn.out rfl (al2_1 wr _ _) (by decide) (by omega) (al2_0 wr _ _) (by decide) (by omega)
        (fun k hk => by rcases (by omega : k = 0 ∨ k = 1 ∨ k = 2 ∨ k = 3) with rfl | rfl | rfl | rfl <;> rfl) (fun k a h => by
          have hk : k < 4 := (List.getElem?_eq_some_iff.1 h).1
          rcases (by omega : k = 0 ∨ k = 1 ∨ k = 2 ∨ k = 3) with rfl | rfl | rfl | rfl <;> (obtain rfl := Option.some.inj h; rfl)))
      simp only [World.size_alloc]
      go_wp2_with fail
      refine CP.out.mono ?_
      rintro e w3 ⟨rfl, o3, s3, b3⟩
      have O3 := hide o3
      have S3 : Hid (Still w w3 B) := by
        intro j o hj hjB hjo hno
        have g := HST.out j o hj hjB hjo hno
        exact s3 j o (by show _ < ((wr.alloc _).alloc _).heap.size; simp; omega) hjB (heap_up _ (heap_up _ g)) hno
      have c3 : Below w0.heap.size w w3 := (hbel.trans ((bDrewB (bal (bal (Below.refl wr.heap.size wr) _) _)).mono (by omega))).trans b3
      clear CP o3 s3 b3 hO2
      go_wp2
      go_roundw
      case rel =>
        refine ⟨k + 1, by omega, by go_num, ?_, S3.out, c3⟩
        rw [show xs.take (k + 1) = xs.take k ++ [(d, b, p, t)] by rw [List.take_add_one, Hx.out]; rfl, List.flatMap_append, enc_append, ← List.append_assoc]
        exact O3.out
      case measure => simp [intOf]; omega
    · obtain rfl : k = xs.length := by omega
      rw [List.take_length] at HO
      have e1 : bs ++ enc (allP xs) = bs ++ encI (xs.length : Int) ++ enc (xs.flatMap pnum) := by rw [allP, enc_cons, List.append_assoc]
      rw [← e1] at HO
      have hge : ¬ ((xs.length : Nat) : Int) < (xs.length : Int) := by omega
      clear e1
      go_wp2
      go_end0
      exact ⟨rfl, HO.out, HST.out, hbel⟩

set_option maxRecDepth 100000 in
set_option maxHeartbeats 2000000 in
theorem lastNumbers_any (b : Nat) (w : World) :
    Calls Try.prog 71 #[.pointer (some ⟨b, 0, none⟩)] w fun e w' => e = .returned (.slice (some ⟨w.heap.size, 0, none⟩) 2 2) ∧ w' = (w.alloc (.cells (#[.pointer (some ⟨b, 0, none⟩), .pointer (some ⟨b, 1, none⟩)] : Array Value) 115)).drew := by
  go_enter Try.func71, Try.ntmps71
  go_wp2
  refine wp_region_noPanic ?_
  refine wp_region_held_drew (S := (fun _ => True)) (by kernel_rfl) ?_ (fun hHeld => ?_)
  · trivial
  refine wpAnyH_take (i := 0) (v := ?v14) rfl (by kernel_rfl) (by kernel_rfl) (by kernel_rfl) (fun _ _ _ h => h) (Or.inl ⟨by rfl, ?hy14⟩) (by assumption) ?rest14
  case hy14 => ((intro w hSw; (try dsimp only at hSw); (try simp only [List.getElem_toArray, List.getElem_cons_zero]); go_simp; first | done | (with_reducible rfl)))
  simp only [Act.put, List.getElem_toArray, List.getElem_cons_zero, List.setIfInBounds_toArray, List.set_cons_zero, List.set_cons_succ]
  refine wpAnyH_take (i := 1) (v := ?v15) rfl (by kernel_rfl) (by kernel_rfl) (by kernel_rfl) (fun _ _ _ h => h) (Or.inl ⟨by rfl, ?hy15⟩) (by assumption) ?rest15
  case hy15 => ((intro w hSw; (try dsimp only at hSw); (try simp only [List.getElem_toArray, List.getElem_cons_zero, List.getElem_cons_succ]); go_simp; first | done | (with_reducible rfl)))
  simp only [Act.put, List.getElem_toArray, List.getElem_cons_zero, List.getElem_cons_succ, List.setIfInBounds_toArray, List.set_cons_zero, List.set_cons_succ]
  refine wpAnyH_take (i := 2) (v := ?v16) rfl (by kernel_rfl) (by kernel_rfl) (by kernel_rfl) (fun _ _ _ h => h) (Or.inl ⟨by rfl, ?hy16⟩) (by assumption) ?rest16
  case hy16 => ((intro w hSw; (try dsimp only at hSw); (try simp only [List.getElem_toArray, List.getElem_cons_zero, List.getElem_cons_succ]); go_simp; first | done | (with_reducible rfl)))
  simp only [Act.put, List.getElem_toArray, List.getElem_cons_zero, List.getElem_cons_succ, List.setIfInBounds_toArray, List.set_cons_zero, List.set_cons_succ]
  refine wpAnyH_take (i := 3) (v := ?v17) rfl (by kernel_rfl) (by kernel_rfl) (by kernel_rfl) (fun _ _ _ h => h) (Or.inl ⟨by rfl, ?hy17⟩) (by assumption) ?rest17
  case hy17 => ((intro w hSw; (try dsimp only at hSw); (try simp only [List.getElem_toArray, List.getElem_cons_zero, List.getElem_cons_succ]); go_simp; first | done | (with_reducible rfl)))
  simp only [Act.put, List.getElem_toArray, List.getElem_cons_zero, List.getElem_cons_succ, List.setIfInBounds_toArray, List.set_cons_zero, List.set_cons_succ]
  refine wpAnyH_take (i := 4) (v := ?v18) rfl (by kernel_rfl) (by kernel_rfl) (by kernel_rfl) (fun _ _ _ h => h) (Or.inl ⟨by rfl, ?hy18⟩) (by assumption) ?rest18
  case hy18 => ((intro w hSw; (try dsimp only at hSw); (try simp only [List.getElem_toArray, List.getElem_cons_zero, List.getElem_cons_succ]); go_simp; first | done | (with_reducible rfl)))
  simp only [Act.put, List.getElem_toArray, List.getElem_cons_zero, List.getElem_cons_succ, List.setIfInBounds_toArray, List.set_cons_zero, List.set_cons_succ]
  refine wpAnyH_take (i := 5) (v := ?v19) rfl (by kernel_rfl) (by kernel_rfl) (by kernel_rfl) (fun _ _ _ h => h) (Or.inl ⟨by rfl, ?hy19⟩) (by assumption) ?rest19
  case hy19 => ((intro w hSw; (try dsimp only at hSw); (try simp only [List.getElem_toArray, List.getElem_cons_zero, List.getElem_cons_succ]); go_simp; first | done | (with_reducible rfl)))
  simp only [Act.put, List.getElem_toArray, List.getElem_cons_zero, List.getElem_cons_succ, List.setIfInBounds_toArray, List.set_cons_zero, List.set_cons_succ]
  refine wpAnyH_ready (rs := [6]) (by kernel_rfl) (by simp) ?_
  refine AllReadyH.cons rfl (fun K hK => ?_) AllReadyH.nil
  go_simp
  (skip)
  refine hK.out _ _ ?_ (fun hHeld => ?_)
  · trivial
  clear hK K
  refine wpAnyH_take (i := 7) (v := ?v20) rfl (by kernel_rfl) (by kernel_rfl) (by kernel_rfl) (fun _ _ _ h => h) (Or.inl ⟨by rfl, ?hy20⟩) (by assumption) ?rest20
  case hy20 => ((intro w hSw; (try dsimp only at hSw); (try simp only [List.getElem_toArray, List.getElem_cons_zero, List.getElem_cons_succ]); go_simp; first | done | (with_reducible rfl)))
  simp only [Act.put, List.getElem_toArray, List.getElem_cons_zero, List.getElem_cons_succ, List.setIfInBounds_toArray, List.set_cons_zero, List.set_cons_succ]
  refine wpAnyH_done (by kernel_rfl) ?_ _
  refine NoPanic.normal ?_
  go_wp2
  go_ret
  exact ⟨rfl, rfl⟩

set_option maxRecDepth 100000 in
set_option maxHeartbeats 4000000 in
theorem put_lasts (w0 : World) (B : Nat) (so : Option Addr) (sc : Nat) (xs : List Lc) (bs : List Nat) (w : World) (h : Out w w0.heap.size B bs) (hb : Below w0.heap.size w0 w) (hr : RowR w0 2 (.slice so xs.length sc) xs.length (lcells xs)) (hx : ∀ a ∈ allL xs, -1 ≤ a ∧ a ≤ 99999) (hl : bs.length + 3 * (1 + 2 * xs.length) ≤ 10000) :
    Calls Try.prog 107 #[.pointer (some ⟨B, 0, none⟩), .slice so xs.length sc, .func (.func 71) #[] #[]] w fun e w' => e = .returned (.tuple #[]) ∧ Out w' w0.heap.size B (bs ++ enc (allL xs)) ∧ Still w w' B ∧ Below w0.heap.size w w' := by
  have H := hide h
  have HR := hide hr
  have HX := hide hx
  have hBl : B < w.heap.size := by obtain ⟨_, _, g, _⟩ := h; exact heap_lt g
  have hz0 := hb.size
  have hxn : xs.length ≤ 10000 := by omega
  have hx0 := hx (xs.length : Int) (by simp [allL])
  have CP := hide (putNumber_any w0.heap.size B (xs.length : Int) bs w h hz0 hx0.1 hx0.2 (by omega))
  clear h hr hx hx0
  go_enter Try.func107, Try.ntmps107
  go_wp2_with fail
  refine CP.out.mono ?_
  rintro e w1 ⟨rfl, o1, s1, b1⟩
  have S1 : Hid (Still w w1 B) := s1
  have O1 := hide o1
  clear CP o1 s1
  go_wp2
  go_loopw [14] (fun i wr => ∃ k : Nat, k ≤ xs.length ∧ i = .int .i64 k ∧ Out wr w0.heap.size B (bs ++ encI (xs.length : Int) ++ enc ((xs.take k).flatMap lnum)) ∧ Still w wr B ∧ Below w0.heap.size w wr) (fun i _ => xs.length - (intOf i).toNat)
  case atStart => exact ⟨0, Nat.zero_le _, rfl, by simpa [enc] using O1.out, S1.out, b1⟩
  case round =>
    obtain ⟨k, hk, rfl, ho, hst, hbel⟩ := hrel
    have HO := hide ho
    have HST := hide hst
    have hzw := hbel.size
    clear ho hst O1 S1 b1
    by_cases hlt : k < xs.length
    · obtain ⟨b1, o1, hpo, hc1⟩ : ∃ b1 o1, so = some ⟨b1, o1, none⟩ ∧ ∀ j u, (lcells xs)[j]? = some u → w0.cell? ⟨b1, o1 + j, none⟩ = some u := by
        obtain ⟨ao', cap', e, _, _, hr⟩ := HR.out
        obtain ⟨b1, o1, e2, hc⟩ := hr (by omega)
        simp only [Value.slice.injEq, true_and] at e
        exact ⟨b1, o1, e.1.trans e2, hc⟩
      subst hpo
      obtain ⟨⟨d, b⟩, hx⟩ := getAt xs k hlt
      obtain ⟨f0, f1, l1⟩ := lc_cells hc1 hx (hb.trans hbel)
      have hi : (k : Int) < (xs.length : Int) := by omega
      have Hx := hide hx
      have hmem : ∀ a ∈ lnum (d, b), -1 ≤ a ∧ a ≤ 99999 := fun a ha => HX.out a (List.mem_cons_of_mem _ (List.mem_flatMap.2 ⟨_, List.mem_of_getElem? hx, ha⟩))
      have HM := hide hmem
      have hlen : (bs ++ encI (xs.length : Int) ++ enc ((xs.take k).flatMap lnum)).length + 3 * (lnum (d, b)).length ≤ 10000 := by
        have g1 := (enc_len ((xs.take k).flatMap lnum) (fun a ha => (HX.out a (by
          obtain ⟨y, hy, hay⟩ := List.mem_flatMap.1 ha
          exact List.mem_cons_of_mem _ (List.mem_flatMap.2 ⟨y, List.mem_of_mem_take hy, hay⟩))).2)).2
        have g2 := (encN_len ((xs.length : Int) + 1).toNat (by have := (HX.out (xs.length : Int) (by simp [allL])).2; omega)).2
        have g3 : ((xs.take k).flatMap lnum).length = (xs.take k).length * 2 := by
          generalize xs.take k = ys
          induction ys with
          | nil => rfl
          | cons y ys ih => rw [List.flatMap_cons, List.length_append, ih, List.length_cons]; simp; omega
        have g4 : (encI (xs.length : Int)).length ≤ 3 := g2
        have g5 : (lnum (d, b)).length = 2 := rfl
        rw [List.length_append, List.length_append, g5]
        rw [g3, List.length_take] at g1
        omega
      have HLn := hide hlen
      clear hc1 hx hmem hlen
      go_wp2_with fail
      refine (lastNumbers_any wr.heap.size _).mono ?_
      rintro e w2 ⟨rfl, rfl⟩
      have hO2 : Hid (Out ((wr.alloc (.cells #[.int .i64 d, .int .i64 b] 86)).alloc (.cells (#[.pointer (some ⟨wr.heap.size, 0, none⟩), .pointer (some ⟨wr.heap.size, 1, none⟩)] : Array Value) 115)).drew w0.heap.size B (bs ++ encI (xs.length : Int) ++ enc ((xs.take k).flatMap lnum))) := by
        obtain ⟨ao, ca, g1, g2, g3⟩ := HO.out
        exact ⟨ao, ca, heap_up _ (heap_up _ g1), (g2.keepB (bal (Below.refl _ _) _)).keepB (bDrewB (bal (Below.refl _ _) _)), g3⟩
      have hBw : B < wr.heap.size := by omega
      have CP := hide (put_numbers w0.heap.size B (wr.heap.size + 1) wr.heap.size 0 2 2 (lnum (d, b)) _ (#[.pointer (some ⟨wr.heap.size, 0, none⟩), .pointer (some ⟨wr.heap.size, 1, none⟩)] : Array Value) #[.int .i64 d, .int .i64 b] 115 86 _ hO2.out (by show _ ≤ ((wr.alloc _).alloc _).heap.size; simp; omega) HM.out HLn.out rfl (al2_1 wr _ _) (by decide) (by omega) (al2_0 wr _ _) (by decide) (by omega)
        (fun k hk => by rcases (by omega : k = 0 ∨ k = 1) with rfl | rfl <;> rfl) (fun k a h => by
          have hk : k < 2 := (List.getElem?_eq_some_iff.1 h).1
          rcases (by omega : k = 0 ∨ k = 1) with rfl | rfl <;> (obtain rfl := Option.some.inj h; rfl)))
      simp only [World.size_alloc]
      go_wp2_with fail
      refine CP.out.mono ?_
      rintro e w3 ⟨rfl, o3, s3, b3⟩
      have O3 := hide o3
      have S3 : Hid (Still w w3 B) := by
        intro j o hj hjB hjo hno
        have g := HST.out j o hj hjB hjo hno
        exact s3 j o (by show _ < ((wr.alloc _).alloc _).heap.size; simp; omega) hjB (heap_up _ (heap_up _ g)) hno
      have c3 : Below w0.heap.size w w3 := (hbel.trans ((bDrewB (bal (bal (Below.refl wr.heap.size wr) _) _)).mono (by omega))).trans b3
      clear CP o3 s3 b3 hO2
      go_wp2
      go_roundw
      case rel =>
        refine ⟨k + 1, by omega, by go_num, ?_, S3.out, c3⟩
        rw [show xs.take (k + 1) = xs.take k ++ [(d, b)] by rw [List.take_add_one, Hx.out]; rfl, List.flatMap_append, enc_append, ← List.append_assoc]
        exact O3.out
      case measure => simp [intOf]; omega
    · obtain rfl : k = xs.length := by omega
      rw [List.take_length] at HO
      have e1 : bs ++ enc (allL xs) = bs ++ encI (xs.length : Int) ++ enc (xs.flatMap lnum) := by rw [allL, enc_cons, List.append_assoc]
      rw [← e1] at HO
      have hge : ¬ ((xs.length : Nat) : Int) < (xs.length : Int) := by omega
      clear e1
      go_wp2
      go_end0
      exact ⟨rfl, HO.out, HST.out, hbel⟩

end Go.Proofs.Ytdnojnkcmncffaa
