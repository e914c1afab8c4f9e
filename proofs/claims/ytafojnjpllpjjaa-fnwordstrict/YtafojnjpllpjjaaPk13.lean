/- Contracts and plain facts that the claims of this seat lean on (texts XP, XQ2, XQ3, Rd, Rd2, SpecA); no statement of the seat is proved here. -/
import Derived.Test.YtafojnjpllpjjaaPk12
import Derived.Test.YtafojnjpllpjjaaPk2
import Derived.Laws.Bits64

/- WordPack of the specification: a contract; no statement of the seat is proved here. -/
namespace Go.Proofs.Ytafojnjpllpjjaa
open Go.RowKit

set_option maxRecDepth 100000 in
set_option maxHeartbeats 4000000 in
theorem specWordPack_any (v : Value) (x : Wd) (w : World) (h : WdR w v x) :
    Calls Try.prog 14 #[v] w fun e w' => ∃ vo co, e = .returned (.slice vo (packW x).length co) ∧ RowA w' w.heap.size 5 1 (.slice vo (packW x).length co) (packW x).length (byts (packW x)) ∧ Below w.heap.size w w' := by
  obtain ⟨pk, hpk⟩ : ∃ pk, packW x = pk := ⟨_, rfl⟩
  rw [hpk]
  have HPK := hide hpk
  clear hpk
  obtain ⟨cs, rfl, hs, h1⟩ := h.agg
  have HX := hide h
  have HI := hide (infoAt infoWd hs)
  have hb0 := bal (Below.refl w.heap.size w) (.cells cs 34)
  have B0 := hide (heap_alloc_new w (.cells cs 34))
  clear h hs h1
  go_enter Try.func14, Try.ntmps14
  go_wp2_with (refine wpList_load_row rfl 34 (.tmp 1) rfl w.heap.size rfl _ cs (0, 0) _ B0.out Try.underlying34 rfl HI.out ?_)
  refine (specWordOk_any _ x _ (HX.out.keep hb0)).mono ?_
  rintro e w1 ⟨rfl, b1⟩
  have c1 := bAll hb0 b1
  have B1 := hide (bKeeps b1 B0.out)
  clear B0 b1 hb0
  rcases hk : okW x with _ | _
  · have e0 : pk = [] := by rw [← HPK.out]; unfold packW; rw [hk]; rfl
    subst e0
    go_wp2
    go_ret
    exact ⟨_, _, rfl, .inr ⟨rfl, rfl, _, rfl⟩, by first | exact c1 | exact bal c1 _⟩
  · have e0 : pk = enc (allW x) := by rw [← HPK.out]; unfold packW; rw [hk]; rfl
    have E0 := hide e0
    have HP := hide (okL_mem (okW_ps hk)).1
    have HL := hide (okL_mem (okW_ls hk)).1
    have HN := hide (allW_num hk)
    have HLn := hide (allW_len x)
    have HK := hide hk
    go_wp2_with (refine wpList_load_row rfl 34 (.tmp 1) rfl w.heap.size rfl _ cs (0, 0) _ B1.out Try.underlying34 rfl HI.out ?_)
    refine (l11All_any _ x _ (HX.out.keep c1) HP.out HL.out).mono ?_
    rintro e w2 ⟨so, n, sc, rfl, hn, r2, b2⟩
    have c2 := bAll c1 b2
    have hn2 : n ≤ 1000 := by have := HP.out; have := HL.out; have := HLn.out; omega
    clear hk hn
    go_wp2_with fail
    refine (l11Byte_any _ n (allW x) _ r2 hn2 HN.out).mono ?_
    rintro e w3 ⟨vo, m, co, rfl, r3, hm, b3⟩
    have r4 := hide (r3.base (b' := w.heap.size) c2.size)
    have hm' : m = pk.length := by rw [E0.out]; exact hm
    rw [← E0.out] at r4
    subst hm'
    clear r3 r2 hm
    go_wp2
    go_ret
    exact ⟨_, _, by rw [E0.out]; rfl, r4.out, bAll c2 b3⟩

end Go.Proofs.Ytafojnjpllpjjaa

/- Lists of a word written as bytes, and WordPack, in the program: contracts; no statement of the seat is proved here. -/
namespace Go.Proofs.Ytafojnjpllpjjaa
open Go.RowKit

set_option maxRecDepth 100000 in
set_option maxHeartbeats 2000000 in
theorem pieceNumbers_any (b : Nat) (w : World) :
    Calls Try.prog 69 #[.pointer (some ⟨b, 0, none⟩)] w fun e w' => e = .returned (.slice (some ⟨w.heap.size, 0, none⟩) 4 4) ∧ w' = (w.alloc (.cells (#[.pointer (some ⟨b, 0, none⟩), .pointer (some ⟨b, 1, none⟩), .pointer (some ⟨b, 2, none⟩), .pointer (some ⟨b, 3, none⟩)] : Array Value) 115)).drew := by
  go_enter Try.func69, Try.ntmps69
  go_wp2
  refine wp_region_noPanic ?_
  refine wp_region_held_drew (S := (fun _ => True)) (by kernel_rfl) ?_ (fun hHeld => ?_)
  · trivial
  refine wpAnyH_take (i := 0) (v := ?v1) rfl (by kernel_rfl) (by kernel_rfl) (by kernel_rfl) (fun _ _ _ h => h) (Or.inl ⟨by rfl, ?hy1⟩) (by assumption) ?rest1
  case hy1 => ((intro w hSw; (try dsimp only at hSw); (try simp only [List.getElem_toArray, List.getElem_cons_zero]); go_simp; first | done | (with_reducible rfl)))
  simp only [Act.put, List.getElem_toArray, List.getElem_cons_zero, List.setIfInBounds_toArray, List.set_cons_zero, List.set_cons_succ]
  refine wpAnyH_take (i := 1) (v := ?v2) rfl (by kernel_rfl) (by kernel_rfl) (by kernel_rfl) (fun _ _ _ h => h) (Or.inl ⟨by rfl, ?hy2⟩) (by assumption) ?rest2
  case hy2 => ((intro w hSw; (try dsimp only at hSw); (try simp only [List.getElem_toArray, List.getElem_cons_zero, List.getElem_cons_succ]); go_simp; first | done | (with_reducible rfl)))
  simp only [Act.put, List.getElem_toArray, List.getElem_cons_zero, List.getElem_cons_succ, List.setIfInBounds_toArray, List.set_cons_zero, List.set_cons_succ]
  refine wpAnyH_take (i := 2) (v := ?v3) rfl (by kernel_rfl) (by kernel_rfl) (by kernel_rfl) (fun _ _ _ h => h) (Or.inl ⟨by rfl, ?hy3⟩) (by assumption) ?rest3
  case hy3 => ((intro w hSw; (try dsimp only at hSw); (try simp only [List.getElem_toArray, List.getElem_cons_zero, List.getElem_cons_succ]); go_simp; first | done | (with_reducible rfl)))
  simp only [Act.put, List.getElem_toArray, List.getElem_cons_zero, List.getElem_cons_succ, List.setIfInBounds_toArray, List.set_cons_zero, List.set_cons_succ]
  refine wpAnyH_take (i := 3) (v := ?v4) rfl (by kernel_rfl) (by kernel_rfl) (by kernel_rfl) (fun _ _ _ h => h) (Or.inl ⟨by rfl, ?hy4⟩) (by assumption) ?rest4
  case hy4 => ((intro w hSw; (try dsimp only at hSw); (try simp only [List.getElem_toArray, List.getElem_cons_zero, List.getElem_cons_succ]); go_simp; first | done | (with_reducible rfl)))
  simp only [Act.put, List.getElem_toArray, List.getElem_cons_zero, List.getElem_cons_succ, List.setIfInBounds_toArray, List.set_cons_zero, List.set_cons_succ]
  refine wpAnyH_take (i := 4) (v := ?v5) rfl (by kernel_rfl) (by kernel_rfl) (by kernel_rfl) (fun _ _ _ h => h) (Or.inl ⟨by rfl, ?hy5⟩) (by assumption) ?rest5
  case hy5 => ((intro w hSw; (try dsimp only at hSw); (try simp only [List.getElem_toArray, List.getElem_cons_zero, List.getElem_cons_succ]); go_simp; first | done | (with_reducible rfl)))
  simp only [Act.put, List.getElem_toArray, List.getElem_cons_zero, List.getElem_cons_succ, List.setIfInBounds_toArray, List.set_cons_zero, List.set_cons_succ]
  refine wpAnyH_take (i := 5) (v := ?v6) rfl (by kernel_rfl) (by kernel_rfl) (by kernel_rfl) (fun _ _ _ h => h) (Or.inl ⟨by rfl, ?hy6⟩) (by assumption) ?rest6
  case hy6 => ((intro w hSw; (try dsimp only at hSw); (try simp only [List.getElem_toArray, List.getElem_cons_zero, List.getElem_cons_succ]); go_simp; first | done | (with_reducible rfl)))
  simp only [Act.put, List.getElem_toArray, List.getElem_cons_zero, List.getElem_cons_succ, List.setIfInBounds_toArray, List.set_cons_zero, List.set_cons_succ]
  refine wpAnyH_take (i := 6) (v := ?v7) rfl (by kernel_rfl) (by kernel_rfl) (by kernel_rfl) (fun _ _ _ h => h) (Or.inl ⟨by rfl, ?hy7⟩) (by assumption) ?rest7
  case hy7 => ((intro w hSw; (try dsimp only at hSw); (try simp only [List.getElem_toArray, List.getElem_cons_zero, List.getElem_cons_succ]); go_simp; first | done | (with_reducible rfl)))
  simp only [Act.put, List.getElem_toArray, List.getElem_cons_zero, List.getElem_cons_succ, List.setIfInBounds_toArray, List.set_cons_zero, List.set_cons_succ]
  refine wpAnyH_take (i := 7) (v := ?v8) rfl (by kernel_rfl) (by kernel_rfl) (by kernel_rfl) (fun _ _ _ h => h) (Or.inl ⟨by rfl, ?hy8⟩) (by assumption) ?rest8
  case hy8 => ((intro w hSw; (try dsimp only at hSw); (try simp only [List.getElem_toArray, List.getElem_cons_zero, List.getElem_cons_succ]); go_simp; first | done | (with_reducible rfl)))
  simp only [Act.put, List.getElem_toArray, List.getElem_cons_zero, List.getElem_cons_succ, List.setIfInBounds_toArray, List.set_cons_zero, List.set_cons_succ]
  refine wpAnyH_take (i := 8) (v := ?v9) rfl (by kernel_rfl) (by kernel_rfl) (by kernel_rfl) (fun _ _ _ h => h) (Or.inl ⟨by rfl, ?hy9⟩) (by assumption) ?rest9
  case hy9 => ((intro w hSw; (try dsimp only at hSw); (try simp only [List.getElem_toArray, List.getElem_cons_zero, List.getElem_cons_succ]); go_simp; first | done | (with_reducible rfl)))
  simp only [Act.put, List.getElem_toArray, List.getElem_cons_zero, List.getElem_cons_succ, List.setIfInBounds_toArray, List.set_cons_zero, List.set_cons_succ]
  refine wpAnyH_take (i := 9) (v := ?v10) rfl (by kernel_rfl) (by kernel_rfl) (by kernel_rfl) (fun _ _ _ h => h) (Or.inl ⟨by rfl, ?hy10⟩) (by assumption) ?rest10
  case hy10 => ((intro w hSw; (try dsimp only at hSw); (try simp only [List.getElem_toArray, List.getElem_cons_zero, List.getElem_cons_succ]); go_simp; first | done | (with_reducible rfl)))
  simp only [Act.put, List.getElem_toArray, List.getElem_cons_zero, List.getElem_cons_succ, List.setIfInBounds_toArray, List.set_cons_zero, List.set_cons_succ]
  refine wpAnyH_take (i := 10) (v := ?v11) rfl (by kernel_rfl) (by kernel_rfl) (by kernel_rfl) (fun _ _ _ h => h) (Or.inl ⟨by rfl, ?hy11⟩) (by assumption) ?rest11
  case hy11 => ((intro w hSw; (try dsimp only at hSw); (try simp only [List.getElem_toArray, List.getElem_cons_zero, List.getElem_cons_succ]); go_simp; first | done | (with_reducible rfl)))
  simp only [Act.put, List.getElem_toArray, List.getElem_cons_zero, List.getElem_cons_succ, List.setIfInBounds_toArray, List.set_cons_zero, List.set_cons_succ]
  refine wpAnyH_take (i := 11) (v := ?v12) rfl (by kernel_rfl) (by kernel_rfl) (by kernel_rfl) (fun _ _ _ h => h) (Or.inl ⟨by rfl, ?hy12⟩) (by assumption) ?rest12
  case hy12 => ((intro w hSw; (try dsimp only at hSw); (try simp only [List.getElem_toArray, List.getElem_cons_zero, List.getElem_cons_succ]); go_simp; first | done | (with_reducible rfl)))
  simp only [Act.put, List.getElem_toArray, List.getElem_cons_zero, List.getElem_cons_succ, List.setIfInBounds_toArray, List.set_cons_zero, List.set_cons_succ]
  refine wpAnyH_ready (rs := [12]) (by kernel_rfl) (by simp) ?_
  refine AllReadyH.cons rfl (fun K hK => ?_) AllReadyH.nil
  go_simp
  (skip)
  refine hK.out _ _ ?_ (fun hHeld => ?_)
  · trivial
  clear hK K
  refine wpAnyH_take (i := 13) (v := ?v13) rfl (by kernel_rfl) (by kernel_rfl) (by kernel_rfl) (fun _ _ _ h => h) (Or.inl ⟨by rfl, ?hy13⟩) (by assumption) ?rest13
  case hy13 => ((intro w hSw; (try dsimp only at hSw); (try simp only [List.getElem_toArray, List.getElem_cons_zero, List.getElem_cons_succ]); go_simp; first | done | (with_reducible rfl)))
  simp only [Act.put, List.getElem_toArray, List.getElem_cons_zero, List.getElem_cons_succ, List.setIfInBounds_toArray, List.set_cons_zero, List.set_cons_succ]
  refine wpAnyH_done (by kernel_rfl) ?_ _
  refine NoPanic.normal ?_
  go_wp2
  go_ret
  exact ⟨rfl, rfl⟩

set_option maxRecDepth 100000 in
set_option maxHeartbeats 4000000 in
theorem put_pieces (w0 : World) (B : Nat) (so : Option Addr) (sc : Nat) (xs : List Pc) (bs : List Nat) (w : World) (h : Out w w0.heap.size B bs) (hb : Below w0.heap.size w0 w) (hr : RowR w0 4 (.slice so xs.length sc) xs.length (pcells xs)) (hx : ∀ a ∈ allP xs, -1 ≤ a ∧ a ≤ 99999) (hl : bs.length + 3 * (1 + 4 * xs.length) ≤ 10000) :
    Calls Try.prog 106 #[.pointer (some ⟨B, 0, none⟩), .slice so xs.length sc, .func (.func 69) #[] #[]] w fun e w' => e = .returned (.tuple #[]) ∧ Out w' w0.heap.size B (bs ++ enc (allP xs)) ∧ Still w w' B ∧ Below w0.heap.size w w' := by
  have H := hide h
  have HR := hide hr
  have HX := hide hx
  have hBl : B < w.heap.size := by obtain ⟨_, _, g, _⟩ := h; exact heap_lt g
  have hz0 := hb.size
  have hxn : xs.length ≤ 10000 := by omega
  have hx0 := hx (xs.length : Int) (by simp [allP])
  have CP := hide (putNumber_any w0.heap.size B (xs.length : Int) bs w h hz0 hx0.1 hx0.2 (by omega))
  clear h hr hx hx0
  go_enter Try.func106, Try.ntmps106
  go_wp2_with fail
  refine CP.out.mono ?_
  rintro e w1 ⟨rfl, o1, s1, b1⟩
  have S1 : Hid (Still w w1 B) := s1
  have O1 := hide o1
  clear CP o1 s1
  go_wp2
  go_loopw [14] (fun i wr => ∃ k : Nat, k ≤ xs.length ∧ i = .int .i64 k ∧ Out wr w0.heap.size B (bs ++ encI (xs.length : Int) ++ enc ((xs.take k).flatMap pnum)) ∧ Still w wr B ∧ Below w0.heap.size w wr) (fun i _ => xs.length - (intOf i).toNat)
  case atStart => exact ⟨0, Nat.zero_le _, rfl, by simpa [enc] using O1.out, S1.out, b1⟩
  case round =>
    obtain ⟨k, hk, rfl, ho, hst, hbel⟩ := hrel
    have HO := hide ho
    have HST := hide hst
    have hzw := hbel.size
    clear ho hst O1 S1 b1
    by_cases hlt : k < xs.length
    · obtain ⟨b1, o1, hpo, hc1⟩ : ∃ b1 o1, so = some ⟨b1, o1, none⟩ ∧ ∀ j u, (pcells xs)[j]? = some u → w0.cell? ⟨b1, o1 + j, none⟩ = some u := by
        obtain ⟨ao', cap', e, _, _, hr⟩ := HR.out
        obtain ⟨b1, o1, e2, hc⟩ := hr (by omega)
        simp only [Value.slice.injEq, true_and] at e
        exact ⟨b1, o1, e.1.trans e2, hc⟩
      subst hpo
      obtain ⟨⟨d, b, p, t⟩, hx⟩ := getAt xs k hlt
      obtain ⟨f0, f1, f2, f3, l1⟩ := pc_cells hc1 hx (hb.trans hbel)
      have hi : (k : Int) < (xs.length : Int) := by omega
      have Hx := hide hx
      have hmem : ∀ a ∈ pnum (d, b, p, t), -1 ≤ a ∧ a ≤ 99999 := fun a ha => HX.out a (List.mem_cons_of_mem _ (List.mem_flatMap.2 ⟨_, List.mem_of_getElem? hx, ha⟩))
      have HM := hide hmem
      have hlen : (bs ++ encI (xs.length : Int) ++ enc ((xs.take k).flatMap pnum)).length + 3 * (pnum (d, b, p, t)).length ≤ 10000 := by
        have g1 := (enc_len ((xs.take k).flatMap pnum) (fun a ha => (HX.out a (by
          obtain ⟨y, hy, hay⟩ := List.mem_flatMap.1 ha
          exact List.mem_cons_of_mem _ (List.mem_flatMap.2 ⟨y, List.mem_of_mem_take hy, hay⟩))).2)).2
        have g2 := (encN_len ((xs.length : Int) + 1).toNat (by have := (HX.out (xs.length : Int) (by simp [allP])).2; omega)).2
        have g3 : ((xs.take k).flatMap pnum).length = (xs.take k).length * 4 := by
          generalize xs.take k = ys
          induction ys with
          | nil => rfl
          | cons y ys ih => rw [List.flatMap_cons, List.length_append, ih, List.length_cons]; simp; omega
        have g4 : (encI (xs.length : Int)).length ≤ 3 := g2
        have g5 : (pnum (d, b, p, t)).length = 4 := rfl
        rw [List.length_append, List.length_append, g5]
        rw [g3, List.length_take] at g1
        omega
      have HLn := hide hlen
      clear hc1 hx hmem hlen
      go_wp2_with fail
      refine (pieceNumbers_any wr.heap.size _).mono ?_
      rintro e w2 ⟨rfl, rfl⟩
      have hO2 : Hid (Out ((wr.alloc (.cells #[.int .i64 d, .int .i64 b, .int .i64 p, .int .i64 t] 83)).alloc (.cells (#[.pointer (some ⟨wr.heap.size, 0, none⟩), .pointer (some ⟨wr.heap.size, 1, none⟩), .pointer (some ⟨wr.heap.size, 2, none⟩), .pointer (some ⟨wr.heap.size, 3, none⟩)] : Array Value) 115)).drew w0.heap.size B (bs ++ encI (xs.length : Int) ++ enc ((xs.take k).flatMap pnum))) := by
        obtain ⟨ao, ca, g1, g2, g3⟩ := HO.out
        exact ⟨ao, ca, heap_up _ (heap_up _ g1), (g2.keepB (bal (Below.refl _ _) _)).keepB (bDrewB (bal (Below.refl _ _) _)), g3⟩
      have hBw : B < wr.heap.size := by omega
      have CP := hide (put_numbers w0.heap.size B (wr.heap.size + 1) wr.heap.size 0 4 4 (pnum (d, b, p, t)) _ (#[.pointer (some ⟨wr.heap.size, 0, none⟩), .pointer (some ⟨wr.heap.size, 1, none⟩), .pointer (some ⟨wr.heap.size, 2, none⟩), .pointer (some ⟨wr.heap.size, 3, none⟩)] : Array Value) #[.int .i64 d, .int .i64 b, .int .i64 p, .int .i64 t] 115 83 _ hO2.out (by show _ ≤ ((wr.alloc _).alloc _).heap.size; simp; omega) HM.out HLn.out rfl (al2_1 wr _ _) (by decide) (by omega) (al2_0 wr _ _) (by decide) (by omega)
        (fun k hk => by rcases (by omega : k = 0 ∨ k = 1 ∨ k = 2 ∨ k = 3) with rfl | rfl | rfl | rfl <;> rfl) (fun k a h => by
          have hk : k < 4 := (List.getElem?_eq_some_iff.1 h).1
          rcases (by omega : k = 0 ∨ k = 1 ∨ k = 2 ∨ k = 3) with rfl | rfl | rfl | rfl <;> (obtain rfl := Option.some.inj h; rfl)))
      simp only [World.size_alloc]
      go_wp2_with fail
      refine CP.out.mono ?_
      rintro e w3 ⟨rfl, o3, s3, b3⟩
      have O3 := hide o3
      have S3 : Hid (Still w w3 B) := by
        intro j o hj hjB hjo hno
        have g := HST.out j o hj hjB hjo hno
        exact s3 j o (by show _ < ((wr.alloc _).alloc _).heap.size; simp; omega) hjB (heap_up _ (heap_up _ g)) hno
      have c3 : Below w0.heap.size w w3 := (hbel.trans ((bDrewB (bal (bal (Below.refl wr.heap.size wr) _) _)).mono (by omega))).trans b3
      clear CP o3 s3 b3 hO2
      go_wp2
      go_roundw
      case rel =>
        refine ⟨k + 1, by omega, by go_num, ?_, S3.out, c3⟩
        rw [show xs.take (k + 1) = xs.take k ++ [(d, b, p, t)] by rw [List.take_add_one, Hx.out]; rfl, List.flatMap_append, enc_append, ← List.append_assoc]
        exact O3.out
      case measure => simp [intOf]; omega
    · obtain rfl : k = xs.length := by omega
      rw [List.take_length] at HO
      have e1 : bs ++ enc (allP xs) = bs ++ encI (xs.length : Int) ++ enc (xs.flatMap pnum) := by rw [allP, enc_cons, List.append_assoc]
      rw [← e1] at HO
      have hge : ¬ ((xs.length : Nat) : Int) < (xs.length : Int) := by omega
      clear e1
      go_wp2
      go_end0
      exact ⟨rfl, HO.out, HST.out, hbel⟩

set_option maxRecDepth 100000 in
set_option maxHeartbeats 2000000 in
theorem lastNumbers_any (b : Nat) (w : World) :
    Calls Try.prog 71 #[.pointer (some ⟨b, 0, none⟩)] w fun e w' => e = .returned (.slice (some ⟨w.heap.size, 0, none⟩) 2 2) ∧ w' = (w.alloc (.cells (#[.pointer (some ⟨b, 0, none⟩), .pointer (some ⟨b, 1, none⟩)] : Array Value) 115)).drew := by
  go_enter Try.func71, Try.ntmps71
  go_wp2
  refine wp_region_noPanic ?_
  refine wp_region_held_drew (S := (fun _ => True)) (by kernel_rfl) ?_ (fun hHeld => ?_)
  · trivial
  refine wpAnyH_take (i := 0) (v := ?v14) rfl (by kernel_rfl) (by kernel_rfl) (by kernel_rfl) (fun _ _ _ h => h) (Or.inl ⟨by rfl, ?hy14⟩) (by assumption) ?rest14
  case hy14 => ((intro w hSw; (try dsimp only at hSw); (try simp only [List.getElem_toArray, List.getElem_cons_zero]); go_simp; first | done | (with_reducible rfl)))
  simp only [Act.put, List.getElem_toArray, List.getElem_cons_zero, List.setIfInBounds_toArray, List.set_cons_zero, List.set_cons_succ]
  refine wpAnyH_take (i := 1) (v := ?v15) rfl (by kernel_rfl) (by kernel_rfl) (by kernel_rfl) (fun _ _ _ h => h) (Or.inl ⟨by rfl, ?hy15⟩) (by assumption) ?rest15
  case hy15 => ((intro w hSw; (try dsimp only at hSw); (try simp only [List.getElem_toArray, List.getElem_cons_zero, List.getElem_cons_succ]); go_simp; first | done | (with_reducible rfl)))
  simp only [Act.put, List.getElem_toArray, List.getElem_cons_zero, List.getElem_cons_succ, List.setIfInBounds_toArray, List.set_cons_zero, List.set_cons_succ]
  refine wpAnyH_take (i := 2) (v := ?v16) rfl (by kernel_rfl) (by kernel_rfl) (by kernel_rfl) (fun _ _ _ h => h) (Or.inl ⟨by rfl, ?hy16⟩) (by assumption) ?rest16
  case hy16 => ((intro w hSw; (try dsimp only at hSw); (try simp only [List.getElem_toArray, List.getElem_cons_zero, List.getElem_cons_succ]); go_simp; first | done | (with_reducible rfl)))
  simp only [Act.put, List.getElem_toArray, List.getElem_cons_zero, List.getElem_cons_succ, List.setIfInBounds_toArray, List.set_cons_zero, List.set_cons_succ]
  refine wpAnyH_take (i := 3) (v := ?v17) rfl (by kernel_rfl) (by kernel_rfl) (by kernel_rfl) (fun _ _ _ h => h) (Or.inl ⟨by rfl, ?hy17⟩) (by assumption) ?rest17
  case hy17 => ((intro w hSw; (try dsimp only at hSw); (try simp only [List.getElem_toArray, List.getElem_cons_zero, List.getElem_cons_succ]); go_simp; first | done | (with_reducible rfl)))
  simp only [Act.put, List.getElem_toArray, List.getElem_cons_zero, List.getElem_cons_succ, List.setIfInBounds_toArray, List.set_cons_zero, List.set_cons_succ]
  refine wpAnyH_take (i := 4) (v := ?v18) rfl (by kernel_rfl) (by kernel_rfl) (by kernel_rfl) (fun _ _ _ h => h) (Or.inl ⟨by rfl, ?hy18⟩) (by assumption) ?rest18
  case hy18 => ((intro w hSw; (try dsimp only at hSw); (try simp only [List.getElem_toArray, List.getElem_cons_zero, List.getElem_cons_succ]); go_simp; first | done | (with_reducible rfl)))
  simp only [Act.put, List.getElem_toArray, List.getElem_cons_zero, List.getElem_cons_succ, List.setIfInBounds_toArray, List.set_cons_zero, List.set_cons_succ]
  refine wpAnyH_take (i := 5) (v := ?v19) rfl (by kernel_rfl) (by kernel_rfl) (by kernel_rfl) (fun _ _ _ h => h) (Or.inl ⟨by rfl, ?hy19⟩) (by assumption) ?rest19
  case hy19 => ((intro w hSw; (try dsimp only at hSw); (try simp only [List.getElem_toArray, List.getElem_cons_zero, List.getElem_cons_succ]); go_simp; first | done | (with_reducible rfl)))
  simp only [Act.put, List.getElem_toArray, List.getElem_cons_zero, List.getElem_cons_succ, List.setIfInBounds_toArray, List.set_cons_zero, List.set_cons_succ]
  refine wpAnyH_ready (rs := [6]) (by kernel_rfl) (by simp) ?_
  refine AllReadyH.cons rfl (fun K hK => ?_) AllReadyH.nil
  go_simp
  (skip)
  refine hK.out _ _ ?_ (fun hHeld => ?_)
  · trivial
  clear hK K
  refine wpAnyH_take (i := 7) (v := ?v20) rfl (by kernel_rfl) (by kernel_rfl) (by kernel_rfl) (fun _ _ _ h => h) (Or.inl ⟨by rfl, ?hy20⟩) (by assumption) ?rest20
  case hy20 => ((intro w hSw; (try dsimp only at hSw); (try simp only [List.getElem_toArray, List.getElem_cons_zero, List.getElem_cons_succ]); go_simp; first | done | (with_reducible rfl)))
  simp only [Act.put, List.getElem_toArray, List.getElem_cons_zero, List.getElem_cons_succ, List.setIfInBounds_toArray, List.set_cons_zero, List.set_cons_succ]
  refine wpAnyH_done (by kernel_rfl) ?_ _
  refine NoPanic.normal ?_
  go_wp2
  go_ret
  exact ⟨rfl, rfl⟩

set_option maxRecDepth 100000 in
set_option maxHeartbeats 4000000 in
theorem put_lasts (w0 : World) (B : Nat) (so : Option Addr) (sc : Nat) (xs : List Lc) (bs : List Nat) (w : World) (h : Out w w0.heap.size B bs) (hb : Below w0.heap.size w0 w) (hr : RowR w0 2 (.slice so xs.length sc) xs.length (lcells xs)) (hx : ∀ a ∈ allL xs, -1 ≤ a ∧ a ≤ 99999) (hl : bs.length + 3 * (1 + 2 * xs.length) ≤ 10000) :
    Calls Try.prog 107 #[.pointer (some ⟨B, 0, none⟩), .slice so xs.length sc, .func (.func 71) #[] #[]] w fun e w' => e = .returned (.tuple #[]) ∧ Out w' w0.heap.size B (bs ++ enc (allL xs)) ∧ Still w w' B ∧ Below w0.heap.size w w' := by
  have H := hide h
  have HR := hide hr
  have HX := hide hx
  have hBl : B < w.heap.size := by obtain ⟨_, _, g, _⟩ := h; exact heap_lt g
  have hz0 := hb.size
  have hxn : xs.length ≤ 10000 := by omega
  have hx0 := hx (xs.length : Int) (by simp [allL])
  have CP := hide (putNumber_any w0.heap.size B (xs.length : Int) bs w h hz0 hx0.1 hx0.2 (by omega))
  clear h hr hx hx0
  go_enter Try.func107, Try.ntmps107
  go_wp2_with fail
  refine CP.out.mono ?_
  rintro e w1 ⟨rfl, o1, s1, b1⟩
  have S1 : Hid (Still w w1 B) := s1
  have O1 := hide o1
  clear CP o1 s1
  go_wp2
  go_loopw [14] (fun i wr => ∃ k : Nat, k ≤ xs.length ∧ i = .int .i64 k ∧ Out wr w0.heap.size B (bs ++ encI (xs.length : Int) ++ enc ((xs.take k).flatMap lnum)) ∧ Still w wr B ∧ Below w0.heap.size w wr) (fun i _ => xs.length - (intOf i).toNat)
  case atStart => exact ⟨0, Nat.zero_le _, rfl, by simpa [enc] using O1.out, S1.out, b1⟩
  case round =>
    obtain ⟨k, hk, rfl, ho, hst, hbel⟩ := hrel
    have HO := hide ho
    have HST := hide hst
    have hzw := hbel.size
    clear ho hst O1 S1 b1
    by_cases hlt : k < xs.length
    · obtain ⟨b1, o1, hpo, hc1⟩ : ∃ b1 o1, so = some ⟨b1, o1, none⟩ ∧ ∀ j u, (lcells xs)[j]? = some u → w0.cell? ⟨b1, o1 + j, none⟩ = some u := by
        obtain ⟨ao', cap', e, _, _, hr⟩ := HR.out
        obtain ⟨b1, o1, e2, hc⟩ := hr (by omega)
        simp only [Value.slice.injEq, true_and] at e
        exact ⟨b1, o1, e.1.trans e2, hc⟩
      subst hpo
      obtain ⟨⟨d, b⟩, hx⟩ := getAt xs k hlt
      obtain ⟨f0, f1, l1⟩ := lc_cells hc1 hx (hb.trans hbel)
      have hi : (k : Int) < (xs.length : Int) := by omega
      have Hx := hide hx
      have hmem : ∀ a ∈ lnum (d, b), -1 ≤ a ∧ a ≤ 99999 := fun a ha => HX.out a (List.mem_cons_of_mem _ (List.mem_flatMap.2 ⟨_, List.mem_of_getElem? hx, ha⟩))
      have HM := hide hmem
      have hlen : (bs ++ encI (xs.length : Int) ++ enc ((xs.take k).flatMap lnum)).length + 3 * (lnum (d, b)).length ≤ 10000 := by
        have g1 := (enc_len ((xs.take k).flatMap lnum) (fun a ha => (HX.out a (by
          obtain ⟨y, hy, hay⟩ := List.mem_flatMap.1 ha
          exact List.mem_cons_of_mem _ (List.mem_flatMap.2 ⟨y, List.mem_of_mem_take hy, hay⟩))).2)).2
        have g2 := (encN_len ((xs.length : Int) + 1).toNat (by have := (HX.out (xs.length : Int) (by simp [allL])).2; omega)).2
        have g3 : ((xs.take k).flatMap lnum).length = (xs.take k).length * 2 := by
          generalize xs.take k = ys
          induction ys with
          | nil => rfl
          | cons y ys ih => rw [List.flatMap_cons, List.length_append, ih, List.length_cons]; simp; omega
        have g4 : (encI (xs.length : Int)).length ≤ 3 := g2
        have g5 : (lnum (d, b)).length = 2 := rfl
        rw [List.length_append, List.length_append, g5]
        rw [g3, List.length_take] at g1
        omega
      have HLn := hide hlen
      clear hc1 hx hmem hlen
      go_wp2_with fail
      refine (lastNumbers_any wr.heap.size _).mono ?_
      rintro e w2 ⟨rfl, rfl⟩
      have hO2 : Hid (Out ((wr.alloc (.cells #[.int .i64 d, .int .i64 b] 86)).alloc (.cells (#[.pointer (some ⟨wr.heap.size, 0, none⟩), .pointer (some ⟨wr.heap.size, 1, none⟩)] : Array Value) 115)).drew w0.heap.size B (bs ++ encI (xs.length : Int) ++ enc ((xs.take k).flatMap lnum))) := by
        obtain ⟨ao, ca, g1, g2, g3⟩ := HO.out
        exact ⟨ao, ca, heap_up _ (heap_up _ g1), (g2.keepB (bal (Below.refl _ _) _)).keepB (bDrewB (bal (Below.refl _ _) _)), g3⟩
      have hBw : B < wr.heap.size := by omega
      have CP := hide (put_numbers w0.heap.size B (wr.heap.size + 1) wr.heap.size 0 2 2 (lnum (d, b)) _ (#[.pointer (some ⟨wr.heap.size, 0, none⟩), .pointer (some ⟨wr.heap.size, 1, none⟩)] : Array Value) #[.int .i64 d, .int .i64 b] 115 86 _ hO2.out (by show _ ≤ ((wr.alloc _).alloc _).heap.size; simp; omega) HM.out HLn.out rfl (al2_1 wr _ _) (by decide) (by omega) (al2_0 wr _ _) (by decide) (by omega)
        (fun k hk => by rcases (by omega : k = 0 ∨ k = 1) with rfl | rfl <;> rfl) (fun k a h => by
          have hk : k < 2 := (List.getElem?_eq_some_iff.1 h).1
          rcases (by omega : k = 0 ∨ k = 1) with rfl | rfl <;> (obtain rfl := Option.some.inj h; rfl)))
      simp only [World.size_alloc]
      go_wp2_with fail
      refine CP.out.mono ?_
      rintro e w3 ⟨rfl, o3, s3, b3⟩
      have O3 := hide o3
      have S3 : Hid (Still w w3 B) := by
        intro j o hj hjB hjo hno
        have g := HST.out j o hj hjB hjo hno
        exact s3 j o (by show _ < ((wr.alloc _).alloc _).heap.size; simp; omega) hjB (heap_up _ (heap_up _ g)) hno
      have c3 : Below w0.heap.size w w3 := (hbel.trans ((bDrewB (bal (bal (Below.refl wr.heap.size wr) _) _)).mono (by omega))).trans b3
      clear CP o3 s3 b3 hO2
      go_wp2
      go_roundw
      case rel =>
        refine ⟨k + 1, by omega, by go_num, ?_, S3.out, c3⟩
        rw [show xs.take (k + 1) = xs.take k ++ [(d, b)] by rw [List.take_add_one, Hx.out]; rfl, List.flatMap_append, enc_append, ← List.append_assoc]
        exact O3.out
      case measure => simp [intOf]; omega
    · obtain rfl : k = xs.length := by omega
      rw [List.take_length] at HO
      have e1 : bs ++ enc (allL xs) = bs ++ encI (xs.length : Int) ++ enc (xs.flatMap lnum) := by rw [allL, enc_cons, List.append_assoc]
      rw [← e1] at HO
      have hge : ¬ ((xs.length : Nat) : Int) < (xs.length : Int) := by omega
      clear e1
      go_wp2
      go_end0
      exact ⟨rfl, HO.out, HST.out, hbel⟩

end Go.Proofs.Ytafojnjpllpjjaa

/- WordPack of the program: contracts; no statement of the seat is proved here. -/
namespace Go.Proofs.Ytafojnjpllpjjaa
open Go.RowKit

theorem Out.keepB {w w' : World} {base B : Nat} {bs : List Nat} (h : Out w base B bs) (hb : Below w.heap.size w w') : Out w' base B bs := by
  obtain ⟨ao, ca, g1, g2, g3⟩ := h
  exact ⟨ao, ca, bKeeps hb g1, g2.keepB hb, g3⟩

theorem numsAt (x : Wd) (po lo : Option Addr) (pn pc ln lc : Nat) : ∀ k a, x.nums[k]? = some a → (#[.int .i64 x.a0, .int .i64 x.a1, .int .i64 x.a2, .int .i64 x.a3, .int .i64 x.a4, .int .i64 x.a5, .int .i64 x.c0, .int .i64 x.c1, .int .i64 x.c2, .int .i64 x.c3, .int .i64 x.c4, .int .i64 x.c5, .int .i64 x.c6, .int .i64 x.c7, .int .i64 x.c8, .int .i64 x.c9, .int .i64 x.b0, .int .i64 x.b1, .int .i64 x.b2, .int .i64 x.b3, .int .i64 x.b4, .int .i64 x.b5, .int .i64 x.b6, .int .i64 x.b7, .slice po pn pc, .slice lo ln lc] : Array Value)[0 + k]? = some (.int .i64 a) := by
  intro k a h
  rw [Nat.zero_add]
  have hk : k < 24 := (List.getElem?_eq_some_iff.1 h).1
  rcases (by omega : k = 0 ∨ k = 1 ∨ k = 2 ∨ k = 3 ∨ k = 4 ∨ k = 5 ∨ k = 6 ∨ k = 7 ∨ k = 8 ∨ k = 9 ∨ k = 10 ∨ k = 11 ∨ k = 12 ∨ k = 13 ∨ k = 14 ∨ k = 15 ∨ k = 16 ∨ k = 17 ∨ k = 18 ∨ k = 19 ∨ k = 20 ∨ k = 21 ∨ k = 22 ∨ k = 23) with rfl | rfl | rfl | rfl | rfl | rfl | rfl | rfl | rfl | rfl | rfl | rfl | rfl | rfl | rfl | rfl | rfl | rfl | rfl | rfl | rfl | rfl | rfl | rfl <;> (obtain rfl := Option.some.inj h; rfl)

set_option maxRecDepth 100000 in
set_option maxHeartbeats 8000000 in
theorem row_word (x : Wd) (po lo : Option Addr) (pc lc : Nat) (w : World) (a1 : RowR w 4 (.slice po x.ps.length pc) x.ps.length (pcells x.ps)) (a2 : RowR w 2 (.slice lo x.ls.length lc) x.ls.length (lcells x.ls)) (hok : okW x = true) :
    Calls Try.prog 99 #[ .agg #[.int .i64 x.a0, .int .i64 x.a1, .int .i64 x.a2, .int .i64 x.a3, .int .i64 x.a4, .int .i64 x.a5, .int .i64 x.c0, .int .i64 x.c1, .int .i64 x.c2, .int .i64 x.c3, .int .i64 x.c4, .int .i64 x.c5, .int .i64 x.c6, .int .i64 x.c7, .int .i64 x.c8, .int .i64 x.c9, .int .i64 x.b0, .int .i64 x.b1, .int .i64 x.b2, .int .i64 x.b3, .int .i64 x.b4, .int .i64 x.b5, .int .i64 x.b6, .int .i64 x.b7, .slice po x.ps.length pc, .slice lo x.ls.length lc] ] w fun e w' => ∃ vo co, e = .returned (.slice vo (packW x).length co) ∧ RowA w' w.heap.size 5 1 (.slice vo (packW x).length co) (packW x).length (byts (packW x)) ∧ Below w.heap.size w w' := by
  have e0 : packW x = enc (allW x) := by unfold packW; rw [hok]; rfl
  obtain ⟨pk, hpk⟩ : ∃ pk, packW x = pk := ⟨_, rfl⟩
  rw [hpk]
  have E0 := hide (hpk.symm.trans e0)
  have HN := hide (allW_num hok)
  have hp := (okL_mem (okW_ps hok)).1
  have hl := (okL_mem (okW_ls hok)).1
  have A1 := hide a1
  have A2 := hide a2
  clear e0 hpk hok a1 a2
  go_enter Try.func99, Try.ntmps99
  go_wp2_with fail
  generalize hW : World.alloc _ _ = W
  have hal : Below w.heap.size w W := by rw [← hW]; exact bal (bal (Below.refl _ _) _) _
  have B0 : Hid (W.heap[w.heap.size]? = some (.cells (#[.int .i64 x.a0, .int .i64 x.a1, .int .i64 x.a2, .int .i64 x.a3, .int .i64 x.a4, .int .i64 x.a5, .int .i64 x.c0, .int .i64 x.c1, .int .i64 x.c2, .int .i64 x.c3, .int .i64 x.c4, .int .i64 x.c5, .int .i64 x.c6, .int .i64 x.c7, .int .i64 x.c8, .int .i64 x.c9, .int .i64 x.b0, .int .i64 x.b1, .int .i64 x.b2, .int .i64 x.b3, .int .i64 x.b4, .int .i64 x.b5, .int .i64 x.b6, .int .i64 x.b7, .slice po x.ps.length pc, .slice lo x.ls.length lc] : Array Value) 92 (0, 0))) := by rw [← hW]; exact al2_0 w _ _
  have O0 : Hid (Out W w.heap.size (w.heap.size + 1) []) := by rw [← hW]; exact ⟨none, 0, al2_1 w _ _, .inr ⟨rfl, rfl, none, rfl⟩, by omega⟩
  clear hW
  generalize Value.agg _ = A0
  refine (wordNumbers_any w.heap.size _).mono ?_
  rintro e w1 ⟨ps, rfl, hps, b1⟩
  have C0 := hide (heap_up (.cells ps 116) (bKeeps b1 B0.out))
  have c1 := bAll hal b1
  have HP := hide hps
  have H24 := hide (show (Try.prog.info? 116).map (·.size) = some ps.size by rw [hps.1]; exact info24)
  have HS := hide (show 24 = ps.size from hps.1.symm)
  have H1 := hide hps.one
  have O1 := hide ((O0.out.keepB b1).keepB (bal (Below.refl _ _) (.cells ps 116)))
  have hz1 : w.heap.size + 1 < w1.heap.size := by obtain ⟨_, _, g, _⟩ := O0.out.keepB b1; exact heap_lt g
  have c2 := bal c1 (.cells ps 116)
  clear hps B0 b1 hal O0
  have CP := hide (put_numbers w.heap.size (w.heap.size + 1) w1.heap.size w.heap.size 0 24 24 x.nums [] ps _ 116 92 _ O1.out c2.size (fun a ha => HN.out a (List.mem_append_left _ ha)) (by show 0 + 3 * 24 ≤ 10000; omega) rfl (heap_alloc_new w1 _) (by decide) (by omega) C0.out (by decide) (by omega) (fun k hk => HP.out.2 k hk) (numsAt x po lo _ pc _ lc))
  go_wp2_with (refine wpList_store_row rfl 116 (.tmp 4) (.tmp 6) rfl w1.heap.size ps rfl rfl _ _ (heap_alloc_new w1 _) H24.out HS.out H1.out ?_; rw [World.setRow_alloc_new])
  refine CP.out.mono ?_
  rintro e w3 ⟨rfl, o3, s3, b3⟩
  have c3 := c2.trans b3
  have C3 := hide (s3 w.heap.size _ (by have := heap_lt C0.out; exact this) (by omega) C0.out (fun c h => by cases h))
  have O3 := hide o3
  have d24 : w3.cell? ⟨w.heap.size, 24, none⟩ = some (.slice po x.ps.length pc) := boxAt C3.out 24
  have hl1 : ([] ++ enc x.nums).length ≤ 72 := by
    have := (enc_len x.nums (fun a ha => (HN.out a (List.mem_append_left _ ha)).2)).2
    have h24 : x.nums.length = 24 := rfl
    rw [List.nil_append]
    omega
  have CP2 := hide (put_pieces w (w.heap.size + 1) po pc x.ps _ _ O3.out c3 A1.out (fun a ha => HN.out a (List.mem_append_right _ (List.mem_append_left _ ha))) (by omega))
  clear CP o3 s3 b3 O1 C0 HP H24 HS H1 c2 c1
  go_wp2_with fail
  refine CP2.out.mono ?_
  rintro e w4 ⟨rfl, o4, s4, b4⟩
  have c4 := c3.trans b4
  have C4 := hide (s4 w.heap.size _ (heap_lt C3.out) (by omega) C3.out (fun c h => by cases h))
  have O4 := hide o4
  have d25 : w4.cell? ⟨w.heap.size, 25, none⟩ = some (.slice lo x.ls.length lc) := boxAt C4.out 25
  have hl2 : ([] ++ enc x.nums ++ enc (allP x.ps)).length ≤ 72 + 3 * (1 + 4 * 60) := by
    have := (enc_len (allP x.ps) (fun a ha => (HN.out a (List.mem_append_right _ (List.mem_append_left _ ha))).2)).2
    have e4 : (allP x.ps).length = 1 + 4 * x.ps.length := by
      have := allW_len x
      have e5 : (allL x.ls).length = 1 + 2 * x.ls.length := by
        unfold allL
        rw [List.length_cons]
        have : (x.ls.flatMap lnum).length = 2 * x.ls.length := by
          generalize x.ls = ys
          induction ys with
          | nil => rfl
          | cons y ys ih => rw [List.flatMap_cons, List.length_append, ih, List.length_cons]; simp; omega
        omega
      simp only [allW, List.length_append, e5, Wd.nums, List.length_cons, List.length_nil] at this
      omega
    rw [List.length_append]
    omega
  have CP3 := hide (put_lasts w (w.heap.size + 1) lo lc x.ls _ _ O4.out c4 A2.out (fun a ha => HN.out a (List.mem_append_right _ (List.mem_append_right _ ha))) (by omega))
  clear CP2 o4 s4 b4 O3 C3 d24
  go_wp2_with fail
  refine CP3.out.mono ?_
  rintro e w5 ⟨rfl, o5, s5, b5⟩
  have c5 := c4.trans b5
  have e5 : [] ++ enc x.nums ++ enc (allP x.ps) ++ enc (allL x.ls) = pk := by rw [E0.out, allW, enc_append, enc_append, List.nil_append, List.append_assoc]
  rw [e5] at o5
  obtain ⟨ao, ca, g1, g2, -⟩ := o5
  have d0 : w5.cell? ⟨w.heap.size + 1, 0, none⟩ = some (.slice ao pk.length ca) := boxAt g1 0
  have G2 := hide g2
  clear CP3 s5 b5 g1 g2 e5 hl1 hl2 O4 C4 d25 E0
  go_wp2
  go_ret
  exact ⟨_, _, rfl, G2.out, c5⟩

set_option maxRecDepth 100000 in
set_option maxHeartbeats 8000000 in
theorem implWordPack_any (v : Value) (x : Wd) (w : World) (h : WdR w v x) :
    Calls Try.prog 15 #[v] w fun e w' => ∃ vo co, e = .returned (.slice vo (packW x).length co) ∧ RowA w' w.heap.size 5 1 (.slice vo (packW x).length co) (packW x).length (byts (packW x)) ∧ Below w.heap.size w w' := by
  obtain ⟨po, pc, lo, lc, rfl, a1, a2⟩ := h
  obtain ⟨pk, hpk⟩ : ∃ pk, packW x = pk := ⟨_, rfl⟩
  rw [hpk]
  have HPK := hide hpk
  clear hpk
  rcases hk : inI x.a0 1 15 with _ | _
  · have HK := hide hk
    have e0 : pk = [] := by rw [← HPK.out]; unfold packW; rw [okW_fits, hk, Bool.false_and]; rfl
    subst e0
    clear hk HPK
    go_enter Try.func15, Try.ntmps15
    go_wp2_with (refine wpList_load_row rfl 34 (.tmp 1) rfl w.heap.size rfl _ _ (0, 0) _ (heap_alloc_new w _) Try.underlying34 rfl infoWd ?_)
    refine (wordOf_no x _ _ _ _ _ _ _ HK.out).mono ?_
    rintro e w1 ⟨rfl, b1⟩
    have c1 := bAll (bal (Below.refl w.heap.size w) _) b1
    go_wp2
    go_ret
    exact ⟨_, _, rfl, .inr ⟨rfl, rfl, _, rfl⟩, c1⟩
  · have HK := hide hk
    have hR : Hid (okW x = fitsW x) := by show _ = _; rw [okW_fits, hk, Bool.true_and]
    clear hk
    go_enter Try.func15, Try.ntmps15
    go_wp2_with (refine wpList_load_row rfl 34 (.tmp 1) rfl w.heap.size rfl _ _ (0, 0) _ (heap_alloc_new w _) Try.underlying34 rfl infoWd ?_)
    refine (wordOf_any x _ _ _ _ _ _ _ HK.out).mono ?_
    rintro e w1 ⟨T, rfl, b1, hm, hm2⟩
    have c1 := bAll (bal (Below.refl w.heap.size w) _) b1
    go_wp2_with fail
    refine (fits_word x _ _ _ _ _ (a1.keep c1) (a2.keep c1)).mono ?_
    rintro e w2 ⟨rfl, b2⟩
    have c2 := bAll c1 b2
    rcases hf : fitsW x with _ | _
    · have e0 : pk = [] := by rw [← HPK.out]; unfold packW; rw [hR.out, hf]; rfl
      subst e0
      go_wp2
      go_ret
      exact ⟨_, _, rfl, .inr ⟨rfl, rfl, _, rfl⟩, c2⟩
    · have hok : okW x = true := by rw [hR.out, hf]
      have CP := hide (row_word x po lo pc lc w2 (a1.keep c2) (a2.keep c2) hok)
      rw [HPK.out] at CP
      clear hok
      go_wp2_with fail
      refine CP.out.mono ?_
      rintro e w3 ⟨vo, co, rfl, r3, b3⟩
      have R3 := hide (r3.base (b' := w.heap.size) c2.size)
      clear r3 CP
      go_wp2
      go_ret
      exact ⟨_, _, rfl, R3.out, bAll c2 b3⟩

end Go.Proofs.Ytafojnjpllpjjaa

/- The specification's reader of bytes, from which inputs are drawn: contracts; no statement of the seat is proved here. -/
namespace Go.Proofs.Ytafojnjpllpjjaa
open Go.RowKit

/-- A reader at a place: it reads bytes that lay there when the law began. -/
def Rd (w0 w : World) (R p : Nat) : Prop :=
  ∃ (bo : Option Addr) (n cap : Nat) (bs : List Nat), n ≤ 2000 ∧ RowR w0 1 (.slice bo n cap) n (bs.map fun b : Nat => Value.int .u8 (b : Int)) ∧ (∀ b ∈ bs, b < 256) ∧
    w.heap[R]? = some (.cells #[.slice bo n cap, .int .i64 (p : Nat)] 130 (0, 0)) ∧ w0.heap.size ≤ R ∧ Below w0.heap.size w0 w

theorem Rd.keep {w0 w w' : World} {R p : Nat} {T : Nat → Prop} (h : Rd w0 w R p) (hu : Upd T w w') (hR : ¬ T R) (hT : ∀ k, T k → w0.heap.size ≤ k) : Rd w0 w' R p := by
  obtain ⟨bo, n, cap, bs, h1, h2, h3, h4, h5, h6⟩ := h
  exact ⟨bo, n, cap, bs, h1, h2, h3, hu.keeps h4 hR, h5, h6.trans (hu.below h6.size hT)⟩

theorem Rd.keepB {w0 w w' : World} {R p : Nat} (h : Rd w0 w R p) (hu : Below w.heap.size w w') : Rd w0 w' R p :=
  h.keep (T := fun _ => False) (Upd.ofBelow hu) (fun h => h) (fun _ h => h.elim)

theorem i64_xor_bound (a b : Nat) (ha : a < 4611686018427387904) (hb : b < 4611686018427387904) : ∃ c : Nat, c < 4611686018427387904 ∧ bits .xor .i64 (a : Int) (b : Int) = (c : Int) := by
  have hx : a ^^^ b < 2 ^ 62 := Nat.xor_lt_two_pow ha hb
  refine ⟨a ^^^ b, hx, ?_⟩
  have h1 : (BitVec.ofInt 64 (a : Int)).toNat = a := by
    rw [BitVec.ofInt_natCast, BitVec.toNat_ofNat]; exact Nat.mod_eq_of_lt (by omega)
  have h2 : (BitVec.ofInt 64 (b : Int)).toNat = b := by
    rw [BitVec.ofInt_natCast, BitVec.toNat_ofNat]; exact Nat.mod_eq_of_lt (by omega)
  show IntKind.i64.wrap ((BitVec.ofInt 64 (a : Int) ^^^ BitVec.ofInt 64 (b : Int)).toNat : Int) = _
  rw [BitVec.toNat_xor, h1, h2]
  generalize a ^^^ b = c at hx
  simp [IntKind.wrap, IntKind.bits, IntKind.signed]
  omega

set_option maxRecDepth 100000 in
set_option maxHeartbeats 2000000 in
theorem pick_any (w0 w : World) (R p k : Nat) (hr : Rd w0 w R p) (hk : 1 ≤ k) (hk' : k ≤ 1073741824) (hp : p ≤ 1073741824) :
    Calls Try.prog 57 #[.pointer (some ⟨R, 0, none⟩), .int .i64 k] w fun e w' => ∃ q : Nat, e = .returned (.int .i64 q) ∧ q < k ∧ Rd w0 w' R (p + 1) ∧ Upd (fun j => j = R) w w' := by
  obtain ⟨bo, n, cap, bs, h1, h2, h3, h4, h5, h6⟩ := hr
  obtain ⟨p0, p1, pl⟩ := box2 h4
  obtain ⟨p2, p3⟩ := box2f h4
  have hu := Upd.setCell (S := fun j => j = R) w R 1 (.int .i64 ((p + 1 : Nat) : Int)) rfl
  have HR : Hid (Rd w0 (w.setCell ⟨R, 1, none⟩ (.int .i64 ((p + 1 : Nat) : Int))) R (p + 1)) := ⟨bo, n, cap, bs, h1, h2, h3, row_set _ h4, h5, h6.trans (hu.below h6.size (fun k h => by omega))⟩
  have H2 := hide h2
  have H3 := hide h3
  have H6 := hide h6
  clear h2 h3 h4 h6
  by_cases hn : n = 0
  · subst hn
    go_enter Try.func57, Try.ntmps57
    go_wp2
    go_ret
    exact ⟨0, rfl, by omega, by simpa using HR.out, by simpa using hu⟩
  · by_cases hpn : p < n
    · obtain ⟨kb, koff, kcap, u, ev, hkb, hu0, hcu⟩ : ∃ b off cap' u, Value.slice bo n cap = .slice (some ⟨b, off, none⟩) n cap' ∧ b < w0.heap.size ∧ (bs.map fun b : Nat => Value.int .u8 (b : Int))[p]? = some u ∧ w0.cell? ⟨b, off + p, none⟩ = some u := by
        obtain ⟨ao, cap', e, _, hl, h⟩ := H2.out
        simp only [Value.slice.injEq, true_and] at e
        obtain ⟨rfl, rfl⟩ := e
        obtain ⟨b, off, rfl, hc⟩ := h (by omega)
        obtain ⟨u, hu⟩ := getAt (bs.map fun b : Nat => Value.int .u8 (b : Int)) p (by omega)
        exact ⟨b, off, cap, u, rfl, World.block_lt_of_cell? w0 _ (hc p u hu), hu, hc p u hu⟩
      simp only [Value.slice.injEq, true_and] at ev
      obtain ⟨rfl, rfl⟩ := ev
      obtain ⟨y, hy, rfl⟩ : ∃ y : Nat, y < 256 ∧ u = .int .u8 (y : Int) := by
        rw [List.getElem?_map] at hu0
        cases hb : bs[p]? with
        | none => simp [hb] at hu0
        | some y => exact ⟨y, H3.out y (List.mem_of_getElem? hb), by simpa [hb] using hu0.symm⟩
      have hne : ¬ kb = R := by omega
      have fy : w.cell? ⟨kb, koff + p, none⟩ = some (.int .u8 (y : Int)) := (H6.out.cell (p := ⟨kb, koff + p, none⟩) hkb).trans hcu
      clear hu0 hcu
      have hi : (p : Int) < (n : Int) := by omega
      have hn' : ((n : Int) == 0) = false := by simpa using hn
      have hk1 : decide ((k : Int) < 1) = false := by simp; omega
      go_enter Try.func57, Try.ntmps57
      go_wp2
      go_ret
      exact ⟨y % k, by simp, Nat.mod_lt _ (by omega), by simpa using HR.out, by simpa using hu⟩
    · have cellAt : ∀ j, j < n → ∃ b off y : Nat, bo = some ⟨b, off, none⟩ ∧ b < w0.heap.size ∧ y < 256 ∧ w.cell? ⟨b, off + j, none⟩ = some (.int .u8 (y : Int)) := by
        intro j hj
        obtain ⟨ao, cap', e, _, hl, h⟩ := H2.out
        simp only [Value.slice.injEq, true_and] at e
        obtain ⟨rfl, rfl⟩ := e
        obtain ⟨b, off, rfl, hc⟩ := h (by omega)
        obtain ⟨u, hu⟩ := getAt (bs.map fun b : Nat => Value.int .u8 (b : Int)) j (by omega)
        have hb := World.block_lt_of_cell? w0 _ (hc j u hu)
        obtain ⟨y, hy, rfl⟩ : ∃ y : Nat, y < 256 ∧ u = .int .u8 (y : Int) := by
          rw [List.getElem?_map] at hu
          cases hb : bs[j]? with
          | none => simp [hb] at hu
          | some y => exact ⟨y, H3.out y (List.mem_of_getElem? hb), by simpa [hb] using hu.symm⟩
        exact ⟨b, off, y, rfl, hb, hy, (H6.out.cell (p := ⟨b, off + j, none⟩) hb).trans (hc j _ hu)⟩
      obtain ⟨j1, hj1, ej1⟩ : ∃ j1 : Nat, j1 < n ∧ (p : Int) % (n : Int) = (j1 : Int) := ⟨p % n, Nat.mod_lt _ (by omega), by simp⟩
      obtain ⟨j2, hj2, ej2⟩ : ∃ j2 : Nat, j2 < n ∧ ((p : Int) * 7 + 3) % (n : Int) = (j2 : Int) := ⟨(p * 7 + 3) % n, Nat.mod_lt _ (by omega), by simp⟩
      obtain ⟨d, hd, ed⟩ : ∃ d : Nat, d ≤ p ∧ (p : Int) / (n : Int) = (d : Int) := ⟨p / n, Nat.div_le_self _ _, by simp⟩
      obtain ⟨kb, koff, y1, rfl, hkb, hy1, f1⟩ := cellAt j1 hj1
      obtain ⟨kb', koff', y2, e, -, hy2, f2⟩ := cellAt j2 hj2
      simp only [Option.some.injEq, Addr.mk.injEq, and_true] at e
      obtain ⟨rfl, rfl⟩ := e
      have hne : ¬ kb = R := by omega
      clear cellAt
      have hi : ¬ (p : Int) < (n : Int) := by omega
      have hn' : ((n : Int) == 0) = false := by simpa using hn
      have hk1 : decide ((k : Int) < 1) = false := by simp; omega
      have hj1' : (j1 : Int) < (n : Int) := by omega
      have hj2' : (j2 : Int) < (n : Int) := by omega
      go_enter Try.func57, Try.ntmps57
      go_wp2
      go_quiet (fail)
      go_wp2
      obtain ⟨c, hc, hx⟩ := i64_xor_bound (y1 * 131 + y2 * 1117 + p * 29 + d * 53) ((y1 * 131 + y2 * 1117 + p * 29 + d * 53) / 64) (by omega) (by omega)
      push_cast at hx
      go_ret
      refine ⟨c % k, ?_, Nat.mod_lt _ (by omega), (by simpa using HR.out : Rd w0 _ R (p + 1)).keepB (below_drewN (Below.refl _ _) _), ⟨hu.os, hu.tape, hu.output, by simp, fun j hj hS => by simpa using hu.block j hj hS⟩⟩
      rw [hx, ← Int.ofNat_tmod]
      rfl

end Go.Proofs.Ytafojnjpllpjjaa

/- The specification's reader of bytes: how it is opened, texts that are drawn; contracts; no statement of the seat is proved here. -/
namespace Go.Proofs.Ytafojnjpllpjjaa
open Go.RowKit

/-- Bytes that came in. -/
structure BytesIn (w : World) (bo : Option Addr) (n cap : Nat) (bs : List Nat) : Prop where
  reads : RowR w 1 (.slice bo n cap) n (bs.map fun b : Nat => Value.int .u8 (b : Int))
  small : ∀ b ∈ bs, b < 256
  room : n ≤ cap

theorem BytesIn.keep {w w' : World} {bo : Option Addr} {n cap : Nat} {bs : List Nat} (h : BytesIn w bo n cap bs) (hb : Below w.heap.size w w') : BytesIn w' bo n cap bs := ⟨h.reads.keep hb, h.small, h.room⟩

set_option maxHeartbeats 1000000 in
theorem l6Open_any (w : World) (bo : Option Addr) (n cap : Nat) (bs : List Nat) (h : BytesIn w bo n cap bs) (hn : n ≤ 1048576) :
    Calls Try.prog 53 #[.slice bo n cap] w fun e w' => e = .returned (.pointer (some ⟨w.heap.size, 0, none⟩)) ∧ Rd w w' w.heap.size 0 ∧ Below w.heap.size w w' := by
  obtain ⟨h1, h2, h3⟩ := h
  have hal := fun o : Obj => (Below.refl w.heap.size w).alloc (Nat.le_refl _) o
  by_cases hbig : (n : Int) > 2000
  · have hR : RowR w 1 (.slice bo 2000 cap) 2000 ((bs.take 2000).map fun b : Nat => Value.int .u8 (b : Int)) := by
      obtain ⟨ao, cap', e, _, hl, h⟩ := h1
      simp only [Value.slice.injEq, true_and] at e
      obtain ⟨rfl, rfl⟩ := e
      refine ⟨bo, cap, rfl, by omega, by simp at hl ⊢; omega, fun _ => ?_⟩
      obtain ⟨b, off, rfl, hc⟩ := h (by omega)
      refine ⟨b, off, rfl, fun j u hj => hc j u ?_⟩
      have hj' := (List.getElem?_eq_some_iff.1 hj).1
      simp at hj'
      rw [List.getElem?_map, List.getElem?_take_of_lt (by omega)] at hj
      rw [List.getElem?_map]
      exact hj
    have hS : Hid (∀ b ∈ bs.take 2000, b < 256) := fun b hb => h2 b (List.mem_of_mem_take hb)
    obtain ⟨b, off, rfl⟩ : ∃ b off, bo = some ⟨b, off, none⟩ := by
      obtain ⟨ao, cap', e, _, hl, h⟩ := h1
      simp only [Value.slice.injEq, true_and] at e
      obtain ⟨rfl, rfl⟩ := e
      obtain ⟨b, off, rfl, _⟩ := h (by omega)
      exact ⟨b, off, rfl⟩
    have HRR := hide hR
    clear hR h1 h2
    have hc : (2000 : Int) ≤ (cap : Int) := by omega
    go_enter Try.func53, Try.ntmps53
    go_wp2
    go_ret
    exact ⟨rfl, ⟨_, 2000, cap, bs.take 2000, by omega, HRR.out, hS.out, al1_0 w _, Nat.le_refl _, hal _⟩, hal _⟩
  · have H1 := hide h1
    have H2 := hide h2
    clear h1 h2
    go_enter Try.func53, Try.ntmps53
    go_wp2
    go_ret
    exact ⟨rfl, ⟨_, n, cap, bs, by omega, H1.out, H2.out, al1_0 w _, Nat.le_refl _, hal _⟩, hal _⟩

theorem four_cells (w : World) (a b c d : ByteArray) (t : TypeId) (ha : a.size ≤ 1) (hb : b.size ≤ 1) (hc : c.size ≤ 1) (hd : d.size ≤ 1) :
    ∀ j, j < 4 → ∃ s : ByteArray, s.size ≤ 1 ∧ (w.alloc (.cells #[.string a, .string b, .string c, .string d] t)).cell? ⟨w.heap.size, j, none⟩ = some (.string s) := by
  intro j hj
  have h := fun j => cell_of_row _ w.heap.size j _ _ (0, 0) (al1_0 w (.cells #[.string a, .string b, .string c, .string d] t))
  rcases (by omega : j = 0 ∨ j = 1 ∨ j = 2 ∨ j = 3) with rfl | rfl | rfl | rfl
  · exact ⟨a, ha, (h 0).trans rfl⟩
  · exact ⟨b, hb, (h 1).trans rfl⟩
  · exact ⟨c, hc, (h 2).trans rfl⟩
  · exact ⟨d, hd, (h 3).trans rfl⟩

end Go.Proofs.Ytafojnjpllpjjaa

/- The specification's functions on disks, told so that what they give may be appended to: contracts; no statement of the seat is proved here. -/
namespace Go.Proofs.Ytafojnjpllpjjaa
open Go.RowKit

theorem RowA.keepT {w w' : World} {base : Nat} {e : TypeId} {size : Nat} {T : Nat → Prop} {v : Value} {n : Nat} {cs : List Value} (h : RowA w base e size v n cs) (hb : Upd T w w') (hT : ∀ k, typed w (fun k => base ≤ k) e k → ¬ T k) : RowA w' base e size v n cs := by
  rcases h with ⟨hl, h⟩ | h
  · refine .inl ⟨hl, ?_⟩
    rcases h with h | ⟨g, cap, cur, rfl, hg, hh, h1, h2, h3, h4⟩
    · exact .inl h
    · exact .inr ⟨g, cap, cur, rfl, hg, hb.keeps hh (hT g ⟨hg, cur, hh⟩), h1, h2, h3, h4⟩
  · exact .inr h

theorem RowA.at {w : World} {base : Nat} {e : TypeId} {v : Value} {n : Nat} {cs : List Value} (h : RowA w base e 1 v n cs) (i : Nat) (hi : i < n) :
    ∃ g cap u cur, v = .slice (some ⟨g, 0, none⟩) n cap ∧ base ≤ g ∧ w.heap[g]? = some (.cells cur e (0, 0)) ∧ w.cell? ⟨g, i, none⟩ = some u ∧ w.frozen? ⟨g, i, none⟩ = false ∧
      ∀ x, RowA (w.setCell ⟨g, i, none⟩ x) base e 1 v n (cs.set i x) := by
  rcases h with ⟨hl, ⟨rfl, rfl⟩ | ⟨g, cap, cur, rfl, hg, hh, h1, h2, h3, h4⟩⟩ | ⟨rfl, _⟩
  · omega
  · obtain ⟨u, hu⟩ : ∃ u, cur[i]? = some u := ⟨cur[i]'(by omega), by simp [show i < cur.size by omega]⟩
    refine ⟨g, cap, u, cur, rfl, hg, hh, (cell_of_row w g i cur e (0, 0) hh).trans hu, frozen_of_row w g i cur e hh, fun x => .inl ⟨by simpa using hl, .inr ⟨g, cap, _, rfl, hg, heap_setCell_same w g i cur e x hh, h1, h2, by simpa using h3, ?_⟩⟩⟩
    rw [Array.toList_setIfInBounds, ← h4, List.take_set]
  · omega

theorem RowA.keepL {w w' : World} {base : Nat} {e : TypeId} {size : Nat} {T : Nat → Prop} {v : Value} {n : Nat} {cs : List Value} (h : RowA w base e size v n cs) (hb : Upd T w w') (hT : ∀ k, T k → k < base) : RowA w' base e size v n cs :=
  h.keep hb (fun k hk ht => by have := hT k ht; omega)

end Go.Proofs.Ytafojnjpllpjjaa
