/- Contracts and plain facts that this claim leans on (texts XQ3, XBy); no statement of the seat is proved here. -/
import Derived.Test.YtdnojnkcmncffaaWk29
import Derived.Test.YtdnojnkcmncffaaWk26
import Derived.Test.YtdnojnkcmncffaaWk6

/- WordPack of the program: contracts; no statement of the seat is proved here. -/
namespace Go.Proofs.Ytdnojnkcmncffaa
open Go.RowKit

theorem Out.keepB {w w' : World} {base B : Nat} {bs : List Nat} (h : Out w base B bs) (hb : Below w.heap.size w w') : Out w' base B bs := by
  obtain ⟨ao, ca, g1, g2, g3⟩ := h
  exact ⟨ao, ca, bKeeps hb g1, g2.keepB hb, g3⟩

theorem numsAt (x : Wd) (po lo : Option Addr) (pn pc ln lc : Nat) : ∀ k a, x.nums[k]? = some a → (#[.int .i64 x.a0, .int .i64 x.a1, .int .i64 x.a2, .int .i64 x.a3, .int .i64 x.a4, .int .i64 x.a5, .int .i64 x.c0, .int .i64 x.c1, .int .i64 x.c2, .int .i64 x.c3, .int .i64 x.c4, .int .i64 x.c5, .int .i64 x.c6, .int .i64 x.c7, .int .i64 x.c8, .int .i64 x.c9, .int .i64 x.b0, .int .i64 x.b1, .int .i64 x.b2, .int .i64 x.b3, .int .i64 x.b4, .int .i64 x.b5, .int .i64 x.b6, .int .i64 x.b7, .slice po pn pc, .slice lo ln lc] : Array Value)[0 + k]? = some (.int .i64 a) := by
  intro k a h
  rw [Nat.zero_add]
  have hk : k < 24 := (List.getElem?_eq_some_iff.1 h).1
  rcases (by omega : k = 0 ∨ k = 1 ∨ k = 2 ∨ k = 3 ∨ k = 4 ∨ k = 5 ∨ k = 6 ∨ k = 7 ∨ k = 8 ∨ k = 9 ∨ k = 10 ∨ k = 11 ∨ k = 12 ∨ k = 13 ∨ k = 14 ∨ k = 15 ∨ k = 16 ∨ k = 17 ∨ k = 18 ∨ k = 19 ∨ k = 20 ∨ k = 21 ∨ k = 22 ∨ k = 23) with rfl | rfl | rfl | rfl | rfl | rfl | rfl | rfl | rfl | rfl | rfl | rfl | rfl | rfl | rfl | rfl | rfl | rfl | rfl | rfl | rfl | rfl | rfl | rfl <;> (obtain rfl := Option.some.inj h; rfl)

set_option maxRecDepth 100000 in
set_option maxHeartbeats 8000000 in
theorem row_word (x : Wd) (po lo : Option Addr) (pc lc : Nat) (w : World) (a1 : RowR w 4 (.slice po x.ps.length pc) x.ps.length (pcells x.ps)) (a2 : RowR w 2 (.slice lo x.ls.length lc) x.ls.length (lcells x.ls)) (hok : okW x = true) :
    Calls Try.prog 99 #[ .agg #[.int .i64 x.a0, .int .i64 x.a1, .int .i64 x.a2, .int .i64 x.a3, .int .i64 x.a4, .int .i64 x.a5, .int .i64 x.c0, .int .i64 x.c1, .int .i64 x.c2, .int .i64 x.c3, .int .i64 x.c4, .int .i64 x.c5, .int .i64 x.c6, .int .i64 x.c7, .int .i64 x.c8, .int .i64 x.c9, .int .i64 x.b0, .int .i64 x.b1, .int .i64 x.b2, .int .i64 x.b3, .int .i64 x.b4, .int .i64 x.b5, .int .i64 x.b6, .int .i64 x.b7, .slice po x.ps.length pc, .slice lo x.ls.length lc] ] w fun e w' => ∃ vo co, e = .returned (.slice vo (packW x).length co) ∧ RowA w' w.heap.size 5 1 (.slice vo (packW x).length co) (packW x).length (byts (packW x)) ∧ Below w.heap.size w w' := by
  have e0 : packW x = enc (allW x) := by unfold packW; rw [hok]; rfl
  obtain ⟨pk, hpk⟩ : ∃ pk, packW x = pk := ⟨_, rfl⟩
  rw [hpk]
  have E0 := hide (hpk.symm.trans e0)
  have HN := hide (allW_num hok)
  have hp := (okL_mem (okW_ps hok)).1
  have hl := (okL_mem (okW_ls hok)).1
  have A1 := hide a1
  have A2 := hide a2
  clear e0 hpk hok a1 a2
  go_enter Try.func99, Try.ntmps99
  go_wp2_with fail
  generalize hW : World.alloc _ _ = W
  have hal : Below w.heap.size w W := by rw [← hW]; exact bal (bal (Below.refl _ _) _) _
  have B0 : Hid (W.heap[w.heap.size]? = some (.cells (#[.int .i64 x.a0, .int .i64 x.a1, .int .i64 x.a2, .int .i64 x.a3, .int .i64 x.a4, .int .i64 x.a5, .int .i64 x.c0, .int .i64 x.c1, .int .i64 x.c2, .int .i64 x.c3, .int .i64 x.c4, .int .i64 x.c5, .int .i64 x.c6, .int .i64 x.c7, .int .i64 x.c8, .int .i64 x.c9, .int .i64 x.b0, .int .i64 x.b1, .int .i64 x.b2, .int .i64 x.b3, .int .i64 x.b4, .int .i64 x.b5, .int .i64 x.b6, .int .i64 x.b7, .slice po x.ps.length pc, .slice lo x.ls.length lc] : Array Value) 92 (0, 0))) := by rw [← hW]; exact al2_0 w _ _
  have O0 : Hid (Out W w.heap.size (w.heap.size + 1) []) := by rw [← hW]; exact ⟨none, 0, al2_1 w _ _, .inr ⟨rfl, rfl, none, rfl⟩, by omega⟩
  clear hW
  generalize Value.agg _ = A0
  refine (wordNumbers_any w.heap.size _).mono ?_
  rintro e w1 ⟨ps, rfl, hps, b1⟩
  have C0 := hide (heap_up (.cells ps 116) (bKeeps b1 B0.out))
  have c1 := bAll hal b1
  have HP := hide hps
  have H24 := hide (show (Try.prog.info? 116).map (·.size) = some ps.size by rw [hps.1]; exact info24)
  have HS := hide (show 24 = ps.size from hps.1.symm)
  have H1 := hide hps.one
  have O1 := hide ((O0.out.keepB b1).keepB (bal (Below.refl _ _) (.cells ps 116)))
  have hz1 : w.heap.size + 1 < w1.heap.size := by obtain ⟨_, _, g, _⟩ := O0.out.keepB b1; exact heap_lt g
  have c2 := bal c1 (.cells ps 116)
  clear hps B0 b1 hal O0
  have CP := hide (put_numbers w.heap.size (w.heap.size + 1) w1.heap.size w.heap.size 0 24 24 x.nums [] ps _ 116 92 _ O1.out c2.size (fun a ha => HN.out a (List.mem_append_left _ ha)) (by show 0 + 3 * 24 ≤ 10000; omega) rfl (heap_alloc_new w1 _) (by decide) (by omega) C0.out (by decide) (by omega) (fun k hk => HP.out.2 k hk) (numsAt x po lo _ pc _ lc))
  go_wp2_with (refine wpList_store_row rfl 116 (.tmp 4) (.tmp 6) rfl w1.heap.size ps rfl rfl _ _ (heap_alloc_new w1 _) H24.out HS.out H1.out ?_; rw [World.setRow_alloc_new])
  refine CP.out.mono ?_
  rintro e w3 ⟨rfl, o3, s3, b3⟩
  have c3 := c2.trans b3
  have C3 := hide (s3 w.heap.size _ (by have := heap_lt C0.out; exact this) (by omega) C0.out (fun c h => by cases h))
  have O3 := hide o3
  have d24 : w3.cell? ⟨w.heap.size, 24, none⟩ = some (.slice po x.ps.length pc) := boxAt C3.out 24
  have hl1 : ([] ++ enc x.nums).length ≤ 72 := by
    have := (enc_len x.nums (fun a ha => (HN.out a (List.mem_append_left _ ha)).2)).2
    have h24 : x.nums.length = 24 := rfl
    rw [List.nil_append]
    omega
  have CP2 := hide (put_pieces w (w.heap.size + 1) po pc x.ps _ _ O3.out c3 A1.out (fun a ha => HN.out a (List.mem_append_right _ (List.mem_append_left _ ha))) (by omega))
  clear CP o3 s3 b3 O1 C0 HP H24 HS H1 c2 c1
  go_wp2_with fail
  refine CP2.out.mono ?_
  rintro e w4 ⟨rfl, o4, s4, b4⟩
  have c4 := c3.trans b4
  have C4 := hide (s4 w.heap.size _ (heap_lt C3.out) (by omega) C3.out (fun c h => by cases h))
  have O4 := hide o4
  have d25 : w4.cell? ⟨w.heap.size, 25, none⟩ = some (.slice lo x.ls.length lc) := boxAt C4.out 25
  have hl2 : ([] ++ enc x.nums ++ enc (allP x.ps)).length ≤ 72 + 3 * (1 + 4 * 60) := by
    have := (enc_len (allP x.ps) (fun a ha => (HN.out a (List.mem_append_right _ (List.mem_append_left _ ha))).2)).2
    have e4 : (allP x.ps).length = 1 + 4 * x.ps.length := by
      have := allW_len x
      have e5 : (allL x.ls).length = 1 + 2 * x.ls.length := by
        unfold allL
        rw [List.length_cons]
        have : (x.ls.flatMap lnum).length = 2 * x.ls.length := by
          generalize x.ls = ys
          induction ys with
          | nil => rfl
          | cons y ys ih => rw [List.flatMap_cons, List.length_append, ih, List.length_cons]; simp; omega
        omega
      simp only [allW, List.length_append, e5, Wd.nums, List.length_cons, List.length_nil] at this
      omega
    rw [List.length_append]
    omega
  have CP3 := hide (put_lasts w (w.heap.size + 1) lo lc x.ls _ _ O4.out c4 A2.out (fun a ha => HN.out a (List.mem_append_right _ (List.mem_append_right _ ha))) (by omega))
  clear CP2 o4 s4 b4 O3 C3 d24
  go_wp2_with fail
  refine CP3.out.mono ?_
  rintro e w5 ⟨rfl, o5, s5, b5⟩
  have c5 := c4.trans b5
  have e5 : [] ++ enc x.nums ++ enc (allP x.ps) ++ enc (allL x.ls) = pk := by rw [E0.out, allW, enc_append, enc_append, List.nil_append, List.append_assoc]
  rw [e5] at o5
  obtain ⟨ao, ca, g1, g2, -⟩ := o5
  have d0 : w5.cell? ⟨w.heap.size + 1, 0, none⟩ = some (.slice ao pk.length ca) := boxAt g1 0
  have G2 := hide g2
  clear CP3 s5 b5 g1 g2 e5 hl1 hl2 O4 C4 d25 E0
  go_wp2
  go_ret
  exact ⟨_, _, rfl, G2.out, c5⟩

set_option maxRecDepth 100000 in
set_option maxHeartbeats 8000000 in
theorem implWordPack_any (v : Value) (x : Wd) (w : World) (h : WdR w v x) :
    Calls Try.prog 15 #[v] w fun e w' => ∃ vo co, e = .returned (.slice vo (packW x).length co) ∧ RowA w' w.heap.size 5 1 (.slice vo (packW x).length co) (packW x).length (byts (packW x)) ∧ Below w.heap.size w w' := by
  obtain ⟨po, pc, lo, lc, rfl, a1, a2⟩ := h
  obtain ⟨pk, hpk⟩ : ∃ pk, packW x = pk := ⟨_, rfl⟩
  rw [hpk]
  have HPK := hide hpk
  clear hpk
  rcases hk : inI x.a0 1 15 with _ | _
  · have HK := hide hk
    have e0 : pk = [] := by rw [← HPK.out]; unfold packW; rw [okW_fits, hk, Bool.false_and]; rfl
    subst e0
    clear hk HPK
    go_enter Try.func15, Try.ntmps15
    go_wp2_with (refine wpList_load_row rfl 34 (.tmp 1) rfl w.heap.size rfl _ _ (0, 0) _ (heap_alloc_new w _) Try.underlying34 rfl infoWd ?_)
    refine (wordOf_no x _ _ _ _ _ _ _ HK.out).mono ?_
    rintro e w1 ⟨rfl, b1⟩
    have c1 := bAll (bal (Below.refl w.heap.size w) _) b1
    go_wp2
    go_ret
    exact ⟨_, _, rfl, .inr ⟨rfl, rfl, _, rfl⟩, c1⟩
  · have HK := hide hk
    have hR : Hid (okW x = fitsW x) := by show _ = _; rw [okW_fits, hk, Bool.true_and]
    clear hk
    go_enter Try.func15, Try.ntmps15
    go_wp2_with (refine wpList_load_row rfl 34 (.tmp 1) rfl w.heap.size rfl _ _ (0, 0) _ (heap_alloc_new w _) Try.underlying34 rfl infoWd ?_)
    refine (wordOf_any x _ _ _ _ _ _ _ HK.out).mono ?_
    rintro e w1 ⟨T, rfl, b1, hm, hm2⟩
    have c1 := bAll (bal (Below.refl w.heap.size w) _) b1
    go_wp2_with fail
    refine (fits_word x _ _ _ _ _ (a1.keep c1) (a2.keep c1)).mono ?_
    rintro e w2 ⟨rfl, b2⟩
    have c2 := bAll c1 b2
    rcases hf : fitsW x with _ | _
    · have e0 : pk = [] := by rw [← HPK.out]; unfold packW; rw [hR.out, hf]; rfl
      subst e0
      go_wp2
      go_ret
      exact ⟨_, _, rfl, .inr ⟨rfl, rfl, _, rfl⟩, c2⟩
    · have hok : okW x = true := by rw [hR.out, hf]
      have CP := hide (row_word x po lo pc lc w2 (a1.keep c2) (a2.keep c2) hok)
      rw [HPK.out] at CP
      clear hok
      go_wp2_with fail
      refine CP.out.mono ?_
      rintro e w3 ⟨vo, co, rfl, r3, b3⟩
      have R3 := hide (r3.base (b' := w.heap.size) c2.size)
      clear r3 CP
      go_wp2
      go_ret
      exact ⟨_, _, rfl, R3.out, bAll c2 b3⟩

end Go.Proofs.Ytdnojnkcmncffaa

/- What the laws' own helpers do with bytes: contracts; no statement of the seat is proved here. -/
namespace Go.Proofs.Ytdnojnkcmncffaa
open Go.RowKit

theorem byts_at {bs : List Nat} {k b : Nat} (h : bs[k]? = some b) : (byts bs)[k]? = some (.int .u8 (b : Int)) := by simp [byts, h]

set_option maxRecDepth 100000 in
set_option maxHeartbeats 2000000 in
theorem eqByteS_true (va vb : Value) (n : Nat) (bs : List Nat) (w : World) (ha : RowR w 1 va n (byts bs)) (hb : RowR w 1 vb n (byts bs)) :
    Calls Try.prog 16 #[va, vb] w fun e w' => e = .returned (.bool true) ∧ Below w.heap.size w w' := by
  obtain ⟨ao, ca, rfl, hn, hl, ha⟩ := ha
  obtain ⟨bo, cb, rfl, _, _, hb⟩ := hb
  rw [byts_len] at hl
  have HL := hide hl
  have HA := hide ha
  have HB := hide hb
  clear hl ha hb
  go_enter Try.func16, Try.ntmps16
  go_wp2
  go_loopw [5] (fun i wr => ∃ k : Nat, k ≤ n ∧ i = .int .i64 k ∧ Below w.heap.size w wr) (fun i _ => n - (intOf i).toNat)
  case atStart => exact ⟨0, Nat.zero_le _, rfl, Below.refl _ _⟩
  case round =>
    obtain ⟨k, hk, rfl, hbel⟩ := hrel
    by_cases hlt : k < n
    · obtain ⟨b1, o1, rfl, hc1⟩ := HA.out (by omega)
      obtain ⟨b2, o2, rfl, hc2⟩ := HB.out (by omega)
      obtain ⟨x, hx⟩ := getAt bs k (by have := HL.out; omega)
      have g1 := hc1 k _ (byts_at hx)
      have g2 := hc2 k _ (byts_at hx)
      have f1 : wr.cell? ⟨b1, o1 + k, none⟩ = some (.int .u8 (x : Int)) := (hbel.cell (p := ⟨b1, o1 + k, none⟩) (World.block_lt_of_cell? w _ g1)).trans g1
      have f2 : wr.cell? ⟨b2, o2 + k, none⟩ = some (.int .u8 (x : Int)) := (hbel.cell (p := ⟨b2, o2 + k, none⟩) (World.block_lt_of_cell? w _ g2)).trans g2
      have hi : (k : Int) < (n : Int) := by omega
      have F1 := hide f1
      have F2 := hide f2
      clear hc1 hc2 hx g1 g2 f1 f2
      go_wp2
      refine wp_region_noPanic ?_
      refine wp_region_held_drew (S := (fun w' => w'.cell? ⟨b1, o1 + k, none⟩ = some (.int .u8 (x : Int)) ∧ w'.cell? ⟨b2, o2 + k, none⟩ = some (.int .u8 (x : Int)))) (by kernel_rfl) ?_ (fun hHeld => ?_)
      · exact ⟨F1.out, F2.out⟩
      refine wpAnyH_take (i := 0) (v := ?v1) rfl (by kernel_rfl) (by kernel_rfl) (by kernel_rfl) (fun _ _ _ h => h) (Or.inl ⟨by rfl, ?hy1⟩) (by assumption) ?rest1
      case hy1 => ((intro w hSw; (try dsimp only at hSw); (try simp only [List.getElem_toArray, List.getElem_cons_zero]); go_simp; first | done | (with_reducible rfl)))
      simp only [Act.put, List.getElem_toArray, List.getElem_cons_zero, List.setIfInBounds_toArray, List.set_cons_zero, List.set_cons_succ]
      refine wpAnyH_take (i := 1) (v := ?v2) rfl (by kernel_rfl) (by kernel_rfl) (by kernel_rfl) (fun _ _ _ h => h) (Or.inl ⟨by rfl, ?hy2⟩) (by assumption) ?rest2
      case hy2 => ((intro w hSw; (try dsimp only at hSw); (try simp only [List.getElem_toArray, List.getElem_cons_zero, List.getElem_cons_succ]); go_simp; first | done | (with_reducible rfl)))
      simp only [Act.put, List.getElem_toArray, List.getElem_cons_zero, List.getElem_cons_succ, List.setIfInBounds_toArray, List.set_cons_zero, List.set_cons_succ]
      refine wpAnyH_take (i := 2) (v := ?v3) rfl (by kernel_rfl) (by kernel_rfl) (by kernel_rfl) (fun _ _ _ h => h) (Or.inl ⟨by rfl, ?hy3⟩) (by assumption) ?rest3
      case hy3 => ((intro w hSw; (try dsimp only at hSw); (try simp only [List.getElem_toArray, List.getElem_cons_zero, List.getElem_cons_succ]); go_simp; first | done | (with_reducible rfl)))
      simp only [Act.put, List.getElem_toArray, List.getElem_cons_zero, List.getElem_cons_succ, List.setIfInBounds_toArray, List.set_cons_zero, List.set_cons_succ]
      refine wpAnyH_take (i := 3) (v := ?v4) rfl (by kernel_rfl) (by kernel_rfl) (by kernel_rfl) (fun _ _ _ h => h) (Or.inl ⟨by rfl, ?hy4⟩) (by assumption) ?rest4
      case hy4 => ((intro w hSw; (try dsimp only at hSw); (try simp only [List.getElem_toArray, List.getElem_cons_zero, List.getElem_cons_succ]); go_simp; first | done | (with_reducible rfl)))
      simp only [Act.put, List.getElem_toArray, List.getElem_cons_zero, List.getElem_cons_succ, List.setIfInBounds_toArray, List.set_cons_zero, List.set_cons_succ]
      refine wpAnyH_take (i := 4) (v := ?v5) rfl (by kernel_rfl) (by kernel_rfl) (by kernel_rfl) (fun _ _ _ h => h) (Or.inl ⟨by rfl, ?hy5⟩) (by assumption) ?rest5
      case hy5 => ((intro w hSw; (try dsimp only at hSw); (try simp only [List.getElem_toArray, List.getElem_cons_zero, List.getElem_cons_succ]); go_simp; first | done | (with_reducible rfl)))
      simp only [Act.put, List.getElem_toArray, List.getElem_cons_zero, List.getElem_cons_succ, List.setIfInBounds_toArray, List.set_cons_zero, List.set_cons_succ]
      refine wpAnyH_take (i := 5) (v := ?v6) rfl (by kernel_rfl) (by kernel_rfl) (by kernel_rfl) (fun _ _ _ h => h) (Or.inl ⟨by rfl, ?hy6⟩) (by assumption) ?rest6
      case hy6 => ((intro w hSw; (try dsimp only at hSw); (try simp only [List.getElem_toArray, List.getElem_cons_zero, List.getElem_cons_succ]); go_simp; first | done | (with_reducible rfl)))
      simp only [Act.put, List.getElem_toArray, List.getElem_cons_zero, List.getElem_cons_succ, List.setIfInBounds_toArray, List.set_cons_zero, List.set_cons_succ]
      refine wpAnyH_take (i := 6) (v := ?v7) rfl (by kernel_rfl) (by kernel_rfl) (by kernel_rfl) (fun _ _ _ h => h) (Or.inl ⟨by rfl, ?hy7⟩) (by assumption) ?rest7
      case hy7 => ((intro w hSw; (try dsimp only at hSw); (try simp only [List.getElem_toArray, List.getElem_cons_zero, List.getElem_cons_succ]); go_simp; first | done | (with_reducible rfl)))
      simp only [Act.put, List.getElem_toArray, List.getElem_cons_zero, List.getElem_cons_succ, List.setIfInBounds_toArray, List.set_cons_zero, List.set_cons_succ]
      refine wpAnyH_take (i := 7) (v := ?v8) rfl (by kernel_rfl) (by kernel_rfl) (by kernel_rfl) (fun _ _ _ h => h) (Or.inl ⟨by rfl, ?hy8⟩) (by assumption) ?rest8
      case hy8 => ((intro w hSw; (try dsimp only at hSw); (try simp only [List.getElem_toArray, List.getElem_cons_zero, List.getElem_cons_succ]); go_simp; first | done | (with_reducible rfl)))
      simp only [Act.put, List.getElem_toArray, List.getElem_cons_zero, List.getElem_cons_succ, List.setIfInBounds_toArray, List.set_cons_zero, List.set_cons_succ]
      refine wpAnyH_take (i := 8) (v := ?v9) rfl (by kernel_rfl) (by kernel_rfl) (by kernel_rfl) (fun _ _ _ h => h) (Or.inl ⟨by rfl, ?hy9⟩) (by assumption) ?rest9
      case hy9 => ((intro w hSw; (try dsimp only at hSw); (try simp only [List.getElem_toArray, List.getElem_cons_zero, List.getElem_cons_succ]); go_simp; first | done | (with_reducible rfl)))
      simp only [Act.put, List.getElem_toArray, List.getElem_cons_zero, List.getElem_cons_succ, List.setIfInBounds_toArray, List.set_cons_zero, List.set_cons_succ]
      refine wpAnyH_done (by kernel_rfl) ?_ _
      refine NoPanic.normal ?_
      clear hHeld
      go_wp2
      go_roundw
      case rel => exact ⟨k + 1, by omega, by go_num, bDrewB hbel⟩
      case measure => simp [intOf]; omega
    · have hge : ¬ (k : Int) < (n : Int) := by omega
      go_wp2
      go_ret
      exact ⟨rfl, hbel⟩

/-- The marks of n bytes from k on. -/
def mkB (k n : Nat) : List Nat := (List.range n).map fun i => (k + i) % 256
theorem mkB_len (k n : Nat) : (mkB k n).length = n := by simp [mkB]
theorem mkB_get (k n i : Nat) (h : i < n) : (mkB k n)[i]? = some ((k + i) % 256) := by simp [mkB, h]

set_option maxRecDepth 100000 in
set_option maxHeartbeats 2000000 in
theorem markByteS_any (S : Nat → Prop) (v : Value) (n : Nat) (cs : List Value) (k0 : Nat) (w : World) (hr : Row w 5 1 S v n cs) (h1 : 1 ≤ k0) (h2 : k0 + n ≤ 1099511627776) :
    Calls Try.prog 18 #[v, .int .i64 k0] w fun e w' => e = .returned (.int .i64 (k0 + n : Nat)) ∧ Row w' 5 1 S v n (byts (mkB k0 n)) ∧ Upd S w w' := by
  obtain ⟨ao, cap, rfl, hn, hl, hr⟩ := hr
  rcases Nat.eq_zero_or_pos n with rfl | hpos
  · go_enter Try.func18, Try.ntmps18
    go_wp2
    refine wp_loop_rounds 1 ?_
    rw [rounds_succ]
    go_wp2
    go_ret
    exact ⟨rfl, ⟨ao, cap, rfl, hn, by simp [mkB, byts], fun h => by omega⟩, Upd.refl _ _⟩
  · obtain ⟨g, cur, rfl, hS, hg, ht⟩ := hr hpos
    have hcs : n ≤ cur.size := by
      have := congrArg List.length ht
      simp [hl] at this
      omega
    clear hr ht hl
    go_enter Try.func18, Try.ntmps18
    go_wp2
    go_loopw [1, 5] (fun kv i wr => ∃ (k m : Nat) (cur' : Array Value), k ≤ n ∧ m = k0 + k ∧ i = .int .i64 k ∧ kv = .int .i64 (m : Nat) ∧ wr.heap[g]? = some (.cells cur' 5 (0, 0)) ∧ cur'.size = cur.size ∧ (∀ j, j < k → cur'[j]? = some (.int .u8 (((k0 + j) % 256 : Nat) : Int))) ∧ Upd S w wr) (fun _ i _ => n - (intOf i).toNat)
    case atStart => exact ⟨0, k0, cur, Nat.zero_le _, rfl, rfl, rfl, hg, rfl, fun j hj => by omega, Upd.refl _ _⟩
    case round =>
      obtain ⟨k, m, cur', hk, hm, rfl, rfl, hgr, hsz, hmk, hup⟩ := hrel
      have Hm := hide hm
      have hm2 : (m : Int) ≤ 1099511627776 := by omega
      have HM := hide hmk
      have HZ := hide hsz
      have hsz' : n ≤ cur'.size := by omega
      clear hmk hsz hm
      by_cases hlt : k < n
      · have hi : (k : Int) < (n : Int) := by omega
        obtain ⟨u, hu⟩ : ∃ u, cur'[k]? = some u := ⟨cur'[k]'(by omega), by simp [show k < cur'.size by omega]⟩
        have hcw : wr.cell? ⟨g, k, none⟩ = some u := (cell_of_row wr _ _ cur' _ (0, 0) hgr).trans hu
        have hfw : wr.frozen? ⟨g, k, none⟩ = false := frozen_of_row wr _ _ cur' _ hgr
        have Hg := hide hgr
        have hkc : k < cur'.size := by omega
        clear hgr hu
        go_wp2
        go_roundw
        case rel =>
          refine ⟨k + 1, m + 1, _, by omega, by rw [Hm.out]; omega, by go_num, by go_num, row_set _ Hg.out, by simpa using HZ.out, fun j hj => ?_, hup.trans (Upd.setCell _ _ _ _ hS)⟩
          by_cases hjk : j = k
          · subst hjk
            rw [Array.getElem?_setIfInBounds_self_of_lt hkc, ← Hm.out]
            first
              | rfl
              | (congr 1; simp)
              | (congr 2; omega)
          · rw [Array.getElem?_setIfInBounds_ne (by omega)]
            exact HM.out j (by omega)
        case measure => simp [intOf]; omega
      · have hge : ¬ (k : Int) < (n : Int) := by omega
        obtain rfl : k = n := by omega
        have Hg := hide hgr
        clear hgr
        go_wp2
        go_ret
        refine ⟨by rw [Hm.out]; rfl, ⟨_, cap, rfl, hn, by rw [byts_len, mkB_len, Nat.mul_one], fun _ => ⟨g, cur', rfl, hS, Hg.out, ?_⟩⟩, hup⟩
        apply List.ext_getElem?
        intro j
        by_cases hj : j < k
        · rw [List.getElem?_take_of_lt (by omega), Array.getElem?_toList, HM.out j hj, byts_at (mkB_get k0 k j hj)]
        · rw [List.getElem?_eq_none (by simp; omega), List.getElem?_eq_none (by rw [byts_len, mkB_len]; omega)]

set_option maxRecDepth 100000 in
set_option maxHeartbeats 2000000 in
theorem heldByteS_ok (v : Value) (n k0 : Nat) (w : World) (hr : RowR w 1 v n (byts (mkB k0 n))) (h1 : 1 ≤ k0) (h2 : k0 + n ≤ 1099511627776) :
    Calls Try.prog 19 #[v, .int .i64 k0] w fun e w' => e = .returned (.int .i64 (k0 + n : Nat)) ∧ Below w.heap.size w w' := by
  obtain ⟨ao, cap, rfl, hn, hl, hr⟩ := hr
  have HR := hide hr
  clear hl hr
  go_enter Try.func19, Try.ntmps19
  go_wp2
  go_loopw [1, 5] (fun kv i wr => ∃ k m : Nat, k ≤ n ∧ m = k0 + k ∧ i = .int .i64 k ∧ kv = .int .i64 (m : Nat) ∧ Below w.heap.size w wr) (fun _ i _ => n - (intOf i).toNat)
  case atStart => exact ⟨0, k0, Nat.zero_le _, rfl, rfl, rfl, Below.refl _ _⟩
  case round =>
    obtain ⟨k, m, hk, hm, rfl, rfl, hbel⟩ := hrel
    have Hm : Hid (m = k0 + k) := hm
    have hm2 : (m : Int) ≤ 1099511627776 := by omega
    clear hm
    by_cases hlt : k < n
    · obtain ⟨b1, o1, rfl, hc1⟩ := HR.out (by omega)
      have g1 := hc1 k _ (byts_at (mkB_get k0 n k hlt))
      have f1 : wr.cell? ⟨b1, o1 + k, none⟩ = some (.int .u8 (((k0 + k) % 256 : Nat) : Int)) := (hbel.cell (p := ⟨b1, o1 + k, none⟩) (World.block_lt_of_cell? w _ g1)).trans g1
      rw [← Hm.out] at f1
      have f2 : wr.cell? ⟨b1, o1 + k, none⟩ = some (.int .u8 ((m : Int) % 256)) := by simpa using f1
      have hi : (k : Int) < (n : Int) := by omega
      clear hc1 g1 f1
      go_wp2
      go_roundw
      case rel => exact ⟨k + 1, m + 1, by omega, by rw [Hm.out]; omega, by go_num, by go_num, hbel⟩
      case measure => simp [intOf]; omega
    · have hge : ¬ (k : Int) < (n : Int) := by omega
      go_wp2
      go_ret
      obtain rfl : k = n := by omega
      exact ⟨by rw [Hm.out]; rfl, hbel⟩

end Go.Proofs.Ytdnojnkcmncffaa
