/- Contracts and plain facts that this claim leans on (texts XLBk, XDU); no statement of the seat is proved here. -/
import Derived.Test.YtdnojnkcmncffaaWk45
import Derived.Test.YtdnojnkcmncffaaWk40
import Derived.Test.YtdnojnkcmncffaaWk28
import Derived.Test.YtdnojnkcmncffaaWk22
import Derived.Test.YtdnojnkcmncffaaWk39
import Derived.Test.YtdnojnkcmncffaaWk34

/- What the law FnWordBack does: its walk; the statement itself is proved elsewhere. -/
namespace Go.Proofs.Ytdnojnkcmncffaa
open Go.RowKit

theorem UnP.found {bs : List Nat} {x y : Wd} {ok : Bool} (h : UnP bs y ok) (hx : okW x = true) (hp : packW x = bs) : ok = true ∧ y = x := by
  rcases h with ⟨rfl, -, -, h⟩ | ⟨-, -, h⟩
  · exact ⟨rfl, (h x hx hp).symm⟩
  · exact absurd hp (h x hx)

set_option maxRecDepth 100000 in
set_option maxHeartbeats 16000000 in
theorem lawWordBack_walk (bo : Option Addr) (n cap : Nat) (bs : List Nat) (w : World) (h : BytesIn w bo n cap bs) :
    Calls Try.prog 6 #[.slice bo n cap] w fun e w' => e = .returned (.bool true) ∧ Below w.heap.size w w' := by
  by_cases hb1 : (n : Int) > 1048576
  · go_enter Try.func6, Try.ntmps6
    go_wp2
    go_ret
    exact ⟨rfl, Below.refl _ _⟩
  have HB := hide h
  clear h
  go_enter Try.func6, Try.ntmps6
  go_wp2_with fail
  refine (drawWordPack_any w bo n cap bs HB.out (by omega)).mono ?_
  rintro e w1 ⟨v, x, rfl, D, hp, hl, c1⟩
  obtain ⟨pk, hpk⟩ : ∃ pk, packW x = pk := ⟨_, rfl⟩
  have hpl : pk.length ≤ 822 := by rw [← hpk]; exact (packW_len x).2
  have HPB : Hid (∀ b ∈ pk, b < 256) := by rw [← hpk]; exact packW_byte x
  have HPK := hide hpk
  obtain ⟨cs, rfl, hs, h1⟩ := D.reads.agg
  have HI := hide (infoAt infoWd hs)
  have HZ := hide (zero26.trans hs.symm)
  have H1 := hide h1
  have al := bal (Below.refl w1.heap.size w1) (.cells cs 34)
  have B1 := hide (heap_alloc_new w1 (.cells cs 34))
  have HX := hide (D.reads.keep al)
  have c2 := bAll c1 al
  have SC := fun v w h => specWordPack_any v x w h
  have IC := fun v w h => implWordPack_any v x w h
  rw [hpk] at SC IC
  clear al D hs h1 hpk c1
  go_wp2_with (first
    | (refine wpList_store_row rfl 34 (.tmp 3) (.tmp 13) rfl w1.heap.size cs rfl rfl _ _ (heap_alloc_new w1 _) HI.out HZ.out H1.out ?_; rw [World.setRow_alloc_new])
    | (refine wpList_load_row rfl 34 (.tmp 3) rfl w1.heap.size rfl _ cs (0, 0) _ B1.out Try.underlying34 rfl HI.out ?_))
  refine (SC _ _ HX.out).mono ?_
  rintro e w3 ⟨vo3, co3, rfl, r3, b3⟩
  have c3 := bAll c2 b3
  have B3 := hide (bKeeps b3 B1.out)
  have HX3 := hide (HX.out.keep b3)
  have R3 := hide (r3.row (by omega)).reads
  clear b3 r3 c2 HX B1 SC
  go_wp2_with (refine wpList_load_row rfl 34 (.tmp 3) rfl w1.heap.size rfl _ cs (0, 0) _ B3.out Try.underlying34 rfl HI.out ?_)
  refine (specWordOk_any _ x _ HX3.out).mono ?_
  rintro e w4 ⟨rfl, b4⟩
  have c4 := bAll c3 b4
  have B4 := hide (bKeeps b4 B3.out)
  have HX4 := hide (HX3.out.keep b4)
  have R4 := hide (R3.out.keep b4)
  clear b4 c3 HX3 B3 R3
  go_wp2_with (refine wpList_load_row rfl 34 (.tmp 3) rfl w1.heap.size rfl _ cs (0, 0) _ B4.out Try.underlying34 rfl HI.out ?_)
  refine (IC _ _ HX4.out).mono ?_
  rintro e w5 ⟨vo5, co5, rfl, r5, b5⟩
  obtain ⟨_, _, e5, hcap⟩ := r5.room
  injection e5 with e6 _ e7
  subst e6 e7
  have c5 := bAll c4 b5
  have B5 := hide (bKeeps b5 B4.out)
  have HX5 := hide (HX4.out.keep b5)
  have R5 := hide (R4.out.keep b5)
  have Q5 := hide (r5.row (by omega)).reads
  have t4 := textU (P := Try.prog) R5.out 38 5 9 Try.underlying38 Try.underlying5 Try.underlying9
  have t5 := textU (P := Try.prog) Q5.out 38 5 9 Try.underlying38 Try.underlying5 Try.underlying9
  obtain ⟨nk, hnk⟩ : ∃ q, pk.length = q := ⟨_, rfl⟩
  have HNK := hide hnk
  rw [hnk] at t4 t5 hcap hpl R5 Q5 ⊢
  clear hnk b5 r5 c4 HX4 B4 R4 IC
  obtain ⟨ok, hok⟩ : ∃ q, okW x = q := ⟨_, rfl⟩
  have HK := hide hok
  have WO := fun v w h => implWordOk_any v x w h
  rw [hok] at WO ⊢
  clear hok
  go_wp2_with (refine wpList_load_rowG (by rfl) 34 (.tmp 3) rfl w1.heap.size rfl _ cs (0, 0) _ B5.out Try.underlying34 rfl HI.out ?_)
  refine (WO _ _ HX5.out).mono ?_
  rintro e w6 ⟨rfl, b6⟩
  have c6 := bAll c5 b6
  have B6 := hide (bKeeps b6 B5.out)
  have HX6 := hide (HX5.out.keep b6)
  have Q6 := hide (Q5.out.keep b6)
  clear b6 c5 HX5 B5 R5 Q5 t4 t5 WO
  cases ok
  · have hz : nk = 0 := by
      rw [← HNK.out, ← HPK.out]
      unfold packW
      rw [HK.out]
      rfl
    subst hz
    go_wp2
    go_ret
    exact ⟨rfl, c6⟩
  · go_wp2_with fail
    refine (implWordUnpack_any _ nk _ pk w6 Q6.out HPB.out (by omega) hcap).mono ?_
    rintro e w7 ⟨v7, ok7, rfl, x7, D7, up7, -, -, b7⟩
    obtain ⟨rfl, rfl⟩ := up7.found HK.out HPK.out
    obtain ⟨ds, rfl, hds, hd1⟩ := D7.reads.agg
    have GI := hide (infoAt infoWd hds)
    have GZ := hide (zero26.trans hds.symm)
    have G1 := hide hd1
    have al8 := bal (Below.refl w7.heap.size w7) (.cells ds 34)
    have B8 := hide (bKeeps al8 (bKeeps b7 B6.out))
    have C8 := hide (heap_alloc_new w7 (.cells ds 34))
    have X8 := hide ((HX6.out.keep b7).keep al8)
    have E8 := hide (D7.reads.keep al8)
    have c8 := bAll (bAll c6 b7) al8
    clear b7 D7 up7 hds hd1 al8 c6 B6 HX6 Q6
    go_wp2_with (first
      | (refine wpList_store_row rfl 34 (.tmp 7) (.tmp 39) rfl w7.heap.size ds rfl rfl _ _ (heap_alloc_new w7 _) GI.out GZ.out G1.out ?_; rw [World.setRow_alloc_new])
      | (refine wpList_load_rowG (by rfl) 34 (.tmp 7) rfl w7.heap.size rfl _ ds (0, 0) _ C8.out Try.underlying34 rfl GI.out ?_)
      | (refine wpList_load_rowG (by rfl) 34 (.tmp 3) rfl w1.heap.size rfl _ cs (0, 0) _ B8.out Try.underlying34 rfl HI.out ?_))
    refine (lpWord_true _ _ _ _ E8.out X8.out).mono ?_
    rintro e w9 ⟨rfl, b9⟩
    go_wp2
    go_ret
    exact ⟨rfl, bAll c8 b9⟩

end Go.Proofs.Ytdnojnkcmncffaa

/- DrawWordUnpack: a contract; no statement of the seat is proved here. -/
namespace Go.Proofs.Ytdnojnkcmncffaa
open Go.RowKit

theorem RowR.upto {w : World} {so : Option Addr} {n cap j : Nat} {bs : List Nat} (h : RowR w 1 (.slice so n cap) n (byts bs)) (hj : j ≤ n) : RowR w 1 (.slice so j cap) j (byts (bs.take j)) := by
  obtain ⟨ao, cap', e, hn, hl, h⟩ := h
  injection e with e1 e2 e3
  subst e1 e3
  rw [byts_len] at hl
  refine ⟨_, _, rfl, by omega, by rw [byts_len, List.length_take]; omega, fun h0 => ?_⟩
  obtain ⟨b', off', rfl, hc⟩ := h (by omega)
  refine ⟨b', off', rfl, fun i u hi => hc i u ?_⟩
  have hi' := (List.getElem?_eq_some_iff.1 hi).1
  rw [byts_len, List.length_take] at hi'
  rw [← hi]
  simp only [byts, List.getElem?_map]
  rw [List.getElem?_take_of_lt (by omega)]

/-- What drawing bytes gives. -/
def DrU (w : World) (vo : Option Addr) (m co : Nat) (w' : World) : Prop := ∃ bs', RowR w' 1 (.slice vo m co) m (byts bs') ∧ (∀ b ∈ bs', b < 256) ∧ m ≤ co ∧ m ≤ 1000 ∧ Below w.heap.size w w'

theorem byts_one (bs : List Nat) : ∀ u ∈ byts bs, u.oneCell' = true := by
  intro u hu
  obtain ⟨b, _, rfl⟩ := List.mem_map.1 hu
  rfl

set_option maxRecDepth 100000 in
set_option maxHeartbeats 8000000 in
theorem drawWordUnpack_any (w : World) (bo : Option Addr) (n cap : Nat) (bs : List Nat) (h : BytesIn w bo n cap bs) (hn : n ≤ 1048576) :
    Calls Try.prog 26 #[.slice bo n cap] w fun e w' => ∃ vo m co, e = .returned (.slice vo m co) ∧ DrU w vo m co w' := by
  obtain ⟨i1, gi, gz0, gz1, gz2⟩ := info_parts infoU8
  have HB := hide h
  clear h
  go_enter Try.func26, Try.ntmps26
  go_wp2_with fail
  refine (l6Open_any _ bo n cap bs HB.out hn).mono ?_
  rintro e w1 ⟨rfl, hr1, b1⟩
  go_wp2_with fail
  refine (l72Word_any _ w1 w.heap.size 0 hr1 (by omega)).mono ?_
  rintro e w2 ⟨v2, x, p', rfl, d2, -, -, hr2, hp2, hu2⟩
  obtain ⟨pk, hpk⟩ : ∃ pk, packW x = pk := ⟨_, rfl⟩
  have hpl : pk.length ≤ 822 := by rw [← hpk]; exact (packW_len x).2
  have HPB : Hid (∀ b ∈ pk, b < 256) := by rw [← hpk]; exact packW_byte x
  have SC := hide (specWordPack_any _ x _ d2.reads)
  rw [hpk] at SC
  have c2 : Below w.heap.size w w2 := b1.trans (hu2.below b1.size (fun k h => by omega))
  have hRl := hr2.lt.1
  clear hpk d2 hr1 hu2 b1
  go_wp2_with fail
  refine SC.out.mono ?_
  rintro e w3 ⟨vo, co, rfl, r3, b3⟩
  obtain ⟨_, _, e5, hcap⟩ := r3.room
  injection e5 with e6 _ e7
  subst e6 e7
  have c3 := bAll c2 b3
  have hr3 := hr2.keepB b3
  have z3 := b3.size
  have HR3 := hide r3
  obtain ⟨nk, hnk⟩ : ∃ q, pk.length = q := ⟨_, rfl⟩
  have HNK := hide hnk
  rw [hnk] at hcap hpl HR3 ⊢
  clear SC hnk b3 r3 c2 hr2
  by_cases h0 : nk = 0
  · subst h0
    go_wp2
    go_ret
    exact ⟨_, _, _, rfl, pk, (HR3.out.row (by omega)).reads, HPB.out, hcap, by omega, c3⟩
  have h0' : ((nk : Int) == 0) = false := by simpa using h0
  go_wp2_with fail
  refine (pick_any w _ w.heap.size _ 2 hr3 (by omega) (by omega) (by omega)).mono ?_
  rintro e w4 ⟨q4, rfl, hq4, hr4, hu4⟩
  have c4 : Below w.heap.size w w4 := c3.trans (hu4.below c3.size (fun k h => by omega))
  have HR4 := hide (HR3.out.keep hu4 (fun k h e => by omega))
  have z4 := hu4.size
  clear HR3 hr3 hu4 c3
  rcases (by omega : q4 = 0 ∨ q4 = 1) with rfl | rfl
  · go_wp2
    go_ret
    exact ⟨_, _, _, rfl, pk, (HR4.out.row (by omega)).reads, HPB.out, hcap, by omega, c4⟩
  go_wp2_with fail
  refine (pick_any w _ w.heap.size _ nk hr4 (by omega) (by omega) (by omega)).mono ?_
  rintro e w5 ⟨i, rfl, hi, hr5, hu5⟩
  have c5 : Below w.heap.size w w5 := c4.trans (hu5.below c4.size (fun k h => by omega))
  have HR5 := hide (HR4.out.keep hu5 (fun k h e => by omega))
  have z5 := hu5.size
  clear HR4 hr4 hu5 c4
  go_wp2_with fail
  refine (pick_any w _ w.heap.size _ 4 hr5 (by omega) (by omega) (by omega)).mono ?_
  rintro e w6 ⟨q6, rfl, hq6, hr6, hu6⟩
  have c6 : Below w.heap.size w w6 := c5.trans (hu6.below c5.size (fun k h => by omega))
  have HR6 := hide (HR5.out.keep hu6 (fun k h e => by omega))
  have z6 := hu6.size
  clear HR5 hr5 hu6 c5
  have HRR := hide (HR6.out.row (by omega)).reads
  rcases (by omega : q6 = 0 ∨ q6 = 1 ∨ q6 = 2 ∨ q6 = 3) with rfl | rfl | rfl | rfl
  · have hle : (i : Int) ≤ (co : Int) := by omega
    go_wp2
    go_ret
    exact ⟨_, _, _, rfl, pk.take i, HRR.out.upto (by omega), fun b hb => HPB.out b (List.mem_of_mem_take hb), by omega, by omega, c6⟩
  · obtain ⟨_, _, e8, -, hl8, hrow⟩ := HR6.out.row (by omega)
    injection e8 with e9 _ e10
    subst e9 e10
    obtain ⟨g, cur, rfl, hg, hh, ht⟩ := hrow (by omega)
    have hgs := heap_lt hh
    have HH := hide hh
    have HTk := hide ht
    clear hh ht hl8
    go_wp2_with fail
    refine (pick_any w _ w.heap.size _ 256 hr6 (by omega) (by omega) (by omega)).mono ?_
    rintro e w7 ⟨q7, rfl, hq7, hr7, hu7⟩
    have c7 : Below w.heap.size w w7 := c6.trans (hu7.below c6.size (fun k h => by omega))
    have H7 := hide (hu7.keeps HH.out (by omega))
    have hsz : i < cur.size := by
      have := congrArg List.length HTk.out
      rw [List.length_take, byts_len, HNK.out] at this
      simp at this
      omega
    have f0 : w7.cell? ⟨g, i, none⟩ = some cur[i] := by rw [boxAt H7.out i]; simp [hsz]
    have f1 : w7.frozen? ⟨g, i, none⟩ = false := boxFz H7.out i
    have hii : (i : Int) < (nk : Int) := by omega
    have hq' : (q7 : Int) < 256 := by omega
    have us := Upd.setCell (S := fun j => j = g) w7 g i (.int .u8 (q7 : Int)) rfl
    have N7 := hide (row_set (.int .u8 (q7 : Int)) H7.out (j := i))
    clear hr6 hu7 hr7
    go_wp2
    go_ret
    refine ⟨_, _, _, rfl, pk.set i q7, ⟨_, _, rfl, by omega, by rw [byts_len, List.length_set, HNK.out]; omega, fun _ => ⟨g, 0, rfl, fun j u hj => ?_⟩⟩, fun b hb => ?_, hcap, by omega, c7.trans (us.below c7.size (fun k h => by omega))⟩
    · rw [Nat.zero_add, boxAt N7.out j]
      have hjl := (List.getElem?_eq_some_iff.1 hj).1
      rw [byts_len, List.length_set, HNK.out] at hjl
      simp only [byts, List.getElem?_map, List.getElem?_set] at hj
      by_cases hji : j = i
      · subst hji
        rw [Array.getElem?_setIfInBounds_self_of_lt hsz]
        rw [if_pos rfl, if_pos (by rw [HNK.out]; exact hi)] at hj
        simpa using hj
      · rw [Array.getElem?_setIfInBounds_ne (by omega)]
        rw [if_neg (by omega)] at hj
        have hc : (cur.toList.take (nk * 1))[j]? = some u := by rw [HTk.out]; simpa [byts] using hj
        rw [List.getElem?_take_of_lt (by omega)] at hc
        simpa using hc
    · rcases List.mem_or_eq_of_mem_set hb with hb | rfl
      · exact HPB.out b hb
      · exact hq7
  · have al := bal (Below.refl w6.heap.size w6) (.cells #[.int .u8 0] 5)
    have row3 := HR6.out.keepB al
    have N3 := hide (new_byte w6 0 5)
    go_wp2_with (at_builtin; refine wpList_appendA _ rfl _ _ 38 rfl w2.heap.size 5 i1 (.int .u8 0) 1 1 Try.underlying38 gi gz0 gz1 gz2 rfl (by decide) _ nk (byts pk) rfl row3 ⟨w6.heap.size, 0, none⟩ 1 1 [.int .u8 0] rfl rfl N3.out (byte_one _) (by decide) ?q63 ?qby ?qbase ?_)
    case q63 => unfold maxLen; omega
    case qby => omega
    case qbase => first | omega | (simp; omega)
    intro v7 w7 hown u7
    obtain ⟨_, _, rfl, hcc⟩ := owns_shape hown
    have R7 := hide (owns_reads hown (by omega))
    clear N3 row3 hown
    go_wp2
    go_ret
    refine ⟨_, _, _, rfl, pk ++ [0], by rw [byts_append]; exact R7.out, fun b hb => ?_, hcc, by omega, (bAll c6 al).trans (u7.below (by have := (bAll c6 al).size; omega) (fun k h => by have := h.1; have := hRl; omega))⟩
    rcases List.mem_append.1 hb with hb | hb
    · exact HPB.out b hb
    · simp at hb; omega
  · obtain ⟨_, _, e8, -, hl8, hrow⟩ := HR6.out.row (by omega)
    injection e8 with e9 _ e10
    subst e9 e10
    obtain ⟨g, cur, rfl, hg, hh, ht⟩ := hrow (by omega)
    have hgs := heap_lt hh
    have HH := hide hh
    have HTk := hide ht
    clear hh ht hl8
    have hii : (i : Int) < (nk : Int) := by omega
    have hi2 : (i : Int) ≤ (nk : Int) := by omega
    have hi3 : (i : Int) ≤ (co : Int) := by omega
    have hi4 : (nk : Int) ≤ (co : Int) := by omega
    have hne1 : ¬ co = i := by omega
    have hne2 : ¬ co - i = 0 := by omega
    have al0 : Below w6.heap.size w6 (w6.drew.alloc (.cells #[] 5)) := bal (bDrewB (Below.refl w6.heap.size w6)) _
    go_wp2
    refine wp_region_noPanic ?_
    refine wp_region_held_drew (S := (fun _ => True)) (by kernel_rfl) ?_ (fun hHeld => ?_)
    · trivial
    refine wpAnyH_take (i := 1) (v := ?v1) rfl (by kernel_rfl) (by kernel_rfl) (by kernel_rfl) (fun _ _ _ h => h) (Or.inl ⟨by rfl, ?hy1⟩) (by assumption) ?rest1
    case hy1 => ((intro w hSw; (try dsimp only at hSw); (try simp only [List.getElem_toArray, List.getElem_cons_zero, List.getElem_cons_succ]); go_simp; first | done | (with_reducible rfl)))
    simp only [Act.put, List.getElem_toArray, List.getElem_cons_zero, List.getElem_cons_succ, List.setIfInBounds_toArray, List.set_cons_zero, List.set_cons_succ]
    refine wpAnyH_take (i := 2) (v := ?v2) rfl (by kernel_rfl) (by kernel_rfl) (by kernel_rfl) (fun _ _ _ h => h) (Or.inl ⟨by rfl, ?hy2⟩) (by assumption) ?rest2
    case hy2 => ((intro w hSw; (try dsimp only at hSw); (try simp only [List.getElem_toArray, List.getElem_cons_zero, List.getElem_cons_succ]); go_simp; first | done | (with_reducible rfl)))
    simp only [Act.put, List.getElem_toArray, List.getElem_cons_zero, List.getElem_cons_succ, List.setIfInBounds_toArray, List.set_cons_zero, List.set_cons_succ]
    refine wpAnyH_take (i := 3) (v := ?v3) rfl (by kernel_rfl) (by kernel_rfl) (by kernel_rfl) (fun _ _ _ h => h) (Or.inl ⟨by rfl, ?hy3⟩) (by assumption) ?rest3
    case hy3 => ((intro w hSw; (try dsimp only at hSw); (try simp only [List.getElem_toArray, List.getElem_cons_zero, List.getElem_cons_succ]); go_simp; first | done | (with_reducible rfl)))
    simp only [Act.put, List.getElem_toArray, List.getElem_cons_zero, List.getElem_cons_succ, List.setIfInBounds_toArray, List.set_cons_zero, List.set_cons_succ]
    refine wpAnyH_take (i := 5) (v := ?v4) rfl (by kernel_rfl) (by kernel_rfl) (by kernel_rfl) (fun _ _ _ h => h) (Or.inl ⟨by rfl, ?hy4⟩) (by assumption) ?rest4
    case hy4 => ((intro w hSw; (try dsimp only at hSw); (try simp only [List.getElem_toArray, List.getElem_cons_zero, List.getElem_cons_succ]); go_simp; first | done | (with_reducible rfl)))
    simp only [Act.put, List.getElem_toArray, List.getElem_cons_zero, List.getElem_cons_succ, List.setIfInBounds_toArray, List.set_cons_zero, List.set_cons_succ]
    refine wpAnyH_take (i := 11) (v := ?v5) rfl (by kernel_rfl) (by kernel_rfl) (by kernel_rfl) (fun _ _ _ h => h) (Or.inl ⟨by rfl, ?hy5⟩) (by assumption) ?rest5
    case hy5 => ((intro w hSw; (try dsimp only at hSw); (try simp only [List.getElem_toArray, List.getElem_cons_zero, List.getElem_cons_succ]); go_simp; first | done | (with_reducible rfl)))
    simp only [Act.put, List.getElem_toArray, List.getElem_cons_zero, List.getElem_cons_succ, List.setIfInBounds_toArray, List.set_cons_zero, List.set_cons_succ]
    refine wpAnyH_take (i := 12) (v := ?v6) rfl (by kernel_rfl) (by kernel_rfl) (by kernel_rfl) (fun _ _ _ h => h) (Or.inl ⟨by rfl, ?hy6⟩) (by assumption) ?rest6
    case hy6 => ((intro w hSw; (try dsimp only at hSw); (try simp only [List.getElem_toArray, List.getElem_cons_zero, List.getElem_cons_succ]); go_simp; first | done | (with_reducible rfl)))
    simp only [Act.put, List.getElem_toArray, List.getElem_cons_zero, List.getElem_cons_succ, List.setIfInBounds_toArray, List.set_cons_zero, List.set_cons_succ]
    refine wpAnyH_take (i := 13) (v := ?v7) rfl (by kernel_rfl) (by kernel_rfl) (by kernel_rfl) (fun _ _ _ h => h) (Or.inl ⟨by rfl, ?hy7⟩) (by assumption) ?rest7
    case hy7 => ((intro w hSw; (try dsimp only at hSw); (try simp only [List.getElem_toArray, List.getElem_cons_zero, List.getElem_cons_succ]); go_simp; first | done | (with_reducible rfl)))
    simp only [Act.put, List.getElem_toArray, List.getElem_cons_zero, List.getElem_cons_succ, List.setIfInBounds_toArray, List.set_cons_zero, List.set_cons_succ]
    refine wpAnyH_ready (rs := [0]) (by kernel_rfl) (by simp) ?_
    refine AllReadyH.cons rfl (fun K hK => ?_) AllReadyH.nil
    go_simp
    (skip)
    refine hK.out _ _ ?_ (fun hHeld => ?_)
    · trivial
    clear hK K
    refine wpAnyH_ready (rs := [4]) (by kernel_rfl) (by simp) ?_
    refine AllReadyH.cons rfl (fun K hK => ?_) AllReadyH.nil
    (refine wp_copyA0 _ _ 38 rfl w6.heap.size 5 i1 (.int .u8 0) 1 1 Try.underlying38 gi gz0 gz1 gz2 rfl (by decide) _ rfl (.inr ⟨rfl, rfl, _, rfl⟩) _ i (byts (pk.take i)) rfl ((HRR.out.upto (by omega)).keep al0) (byts_one _) (by omega) (by omega) al0.size ?_; intro v7 w7 r7 u7; obtain ⟨so7, sc7, rfl⟩ := r7.shape; have b7 : Below w6.heap.size w6 w7 := al0.trans (u7.below al0.size (fun k h => h.1)); have hr7 := hr6.keepB b7; have z7 := b7.size)
    refine hK.out _ _ ?_ (fun hHeld => ?_)
    · trivial
    clear hK K
    refine wpAnyH_ready (rs := [6]) (by kernel_rfl) (by simp) ?_
    refine AllReadyH.cons rfl (fun K hK => ?_) AllReadyH.nil
    go_simp
    (go_at_call 57; refine (pick_any w _ w.heap.size _ 128 hr7 (by omega) (by omega) (by omega)).mono ?_; rintro e w8 ⟨q8, rfl, hq8, hr8, hu8⟩; have hq8' : (q8 : Int) < 128 := (by omega); have z8 := hu8.size)
    refine hK.out _ _ ?_ (fun hHeld => ?_)
    · trivial
    clear hK K
    refine wpAnyH_take (i := 7) (v := ?v8) rfl (by kernel_rfl) (by kernel_rfl) (by kernel_rfl) (fun _ _ _ h => h) (Or.inl ⟨by rfl, ?hy8⟩) (by assumption) ?rest8
    case hy8 => ((intro w hSw; (try dsimp only at hSw); (try simp only [List.getElem_toArray, List.getElem_cons_zero, List.getElem_cons_succ]); go_simp; first | done | (with_reducible rfl)))
    simp only [Act.put, List.getElem_toArray, List.getElem_cons_zero, List.getElem_cons_succ, List.setIfInBounds_toArray, List.set_cons_zero, List.set_cons_succ]
    refine wpAnyH_take (i := 8) (v := ?v9) rfl (by kernel_rfl) (by kernel_rfl) (by kernel_rfl) (fun _ _ _ h => h) (Or.inl ⟨by rfl, ?hy9⟩) (by assumption) ?rest9
    case hy9 => ((intro w hSw; (try dsimp only at hSw); (try simp only [List.getElem_toArray, List.getElem_cons_zero, List.getElem_cons_succ]); go_simp; first | done | (with_reducible rfl)))
    simp only [Act.put, List.getElem_toArray, List.getElem_cons_zero, List.getElem_cons_succ, List.setIfInBounds_toArray, List.set_cons_zero, List.set_cons_succ]
    have hv : IntKind.u8.wrap (IntKind.i64.wrap (128 + (q8 : Int))) = ((128 + q8 : Nat) : Int) := by
      simp [IntKind.wrap, IntKind.bits, IntKind.signed]
      omega
    rw [hv]
    refine wpAnyH_ready (rs := [9]) (by kernel_rfl) (by simp) ?_
    refine AllReadyH.cons rfl (fun K hK => ?_) AllReadyH.nil
    go_simp
    (skip)
    refine hK.out _ _ ?_ (fun hHeld => ?_)
    · trivial
    clear hK K
    have al9 := bal (Below.refl w8.heap.size w8) (.cells #[.int .u8 ((128 + q8 : Nat) : Int)] 5)
    have row9 := (r7.keep hu8 (fun k h e => by omega)).keepB al9
    have G9 : Hid ((w8.alloc (.cells #[.int .u8 ((128 + q8 : Nat) : Int)] 5)).heap[g]? = some (.cells cur 5 (0, 0))) := bKeeps al9 (hu8.keeps (bKeeps b7 HH.out) (by omega))
    refine wpAnyH_ready (rs := [10]) (by kernel_rfl) (by simp) ?_
    refine AllReadyH.cons rfl (fun K hK => ?_) AllReadyH.nil
    (refine wp_appendA _ _ 38 rfl w6.heap.size 5 i1 (.int .u8 0) 1 1 Try.underlying38 gi gz0 gz1 gz2 rfl (by decide) _ i (byts (pk.take i)) rfl row9 ⟨w8.heap.size, 0, none⟩ 1 1 [.int .u8 ((128 + q8 : Nat) : Int)] rfl rfl (new_byte w8 _ _) (byte_one _) (by decide) (by unfold maxLen; omega) (by omega) (by simp; omega) ?_; intro v10 w10 hown u10; obtain ⟨so10, sc10, rfl, -⟩ := owns_shape hown; have G10 := hide (u10.keeps G9.out (fun h => by have := h.1; omega)); have z10 := u10.size; rw [World.size_alloc] at z10)
    refine hK.out _ _ ?_ (fun hHeld => ?_)
    · trivial
    clear hK K
    have src : RowR w10 1 (.slice (some ⟨g, 0, none⟩) nk co) nk (byts pk) := (show Row w10 5 1 (fun _ => True) (.slice (some ⟨g, 0, none⟩) nk co) nk (byts pk) from ⟨_, _, rfl, by omega, by rw [byts_len, HNK.out]; omega, fun _ => ⟨g, cur, rfl, trivial, G10.out, HTk.out⟩⟩).reads
    obtain ⟨_, _, e11, -, hl11, hc11⟩ := RowR.from (j := i) src (by omega)
    obtain ⟨_, _, e12, hc12⟩ := hc11 (by omega)
    subst e12
    injection e11 with e13 _ e14
    injection e13 with e13
    injection e13 with e15 e16
    subst e15 e16 e14
    rw [Nat.zero_add] at hc12
    refine wpAnyH_ready (rs := [14]) (by kernel_rfl) (by simp) ?_
    refine AllReadyH.cons rfl (fun K hK => ?_) AllReadyH.nil
    (refine wp_appendA _ _ 38 rfl w6.heap.size 5 i1 (.int .u8 0) 1 1 Try.underlying38 gi gz0 gz1 gz2 rfl (by decide) _ (i + 1) _ rfl (.inl hown) ⟨g, i, none⟩ (nk - i) (co - i) (byts (pk.drop i)) rfl hl11 (fun j u hj => by rw [Addr.add_lit]; exact hc12 j u hj) (byts_one _) (by omega) (by unfold maxLen; omega) (by omega) (by omega) ?_; intro v11 w11 hown2 u11; obtain ⟨so11, sc11, rfl, hcc⟩ := owns_shape hown2)
    refine hK.out _ _ ?_ (fun hHeld => ?_)
    · trivial
    clear hK K
    refine wpAnyH_take (i := 15) (v := ?v10) rfl (by kernel_rfl) (by kernel_rfl) (by kernel_rfl) (fun _ _ _ h => h) (Or.inl ⟨by rfl, ?hy10⟩) (by assumption) ?rest10
    case hy10 => ((intro w hSw; (try dsimp only at hSw); (try simp only [List.getElem_toArray, List.getElem_cons_zero, List.getElem_cons_succ]); go_simp; first | done | (with_reducible rfl)))
    simp only [Act.put, List.getElem_toArray, List.getElem_cons_zero, List.getElem_cons_succ, List.setIfInBounds_toArray, List.set_cons_zero, List.set_cons_succ]
    refine wpAnyH_done (by kernel_rfl) ?_ _
    refine NoPanic.normal ?_
    have R11 := hide (owns_reads hown2 (by omega))
    have b10 : Below w.heap.size w w10 := ((c6.trans (b7.mono (by omega))).trans ((hu8.below (by omega) (fun k h => by omega)).trans (al9.mono (by omega)))).trans (u10.below (by simp; omega) (fun k h => by have := h.1; omega))
    have b11 : Below w.heap.size w w11 := b10.trans (u11.below (by omega) (fun k h => by have := h.1; omega))
    go_wp2
    go_ret
    refine ⟨_, _, _, rfl, pk.take i ++ [128 + q8] ++ pk.drop i, ?_, fun b hb => ?_, hcc, by omega, b11⟩
    · rw [byts_append, byts_append]
      exact R11.out
    · rcases List.mem_append.1 hb with hb | hb
      · rcases List.mem_append.1 hb with hb | hb
        · exact HPB.out b (List.mem_of_mem_take hb)
        · simp at hb; omega
      · exact HPB.out b (List.mem_of_mem_drop hb)

end Go.Proofs.Ytdnojnkcmncffaa
