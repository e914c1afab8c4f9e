/- Contracts and plain facts that the claims of this seat lean on (texts XDU, XLSt); no statement of the seat is proved here. -/
import Derived.Test.YtafojnjpllpjjaaPk15
import Derived.Test.YtafojnjpllpjjaaPk13
import Derived.Test.YtafojnjpllpjjaaPk16
import Derived.Test.YtafojnjpllpjjaaPk18

/- DrawWordUnpack: a contract; no statement of the seat is proved here. -/
namespace Go.Proofs.Ytafojnjpllpjjaa
open Go.RowKit

theorem RowR.upto {w : World} {so : Option Addr} {n cap j : Nat} {bs : List Nat} (h : RowR w 1 (.slice so n cap) n (byts bs)) (hj : j ≤ n) : RowR w 1 (.slice so j cap) j (byts (bs.take j)) := by
  obtain ⟨ao, cap', e, hn, hl, h⟩ := h
  injection e with e1 e2 e3
  subst e1 e3
  rw [byts_len] at hl
  refine ⟨_, _, rfl, by omega, by rw [byts_len, List.length_take]; omega, fun h0 => ?_⟩
  obtain ⟨b', off', rfl, hc⟩ := h (by omega)
  refine ⟨b', off', rfl, fun i u hi => hc i u ?_⟩
  have hi' := (List.getElem?_eq_some_iff.1 hi).1
  rw [byts_len, List.length_take] at hi'
  rw [← hi]
  simp only [byts, List.getElem?_map]
  rw [List.getElem?_take_of_lt (by omega)]

/-- What drawing bytes gives. -/
def DrU (w : World) (vo : Option Addr) (m co : Nat) (w' : World) : Prop := ∃ bs', RowR w' 1 (.slice vo m co) m (byts bs') ∧ (∀ b ∈ bs', b < 256) ∧ m ≤ co ∧ m ≤ 1000 ∧ Below w.heap.size w w'

theorem wp_copyA0 {P : Program} {o : Oper} {a : Act} {w : World} {K : Act → World → Prop} {Q : Exit → Act → World → Prop} (s x : Operand) (t : TypeId)
    (ho : o.op = .call { callee := .builtin .append, args := #[s, x], argTypes := #[t, t] })
    (base : Nat) (e : TypeId) (i : TypeInfo) (z : Value) (size bytes : Nat) (ht : P.underlying t = some (.slice e)) (hi : P.info? e = some i) (hz : i.zero = some z)
    (hsize : i.size = size) (hby : i.bytes = bytes) (hzs : z.cells.size = size) (hsz : 0 < size)
    (v0 : Value) (hs : a.eval s = v0) (hown : RowA w base e size v0 0 [])
    (vx : Value) (m : Nat) (news : List Value) (hx : a.eval x = vx) (hr : RowR w size vx m news) (h1 : ∀ u ∈ news, u.oneCell' = true)
    (h63 : m ≤ 1048576) (hbytes : m * bytes ≤ 140737488355328) (hbase : base ≤ w.heap.size)
    (h : ∀ v' w', RowA w' base e size v' m news → Upd (typed w (fun k => base ≤ k) e) w w' → K (a.put o.dst v') w') : Oper.wp P o a w K Q := by
  obtain ⟨ao, c, rfl, _, hl, hr⟩ := hr
  rcases Nat.eq_zero_or_pos m with rfl | hpos
  · obtain rfl : news = [] := List.eq_nil_of_length_eq_zero (by simpa using hl)
    obtain ⟨ao0, c0, rfl⟩ := hown.shape
    have hrun : (Builtin.append_ #[t, t] o.type #[.slice ao0 0 c0, .slice ao 0 c]).run P w = .ok (.slice ao0 0 c0) w := by
      cases ao <;> cases ao0 <;> simp [Builtin.append_, run_underlying ht, sizeOf, typeInfo, hi, Builtin.lenOf, Builtin.firstCells, storeCells, loadCells, loadCellsFrom]
    unfold Oper.wp
    simp [execOp, ho, resolve, invoke, builtin, hs, hx, hrun, Result.andThen]
    exact h _ w hown (Upd.refl _ _)
  · obtain ⟨b, off, rfl, hc⟩ := hr hpos
    refine wp_appendA s x t ho base e i z size bytes ht hi hz hsize hby hzs hsz _ 0 [] hs hown ⟨b, off, none⟩ m c news hx hl (fun j u hj => by rw [Addr.add_lit]; exact hc j u hj) h1 hpos (by unfold maxLen; omega) (by rw [Nat.zero_add]; exact hbytes) hbase ?_
    intro v' w' r1 r2
    rw [Nat.zero_add, List.nil_append] at r1
    exact h v' w' (.inl r1) r2

theorem byts_one (bs : List Nat) : ∀ u ∈ byts bs, u.oneCell' = true := by
  intro u hu
  obtain ⟨b, _, rfl⟩ := List.mem_map.1 hu
  rfl

set_option maxRecDepth 100000 in
set_option maxHeartbeats 8000000 in
theorem drawWordUnpack_any (w : World) (bo : Option Addr) (n cap : Nat) (bs : List Nat) (h : BytesIn w bo n cap bs) (hn : n ≤ 1048576) :
    Calls Try.prog 26 #[.slice bo n cap] w fun e w' => ∃ vo m co, e = .returned (.slice vo m co) ∧ DrU w vo m co w' := by
  obtain ⟨i1, gi, gz0, gz1, gz2⟩ := info_parts infoU8
  have HB := hide h
  clear h
  go_enter Try.func26, Try.ntmps26
  go_wp2_with fail
  refine (l6Open_any _ bo n cap bs HB.out hn).mono ?_
  rintro e w1 ⟨rfl, hr1, b1⟩
  go_wp2_with fail
  refine (l72Word_any _ w1 w.heap.size 0 hr1 (by omega)).mono ?_
  rintro e w2 ⟨v2, x, p', rfl, d2, -, -, hr2, hp2, hu2⟩
  obtain ⟨pk, hpk⟩ : ∃ pk, packW x = pk := ⟨_, rfl⟩
  have hpl : pk.length ≤ 822 := by rw [← hpk]; exact (packW_len x).2
  have HPB : Hid (∀ b ∈ pk, b < 256) := by rw [← hpk]; exact packW_byte x
  have SC := hide (specWordPack_any _ x _ d2.reads)
  rw [hpk] at SC
  have c2 : Below w.heap.size w w2 := b1.trans (hu2.below b1.size (fun k h => by omega))
  have hRl := hr2.lt.1
  clear hpk d2 hr1 hu2 b1
  go_wp2_with fail
  refine SC.out.mono ?_
  rintro e w3 ⟨vo, co, rfl, r3, b3⟩
  obtain ⟨_, _, e5, hcap⟩ := r3.room
  injection e5 with e6 _ e7
  subst e6 e7
  have c3 := bAll c2 b3
  have hr3 := hr2.keepB b3
  have z3 := b3.size
  have HR3 := hide r3
  obtain ⟨nk, hnk⟩ : ∃ q, pk.length = q := ⟨_, rfl⟩
  have HNK := hide hnk
  rw [hnk] at hcap hpl HR3 ⊢
  clear SC hnk b3 r3 c2 hr2
  by_cases h0 : nk = 0
  · subst h0
    go_wp2
    go_ret
    exact ⟨_, _, _, rfl, pk, (HR3.out.row (by omega)).reads, HPB.out, hcap, by omega, c3⟩
  have h0' : ((nk : Int) == 0) = false := by simpa using h0
  go_wp2_with fail
  refine (pick_any w _ w.heap.size _ 2 hr3 (by omega) (by omega) (by omega)).mono ?_
  rintro e w4 ⟨q4, rfl, hq4, hr4, hu4⟩
  have c4 : Below w.heap.size w w4 := c3.trans (hu4.below c3.size (fun k h => by omega))
  have HR4 := hide (HR3.out.keep hu4 (fun k h e => by omega))
  have z4 := hu4.size
  clear HR3 hr3 hu4 c3
  rcases (by omega : q4 = 0 ∨ q4 = 1) with rfl | rfl
  · go_wp2
    go_ret
    exact ⟨_, _, _, rfl, pk, (HR4.out.row (by omega)).reads, HPB.out, hcap, by omega, c4⟩
  go_wp2_with fail
  refine (pick_any w _ w.heap.size _ nk hr4 (by omega) (by omega) (by omega)).mono ?_
  rintro e w5 ⟨i, rfl, hi, hr5, hu5⟩
  have c5 : Below w.heap.size w w5 := c4.trans (hu5.below c4.size (fun k h => by omega))
  have HR5 := hide (HR4.out.keep hu5 (fun k h e => by omega))
  have z5 := hu5.size
  clear HR4 hr4 hu5 c4
  go_wp2_with fail
  refine (pick_any w _ w.heap.size _ 4 hr5 (by omega) (by omega) (by omega)).mono ?_
  rintro e w6 ⟨q6, rfl, hq6, hr6, hu6⟩
  have c6 : Below w.heap.size w w6 := c5.trans (hu6.below c5.size (fun k h => by omega))
  have HR6 := hide (HR5.out.keep hu6 (fun k h e => by omega))
  have z6 := hu6.size
  clear HR5 hr5 hu6 c5
  have HRR := hide (HR6.out.row (by omega)).reads
  rcases (by omega : q6 = 0 ∨ q6 = 1 ∨ q6 = 2 ∨ q6 = 3) with rfl | rfl | rfl | rfl
  · have hle : (i : Int) ≤ (co : Int) := by omega
    go_wp2
    go_ret
    exact ⟨_, _, _, rfl, pk.take i, HRR.out.upto (by omega), fun b hb => HPB.out b (List.mem_of_mem_take hb), by omega, by omega, c6⟩
  · obtain ⟨_, _, e8, -, hl8, hrow⟩ := HR6.out.row (by omega)
    injection e8 with e9 _ e10
    subst e9 e10
    obtain ⟨g, cur, rfl, hg, hh, ht⟩ := hrow (by omega)
    have hgs := heap_lt hh
    have HH := hide hh
    have HTk := hide ht
    clear hh ht hl8
    go_wp2_with fail
    refine (pick_any w _ w.heap.size _ 256 hr6 (by omega) (by omega) (by omega)).mono ?_
    rintro e w7 ⟨q7, rfl, hq7, hr7, hu7⟩
    have c7 : Below w.heap.size w w7 := c6.trans (hu7.below c6.size (fun k h => by omega))
    have H7 := hide (hu7.keeps HH.out (by omega))
    have hsz : i < cur.size := by
      have := congrArg List.length HTk.out
      rw [List.length_take, byts_len, HNK.out] at this
      simp at this
      omega
    have f0 : w7.cell? ⟨g, i, none⟩ = some cur[i] := by rw [boxAt H7.out i]; simp [hsz]
    have f1 : w7.frozen? ⟨g, i, none⟩ = false := boxFz H7.out i
    have hii : (i : Int) < (nk : Int) := by omega
    have hq' : (q7 : Int) < 256 := by omega
    have us := Upd.setCell (S := fun j => j = g) w7 g i (.int .u8 (q7 : Int)) rfl
    have N7 := hide (row_set (.int .u8 (q7 : Int)) H7.out (j := i))
    clear hr6 hu7 hr7
    go_wp2
    go_ret
    refine ⟨_, _, _, rfl, pk.set i q7, ⟨_, _, rfl, by omega, by rw [byts_len, List.length_set, HNK.out]; omega, fun _ => ⟨g, 0, rfl, fun j u hj => ?_⟩⟩, fun b hb => ?_, hcap, by omega, c7.trans (us.below c7.size (fun k h => by omega))⟩
    · rw [Nat.zero_add, boxAt N7.out j]
      have hjl := (List.getElem?_eq_some_iff.1 hj).1
      rw [byts_len, List.length_set, HNK.out] at hjl
      simp only [byts, List.getElem?_map, List.getElem?_set] at hj
      by_cases hji : j = i
      · subst hji
        rw [Array.getElem?_setIfInBounds_self_of_lt hsz]
        rw [if_pos rfl, if_pos (by rw [HNK.out]; exact hi)] at hj
        simpa using hj
      · rw [Array.getElem?_setIfInBounds_ne (by omega)]
        rw [if_neg (by omega)] at hj
        have hc : (cur.toList.take (nk * 1))[j]? = some u := by rw [HTk.out]; simpa [byts] using hj
        rw [List.getElem?_take_of_lt (by omega)] at hc
        simpa using hc
    · rcases List.mem_or_eq_of_mem_set hb with hb | rfl
      · exact HPB.out b hb
      · exact hq7
  · have al := bal (Below.refl w6.heap.size w6) (.cells #[.int .u8 0] 5)
    have row3 := HR6.out.keepB al
    have N3 := hide (new_byte w6 0 5)
    go_wp2_with (at_builtin; refine wpList_appendA _ rfl _ _ 38 rfl w2.heap.size 5 i1 (.int .u8 0) 1 1 Try.underlying38 gi gz0 gz1 gz2 rfl (by decide) _ nk (byts pk) rfl row3 ⟨w6.heap.size, 0, none⟩ 1 1 [.int .u8 0] rfl rfl N3.out (byte_one _) (by decide) ?q63 ?qby ?qbase ?_)
    case q63 => unfold maxLen; omega
    case qby => omega
    case qbase => first | omega | (simp; omega)
    intro v7 w7 hown u7
    obtain ⟨_, _, rfl, hcc⟩ := owns_shape hown
    have R7 := hide (owns_reads hown (by omega))
    clear N3 row3 hown
    go_wp2
    go_ret
    refine ⟨_, _, _, rfl, pk ++ [0], by rw [byts_append]; exact R7.out, fun b hb => ?_, hcc, by omega, (bAll c6 al).trans (u7.below (by have := (bAll c6 al).size; omega) (fun k h => by have := h.1; have := hRl; omega))⟩
    rcases List.mem_append.1 hb with hb | hb
    · exact HPB.out b hb
    · simp at hb; omega
  · obtain ⟨_, _, e8, -, hl8, hrow⟩ := HR6.out.row (by omega)
    injection e8 with e9 _ e10
    subst e9 e10
    obtain ⟨g, cur, rfl, hg, hh, ht⟩ := hrow (by omega)
    have hgs := heap_lt hh
    have HH := hide hh
    have HTk := hide ht
    clear hh ht hl8
    have hii : (i : Int) < (nk : Int) := by omega
    have hi2 : (i : Int) ≤ (nk : Int) := by omega
    have hi3 : (i : Int) ≤ (co : Int) := by omega
    have hi4 : (nk : Int) ≤ (co : Int) := by omega
    have hne1 : ¬ co = i := by omega
    have hne2 : ¬ co - i = 0 := by omega
    have al0 : Below w6.heap.size w6 (w6.drew.alloc (.cells #[] 5)) := bal (bDrewB (Below.refl w6.heap.size w6)) _
    go_wp2
    refine wp_region_noPanic ?_
    refine wp_region_held_drew (S := (fun _ => True)) (by kernel_rfl) ?_ (fun hHeld => ?_)
    · trivial
    refine wpAnyH_take (i := 1) (v := ?v1) rfl (by kernel_rfl) (by kernel_rfl) (by kernel_rfl) (fun _ _ _ h => h) (Or.inl ⟨by rfl, ?hy1⟩) (by assumption) ?rest1
    case hy1 => ((intro w hSw; (try dsimp only at hSw); (try simp only [List.getElem_toArray, List.getElem_cons_zero, List.getElem_cons_succ]); go_simp; first | done | (with_reducible rfl)))
    simp only [Act.put, List.getElem_toArray, List.getElem_cons_zero, List.getElem_cons_succ, List.setIfInBounds_toArray, List.set_cons_zero, List.set_cons_succ]
    refine wpAnyH_take (i := 2) (v := ?v2) rfl (by kernel_rfl) (by kernel_rfl) (by kernel_rfl) (fun _ _ _ h => h) (Or.inl ⟨by rfl, ?hy2⟩) (by assumption) ?rest2
    case hy2 => ((intro w hSw; (try dsimp only at hSw); (try simp only [List.getElem_toArray, List.getElem_cons_zero, List.getElem_cons_succ]); go_simp; first | done | (with_reducible rfl)))
    simp only [Act.put, List.getElem_toArray, List.getElem_cons_zero, List.getElem_cons_succ, List.setIfInBounds_toArray, List.set_cons_zero, List.set_cons_succ]
    refine wpAnyH_take (i := 3) (v := ?v3) rfl (by kernel_rfl) (by kernel_rfl) (by kernel_rfl) (fun _ _ _ h => h) (Or.inl ⟨by rfl, ?hy3⟩) (by assumption) ?rest3
    case hy3 => ((intro w hSw; (try dsimp only at hSw); (try simp only [List.getElem_toArray, List.getElem_cons_zero, List.getElem_cons_succ]); go_simp; first | done | (with_reducible rfl)))
    simp only [Act.put, List.getElem_toArray, List.getElem_cons_zero, List.getElem_cons_succ, List.setIfInBounds_toArray, List.set_cons_zero, List.set_cons_succ]
    refine wpAnyH_take (i := 5) (v := ?v4) rfl (by kernel_rfl) (by kernel_rfl) (by kernel_rfl) (fun _ _ _ h => h) (Or.inl ⟨by rfl, ?hy4⟩) (by assumption) ?rest4
    case hy4 => ((intro w hSw; (try dsimp only at hSw); (try simp only [List.getElem_toArray, List.getElem_cons_zero, List.getElem_cons_succ]); go_simp; first | done | (with_reducible rfl)))
    simp only [Act.put, List.getElem_toArray, List.getElem_cons_zero, List.getElem_cons_succ, List.setIfInBounds_toArray, List.set_cons_zero, List.set_cons_succ]
    refine wpAnyH_take (i := 11) (v := ?v5) rfl (by kernel_rfl) (by kernel_rfl) (by kernel_rfl) (fun _ _ _ h => h) (Or.inl ⟨by rfl, ?hy5⟩) (by assumption) ?rest5
    case hy5 => ((intro w hSw; (try dsimp only at hSw); (try simp only [List.getElem_toArray, List.getElem_cons_zero, List.getElem_cons_succ]); go_simp; first | done | (with_reducible rfl)))
    simp only [Act.put, List.getElem_toArray, List.getElem_cons_zero, List.getElem_cons_succ, List.setIfInBounds_toArray, List.set_cons_zero, List.set_cons_succ]
    refine wpAnyH_take (i := 12) (v := ?v6) rfl (by kernel_rfl) (by kernel_rfl) (by kernel_rfl) (fun _ _ _ h => h) (Or.inl ⟨by rfl, ?hy6⟩) (by assumption) ?rest6
    case hy6 => ((intro w hSw; (try dsimp only at hSw); (try simp only [List.getElem_toArray, List.getElem_cons_zero, List.getElem_cons_succ]); go_simp; first | done | (with_reducible rfl)))
    simp only [Act.put, List.getElem_toArray, List.getElem_cons_zero, List.getElem_cons_succ, List.setIfInBounds_toArray, List.set_cons_zero, List.set_cons_succ]
    refine wpAnyH_take (i := 13) (v := ?v7) rfl (by kernel_rfl) (by kernel_rfl) (by kernel_rfl) (fun _ _ _ h => h) (Or.inl ⟨by rfl, ?hy7⟩) (by assumption) ?rest7
    case hy7 => ((intro w hSw; (try dsimp only at hSw); (try simp only [List.getElem_toArray, List.getElem_cons_zero, List.getElem_cons_succ]); go_simp; first | done | (with_reducible rfl)))
    simp only [Act.put, List.getElem_toArray, List.getElem_cons_zero, List.getElem_cons_succ, List.setIfInBounds_toArray, List.set_cons_zero, List.set_cons_succ]
    refine wpAnyH_ready (rs := [0]) (by kernel_rfl) (by simp) ?_
    refine AllReadyH.cons rfl (fun K hK => ?_) AllReadyH.nil
    go_simp
    (skip)
    refine hK.out _ _ ?_ (fun hHeld => ?_)
    · trivial
    clear hK K
    refine wpAnyH_ready (rs := [4]) (by kernel_rfl) (by simp) ?_
    refine AllReadyH.cons rfl (fun K hK => ?_) AllReadyH.nil
    (refine wp_copyA0 _ _ 38 rfl w6.heap.size 5 i1 (.int .u8 0) 1 1 Try.underlying38 gi gz0 gz1 gz2 rfl (by decide) _ rfl (.inr ⟨rfl, rfl, _, rfl⟩) _ i (byts (pk.take i)) rfl ((HRR.out.upto (by omega)).keep al0) (byts_one _) (by omega) (by omega) al0.size ?_; intro v7 w7 r7 u7; obtain ⟨so7, sc7, rfl⟩ := r7.shape; have b7 : Below w6.heap.size w6 w7 := al0.trans (u7.below al0.size (fun k h => h.1)); have hr7 := hr6.keepB b7; have z7 := b7.size)
    refine hK.out _ _ ?_ (fun hHeld => ?_)
    · trivial
    clear hK K
    refine wpAnyH_ready (rs := [6]) (by kernel_rfl) (by simp) ?_
    refine AllReadyH.cons rfl (fun K hK => ?_) AllReadyH.nil
    go_simp
    (go_at_call 57; refine (pick_any w _ w.heap.size _ 128 hr7 (by omega) (by omega) (by omega)).mono ?_; rintro e w8 ⟨q8, rfl, hq8, hr8, hu8⟩; have hq8' : (q8 : Int) < 128 := (by omega); have z8 := hu8.size)
    refine hK.out _ _ ?_ (fun hHeld => ?_)
    · trivial
    clear hK K
    refine wpAnyH_take (i := 7) (v := ?v8) rfl (by kernel_rfl) (by kernel_rfl) (by kernel_rfl) (fun _ _ _ h => h) (Or.inl ⟨by rfl, ?hy8⟩) (by assumption) ?rest8
    case hy8 => ((intro w hSw; (try dsimp only at hSw); (try simp only [List.getElem_toArray, List.getElem_cons_zero, List.getElem_cons_succ]); go_simp; first | done | (with_reducible rfl)))
    simp only [Act.put, List.getElem_toArray, List.getElem_cons_zero, List.getElem_cons_succ, List.setIfInBounds_toArray, List.set_cons_zero, List.set_cons_succ]
    refine wpAnyH_take (i := 8) (v := ?v9) rfl (by kernel_rfl) (by kernel_rfl) (by kernel_rfl) (fun _ _ _ h => h) (Or.inl ⟨by rfl, ?hy9⟩) (by assumption) ?rest9
    case hy9 => ((intro w hSw; (try dsimp only at hSw); (try simp only [List.getElem_toArray, List.getElem_cons_zero, List.getElem_cons_succ]); go_simp; first | done | (with_reducible rfl)))
    simp only [Act.put, List.getElem_toArray, List.getElem_cons_zero, List.getElem_cons_succ, List.setIfInBounds_toArray, List.set_cons_zero, List.set_cons_succ]
    have hv : IntKind.u8.wrap (IntKind.i64.wrap (128 + (q8 : Int))) = ((128 + q8 : Nat) : Int) := by
      simp [IntKind.wrap, IntKind.bits, IntKind.signed]
      omega
    rw [hv]
    refine wpAnyH_ready (rs := [9]) (by kernel_rfl) (by simp) ?_
    refine AllReadyH.cons rfl (fun K hK => ?_) AllReadyH.nil
    go_simp
    (skip)
    refine hK.out _ _ ?_ (fun hHeld => ?_)
    · trivial
    clear hK K
    have al9 := bal (Below.refl w8.heap.size w8) (.cells #[.int .u8 ((128 + q8 : Nat) : Int)] 5)
    have row9 := (r7.keep hu8 (fun k h e => by omega)).keepB al9
    have G9 : Hid ((w8.alloc (.cells #[.int .u8 ((128 + q8 : Nat) : Int)] 5)).heap[g]? = some (.cells cur 5 (0, 0))) := bKeeps al9 (hu8.keeps (bKeeps b7 HH.out) (by omega))
    refine wpAnyH_ready (rs := [10]) (by kernel_rfl) (by simp) ?_
    refine AllReadyH.cons rfl (fun K hK => ?_) AllReadyH.nil
    (refine wp_appendA _ _ 38 rfl w6.heap.size 5 i1 (.int .u8 0) 1 1 Try.underlying38 gi gz0 gz1 gz2 rfl (by decide) _ i (byts (pk.take i)) rfl row9 ⟨w8.heap.size, 0, none⟩ 1 1 [.int .u8 ((128 + q8 : Nat) : Int)] rfl rfl (new_byte w8 _ _) (byte_one _) (by decide) (by unfold maxLen; omega) (by omega) (by simp; omega) ?_; intro v10 w10 hown u10; obtain ⟨so10, sc10, rfl, -⟩ := owns_shape hown; have G10 := hide (u10.keeps G9.out (fun h => by have := h.1; omega)); have z10 := u10.size; rw [World.size_alloc] at z10)
    refine hK.out _ _ ?_ (fun hHeld => ?_)
    · trivial
    clear hK K
    have src : RowR w10 1 (.slice (some ⟨g, 0, none⟩) nk co) nk (byts pk) := (show Row w10 5 1 (fun _ => True) (.slice (some ⟨g, 0, none⟩) nk co) nk (byts pk) from ⟨_, _, rfl, by omega, by rw [byts_len, HNK.out]; omega, fun _ => ⟨g, cur, rfl, trivial, G10.out, HTk.out⟩⟩).reads
    obtain ⟨_, _, e11, -, hl11, hc11⟩ := RowR.from (j := i) src (by omega)
    obtain ⟨_, _, e12, hc12⟩ := hc11 (by omega)
    subst e12
    injection e11 with e13 _ e14
    injection e13 with e13
    injection e13 with e15 e16
    subst e15 e16 e14
    rw [Nat.zero_add] at hc12
    refine wpAnyH_ready (rs := [14]) (by kernel_rfl) (by simp) ?_
    refine AllReadyH.cons rfl (fun K hK => ?_) AllReadyH.nil
    (refine wp_appendA _ _ 38 rfl w6.heap.size 5 i1 (.int .u8 0) 1 1 Try.underlying38 gi gz0 gz1 gz2 rfl (by decide) _ (i + 1) _ rfl (.inl hown) ⟨g, i, none⟩ (nk - i) (co - i) (byts (pk.drop i)) rfl hl11 (fun j u hj => by rw [Addr.add_lit]; exact hc12 j u hj) (byts_one _) (by omega) (by unfold maxLen; omega) (by omega) (by omega) ?_; intro v11 w11 hown2 u11; obtain ⟨so11, sc11, rfl, hcc⟩ := owns_shape hown2)
    refine hK.out _ _ ?_ (fun hHeld => ?_)
    · trivial
    clear hK K
    refine wpAnyH_take (i := 15) (v := ?v10) rfl (by kernel_rfl) (by kernel_rfl) (by kernel_rfl) (fun _ _ _ h => h) (Or.inl ⟨by rfl, ?hy10⟩) (by assumption) ?rest10
    case hy10 => ((intro w hSw; (try dsimp only at hSw); (try simp only [List.getElem_toArray, List.getElem_cons_zero, List.getElem_cons_succ]); go_simp; first | done | (with_reducible rfl)))
    simp only [Act.put, List.getElem_toArray, List.getElem_cons_zero, List.getElem_cons_succ, List.setIfInBounds_toArray, List.set_cons_zero, List.set_cons_succ]
    refine wpAnyH_done (by kernel_rfl) ?_ _
    refine NoPanic.normal ?_
    have R11 := hide (owns_reads hown2 (by omega))
    have b10 : Below w.heap.size w w10 := ((c6.trans (b7.mono (by omega))).trans ((hu8.below (by omega) (fun k h => by omega)).trans (al9.mono (by omega)))).trans (u10.below (by simp; omega) (fun k h => by have := h.1; omega))
    have b11 : Below w.heap.size w w11 := b10.trans (u11.below (by omega) (fun k h => by have := h.1; omega))
    go_wp2
    go_ret
    refine ⟨_, _, _, rfl, pk.take i ++ [128 + q8] ++ pk.drop i, ?_, fun b hb => ?_, hcc, by omega, b11⟩
    · rw [byts_append, byts_append]
      exact R11.out
    · rcases List.mem_append.1 hb with hb | hb
      · rcases List.mem_append.1 hb with hb | hb
        · exact HPB.out b (List.mem_of_mem_take hb)
        · simp at hb; omega
      · exact HPB.out b (List.mem_of_mem_drop hb)

end Go.Proofs.Ytafojnjpllpjjaa

/- What the law FnWordStrict does: its walk; the statement itself is proved elsewhere. -/
namespace Go.Proofs.Ytafojnjpllpjjaa
open Go.RowKit

set_option maxRecDepth 100000 in
set_option maxHeartbeats 16000000 in
theorem lawWordStrict_walk (bo : Option Addr) (n cap : Nat) (bs : List Nat) (w : World) (h : BytesIn w bo n cap bs) :
    Calls Try.prog 7 #[.slice bo n cap] w fun e w' => e = .returned (.bool true) ∧ Below w.heap.size w w' := by
  by_cases hb1 : (n : Int) > 1048576
  · go_enter Try.func7, Try.ntmps7
    go_wp2
    go_ret
    exact ⟨rfl, Below.refl _ _⟩
  have HB := hide h
  clear h
  go_enter Try.func7, Try.ntmps7
  go_wp2_with fail
  refine (drawWordUnpack_any w bo n cap bs HB.out (by omega)).mono ?_
  rintro e w1 ⟨vo, m, co, rfl, cs', r1, hb, hcap, hm, c1⟩
  have R1 := hide r1
  have HBB := hide hb
  clear r1 hb HB
  go_wp2_with fail
  refine (specWordUnpack_any vo m co cs' w1 R1.out HBB.out (by omega)).mono ?_
  rintro e w2 ⟨v2, ok, rfl, x, D2, up2, -, -, b2⟩
  have c2 := bAll c1 b2
  have HU := hide up2
  obtain ⟨cs, rfl, hs, h1⟩ := D2.reads.agg
  have HI := hide (infoAt infoWd hs)
  have HZ := hide (zero26.trans hs.symm)
  have H1 := hide h1
  have al3 := bal (Below.refl w2.heap.size w2) (.cells cs 34)
  have B3 := hide (heap_alloc_new w2 (.cells cs 34))
  have D3 := hide (D2.reads.keep al3)
  have c3 := bAll c2 al3
  have R3 := hide ((R1.out.keep b2).keep al3)
  clear b2 D2 up2 hs h1 c2 al3 R1 c1
  go_wp2_with (refine wpList_store_row rfl 34 (.tmp 4) (.tmp 16) rfl w2.heap.size cs rfl rfl _ _ (heap_alloc_new w2 _) HI.out HZ.out H1.out ?_; rw [World.setRow_alloc_new])
  refine (implWordUnpack_any vo m co cs' _ R3.out HBB.out (by omega) hcap).mono ?_
  rintro e w5 ⟨v5, ok5, rfl, x5, D5, up5, -, -, b5⟩
  obtain ⟨rfl, rfl⟩ := HU.out.same up5
  have c5 := bAll c3 b5
  obtain ⟨ds, rfl, hds, hd1⟩ := D5.reads.agg
  have GI := hide (infoAt infoWd hds)
  have GZ := hide (zero26.trans hds.symm)
  have G1 := hide hd1
  have hd0 : ds[0]? = some (.int .i64 x.a0) := by
    obtain ⟨po, pc, lo, lc, e, -, -⟩ := D5.reads
    injection e with e
    rw [e]
    rfl
  have HD0 := hide hd0
  have al6 := bal (Below.refl w5.heap.size w5) (.cells ds 34)
  have B6 := hide (bKeeps al6 (bKeeps b5 B3.out))
  have C6 := hide (heap_alloc_new w5 (.cells ds 34))
  have D6 := hide ((D3.out.keep b5).keep al6)
  have E6 := hide (D5.reads.keep al6)
  have R6 := hide ((R3.out.keep b5).keep al6)
  have c6 := bAll c5 al6
  clear b5 D5 up5 hds hd1 al6 c5 c3 B3 D3 R3 hd0
  go_wp2_with (first
    | (refine wpList_store_row rfl 34 (.tmp 6) (.tmp 21) rfl w5.heap.size ds rfl rfl _ _ (heap_alloc_new w5 _) GI.out GZ.out G1.out ?_; rw [World.setRow_alloc_new])
    | (refine wpList_load_rowG (by rfl) 34 (.tmp 6) rfl w5.heap.size rfl _ ds (0, 0) _ C6.out Try.underlying34 rfl GI.out ?_)
    | (refine wpList_load_rowG (by rfl) 34 (.tmp 4) rfl w2.heap.size rfl _ cs (0, 0) _ B6.out Try.underlying34 rfl HI.out ?_))
  refine (lpWord_true _ _ x _ E6.out D6.out).mono ?_
  rintro e w7 ⟨rfl, b7⟩
  have C7 := hide (bKeeps b7 C6.out)
  have E7 := hide (E6.out.keep b7)
  have R7 := hide (R6.out.keep b7)
  have c7 := bAll c6 b7
  have f7 : Hid (w7.cell? ⟨w5.heap.size, 0, none⟩ = some (.int .i64 x.a0)) := (boxAt C7.out 0).trans HD0.out
  have HTX := hide (fun V (hV : Below w7.heap.size w7 V) => textU (P := Try.prog) (R7.out.keep hV) 38 5 9 Try.underlying38 Try.underlying5 Try.underlying9)
  clear b7 B6 C6 D6 E6 R6 c6 HD0
  have dV := bDrewB (Below.refl w7.heap.size w7)
  go_wp2_with fail
  cases ok
  · obtain rfl : x = zeroW := by
      rcases HU.out with ⟨h, _⟩ | ⟨_, h, _⟩
      · cases h
      · exact h
    have f0 : Hid (w7.cell? ⟨w5.heap.size, 0, none⟩ = some (.int .i64 0)) := f7.out
    go_wp2
    refine wp_region_noPanic ?_
    refine wp_region_held_drew (S := (fun w' => w'.cell? ⟨w5.heap.size, 0, none⟩ = some (.int .i64 0))) (by kernel_rfl) ?_ (fun hHeld => ?_)
    · exact f0.out
    refine wpAnyH_take (i := 0) (v := ?v1) rfl (by kernel_rfl) (by kernel_rfl) (by kernel_rfl) (fun _ _ _ h => h) (Or.inl ⟨by rfl, ?hy1⟩) (by assumption) ?rest1
    case hy1 => ((intro w hSw; (try dsimp only at hSw); (try simp only [List.getElem_toArray, List.getElem_cons_zero]); go_simp; first | done | (with_reducible rfl)))
    simp only [Act.put, List.getElem_toArray, List.getElem_cons_zero, List.setIfInBounds_toArray, List.set_cons_zero, List.set_cons_succ]
    refine wpAnyH_take (i := 1) (v := ?v2) rfl (by kernel_rfl) (by kernel_rfl) (by kernel_rfl) (fun _ _ _ h => h) (Or.inl ⟨by rfl, ?hy2⟩) (by assumption) ?rest2
    case hy2 => ((intro w hSw; (try dsimp only at hSw); (try simp only [List.getElem_toArray, List.getElem_cons_zero, List.getElem_cons_succ]); go_simp; first | done | (with_reducible rfl)))
    simp only [Act.put, List.getElem_toArray, List.getElem_cons_zero, List.getElem_cons_succ, List.setIfInBounds_toArray, List.set_cons_zero, List.set_cons_succ]
    refine wpAnyH_take (i := 2) (v := ?v3) rfl (by kernel_rfl) (by kernel_rfl) (by kernel_rfl) (fun _ _ _ h => h) (Or.inl ⟨by rfl, ?hy3⟩) (by assumption) ?rest3
    case hy3 => ((intro w hSw; (try dsimp only at hSw); (try simp only [List.getElem_toArray, List.getElem_cons_zero, List.getElem_cons_succ]); go_simp; first | done | (with_reducible rfl)))
    simp only [Act.put, List.getElem_toArray, List.getElem_cons_zero, List.getElem_cons_succ, List.setIfInBounds_toArray, List.set_cons_zero, List.set_cons_succ]
    refine wpAnyH_take (i := 3) (v := ?v4) rfl (by kernel_rfl) (by kernel_rfl) (by kernel_rfl) (fun _ _ _ h => h) (Or.inl ⟨by rfl, ?hy4⟩) (by assumption) ?rest4
    case hy4 => ((intro w hSw; (try dsimp only at hSw); (try simp only [List.getElem_toArray, List.getElem_cons_zero, List.getElem_cons_succ]); go_simp; first | done | (with_reducible rfl)))
    simp only [Act.put, List.getElem_toArray, List.getElem_cons_zero, List.getElem_cons_succ, List.setIfInBounds_toArray, List.set_cons_zero, List.set_cons_succ]
    refine wpAnyH_take (i := 4) (v := ?v5) rfl (by kernel_rfl) (by kernel_rfl) (by kernel_rfl) (fun _ _ _ h => h) (Or.inl ⟨by rfl, ?hy5⟩) (by assumption) ?rest5
    case hy5 => ((intro w hSw; (try dsimp only at hSw); (try simp only [List.getElem_toArray, List.getElem_cons_zero, List.getElem_cons_succ]); go_simp; first | done | (with_reducible rfl)))
    simp only [Act.put, List.getElem_toArray, List.getElem_cons_zero, List.getElem_cons_succ, List.setIfInBounds_toArray, List.set_cons_zero, List.set_cons_succ]
    refine wpAnyH_take (i := 5) (v := ?v6) rfl (by kernel_rfl) (by kernel_rfl) (by kernel_rfl) (fun _ _ _ h => h) (Or.inl ⟨by rfl, ?hy6⟩) (by assumption) ?rest6
    case hy6 => ((intro w hSw; (try dsimp only at hSw); (try simp only [List.getElem_toArray, List.getElem_cons_zero, List.getElem_cons_succ]); go_simp; first | done | (with_reducible rfl)))
    simp only [Act.put, List.getElem_toArray, List.getElem_cons_zero, List.getElem_cons_succ, List.setIfInBounds_toArray, List.set_cons_zero, List.set_cons_succ]
    refine wpAnyH_take (i := 6) (v := ?v7) rfl (by kernel_rfl) (by kernel_rfl) (by kernel_rfl) (fun _ _ _ h => h) (Or.inl ⟨by rfl, ?hy7⟩) (by assumption) ?rest7
    case hy7 => ((intro w hSw; (try dsimp only at hSw); (try simp only [List.getElem_toArray, List.getElem_cons_zero, List.getElem_cons_succ]); go_simp; first | done | (with_reducible rfl)))
    simp only [Act.put, List.getElem_toArray, List.getElem_cons_zero, List.getElem_cons_succ, List.setIfInBounds_toArray, List.set_cons_zero, List.set_cons_succ]
    refine wpAnyH_take (i := 7) (v := ?v8) rfl (by kernel_rfl) (by kernel_rfl) (by kernel_rfl) (fun _ _ _ h => h) (Or.inl ⟨by rfl, ?hy8⟩) (by assumption) ?rest8
    case hy8 => ((intro w hSw; (try dsimp only at hSw); (try simp only [List.getElem_toArray, List.getElem_cons_zero, List.getElem_cons_succ]); go_simp; first | done | (with_reducible rfl)))
    simp only [Act.put, List.getElem_toArray, List.getElem_cons_zero, List.getElem_cons_succ, List.setIfInBounds_toArray, List.set_cons_zero, List.set_cons_succ]
    refine wpAnyH_take (i := 8) (v := undef) rfl (by kernel_rfl) (by kernel_rfl) (by kernel_rfl) (fun _ _ _ h => h) (Or.inr ⟨by rfl, rfl⟩) (by assumption) ?_
    simp only [Act.put, List.getElem_toArray, List.getElem_cons_zero, List.getElem_cons_succ, List.setIfInBounds_toArray, List.set_cons_zero, List.set_cons_succ]
    refine wpAnyH_take (i := 9) (v := undef) rfl (by kernel_rfl) (by kernel_rfl) (by kernel_rfl) (fun _ _ _ h => h) (Or.inr ⟨by rfl, rfl⟩) (by assumption) ?_
    simp only [Act.put, List.getElem_toArray, List.getElem_cons_zero, List.getElem_cons_succ, List.setIfInBounds_toArray, List.set_cons_zero, List.set_cons_succ]
    refine wpAnyH_take (i := 10) (v := undef) rfl (by kernel_rfl) (by kernel_rfl) (by kernel_rfl) (fun _ _ _ h => h) (Or.inr ⟨by rfl, rfl⟩) (by assumption) ?_
    simp only [Act.put, List.getElem_toArray, List.getElem_cons_zero, List.getElem_cons_succ, List.setIfInBounds_toArray, List.set_cons_zero, List.set_cons_succ]
    refine wpAnyH_take (i := 11) (v := undef) rfl (by kernel_rfl) (by kernel_rfl) (by kernel_rfl) (fun _ _ _ h => h) (Or.inr ⟨by rfl, rfl⟩) (by assumption) ?_
    simp only [Act.put, List.getElem_toArray, List.getElem_cons_zero, List.getElem_cons_succ, List.setIfInBounds_toArray, List.set_cons_zero, List.set_cons_succ]
    refine wpAnyH_take (i := 12) (v := undef) rfl (by kernel_rfl) (by kernel_rfl) (by kernel_rfl) (fun _ _ _ h => h) (Or.inr ⟨by rfl, rfl⟩) (by assumption) ?_
    simp only [Act.put, List.getElem_toArray, List.getElem_cons_zero, List.getElem_cons_succ, List.setIfInBounds_toArray, List.set_cons_zero, List.set_cons_succ]
    refine wpAnyH_take (i := 13) (v := undef) rfl (by kernel_rfl) (by kernel_rfl) (by kernel_rfl) (fun _ _ _ h => h) (Or.inr ⟨by rfl, rfl⟩) (by assumption) ?_
    simp only [Act.put, List.getElem_toArray, List.getElem_cons_zero, List.getElem_cons_succ, List.setIfInBounds_toArray, List.set_cons_zero, List.set_cons_succ]
    refine wpAnyH_take (i := 14) (v := undef) rfl (by kernel_rfl) (by kernel_rfl) (by kernel_rfl) (fun _ _ _ h => h) (Or.inr ⟨by rfl, rfl⟩) (by assumption) ?_
    simp only [Act.put, List.getElem_toArray, List.getElem_cons_zero, List.getElem_cons_succ, List.setIfInBounds_toArray, List.set_cons_zero, List.set_cons_succ]
    refine wpAnyH_take (i := 15) (v := undef) rfl (by kernel_rfl) (by kernel_rfl) (by kernel_rfl) (fun _ _ _ h => h) (Or.inr ⟨by rfl, rfl⟩) (by assumption) ?_
    simp only [Act.put, List.getElem_toArray, List.getElem_cons_zero, List.getElem_cons_succ, List.setIfInBounds_toArray, List.set_cons_zero, List.set_cons_succ]
    refine wpAnyH_take (i := 16) (v := undef) rfl (by kernel_rfl) (by kernel_rfl) (by kernel_rfl) (fun _ _ _ h => h) (Or.inr ⟨by rfl, rfl⟩) (by assumption) ?_
    simp only [Act.put, List.getElem_toArray, List.getElem_cons_zero, List.getElem_cons_succ, List.setIfInBounds_toArray, List.set_cons_zero, List.set_cons_succ]
    refine wpAnyH_take (i := 17) (v := undef) rfl (by kernel_rfl) (by kernel_rfl) (by kernel_rfl) (fun _ _ _ h => h) (Or.inr ⟨by rfl, rfl⟩) (by assumption) ?_
    simp only [Act.put, List.getElem_toArray, List.getElem_cons_zero, List.getElem_cons_succ, List.setIfInBounds_toArray, List.set_cons_zero, List.set_cons_succ]
    refine wpAnyH_take (i := 18) (v := undef) rfl (by kernel_rfl) (by kernel_rfl) (by kernel_rfl) (fun _ _ _ h => h) (Or.inr ⟨by rfl, rfl⟩) (by assumption) ?_
    simp only [Act.put, List.getElem_toArray, List.getElem_cons_zero, List.getElem_cons_succ, List.setIfInBounds_toArray, List.set_cons_zero, List.set_cons_succ]
    refine wpAnyH_take (i := 19) (v := undef) rfl (by kernel_rfl) (by kernel_rfl) (by kernel_rfl) (fun _ _ _ h => h) (Or.inr ⟨by rfl, rfl⟩) (by assumption) ?_
    simp only [Act.put, List.getElem_toArray, List.getElem_cons_zero, List.getElem_cons_succ, List.setIfInBounds_toArray, List.set_cons_zero, List.set_cons_succ]
    refine wpAnyH_take (i := 20) (v := undef) rfl (by kernel_rfl) (by kernel_rfl) (by kernel_rfl) (fun _ _ _ h => h) (Or.inr ⟨by rfl, rfl⟩) (by assumption) ?_
    simp only [Act.put, List.getElem_toArray, List.getElem_cons_zero, List.getElem_cons_succ, List.setIfInBounds_toArray, List.set_cons_zero, List.set_cons_succ]
    refine wpAnyH_take (i := 21) (v := ?v9) rfl (by kernel_rfl) (by kernel_rfl) (by kernel_rfl) (fun _ _ _ h => h) (Or.inl ⟨by rfl, ?hy9⟩) (by assumption) ?rest9
    case hy9 => ((intro w hSw; (try dsimp only at hSw); (try simp only [List.getElem_toArray, List.getElem_cons_zero, List.getElem_cons_succ]); go_simp; first | done | (with_reducible rfl)))
    simp only [Act.put, List.getElem_toArray, List.getElem_cons_zero, List.getElem_cons_succ, List.setIfInBounds_toArray, List.set_cons_zero, List.set_cons_succ]
    refine wpAnyH_take (i := 22) (v := ?v10) rfl (by kernel_rfl) (by kernel_rfl) (by kernel_rfl) (fun _ _ _ h => h) (Or.inl ⟨by rfl, ?hy10⟩) (by assumption) ?rest10
    case hy10 => ((intro w hSw; (try dsimp only at hSw); (try simp only [List.getElem_toArray, List.getElem_cons_zero, List.getElem_cons_succ]); go_simp; first | done | (with_reducible rfl)))
    simp only [Act.put, List.getElem_toArray, List.getElem_cons_zero, List.getElem_cons_succ, List.setIfInBounds_toArray, List.set_cons_zero, List.set_cons_succ]
    refine wpAnyH_done (by kernel_rfl) ?_ _
    refine NoPanic.normal ?_
    go_wp2
    go_ret
    exact ⟨rfl, bDrewB c7⟩
  · obtain ⟨hk, hp⟩ : okW x = true ∧ packW x = cs' := by
      rcases HU.out with ⟨_, h1, h2, _⟩ | ⟨h, _⟩
      · exact ⟨h1, h2⟩
      · cases h
    have HK := hide hk
    have hpl : cs'.length ≤ 822 := by rw [← hp]; exact (packW_len x).2
    have IC := fun v w h => implWordPack_any v x w h
    have IO := fun v w h => implWordOk_any v x w h
    rw [hp] at IC
    rw [hk] at IO
    clear hk hp f7
    go_wp2
    refine wp_region_noPanic ?_
    refine wp_region_held_drew (S := (fun w' => w'.heap[w5.heap.size]? = some (.cells ds 34 (0, 0)) ∧ (convert 38 9 (.slice vo m co)).run Try.prog w' = .ok (.string (txtU cs')) w')) (by kernel_rfl) ?_ (fun hHeld => ?_)
    · exact ⟨C7.out, HTX.out _ dV⟩
    refine wpAnyH_take (i := 0) (v := ?v11) rfl (by kernel_rfl) (by kernel_rfl) (by kernel_rfl) (fun _ _ _ h => h) (Or.inl ⟨by rfl, ?hy11⟩) (by assumption) ?rest11
    case hy11 => ((intro w hSw; (try dsimp only at hSw); (try simp only [List.getElem_toArray, List.getElem_cons_zero]); go_simp; first | done | (with_reducible rfl)))
    simp only [Act.put, List.getElem_toArray, List.getElem_cons_zero, List.setIfInBounds_toArray, List.set_cons_zero, List.set_cons_succ]
    refine wpAnyH_take (i := 1) (v := ?v12) rfl (by kernel_rfl) (by kernel_rfl) (by kernel_rfl) (fun _ _ _ h => h) (Or.inl ⟨by rfl, ?hy12⟩) (by assumption) ?rest12
    case hy12 => ((intro w hSw; (try dsimp only at hSw); (try simp only [List.getElem_toArray, List.getElem_cons_zero, List.getElem_cons_succ]); go_simp; first | done | (with_reducible rfl)))
    simp only [Act.put, List.getElem_toArray, List.getElem_cons_zero, List.getElem_cons_succ, List.setIfInBounds_toArray, List.set_cons_zero, List.set_cons_succ]
    refine wpAnyH_take (i := 2) (v := ?v13) rfl (by kernel_rfl) (by kernel_rfl) (by kernel_rfl) (fun _ _ _ h => h) (Or.inl ⟨by rfl, ?hy13⟩) (by assumption) ?rest13
    case hy13 => ((intro w hSw; (try dsimp only at hSw); (try simp only [List.getElem_toArray, List.getElem_cons_zero, List.getElem_cons_succ]); go_simp; first | done | (with_reducible rfl)))
    simp only [Act.put, List.getElem_toArray, List.getElem_cons_zero, List.getElem_cons_succ, List.setIfInBounds_toArray, List.set_cons_zero, List.set_cons_succ]
    refine wpAnyH_take (i := 3) (v := undef) rfl (by kernel_rfl) (by kernel_rfl) (by kernel_rfl) (fun _ _ _ h => h) (Or.inr ⟨by rfl, rfl⟩) (by assumption) ?_
    simp only [Act.put, List.getElem_toArray, List.getElem_cons_zero, List.getElem_cons_succ, List.setIfInBounds_toArray, List.set_cons_zero, List.set_cons_succ]
    refine wpAnyH_take (i := 4) (v := undef) rfl (by kernel_rfl) (by kernel_rfl) (by kernel_rfl) (fun _ _ _ h => h) (Or.inr ⟨by rfl, rfl⟩) (by assumption) ?_
    simp only [Act.put, List.getElem_toArray, List.getElem_cons_zero, List.getElem_cons_succ, List.setIfInBounds_toArray, List.set_cons_zero, List.set_cons_succ]
    refine wpAnyH_take (i := 5) (v := undef) rfl (by kernel_rfl) (by kernel_rfl) (by kernel_rfl) (fun _ _ _ h => h) (Or.inr ⟨by rfl, rfl⟩) (by assumption) ?_
    simp only [Act.put, List.getElem_toArray, List.getElem_cons_zero, List.getElem_cons_succ, List.setIfInBounds_toArray, List.set_cons_zero, List.set_cons_succ]
    refine wpAnyH_take (i := 6) (v := ?v14) rfl (by kernel_rfl) (by kernel_rfl) (by kernel_rfl) (fun _ _ _ h => h) (Or.inl ⟨by rfl, ?hy14⟩) (by assumption) ?rest14
    case hy14 => ((intro w hSw; (try dsimp only at hSw); (try simp only [List.getElem_toArray, List.getElem_cons_zero, List.getElem_cons_succ]); go_simp; first | done | (with_reducible rfl)))
    simp only [Act.put, List.getElem_toArray, List.getElem_cons_zero, List.getElem_cons_succ, List.setIfInBounds_toArray, List.set_cons_zero, List.set_cons_succ]
    refine wpAnyH_take (i := 7) (v := ?v15) rfl (by kernel_rfl) (by kernel_rfl) (by kernel_rfl) (fun _ _ _ h => h) (Or.inl ⟨by rfl, ?hy15⟩) (by assumption) ?rest15
    case hy15 => ((intro w hSw; (try dsimp only at hSw); (try simp only [List.getElem_toArray, List.getElem_cons_zero, List.getElem_cons_succ]); go_simp; first | done | (with_reducible rfl)))
    simp only [Act.put, List.getElem_toArray, List.getElem_cons_zero, List.getElem_cons_succ, List.setIfInBounds_toArray, List.set_cons_zero, List.set_cons_succ]
    refine wpAnyH_take (i := 8) (v := ?v16) rfl (by kernel_rfl) (by kernel_rfl) (by kernel_rfl) (fun _ _ _ h => h) (Or.inl ⟨by rfl, ?hy16⟩) (by assumption) ?rest16
    case hy16 => ((intro w hSw; (try dsimp only at hSw); (try simp only [List.getElem_toArray, List.getElem_cons_zero, List.getElem_cons_succ]); go_simp; first | done | (with_reducible rfl)))
    simp only [Act.put, List.getElem_toArray, List.getElem_cons_zero, List.getElem_cons_succ, List.setIfInBounds_toArray, List.set_cons_zero, List.set_cons_succ]
    refine wpAnyH_take (i := 9) (v := ?v17) rfl (by kernel_rfl) (by kernel_rfl) (by kernel_rfl) (fun _ _ _ h => h) (Or.inl ⟨by rfl, ?hy17⟩) (by assumption) ?rest17
    case hy17 => ((intro w hSw; (try dsimp only at hSw); (try simp only [List.getElem_toArray, List.getElem_cons_zero, List.getElem_cons_succ]); go_simp; first | done | (with_reducible rfl)))
    simp only [Act.put, List.getElem_toArray, List.getElem_cons_zero, List.getElem_cons_succ, List.setIfInBounds_toArray, List.set_cons_zero, List.set_cons_succ]
    refine wpAnyH_take (i := 10) (v := .agg ds) rfl (by kernel_rfl) (by kernel_rfl) (by kernel_rfl) (fun _ _ _ h => h) (yields_row rfl 34 (.tmp 6) rfl (w5.heap.size) rfl _ ds _ (fun _ h => h.1) Try.underlying34 rfl GI.out) (by assumption) ?_
    simp only [Act.put, List.getElem_toArray, List.getElem_cons_zero, List.getElem_cons_succ, List.setIfInBounds_toArray, List.set_cons_zero, List.set_cons_succ]
    refine wpAnyH_ready (rs := [11]) (by kernel_rfl) (by simp) ?_
    refine AllReadyH.cons rfl (fun K hK => ?_) AllReadyH.nil
    go_simp
    (go_at_call 12; refine (IO _ _ (E7.out.keep dV)).mono ?_; rintro e w8 ⟨rfl, b8⟩; have b8' : Below w7.heap.size w7 w8 := bUndrew b8; have C8 := hide (bKeeps b8' C7.out))
    refine hK.out _ _ ?_ (fun hHeld => ?_)
    · exact ⟨C8.out, HTX.out _ b8'⟩
    clear hK K
    refine wpAnyH_take (i := 12) (v := ?v18) rfl (by kernel_rfl) (by kernel_rfl) (by kernel_rfl) (fun _ _ _ h => h) (Or.inl ⟨by rfl, ?hy18⟩) (by assumption) ?rest18
    case hy18 => ((intro w hSw; (try dsimp only at hSw); (try simp only [List.getElem_toArray, List.getElem_cons_zero, List.getElem_cons_succ]); go_simp; first | done | (with_reducible rfl)))
    simp only [Act.put, List.getElem_toArray, List.getElem_cons_zero, List.getElem_cons_succ, List.setIfInBounds_toArray, List.set_cons_zero, List.set_cons_succ]
    refine wpAnyH_take (i := 13) (v := ?v19) rfl (by kernel_rfl) (by kernel_rfl) (by kernel_rfl) (fun _ _ _ h => h) (Or.inl ⟨by rfl, ?hy19⟩) (by assumption) ?rest19
    case hy19 => ((intro w hSw; (try dsimp only at hSw); (try simp only [List.getElem_toArray, List.getElem_cons_zero, List.getElem_cons_succ]); go_simp; first | done | (with_reducible rfl)))
    simp only [Act.put, List.getElem_toArray, List.getElem_cons_zero, List.getElem_cons_succ, List.setIfInBounds_toArray, List.set_cons_zero, List.set_cons_succ]
    refine wpAnyH_take (i := 14) (v := .agg ds) rfl (by kernel_rfl) (by kernel_rfl) (by kernel_rfl) (fun _ _ _ h => h) (yields_row rfl 34 (.tmp 6) rfl (w5.heap.size) rfl _ ds _ (fun _ h => h.1) Try.underlying34 rfl GI.out) (by assumption) ?_
    simp only [Act.put, List.getElem_toArray, List.getElem_cons_zero, List.getElem_cons_succ, List.setIfInBounds_toArray, List.set_cons_zero, List.set_cons_succ]
    refine wpAnyH_take (i := 17) (v := ?v20) rfl (by kernel_rfl) (by kernel_rfl) (by kernel_rfl) (fun _ _ _ h => h) (Or.inl ⟨by rfl, ?hy20⟩) (by assumption) ?rest20
    case hy20 => ((intro w hSw; (try dsimp only at hSw); (try simp only [List.getElem_toArray, List.getElem_cons_zero, List.getElem_cons_succ]); go_simp; first | done | (with_reducible rfl)))
    simp only [Act.put, List.getElem_toArray, List.getElem_cons_zero, List.getElem_cons_succ, List.setIfInBounds_toArray, List.set_cons_zero, List.set_cons_succ]
    refine wpAnyH_take (i := 18) (v := ?v21) rfl (by kernel_rfl) (by kernel_rfl) (by kernel_rfl) (fun _ _ _ h => h) (Or.inl ⟨by rfl, ?hy21⟩) (by assumption) ?rest21
    case hy21 => ((intro w hSw; (try dsimp only at hSw); (try simp only [List.getElem_toArray, List.getElem_cons_zero, List.getElem_cons_succ]); go_simp; first | done | (with_reducible rfl)))
    simp only [Act.put, List.getElem_toArray, List.getElem_cons_zero, List.getElem_cons_succ, List.setIfInBounds_toArray, List.set_cons_zero, List.set_cons_succ]
    refine wpAnyH_ready (rs := [15]) (by kernel_rfl) (by simp) ?_
    refine AllReadyH.cons rfl (fun K hK => ?_) AllReadyH.nil
    go_simp
    (go_at_call 15; refine (IC _ _ (E7.out.keep b8')).mono ?_; rintro e w9 ⟨vo9, co9, rfl, r9, b9⟩; have b9' := bAll b8' b9; have C9 := hide (bKeeps b9 C8.out))
    refine hK.out _ _ ?_ (fun hHeld => ?_)
    · exact ⟨C9.out, HTX.out _ b9'⟩
    clear hK K
    refine wpAnyH_ready (rs := [16]) (by kernel_rfl) (by simp) ?_
    refine AllReadyH.cons rfl (fun K hK => ?_) AllReadyH.nil
    (refine wp_convertA 38 9 _ rfl (.slice vo9 cs'.length co9) (.string (txtU cs')) rfl (textU (r9.row (by omega)).reads 38 5 9 Try.underlying38 Try.underlying5 Try.underlying9) ?_)
    refine hK.out _ _ ?_ (fun hHeld => ?_)
    · exact ⟨C9.out, HTX.out _ b9'⟩
    clear hK K
    refine wpAnyH_take (i := 19) (v := ?v22) rfl (by kernel_rfl) (by kernel_rfl) (by kernel_rfl) (fun _ _ _ h => h) (Or.inl ⟨by rfl, ?hy22⟩) (by assumption) ?rest22
    case hy22 => ((intro w hSw; (try dsimp only at hSw); (try simp only [List.getElem_toArray, List.getElem_cons_zero, List.getElem_cons_succ]); go_simp; first | done | (with_reducible rfl)))
    simp only [Act.put, List.getElem_toArray, List.getElem_cons_zero, List.getElem_cons_succ, List.setIfInBounds_toArray, List.set_cons_zero, List.set_cons_succ]
    refine wpAnyH_take (i := 20) (v := ?v23) rfl (by kernel_rfl) (by kernel_rfl) (by kernel_rfl) (fun _ _ _ h => h) (Or.inl ⟨by rfl, ?hy23⟩) (by assumption) ?rest23
    case hy23 => ((intro w hSw; (try dsimp only at hSw); (try simp only [List.getElem_toArray, List.getElem_cons_zero, List.getElem_cons_succ]); go_simp; first | done | (with_reducible rfl)))
    simp only [Act.put, List.getElem_toArray, List.getElem_cons_zero, List.getElem_cons_succ, List.setIfInBounds_toArray, List.set_cons_zero, List.set_cons_succ]
    refine wpAnyH_take (i := 21) (v := ?v24) rfl (by kernel_rfl) (by kernel_rfl) (by kernel_rfl) (fun _ _ _ h => h) (Or.inl ⟨by rfl, ?hy24⟩) (by assumption) ?rest24
    case hy24 => ((intro w hSw; (try dsimp only at hSw); (try simp only [List.getElem_toArray, List.getElem_cons_zero, List.getElem_cons_succ]); go_simp; first | done | (with_reducible rfl)))
    simp only [Act.put, List.getElem_toArray, List.getElem_cons_zero, List.getElem_cons_succ, List.setIfInBounds_toArray, List.set_cons_zero, List.set_cons_succ]
    refine wpAnyH_take (i := 22) (v := ?v25) rfl (by kernel_rfl) (by kernel_rfl) (by kernel_rfl) (fun _ _ _ h => h) (Or.inl ⟨by rfl, ?hy25⟩) (by assumption) ?rest25
    case hy25 => ((intro w hSw; (try dsimp only at hSw); (try simp only [List.getElem_toArray, List.getElem_cons_zero, List.getElem_cons_succ]); go_simp; first | done | (with_reducible rfl)))
    simp only [Act.put, List.getElem_toArray, List.getElem_cons_zero, List.getElem_cons_succ, List.setIfInBounds_toArray, List.set_cons_zero, List.set_cons_succ]
    refine wpAnyH_done (by kernel_rfl) ?_ _
    refine NoPanic.normal ?_
    go_wp2
    go_ret
    exact ⟨rfl, bAll c7 b9'⟩

end Go.Proofs.Ytafojnjpllpjjaa
