/- What the laws on pieces are drawn from: contracts; no statement of the seat is proved here. -/
import Derived.Test.YtcanhoemhdkjkabBD
namespace Go.Proofs.Ytcanhoemhdkjkab
open Go.RowKit

set_option maxRecDepth 100000 in
set_option maxHeartbeats 2000000 in
theorem l72PiecesAny_any (w0 w : World) (R p : Nat) (hr : Rd w0 w R p) (hp : p ≤ 800000) :
    Calls Try.prog 26 #[.pointer (some ⟨R, 0, none⟩)] w fun e w' => ∃ v xs p', e = .returned v ∧ RowA w' w.heap.size 31 4 v xs.length (pcells xs) ∧ xs.length ≤ 61 ∧ Rd w0 w' R p' ∧ p' ≤ p + 2000 ∧ Upd (fun j => j = R) w w' := by
  obtain ⟨i1, gi, gz0, gz1, gz2⟩ := info_parts infoPc
  obtain ⟨hRl, hR0, hw0⟩ := hr.lt
  have hT : ∀ j, w.heap.size ≤ j → ¬ j = R := fun j h e => by omega
  go_enter Try.func26, Try.ntmps26
  go_wp2_with fail
  refine (l72Pieces_any w0 w R p 9 hr (by omega) (by omega) (by omega)).mono ?_
  rintro e w1 ⟨v1, xs, p1, rfl, hrow1, hl1, hr1, hp1, hu1⟩
  have z1 := hu1.size
  go_wp2_with fail
  refine (pick_any w0 _ R p1 14 hr1 (by omega) (by omega) (by omega)).mono ?_
  rintro e w2 ⟨q, rfl, hq, hr2, hu2⟩
  have u2 : Upd (fun j => j = R) w w2 := hu1.trans hu2
  have hrow2 := hrow1.keep hu2 hT
  have z2 := u2.size
  clear hrow1
  have HW := hide hrow2
  have HL := hide hl1
  clear hrow2 hl1
  by_cases h0 : q = 0
  · subst h0
    have al := (Below.refl w2.heap.size w2).alloc (Nat.le_refl _) (.cells #[.int .i64 1, .int .i64 0, .int .i64 1, .int .i64 0] 31)
    go_wp2_with (at_builtin; refine wpList_appendW w2 _ rfl _ _ 23 rfl w.heap.size 31 i1 (.agg #[.int .i64 0, .int .i64 0, .int .i64 0, .int .i64 0]) 4 32 Try.underlying23 gi gz0 gz1 gz2 rfl (by decide) _ xs.length (pcells xs) rfl HW.out ?qb ⟨w2.heap.size, 0, none⟩ 1 1 (pcell (1, 0, 1, 0)) rfl rfl ?qn (pcell_one _) (by decide) ?q63 ?qby ?_)
    case qb => exact ⟨al, z2⟩
    case qn => first | exact fun _ _ h => h | exact newP_cells _ _ _
    case q63 => have := HL.out; unfold maxLen; omega
    case qby => have := HL.out; omega
    intro v4 w4 hown u4
    go_wp2
    go_ret
    have U4 : Upd (fun j => w.heap.size ≤ j) w2 w4 := (Upd.ofBelow al).trans (u4.mono (fun _ h => h.1))
    refine ⟨v4, xs ++ [(1, 0, 1, 0)], p1 + 1, rfl, .inl (by rw [List.length_append, pcells_snoc]; exact hown), by have := HL.out; simp; omega, hr2.keep U4 (by omega) (fun k h => by omega), by omega, u2.transN U4 (fun i h => h)⟩
  · have e0 : ((q : Int) == 0) = false := by simpa using h0
    by_cases h1 : q = 1
    · subst h1
      have al := (Below.refl w2.heap.size w2).alloc (Nat.le_refl _) (.cells #[.int .i64 99, .int .i64 (-1), .int .i64 1, .int .i64 0] 31)
      go_wp2_with (at_builtin; refine wpList_appendW w2 _ rfl _ _ 23 rfl w.heap.size 31 i1 (.agg #[.int .i64 0, .int .i64 0, .int .i64 0, .int .i64 0]) 4 32 Try.underlying23 gi gz0 gz1 gz2 rfl (by decide) _ xs.length (pcells xs) rfl HW.out ?qb ⟨w2.heap.size, 0, none⟩ 1 1 (pcell (99, -1, 1, 0)) rfl rfl ?qn (pcell_one _) (by decide) ?q63 ?qby ?_)
      case qb => exact ⟨al, z2⟩
      case qn => first | exact fun _ _ h => h | exact newP_cells _ _ _
      case q63 => have := HL.out; unfold maxLen; omega
      case qby => have := HL.out; omega
      intro v4 w4 hown u4
      go_wp2
      go_ret
      have U4 : Upd (fun j => w.heap.size ≤ j) w2 w4 := (Upd.ofBelow al).trans (u4.mono (fun _ h => h.1))
      refine ⟨v4, xs ++ [(99, -1, 1, 0)], p1 + 1, rfl, .inl (by rw [List.length_append, pcells_snoc]; exact hown), by have := HL.out; simp; omega, hr2.keep U4 (by omega) (fun k h => by omega), by omega, u2.transN U4 (fun i h => h)⟩
    · have e1 : ((q : Int) == 1) = false := by simp; omega
      by_cases h2 : q = 2
      · subst h2
        have al := (Below.refl w2.heap.size w2).alloc (Nat.le_refl _) (.cells #[] 31)
        clear HW HL
        go_wp2
        go_loopw [3, 4] (fun o n wr => ∃ (ys : List Pc) (p' k : Nat), n = .int .i64 k ∧ k ≤ 61 ∧ ys.length = k ∧ RowA wr w.heap.size 31 4 o ys.length (pcells ys) ∧ Rd w0 wr R p' ∧ p' = p1 + 1 + k ∧ Upd (fun j => j = R) w wr) (fun _ n _ => 62 - (intOf n).toNat)
        case atStart => exact ⟨[], p1 + 1, 0, rfl, by omega, rfl, .inr ⟨rfl, rfl, _, rfl⟩, hr2.keepB al, rfl, u2.trans (Upd.ofBelow al)⟩
        case round =>
          obtain ⟨ys, p', k, rfl, hk, hl, hrow, hrr, hpp, hu⟩ := hrel
          have hpb : p' ≤ 900000 := by omega
          have Hpp := hide hpp
          have HL := hide hl
          have HW := hide hrow
          clear hl hrow hpp
          go_wp2_with fail
          refine (pick_any w0 _ R p' 2 hrr (by omega) (by omega) (by omega)).mono ?_
          rintro e w3 ⟨q3, rfl, hq3, hr3, hu3⟩
          have U3 := hu.trans hu3
          have z3 := U3.size
          by_cases hlt : k < 60 + q3
          · have hi : (k : Int) < 60 + (q3 : Int) := by omega
            have al3 := (Below.refl w3.heap.size w3).alloc (Nat.le_refl _) (.cells #[.int .i64 1, .int .i64 (k : Int), .int .i64 1, .int .i64 (k : Int)] 31)
            have HW3 := hide (HW.out.keep hu3 hT)
            go_wp2_with (at_builtin; refine wpList_appendW w3 _ rfl _ _ 23 rfl w.heap.size 31 i1 (.agg #[.int .i64 0, .int .i64 0, .int .i64 0, .int .i64 0]) 4 32 Try.underlying23 gi gz0 gz1 gz2 rfl (by decide) _ ys.length (pcells ys) rfl HW3.out ?qb ⟨w3.heap.size, 0, none⟩ 1 1 (pcell (1, (k : Int), 1, (k : Int))) rfl rfl ?qn (pcell_one _) (by decide) ?q63 ?qby ?_)
            case qb => exact ⟨al3, z3⟩
            case qn => first | exact fun _ _ h => h | exact newP_cells _ _ _
            case q63 => have := HL.out; unfold maxLen; omega
            case qby => have := HL.out; omega
            intro v4 w4 hown u4
            have U4 : Upd (fun j => w.heap.size ≤ j) w3 w4 := (Upd.ofBelow al3).trans (u4.mono (fun _ h => h.1))
            go_wp2
            go_roundw
            case rel =>
              have hlo := HL.out
              have hpo := Hpp.out
              exact ⟨ys ++ [(1, (k : Int), 1, (k : Int))], p' + 1, k + 1, by go_num, by omega, by simp; omega, .inl (by rw [List.length_append, pcells_snoc]; exact hown), hr3.keep U4 (by omega) (fun k h => by omega), by omega, U3.transN U4 (fun i h => h)⟩
            case measure => simp [intOf]; omega
          · have hi : ¬ (k : Int) < 60 + (q3 : Int) := by omega
            go_wp2
            go_ret
            have hlo := HL.out
            have hpo := Hpp.out
            exact ⟨_, ys, p' + 1, rfl, HW.out.keep hu3 hT, by omega, hr3, by omega, U3⟩
      · have e2 : ((q : Int) == 2) = false := by simp; omega
        go_wp2
        go_ret
        exact ⟨v1, xs, p1 + 1, rfl, HW.out, by have := HL.out; omega, hr2, by omega, u2⟩

set_option maxRecDepth 100000 in
set_option maxHeartbeats 2000000 in
theorem drawBlkPut_any (w : World) (bo : Option Addr) (n cap : Nat) (bs : List Nat) (h : BytesIn w bo n cap bs) (hn : n ≤ 1048576) :
    Calls Try.prog 9 #[.slice bo n cap] w fun e w' => ∃ (ao : Option Addr) (ca : Nat) (xs : List Pc) (d b p t : Int), e = .returned (.tuple #[.slice ao xs.length ca, .int .i64 d, .int .i64 b, .int .i64 p, .int .i64 t]) ∧ RowR w' 4 (.slice ao xs.length ca) xs.length (pcells xs) ∧ xs.length ≤ ca ∧ xs.length ≤ 61 ∧ Below w.heap.size w w' := by
  have HB := hide h
  clear h
  go_enter Try.func9, Try.ntmps9
  go_wp2_with fail
  refine (l6Open_any _ bo n cap bs HB.out hn).mono ?_
  rintro e w1 ⟨rfl, hr1, b1⟩
  have z1 := b1.size
  have hRl := hr1.lt.1
  have hT : ∀ j, w1.heap.size ≤ j → ¬ j = w.heap.size := fun j h e => by omega
  go_wp2_with fail
  refine (l72PiecesAny_any _ w1 w.heap.size 0 hr1 (by omega)).mono ?_
  rintro e w2 ⟨v2, xs, p2, rfl, hrow2, hl2, hr2, hp2, hu2⟩
  obtain ⟨ao, ca, rfl, hca⟩ := hrow2.room
  have HW := hide hrow2
  clear hrow2
  go_wp2_with fail
  refine (pick_any _ _ _ p2 3 hr2 (by omega) (by omega) (by omega)).mono ?_
  rintro e w3 ⟨q3, rfl, hq3, hr3, hu3⟩
  go_wp2_with fail
  refine (pick_any _ _ _ (p2 + 1) 12 hr3 (by omega) (by omega) (by omega)).mono ?_
  rintro e w4 ⟨q4, rfl, hq4, hr4, hu4⟩
  go_wp2_with fail
  refine (pick_any _ _ _ (p2 + 1 + 1) 3 hr4 (by omega) (by omega) (by omega)).mono ?_
  rintro e w5 ⟨q5, rfl, hq5, hr5, hu5⟩
  go_wp2_with fail
  refine (pick_any _ _ _ (p2 + 1 + 1 + 1) 12 hr5 (by omega) (by omega) (by omega)).mono ?_
  rintro e w6 ⟨q6, rfl, hq6, hr6, hu6⟩
  go_wp2_with fail
  refine (pick_any _ _ _ (p2 + 1 + 1 + 1 + 1) 3 hr6 (by omega) (by omega) (by omega)).mono ?_
  rintro e w7 ⟨q7, rfl, hq7, hr7, hu7⟩
  go_wp2_with fail
  refine (pick_any _ _ _ (p2 + 1 + 1 + 1 + 1 + 1) 12 hr7 (by omega) (by omega) (by omega)).mono ?_
  rintro e w8 ⟨q8, rfl, hq8, hr8, hu8⟩
  go_wp2_with fail
  refine (l72Num_any _ _ _ (p2 + 1 + 1 + 1 + 1 + 1 + 1) hr8 (by omega)).mono ?_
  rintro e w9 ⟨t, rfl, hr9, hu9⟩
  have u9 : Upd (fun j => j = w.heap.size) w2 w9 := hu3.trans (hu4.trans (hu5.trans (hu6.trans (hu7.trans (hu8.trans hu9)))))
  go_wp2
  refine bodyPost_ret (v := .tuple #[.slice ao xs.length ca, _, _, _, .int .i64 t]) (by simp [results, Try.results9, go_sem]; exact ⟨rfl, rfl, rfl⟩) rfl ⟨ao, ca, xs, _, _, _, t, rfl, ((HW.out.keep u9 hT).row (by omega)).reads, hca, hl2, b1.trans ((hu2.trans u9).below (by omega) (fun k h => by omega))⟩

set_option maxRecDepth 100000 in
set_option maxHeartbeats 2000000 in
theorem drawBlkDrop_any (w : World) (bo : Option Addr) (n cap : Nat) (bs : List Nat) (h : BytesIn w bo n cap bs) (hn : n ≤ 1048576) :
    Calls Try.prog 17 #[.slice bo n cap] w fun e w' => ∃ (ao : Option Addr) (ca : Nat) (xs : List Pc) (d : Int), e = .returned (.tuple #[.slice ao xs.length ca, .int .i64 d]) ∧ RowR w' 4 (.slice ao xs.length ca) xs.length (pcells xs) ∧ xs.length ≤ ca ∧ xs.length ≤ 61 ∧ Below w.heap.size w w' := by
  have HB := hide h
  clear h
  go_enter Try.func17, Try.ntmps17
  go_wp2_with fail
  refine (l6Open_any _ bo n cap bs HB.out hn).mono ?_
  rintro e w1 ⟨rfl, hr1, b1⟩
  have z1 := b1.size
  have hRl := hr1.lt.1
  have hT : ∀ j, w1.heap.size ≤ j → ¬ j = w.heap.size := fun j h e => by omega
  go_wp2_with fail
  refine (l72PiecesAny_any _ w1 w.heap.size 0 hr1 (by omega)).mono ?_
  rintro e w2 ⟨v2, xs, p2, rfl, hrow2, hl2, hr2, hp2, hu2⟩
  obtain ⟨ao, ca, rfl, hca⟩ := hrow2.room
  have HW := hide hrow2
  clear hrow2
  go_wp2_with fail
  refine (pick_any _ _ _ p2 4 hr2 (by omega) (by omega) (by omega)).mono ?_
  rintro e w3 ⟨q3, rfl, hq3, hr3, hu3⟩
  go_wp2
  refine bodyPost_ret (v := .tuple #[.slice ao xs.length ca, _]) (by simp [results, Try.results17, go_sem]; rfl) rfl ⟨ao, ca, xs, _, rfl, ((HW.out.keep hu3 hT).row (by omega)).reads, hca, hl2, b1.trans ((hu2.trans hu3).below (by omega) (fun k h => by omega))⟩

end Go.Proofs.Ytcanhoemhdkjkab
