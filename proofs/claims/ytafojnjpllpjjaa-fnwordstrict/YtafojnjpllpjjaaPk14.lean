/- Contracts and plain facts that the claims of this seat lean on (texts Draw, BD, BD2, BT9, BD3, XD); no statement of the seat is proved here. -/
import Derived.Test.YtafojnjpllpjjaaPk13
import Derived.Test.YtafojnjpllpjjaaPk11
import Derived.Test.YtafojnjpllpjjaaPk12

/- Disks that are drawn: contracts; no statement of the seat is proved here. -/
namespace Go.Proofs.Ytafojnjpllpjjaa
open Go.RowKit

/-- Short enough for every walk. -/
structure Small (d : Nat) (kept : List ByteArray) (wait : List (Int × ByteArray)) : Prop where
  kl : kept.length ≤ 512 + d
  ks : ∀ s ∈ kept, s.size ≤ 1000
  wl : wait.length ≤ 600 + d
  ws : ∀ x ∈ wait, x.2.size ≤ 1000

theorem Small.put {d : Nat} {kept : List ByteArray} {wait : List (Int × ByteArray)} (h : Small d kept wait) (a : Int) (s : ByteArray) (hs : s.size ≤ 1000) : Small d (putK kept wait) (putW kept wait a s) := by
  unfold putK putW
  by_cases hok : okB kept wait = true
  · rw [if_pos hok, if_pos hok]
    refine ⟨h.kl, h.ks, ?_, ?_⟩
    · split
      · rename_i hp
        simp only [putB, Bool.and_eq_true, decide_eq_true_eq] at hp
        simp
        omega
      · exact h.wl
    · split
      · intro x hx
        rcases List.mem_append.1 hx with hx | hx
        · exact h.ws x hx
        · rw [List.mem_singleton] at hx
          subst hx
          exact hs
      · exact h.ws
  · rw [if_neg hok, if_neg hok]
    exact ⟨by simp, by simp, by simp, by simp⟩

theorem flushL_small {kept : List ByteArray} {wait : List (Int × ByteArray)} (h1 : ∀ s ∈ kept, s.size ≤ 1000) (h2 : ∀ x ∈ wait, x.2.size ≤ 1000) : ∀ s ∈ flushL kept wait, s.size ≤ 1000 := by
  unfold flushL
  induction wait generalizing kept with
  | nil => exact h1
  | cons x xs ih =>
    simp only [List.foldl_cons]
    refine ih (fun s hs => ?_) (fun y hy => h2 y (List.mem_cons_of_mem _ hy))
    rcases List.mem_or_eq_of_mem_set hs with hs | rfl
    · exact h1 s hs
    · exact h2 x List.mem_cons_self

theorem Small.flush {d : Nat} {kept : List ByteArray} {wait : List (Int × ByteArray)} (h : Small d kept wait) : Small d (flushK kept wait) [] := by
  unfold flushK
  split
  · exact ⟨by rw [flushL_len]; exact h.kl, flushL_small h.ks h.ws, by simp, by simp⟩
  · exact ⟨by simp, by simp, by simp, by simp⟩

theorem small_new (n : Nat) : Small 0 (newKept (n : Int)) [] := by
  refine ⟨?_, ?_, by simp, by simp⟩
  · have := newKept_len (n : Int)
    omega
  · intro s hs
    unfold newKept at hs
    split at hs
    · rw [List.mem_replicate] at hs
      rw [hs.2]
      show (0 : Nat) ≤ 1000
      omega
    · simp at hs

theorem Upd.transN {S T : Nat → Prop} {a b c : World} (h : Upd S a b) (k : Upd T b c) (hT : ∀ i, T i → a.heap.size ≤ i) : Upd S a c :=
  ⟨k.os.trans h.os, k.tape.trans h.tape, k.output.trans h.output, Nat.le_trans h.size k.size,
    fun i hi hS => (k.block i (Nat.lt_of_lt_of_le hi h.size) (fun ht => by have := hT i ht; omega)).trans (h.block i hi hS)⟩

theorem Rd.lt {w0 w : World} {R p : Nat} (h : Rd w0 w R p) : R < w.heap.size ∧ w0.heap.size ≤ R ∧ w0.heap.size ≤ w.heap.size := by
  obtain ⟨_, _, _, _, _, _, _, h1, h2, h3⟩ := h
  exact ⟨heap_lt h1, h2, h3.size⟩

theorem Rd.apart {w0 w : World} {R p : Nat} (h : Rd w0 w R p) {S : Nat → Prop} {e : TypeId} (he : 130 ≠ e) : ¬ typed w S e R := by
  obtain ⟨_, _, _, _, _, _, _, h1, h2, h3⟩ := h
  exact typed_box h1 he rfl

end Go.Proofs.Ytafojnjpllpjjaa

/- Pieces that are drawn: contracts; no statement of the seat is proved here. -/
namespace Go.Proofs.Ytafojnjpllpjjaa
open Go.RowKit

theorem RowA.room {w : World} {base : Nat} {e : TypeId} {size : Nat} {v : Value} {n : Nat} {cs : List Value} (h : RowA w base e size v n cs) : ∃ ao ca, v = .slice ao n ca ∧ n ≤ ca := by
  rcases h with h | ⟨rfl, _, ao, rfl⟩
  · exact owns_shape h
  · exact ⟨ao, 0, rfl, Nat.le_refl _⟩

set_option maxRecDepth 100000 in
set_option maxHeartbeats 2000000 in
theorem l72Pieces_any (w0 w : World) (R p m : Nat) (hr : Rd w0 w R p) (hp : p ≤ 900000) (hm : 1 ≤ m) (hm' : m ≤ 100) :
    Calls Try.prog 79 #[.pointer (some ⟨R, 0, none⟩), .int .i64 m] w fun e w' => ∃ v xs p', e = .returned v ∧ RowA w' w.heap.size 83 4 v xs.length (pcells xs) ∧ xs.length ≤ 60 ∧ Rd w0 w' R p' ∧ p' ≤ p + 1000 ∧ Upd (fun j => j = R) w w' := by
  obtain ⟨hRl, hR0, hw0⟩ := hr.lt
  have al0 : Below w.heap.size w (w.alloc (.cells #[] 83)) := (Below.refl _ _).alloc (Nat.le_refl _) _
  have hr0 := hr.keepB al0
  go_enter Try.func79, Try.ntmps79
  go_wp2_with fail
  refine (pick_any w0 _ R p m hr0 hm (by omega) (by omega)).mono ?_
  rintro e w1 ⟨q, rfl, hq, hr1, hu1⟩
  have U1 : Upd (fun j => j = R) w w1 := (Upd.ofBelow al0).trans hu1
  go_wp2
  go_loopw [5, 6] (fun o n wr => ∃ (xs : List Pc) (p' k : Nat), n = .int .i64 k ∧ k ≤ 100 ∧ RowA wr w.heap.size 83 4 o xs.length (pcells xs) ∧ xs.length ≤ 60 ∧ Rd w0 wr R p' ∧ p' + 4 * k ≤ p + 1000 ∧ Upd (fun j => j = R) w wr) (fun _ n _ => (intOf n).toNat)
  case atStart => exact ⟨[], p + 1, q, rfl, by omega, .inr ⟨rfl, rfl, _, rfl⟩, by simp, hr1, by omega, U1⟩
  case round =>
    obtain ⟨xs, p', k, rfl, hk, hrow, hl, hrr, hpp, hu⟩ := hrel
    have hT : ∀ j, w.heap.size ≤ j → ¬ j = R := fun j h e => by omega
    cases k with
    | zero =>
      go_wp2
      go_ret
      exact ⟨_, xs, p', rfl, hrow, hl, hrr, by omega, hu⟩
    | succ k =>
      have HW := hide hrow
      have HL := hide hl
      obtain ⟨ao, ca, rfl⟩ := hrow.shape
      clear hrow hl
      go_wp2_with fail
      refine (pick_any w0 _ R p' 3 hrr (by omega) (by omega) (by omega)).mono ?_
      rintro e w2 ⟨q2, rfl, hq2, hr2, hu2⟩
      go_wp2_with fail
      refine (pick_any w0 _ R (p' + 1) 3 hr2 (by omega) (by omega) (by omega)).mono ?_
      rintro e w3 ⟨q3, rfl, hq3, hr3, hu3⟩
      go_wp2_with fail
      refine (pick_any w0 _ R (p' + 1 + 1) 3 hr3 (by omega) (by omega) (by omega)).mono ?_
      rintro e w4 ⟨q4, rfl, hq4, hr4, hu4⟩
      go_wp2_with fail
      refine (pick_any w0 _ R (p' + 1 + 1 + 1) 100 hr4 (by omega) (by omega) (by omega)).mono ?_
      rintro e w5 ⟨q5, rfl, hq5, hr5, hu5⟩
      have u5 : Upd (fun j => j = R) wr w5 := hu2.trans (hu3.trans (hu4.trans hu5))
      have z5 := u5.size
      have zw := hu.size
      have HR := hide ((HW.out.keep u5 hT).row (by have := HL.out; omega)).reads
      go_wp2_with fail
      refine (specBlkPut_any ao ca xs _ _ _ _ w5 HR.out).mono ?_
      rintro e w6 ⟨v6, rfl, hrow6, b6⟩
      go_wp2
      go_roundw
      case rel => exact ⟨_, p' + 1 + 1 + 1 + 1, k, by first | go_num | (simp; omega), by omega, hrow6.mono (by omega), putR_len _ _, hr5.keepB b6, by omega, (hu.trans u5).trans (Upd.ofBelow b6)⟩
      case measure => first | (simp [intOf]; done) | (simp [intOf]; omega)

theorem ten_cells (w : World) (a b c d x f g h i j : Int) (t : TypeId) :
    ∀ k, k < 10 → ∃ y : Int, (w.alloc (.cells #[.int .i64 a, .int .i64 b, .int .i64 c, .int .i64 d, .int .i64 x, .int .i64 f, .int .i64 g, .int .i64 h, .int .i64 i, .int .i64 j] t)).cell? ⟨w.heap.size, k, none⟩ = some (.int .i64 y) := by
  intro k hk
  have h := fun k => cell_of_row _ w.heap.size k _ _ (0, 0) (al1_0 w (.cells #[.int .i64 a, .int .i64 b, .int .i64 c, .int .i64 d, .int .i64 x, .int .i64 f, .int .i64 g, .int .i64 h, .int .i64 i, .int .i64 j] t))
  rcases (by omega : k = 0 ∨ k = 1 ∨ k = 2 ∨ k = 3 ∨ k = 4 ∨ k = 5 ∨ k = 6 ∨ k = 7 ∨ k = 8 ∨ k = 9) with rfl | rfl | rfl | rfl | rfl | rfl | rfl | rfl | rfl | rfl
  · exact ⟨_, (h 0).trans rfl⟩
  · exact ⟨_, (h 1).trans rfl⟩
  · exact ⟨_, (h 2).trans rfl⟩
  · exact ⟨_, (h 3).trans rfl⟩
  · exact ⟨_, (h 4).trans rfl⟩
  · exact ⟨_, (h 5).trans rfl⟩
  · exact ⟨_, (h 6).trans rfl⟩
  · exact ⟨_, (h 7).trans rfl⟩
  · exact ⟨_, (h 8).trans rfl⟩
  · exact ⟨_, (h 9).trans rfl⟩

set_option maxRecDepth 100000 in
set_option maxHeartbeats 2000000 in
theorem l72Num_any (w0 w : World) (R p : Nat) (hr : Rd w0 w R p) (hp : p ≤ 900000) :
    Calls Try.prog 73 #[.pointer (some ⟨R, 0, none⟩)] w fun e w' => ∃ x : Int, e = .returned (.int .i64 x) ∧ Rd w0 w' R (p + 3) ∧ Upd (fun j => j = R) w w' := by
  go_enter Try.func73, Try.ntmps73
  go_wp2_with fail
  refine (pick_any w0 _ R p 200 hr (by omega) (by omega) (by omega)).mono ?_
  rintro e w1 ⟨q1, rfl, hq1, hr1, hu1⟩
  go_wp2_with fail
  refine (pick_any w0 _ R (p + 1) 30000 hr1 (by omega) (by omega) (by omega)).mono ?_
  rintro e w2 ⟨q2, rfl, hq2, hr2, hu2⟩
  have hRl := hr2.lt.1
  have al := fun o : Obj => (Below.refl w2.heap.size w2).alloc (Nat.le_refl _) o
  have T := fun a b c d x f g h i j t => hide (ten_cells w2 a b c d x f g h i j t)
  go_wp2_with fail
  refine (pick_any w0 _ R (p + 1 + 1) 10 (hr2.keepB (al _)) (by omega) (by omega) (by omega)).mono ?_
  rintro e w3 ⟨q3, rfl, hq3, hr3, hu3⟩
  obtain ⟨y, hy⟩ := (T _ _ _ _ _ _ _ _ _ _ _).out q3 hq3
  have f1 : w3.cell? ⟨w2.heap.size, q3, none⟩ = some (.int .i64 y) := (World.cell?_of_block (a := ⟨w2.heap.size, q3, none⟩) (hu3.block w2.heap.size (by simp) (by omega))).trans hy
  have hi : (q3 : Int) < 10 := by omega
  clear hy T
  go_wp2
  go_ret
  exact ⟨y, rfl, hr3, (hu1.trans hu2).trans ((Upd.ofBelow (al _)).trans hu3)⟩

end Go.Proofs.Ytafojnjpllpjjaa

/- What the laws on pieces are drawn from: contracts; no statement of the seat is proved here. -/
namespace Go.Proofs.Ytafojnjpllpjjaa
open Go.RowKit

set_option maxRecDepth 100000 in
set_option maxHeartbeats 2000000 in
theorem l72PiecesAny_any (w0 w : World) (R p : Nat) (hr : Rd w0 w R p) (hp : p ≤ 800000) :
    Calls Try.prog 74 #[.pointer (some ⟨R, 0, none⟩)] w fun e w' => ∃ v xs p', e = .returned v ∧ RowA w' w.heap.size 83 4 v xs.length (pcells xs) ∧ xs.length ≤ 61 ∧ Rd w0 w' R p' ∧ p' ≤ p + 2000 ∧ Upd (fun j => j = R) w w' := by
  obtain ⟨i1, gi, gz0, gz1, gz2⟩ := info_parts infoPc
  obtain ⟨hRl, hR0, hw0⟩ := hr.lt
  have hT : ∀ j, w.heap.size ≤ j → ¬ j = R := fun j h e => by omega
  go_enter Try.func74, Try.ntmps74
  go_wp2_with fail
  refine (l72Pieces_any w0 w R p 9 hr (by omega) (by omega) (by omega)).mono ?_
  rintro e w1 ⟨v1, xs, p1, rfl, hrow1, hl1, hr1, hp1, hu1⟩
  have z1 := hu1.size
  go_wp2_with fail
  refine (pick_any w0 _ R p1 14 hr1 (by omega) (by omega) (by omega)).mono ?_
  rintro e w2 ⟨q, rfl, hq, hr2, hu2⟩
  have u2 : Upd (fun j => j = R) w w2 := hu1.trans hu2
  have hrow2 := hrow1.keep hu2 hT
  have z2 := u2.size
  clear hrow1
  have HW := hide hrow2
  have HL := hide hl1
  clear hrow2 hl1
  by_cases h0 : q = 0
  · subst h0
    have al := (Below.refl w2.heap.size w2).alloc (Nat.le_refl _) (.cells #[.int .i64 1, .int .i64 0, .int .i64 1, .int .i64 0] 83)
    go_wp2_with (at_builtin; refine wpList_appendW w2 _ rfl _ _ 31 rfl w.heap.size 83 i1 (.agg #[.int .i64 0, .int .i64 0, .int .i64 0, .int .i64 0]) 4 32 Try.underlying31 gi gz0 gz1 gz2 rfl (by decide) _ xs.length (pcells xs) rfl HW.out ?qb ⟨w2.heap.size, 0, none⟩ 1 1 (pcell (1, 0, 1, 0)) rfl rfl ?qn (pcell_one _) (by decide) ?q63 ?qby ?_)
    case qb => exact ⟨al, z2⟩
    case qn => first | exact fun _ _ h => h | exact newP_cells _ _ _
    case q63 => have := HL.out; unfold maxLen; omega
    case qby => have := HL.out; omega
    intro v4 w4 hown u4
    go_wp2
    go_ret
    have U4 : Upd (fun j => w.heap.size ≤ j) w2 w4 := (Upd.ofBelow al).trans (u4.mono (fun _ h => h.1))
    refine ⟨v4, xs ++ [(1, 0, 1, 0)], p1 + 1, rfl, .inl (by rw [List.length_append, pcells_snoc]; exact hown), by have := HL.out; simp; omega, hr2.keep U4 (by omega) (fun k h => by omega), by omega, u2.transN U4 (fun i h => h)⟩
  · have e0 : ((q : Int) == 0) = false := by simpa using h0
    by_cases h1 : q = 1
    · subst h1
      have al := (Below.refl w2.heap.size w2).alloc (Nat.le_refl _) (.cells #[.int .i64 99, .int .i64 (-1), .int .i64 1, .int .i64 0] 83)
      go_wp2_with (at_builtin; refine wpList_appendW w2 _ rfl _ _ 31 rfl w.heap.size 83 i1 (.agg #[.int .i64 0, .int .i64 0, .int .i64 0, .int .i64 0]) 4 32 Try.underlying31 gi gz0 gz1 gz2 rfl (by decide) _ xs.length (pcells xs) rfl HW.out ?qb ⟨w2.heap.size, 0, none⟩ 1 1 (pcell (99, -1, 1, 0)) rfl rfl ?qn (pcell_one _) (by decide) ?q63 ?qby ?_)
      case qb => exact ⟨al, z2⟩
      case qn => first | exact fun _ _ h => h | exact newP_cells _ _ _
      case q63 => have := HL.out; unfold maxLen; omega
      case qby => have := HL.out; omega
      intro v4 w4 hown u4
      go_wp2
      go_ret
      have U4 : Upd (fun j => w.heap.size ≤ j) w2 w4 := (Upd.ofBelow al).trans (u4.mono (fun _ h => h.1))
      refine ⟨v4, xs ++ [(99, -1, 1, 0)], p1 + 1, rfl, .inl (by rw [List.length_append, pcells_snoc]; exact hown), by have := HL.out; simp; omega, hr2.keep U4 (by omega) (fun k h => by omega), by omega, u2.transN U4 (fun i h => h)⟩
    · have e1 : ((q : Int) == 1) = false := by simp; omega
      by_cases h2 : q = 2
      · subst h2
        have al := (Below.refl w2.heap.size w2).alloc (Nat.le_refl _) (.cells #[] 83)
        clear HW HL
        go_wp2
        go_loopw [3, 4] (fun o n wr => ∃ (ys : List Pc) (p' k : Nat), n = .int .i64 k ∧ k ≤ 61 ∧ ys.length = k ∧ RowA wr w.heap.size 83 4 o ys.length (pcells ys) ∧ Rd w0 wr R p' ∧ p' = p1 + 1 + k ∧ Upd (fun j => j = R) w wr) (fun _ n _ => 62 - (intOf n).toNat)
        case atStart => exact ⟨[], p1 + 1, 0, rfl, by omega, rfl, .inr ⟨rfl, rfl, _, rfl⟩, hr2.keepB al, rfl, u2.trans (Upd.ofBelow al)⟩
        case round =>
          obtain ⟨ys, p', k, rfl, hk, hl, hrow, hrr, hpp, hu⟩ := hrel
          have hpb : p' ≤ 900000 := by omega
          have Hpp := hide hpp
          have HL := hide hl
          have HW := hide hrow
          clear hl hrow hpp
          go_wp2_with fail
          refine (pick_any w0 _ R p' 2 hrr (by omega) (by omega) (by omega)).mono ?_
          rintro e w3 ⟨q3, rfl, hq3, hr3, hu3⟩
          have U3 := hu.trans hu3
          have z3 := U3.size
          by_cases hlt : k < 60 + q3
          · have hi : (k : Int) < 60 + (q3 : Int) := by omega
            have al3 := (Below.refl w3.heap.size w3).alloc (Nat.le_refl _) (.cells #[.int .i64 1, .int .i64 (k : Int), .int .i64 1, .int .i64 (k : Int)] 83)
            have HW3 := hide (HW.out.keep hu3 hT)
            go_wp2_with (at_builtin; refine wpList_appendW w3 _ rfl _ _ 31 rfl w.heap.size 83 i1 (.agg #[.int .i64 0, .int .i64 0, .int .i64 0, .int .i64 0]) 4 32 Try.underlying31 gi gz0 gz1 gz2 rfl (by decide) _ ys.length (pcells ys) rfl HW3.out ?qb ⟨w3.heap.size, 0, none⟩ 1 1 (pcell (1, (k : Int), 1, (k : Int))) rfl rfl ?qn (pcell_one _) (by decide) ?q63 ?qby ?_)
            case qb => exact ⟨al3, z3⟩
            case qn => first | exact fun _ _ h => h | exact newP_cells _ _ _
            case q63 => have := HL.out; unfold maxLen; omega
            case qby => have := HL.out; omega
            intro v4 w4 hown u4
            have U4 : Upd (fun j => w.heap.size ≤ j) w3 w4 := (Upd.ofBelow al3).trans (u4.mono (fun _ h => h.1))
            go_wp2
            go_roundw
            case rel =>
              have hlo := HL.out
              have hpo := Hpp.out
              exact ⟨ys ++ [(1, (k : Int), 1, (k : Int))], p' + 1, k + 1, by go_num, by omega, by simp; omega, .inl (by rw [List.length_append, pcells_snoc]; exact hown), hr3.keep U4 (by omega) (fun k h => by omega), by omega, U3.transN U4 (fun i h => h)⟩
            case measure => simp [intOf]; omega
          · have hi : ¬ (k : Int) < 60 + (q3 : Int) := by omega
            go_wp2
            go_ret
            have hlo := HL.out
            have hpo := Hpp.out
            exact ⟨_, ys, p' + 1, rfl, HW.out.keep hu3 hT, by omega, hr3, by omega, U3⟩
      · have e2 : ((q : Int) == 2) = false := by simp; omega
        go_wp2
        go_ret
        exact ⟨v1, xs, p1 + 1, rfl, HW.out, by have := HL.out; omega, hr2, by omega, u2⟩

end Go.Proofs.Ytafojnjpllpjjaa

/- BlkMark of the specification: a contract; no statement of the seat is proved here. -/
namespace Go.Proofs.Ytafojnjpllpjjaa
open Go.RowKit

set_option maxRecDepth 100000 in
set_option maxHeartbeats 1500000 in
theorem specBlkMark_any (ao : Option Addr) (ca : Nat) (xs : List Lc) (d b : Int) (w : World) (hr : RowR w 2 (.slice ao xs.length ca) xs.length (lcells xs)) :
    Calls Try.prog 80 #[.slice ao xs.length ca, .int .i64 d, .int .i64 b] w fun e w' => ∃ v', e = .returned v' ∧ RowA w' w.heap.size 86 2 v' (markR xs d b).length (lcells (markR xs d b)) ∧ Below w.heap.size w w' := by
  obtain ⟨i1, gi, gz0, gz1, gz2⟩ := info_parts infoLc
  have al0 : Below w.heap.size w (w.alloc (.cells #[] 86)) := (Below.refl _ _).alloc (Nat.le_refl _) _
  have Hr := hide hr
  have cK := l3LastOk_any _ xs _ (hr.keep al0)
  cases hok : okC xs
  · have HR : Hid (markR xs d b = []) := by show _ = _; simp [markR, hok]
    rw [hok] at cK
    go_enter Try.func80, Try.ntmps80
    go_wp2_with fail
    refine cK.mono ?_
    rintro e w1 ⟨rfl, b1⟩
    go_wp2
    go_ret
    exact ⟨_, rfl, by rw [HR.out]; exact .inr ⟨rfl, rfl, _, rfl⟩, bAll al0 b1⟩
  · have hl : xs.length ≤ 4 := ok_len hok
    have HOK := hide hok
    rw [hok] at cK
    obtain ⟨g, hg⟩ : ∃ g, callL xs d = g := ⟨_, rfl⟩
    obtain ⟨j1, h1⟩ : ∃ i, inI d 0 3 = i := ⟨_, rfl⟩
    obtain ⟨j2, h2⟩ : ∃ i, inI b 1 99999 = i := ⟨_, rfl⟩
    have HM : Hid (markR xs d b = if (j1 && (j2 && decide (g < b))) = true then insL ordL xs (d, b) else xs) := by show _ = _; rw [markR, if_pos hok, h1, h2, hg]
    have c1 := fun w => l6In_inI d 0 3 w
    have c2 := fun w => l6In_inI b 1 99999 w
    have cC := fun w h => specBlkCall_any ao ca xs d w h
    have hgr : callR xs d = g := by rw [callR, if_pos hok, hg]
    rw [hgr] at cC
    rw [h1] at c1
    rw [h2] at c2
    have H1 := hide h1
    have H2 := hide h2
    clear hgr h1 h2 hg hok
    by_cases hall : (j1 && (j2 && decide (g < b))) = true
    · rw [if_pos hall] at HM
      rw [Bool.and_eq_true, Bool.and_eq_true, decide_eq_true_eq] at hall
      obtain ⟨rfl, rfl, hgb⟩ := hall
      have hin := inI_iff.1 H1.out
      have hin2 := inI_iff.1 H2.out
      have HB := hide (bld_ins HOK.out hin hin2.1)
      have e1 : decide (g ≥ b) = false := by simp; omega
      have e2 : decide (b ≤ g) = false := by simp; omega
      have hn0 := hide (fun c => okC_nonneg HOK.out c)
      clear hin hin2
      go_enter Try.func80, Try.ntmps80
      go_wp2_with fail
      refine cK.mono ?_
      rintro e w1 ⟨rfl, b1⟩
      go_wp2_with fail
      refine (c1 _).mono ?_
      rintro e w' ⟨rfl, rfl⟩
      go_wp2_with fail
      refine (c2 _).mono ?_
      rintro e w' ⟨rfl, rfl⟩
      go_wp2_with fail
      refine (cC _ (Hr.out.keep (bAll al0 b1))).mono ?_
      rintro e w2 ⟨rfl, b2⟩
      clear cK cC c1 c2
      go_wp2
      go_loopw [7, 8] (fun o i wr => ∃ k : Nat, k ≤ 4 ∧ i = .int .i64 k ∧ RowA wr w.heap.size 86 2 o (bldL xs d b k).length (lcells (bldL xs d b k)) ∧ Below w.heap.size w wr) (fun _ i _ => 4 - (intOf i).toNat)
      case atStart => exact ⟨0, Nat.zero_le _, rfl, .inr ⟨rfl, rfl, _, rfl⟩, bAll al0 (bAll b1 b2)⟩
      case round =>
        obtain ⟨k, hk, rfl, hrow, hbel⟩ := hrel
        have HW := hide hrow
        clear hrow
        have hzr := hbel.size
        by_cases hlt : k < 4
        · have hi : (k : Int) < 4 := by omega
          have hol := hide (bld_len xs d b k)
          obtain ⟨u, hu⟩ : ∃ u, callR xs (k : Int) = u := ⟨_, rfl⟩
          have hu' : callL xs (k : Int) = u := by rw [← hu, callR, if_pos HOK.out]
          have cC := specBlkCall_any ao ca xs (k : Int) wr (Hr.out.keep hbel)
          rw [hu] at cC
          have HS : Hid (bldL xs d b (k + 1) = bldL xs d b k ++ (if 0 < (if (k : Int) = d then b else u) then [((k : Int), (if (k : Int) = d then b else u))] else [])) := by show _ = _; rw [bldL]; simp only [nOf, hu']
          clear hu hu'
          by_cases hkd : (k : Int) = d
          · rw [if_pos hkd] at HS
            by_cases hp : 0 < b
            · rw [if_pos hp] at HS
              subst hkd
              go_wp2_with fail
              refine cC.mono ?_
              rintro e w3 ⟨rfl, b3⟩
              have hz3 := b3.size
              go_wp2_with (at_builtin; refine wpList_appendW wr _ rfl _ _ 32 rfl w.heap.size 86 i1 (.agg #[.int .i64 0, .int .i64 0]) 2 16 Try.underlying32 gi gz0 gz1 gz2 rfl (by decide) _ (bldL xs (k : Int) b k).length (lcells (bldL xs (k : Int) b k)) rfl HW.out ?qb ⟨w3.heap.size, 0, none⟩ 1 1 (lcell ((k : Int), b)) rfl rfl ?qn (lcell_one _) (by decide) ?q63 ?qby ?_)
              case qb => first | exact ⟨bAlloc b3 _, hzr⟩ | exact bAlloc b3 _
              case qn => first | exact fun _ _ h => h | exact newC_cells _ _ _
              case q63 => have := hol.out; unfold maxLen; omega
              case qby => have := hol.out; omega
              intro v4 w4 hown u4
              have b4 : Below w.heap.size w w4 := (bAll hbel (bAlloc b3 _)).trans (u4.below (by simp; omega) (fun _ h => h.1))
              go_wp2
              go_roundw
              case rel => exact ⟨k + 1, by omega, by go_num, by rw [HS.out, lcells_snoc, List.length_append]; exact .inl hown, b4⟩
              case measure => simp [intOf]; omega
            · exact absurd (inI_iff.1 H2.out).1 (by omega)
          · rw [if_neg hkd] at HS
            have e3 : ((k : Int) == d) = false := by simpa using hkd
            by_cases hp : 0 < u
            · rw [if_pos hp] at HS
              go_wp2_with fail
              refine cC.mono ?_
              rintro e w3 ⟨rfl, b3⟩
              have hz3 := b3.size
              go_wp2_with (at_builtin; refine wpList_appendW wr _ rfl _ _ 32 rfl w.heap.size 86 i1 (.agg #[.int .i64 0, .int .i64 0]) 2 16 Try.underlying32 gi gz0 gz1 gz2 rfl (by decide) _ (bldL xs d b k).length (lcells (bldL xs d b k)) rfl HW.out ?qb ⟨w3.heap.size, 0, none⟩ 1 1 (lcell ((k : Int), u)) rfl rfl ?qn (lcell_one _) (by decide) ?q63 ?qby ?_)
              case qb => first | exact ⟨bAlloc b3 _, hzr⟩ | exact bAlloc b3 _
              case qn => first | exact fun _ _ h => h | exact newC_cells _ _ _
              case q63 => have := hol.out; unfold maxLen; omega
              case qby => have := hol.out; omega
              intro v4 w4 hown u4
              have b4 : Below w.heap.size w w4 := (bAll hbel (bAlloc b3 _)).trans (u4.below (by simp; omega) (fun _ h => h.1))
              go_wp2
              go_roundw
              case rel => exact ⟨k + 1, by omega, by go_num, by rw [HS.out, lcells_snoc, List.length_append]; exact .inl hown, b4⟩
              case measure => simp [intOf]; omega
            · rw [if_neg hp, List.append_nil] at HS
              have e4 : decide (u > 0) = false := by simp; omega
              have e5 : decide (0 < u) = false := by simp; omega
              go_wp2_with fail
              refine cC.mono ?_
              rintro e w3 ⟨rfl, b3⟩
              go_wp2
              go_roundw
              case rel => exact ⟨k + 1, by omega, by go_num, by rw [HS.out]; exact HW.out.keepB b3, bAll hbel b3⟩
              case measure => simp [intOf]; omega
        · go_wp2
          go_ret
          obtain rfl : k = 4 := by omega
          exact ⟨_, rfl, by rw [HM.out, ← HB.out]; exact HW.out, hbel⟩
    · rw [if_neg hall] at HM
      have hcase : j1 = false ∨ (j1 = true ∧ j2 = false) ∨ (j1 = true ∧ j2 = true ∧ ¬ g < b) := by
        cases j1 <;> cases j2 <;> simp_all
      clear hall
      rcases hcase with rfl | ⟨rfl, rfl⟩ | ⟨rfl, rfl, hge⟩
      · go_enter Try.func80, Try.ntmps80
        go_wp2_with fail
        refine cK.mono ?_
        rintro e w1 ⟨rfl, b1⟩
        go_wp2_with fail
        refine (c1 _).mono ?_
        rintro e w' ⟨rfl, rfl⟩
        have b2' := b1
        go_wp2_with (at_builtin; refine wpList_copyA0 _ rfl _ _ 32 rfl w.heap.size 86 i1 (.agg #[.int .i64 0, .int .i64 0]) 2 16 Try.underlying32 gi gz0 gz1 gz2 rfl (by decide) (some ⟨w.heap.size, 0, none⟩) rfl _ xs.length (lcells xs) rfl ?qrow (lcells_one _) (by omega) (by omega) ?qbase ?_)
        case qrow => exact Hr.out.keep (bAll al0 b2')
        case qbase => have := (bAll al0 b2').size; omega
        intro v6 w6 r6 u6
        have b6 : Below w.heap.size w w6 := bAll3 (bAll al0 b2') u6
        go_wp2
        go_ret
        exact ⟨_, rfl, by rw [HM.out]; exact r6, b6⟩
      · go_enter Try.func80, Try.ntmps80
        go_wp2_with fail
        refine cK.mono ?_
        rintro e w1 ⟨rfl, b1⟩
        go_wp2_with fail
        refine (c1 _).mono ?_
        rintro e w' ⟨rfl, rfl⟩
        go_wp2_with fail
        refine (c2 _).mono ?_
        rintro e w' ⟨rfl, rfl⟩
        have b2' := b1
        go_wp2_with (at_builtin; refine wpList_copyA0 _ rfl _ _ 32 rfl w.heap.size 86 i1 (.agg #[.int .i64 0, .int .i64 0]) 2 16 Try.underlying32 gi gz0 gz1 gz2 rfl (by decide) (some ⟨w.heap.size, 0, none⟩) rfl _ xs.length (lcells xs) rfl ?qrow (lcells_one _) (by omega) (by omega) ?qbase ?_)
        case qrow => exact Hr.out.keep (bAll al0 b2')
        case qbase => have := (bAll al0 b2').size; omega
        intro v6 w6 r6 u6
        have b6 : Below w.heap.size w w6 := bAll3 (bAll al0 b2') u6
        go_wp2
        go_ret
        exact ⟨_, rfl, by rw [HM.out]; exact r6, b6⟩
      · have e1 : decide (g ≥ b) = true := by simp; omega
        have e2 : decide (b ≤ g) = true := by simp; omega
        go_enter Try.func80, Try.ntmps80
        go_wp2_with fail
        refine cK.mono ?_
        rintro e w1 ⟨rfl, b1⟩
        go_wp2_with fail
        refine (c1 _).mono ?_
        rintro e w' ⟨rfl, rfl⟩
        go_wp2_with fail
        refine (c2 _).mono ?_
        rintro e w' ⟨rfl, rfl⟩
        go_wp2_with fail
        refine (cC _ (Hr.out.keep (bAll al0 b1))).mono ?_
        rintro e w2 ⟨rfl, b2⟩
        have b2' := bAll b1 b2
        go_wp2_with (at_builtin; refine wpList_copyA0 _ rfl _ _ 32 rfl w.heap.size 86 i1 (.agg #[.int .i64 0, .int .i64 0]) 2 16 Try.underlying32 gi gz0 gz1 gz2 rfl (by decide) (some ⟨w.heap.size, 0, none⟩) rfl _ xs.length (lcells xs) rfl ?qrow (lcells_one _) (by omega) (by omega) ?qbase ?_)
        case qrow => exact Hr.out.keep (bAll al0 b2')
        case qbase => have := (bAll al0 b2').size; omega
        intro v6 w6 r6 u6
        have b6 : Below w.heap.size w w6 := bAll3 (bAll al0 b2') u6
        go_wp2
        go_ret
        exact ⟨_, rfl, by rw [HM.out]; exact r6, b6⟩

end Go.Proofs.Ytafojnjpllpjjaa

/- Last calls that are drawn; the laws' comparison of two lists: contracts; no statement of the seat is proved here. -/
namespace Go.Proofs.Ytafojnjpllpjjaa
open Go.RowKit

set_option maxRecDepth 100000 in
set_option maxHeartbeats 2000000 in
theorem l72Last_any (w0 w : World) (R p : Nat) (hr : Rd w0 w R p) (hp : p ≤ 800000) :
    Calls Try.prog 75 #[.pointer (some ⟨R, 0, none⟩)] w fun e w' => ∃ v xs p', e = .returned v ∧ RowA w' w.heap.size 86 2 v xs.length (lcells xs) ∧ xs.length ≤ 61 ∧ Rd w0 w' R p' ∧ p' ≤ p + 1000 ∧ Upd (fun j => j = R) w w' := by
  obtain ⟨i1, gi, gz0, gz1, gz2⟩ := info_parts infoLc
  obtain ⟨hRl, hR0, hw0⟩ := hr.lt
  have hT : ∀ j, w.heap.size ≤ j → ¬ j = R := fun j h e => by omega
  have al0 : Below w.heap.size w (w.alloc (.cells #[] 86)) := (Below.refl _ _).alloc (Nat.le_refl _) _
  have hr0 := hr.keepB al0
  go_enter Try.func75, Try.ntmps75
  go_wp2_with fail
  refine (pick_any w0 _ R p 5 hr0 (by omega) (by omega) (by omega)).mono ?_
  rintro e w1 ⟨q, rfl, hq, hr1, hu1⟩
  have U1 : Upd (fun j => j = R) w w1 := (Upd.ofBelow al0).trans hu1
  go_wp2
  go_loopw [3, 4] (fun o n wr => ∃ (xs : List Lc) (p' k : Nat), n = .int .i64 k ∧ k ≤ 100 ∧ RowA wr w.heap.size 86 2 o xs.length (lcells xs) ∧ xs.length ≤ 60 ∧ Rd w0 wr R p' ∧ p' + 4 * k ≤ p + 900 ∧ Upd (fun j => j = R) w wr) (fun _ n _ => (intOf n).toNat)
  case atStart => exact ⟨[], p + 1, q, rfl, by omega, .inr ⟨rfl, rfl, _, rfl⟩, by simp, hr1, by omega, U1⟩
  case round =>
    obtain ⟨xs, p', k, rfl, hk, hrow, hl, hrr, hpp, hu⟩ := hrel
    cases k with
    | zero =>
      have HW := hide hrow
      have HL := hide hl
      clear hrow hl
      go_wp2_with fail
      refine (pick_any w0 _ R p' 14 hrr (by omega) (by omega) (by omega)).mono ?_
      rintro e w2 ⟨q2, rfl, hq2, hr2, hu2⟩
      have U2 := hu.trans hu2
      by_cases h0 : q2 = 0
      · subst h0
        go_wp2_with fail
        refine (pick_any w0 _ R (p' + 1) 5 hr2 (by omega) (by omega) (by omega)).mono ?_
        rintro e w3 ⟨q3, rfl, hq3, hr3, hu3⟩
        go_wp2_with fail
        refine (pick_any w0 _ R (p' + 1 + 1) 2 hr3 (by omega) (by omega) (by omega)).mono ?_
        rintro e w4 ⟨q4, rfl, hq4, hr4, hu4⟩
        have U4 := U2.trans (hu3.trans hu4)
        have z4 := U4.size
        have HW4 := hide (HW.out.keep (hu2.trans (hu3.trans hu4)) hT)
        have al := (Below.refl w4.heap.size w4).alloc (Nat.le_refl _) (.cells #[.int .i64 (q3 : Int), .int .i64 (q4 : Int)] 86)
        go_wp2_with (at_builtin; refine wpList_appendW w4 _ rfl _ _ 32 rfl w.heap.size 86 i1 (.agg #[.int .i64 0, .int .i64 0]) 2 16 Try.underlying32 gi gz0 gz1 gz2 rfl (by decide) _ xs.length (lcells xs) rfl HW4.out ?qb ⟨w4.heap.size, 0, none⟩ 1 1 (lcell ((q3 : Int), (q4 : Int))) rfl rfl ?qn (lcell_one _) (by decide) ?q63 ?qby ?_)
        case qb => exact ⟨al, z4⟩
        case qn => first | exact fun _ _ h => h | exact newC_cells _ _ _
        case q63 => have := HL.out; unfold maxLen; omega
        case qby => have := HL.out; omega
        intro v5 w5 hown u5
        have U5 : Upd (fun j => w.heap.size ≤ j) w4 w5 := (Upd.ofBelow al).trans (u5.mono (fun _ h => h.1))
        go_wp2
        go_ret
        exact ⟨v5, xs ++ [((q3 : Int), (q4 : Int))], p' + 1 + 1 + 1, rfl, .inl (by rw [List.length_append, lcells_snoc]; exact hown), by have := HL.out; simp; omega, hr4.keep U5 (by omega) (fun k h => by omega), by omega, U4.transN U5 (fun i h => h)⟩
      · have e0 : ((q2 : Int) == 0) = false := by simpa using h0
        go_wp2
        go_ret
        exact ⟨_, xs, p' + 1, rfl, HW.out.keep hu2 hT, by have := HL.out; omega, hr2, by omega, U2⟩
    | succ k =>
      have HW := hide hrow
      have HL := hide hl
      obtain ⟨ao, ca, rfl⟩ := hrow.shape
      clear hrow hl
      go_wp2_with fail
      refine (pick_any w0 _ R p' 4 hrr (by omega) (by omega) (by omega)).mono ?_
      rintro e w2 ⟨q2, rfl, hq2, hr2, hu2⟩
      go_wp2_with fail
      refine (pick_any w0 _ R (p' + 1) 9 hr2 (by omega) (by omega) (by omega)).mono ?_
      rintro e w3 ⟨q3, rfl, hq3, hr3, hu3⟩
      have u3 : Upd (fun j => j = R) wr w3 := hu2.trans hu3
      have z3 := u3.size
      have zw := hu.size
      have HR := hide ((HW.out.keep u3 hT).row (by have := HL.out; omega)).reads
      go_wp2_with fail
      refine (specBlkMark_any ao ca xs _ _ w3 HR.out).mono ?_
      rintro e w6 ⟨v6, rfl, hrow6, b6⟩
      go_wp2
      go_roundw
      case rel => exact ⟨_, p' + 1 + 1, k, by first | go_num | (simp; omega), by omega, hrow6.mono (by omega), markR_len _ _ _, hr3.keepB b6, by omega, (hu.trans u3).trans (Upd.ofBelow b6)⟩
      case measure => first | (simp [intOf]; done) | (simp [intOf]; omega)

set_option maxHeartbeats 1000000 in
theorem lpPieces_true (va vb : Value) (n : Nat) (xs : List Pc) (w : World) (ha : RowR w 4 va n (pcells xs)) (hb : RowR w 4 vb n (pcells xs)) :
    Calls Try.prog 55 #[va, vb] w fun e w' => e = .returned (.bool true) ∧ Below w.heap.size w w' := by
  obtain ⟨ao, ca, rfl, hn, hl, ha⟩ := ha
  obtain ⟨bo, cb, rfl, _, _, hb⟩ := hb
  rw [pcells_len] at hl
  go_enter Try.func55, Try.ntmps55
  go_wp2
  go_loopw [5] (fun i wr => ∃ k : Nat, k ≤ n ∧ i = .int .i64 k ∧ Below w.heap.size w wr) (fun i _ => n - (intOf i).toNat)
  case atStart => exact ⟨0, Nat.zero_le _, rfl, Below.refl _ _⟩
  case round =>
    obtain ⟨k, hk, rfl, hbel⟩ := hrel
    by_cases hlt : k < n
    · obtain ⟨b1, o1, rfl, hc1⟩ := ha (by omega)
      obtain ⟨b2, o2, rfl, hc2⟩ := hb (by omega)
      obtain ⟨x, hx⟩ := getAt xs k (by omega)
      obtain ⟨f0, f1, f2, f3, l1⟩ := pc_cells hc1 hx hbel
      obtain ⟨g0, g1, g2, g3, l2⟩ := pc_cells hc2 hx hbel
      obtain ⟨d, b, p, t⟩ := x
      have hi : (k : Int) < (n : Int) := by omega
      clear ha hb hc1 hc2 hx hl
      go_wp2
      go_region
      all_goals
        go_wp2
        go_roundw
        case rel => exact ⟨k + 1, by omega, by go_num, hbel.drew⟩
        case measure => simp [intOf]; omega
    · go_wp2
      go_ret
      exact ⟨rfl, hbel⟩

set_option maxHeartbeats 1000000 in
theorem lpLast_true (va vb : Value) (n : Nat) (xs : List Lc) (w : World) (ha : RowR w 2 va n (lcells xs)) (hb : RowR w 2 vb n (lcells xs)) :
    Calls Try.prog 56 #[va, vb] w fun e w' => e = .returned (.bool true) ∧ Below w.heap.size w w' := by
  obtain ⟨ao, ca, rfl, hn, hl, ha⟩ := ha
  obtain ⟨bo, cb, rfl, _, _, hb⟩ := hb
  rw [lcells_len] at hl
  go_enter Try.func56, Try.ntmps56
  go_wp2
  go_loopw [5] (fun i wr => ∃ k : Nat, k ≤ n ∧ i = .int .i64 k ∧ Below w.heap.size w wr) (fun i _ => n - (intOf i).toNat)
  case atStart => exact ⟨0, Nat.zero_le _, rfl, Below.refl _ _⟩
  case round =>
    obtain ⟨k, hk, rfl, hbel⟩ := hrel
    by_cases hlt : k < n
    · obtain ⟨b1, o1, rfl, hc1⟩ := ha (by omega)
      obtain ⟨b2, o2, rfl, hc2⟩ := hb (by omega)
      obtain ⟨x, hx⟩ := getAt xs k (by omega)
      obtain ⟨f0, f1, l1⟩ := lc_cells hc1 hx hbel
      obtain ⟨g0, g1, l2⟩ := lc_cells hc2 hx hbel
      obtain ⟨d, b⟩ := x
      have hi : (k : Int) < (n : Int) := by omega
      clear ha hb hc1 hc2 hx hl
      go_wp2
      go_region
      all_goals
        go_wp2
        go_roundw
        case rel => exact ⟨k + 1, by omega, by go_num, hbel.drew⟩
        case measure => simp [intOf]; omega
    · go_wp2
      go_ret
      exact ⟨rfl, hbel⟩

end Go.Proofs.Ytafojnjpllpjjaa

/- Words that are drawn: contracts; no statement of the seat is proved here. -/
namespace Go.Proofs.Ytafojnjpllpjjaa
open Go.RowKit

theorem infoCm : (Try.prog.info? 30).map (·.size) = some 10 := by kernel_rfl
/-- A number of a row of numbers. -/
theorem litAt (w : World) (xs : List Int) (t : TypeId) (k : Nat) (hk : k < xs.length) : ∃ z : Int, (w.alloc (.cells (xs.map (Value.int .i64)).toArray t)).cell? ⟨w.heap.size, k, none⟩ = some (.int .i64 z) := by
  obtain ⟨z, hz⟩ := getAt xs k hk
  exact ⟨z, by rw [boxAt (heap_alloc_new w _)]; simp [hz]⟩

set_option maxRecDepth 100000 in
set_option maxHeartbeats 8000000 in
theorem l72Cmd_any (w0 w : World) (R p : Nat) (hr : Rd w0 w R p) (hp : p ≤ 800000) :
    Calls Try.prog 72 #[.pointer (some ⟨R, 0, none⟩)] w fun e w' => ∃ (x : Wd) (p' : Nat), e = .returned (.agg #[.int .i64 x.c0, .int .i64 x.c1, .int .i64 x.c2, .int .i64 x.c3, .int .i64 x.c4, .int .i64 x.c5, .int .i64 x.c6, .int .i64 x.c7, .int .i64 x.c8, .int .i64 x.c9]) ∧ Rd w0 w' R p' ∧ p' ≤ p + 20 ∧ Upd (fun j => j = R) w w' := by
  obtain ⟨hRl, hR0, hw0⟩ := hr.lt
  have al0 := bal (Below.refl w.heap.size w) (.cells #[.int .i64 0, .int .i64 0, .int .i64 0, .int .i64 0, .int .i64 0, .int .i64 0, .int .i64 0, .int .i64 0, .int .i64 0, .int .i64 0] 30)
  have hr0 := hr.keepB al0
  have U0 : Upd (fun j => j = R) (w.alloc (.cells #[.int .i64 0, .int .i64 0, .int .i64 0, .int .i64 0, .int .i64 0, .int .i64 0, .int .i64 0, .int .i64 0, .int .i64 0, .int .i64 0] 30)) (w.alloc (.cells #[.int .i64 0, .int .i64 0, .int .i64 0, .int .i64 0, .int .i64 0, .int .i64 0, .int .i64 0, .int .i64 0, .int .i64 0, .int .i64 0] 30)) := Upd.refl _ _
  have G := hide (heap_alloc_new w (.cells #[.int .i64 0, .int .i64 0, .int .i64 0, .int .i64 0, .int .i64 0, .int .i64 0, .int .i64 0, .int .i64 0, .int .i64 0, .int .i64 0] 30))
  clear hr
  go_enter Try.func72, Try.ntmps72
  go_wp2_with fail
  refine (pick_any w0 _ R _ 8 hr0 (by omega) (by omega) (by omega)).mono ?_
  rintro e w1 ⟨q1, rfl, -, hr1, hu1⟩
  have U1 := U0.trans hu1
  clear hr0 hu1 U0
  go_wp2_with fail
  refine (pick_any w0 _ R _ 4 hr1 (by omega) (by omega) (by omega)).mono ?_
  rintro e w2 ⟨q2, rfl, -, hr2, hu2⟩
  have U2 := U1.trans hu2
  clear hr1 hu2 U1
  go_wp2_with fail
  refine (pick_any w0 _ R _ 4 hr2 (by omega) (by omega) (by omega)).mono ?_
  rintro e w3 ⟨q3, rfl, -, hr3, hu3⟩
  have U3 := U2.trans hu3
  clear hr2 hu3 U2
  go_wp2_with fail
  refine (pick_any w0 _ R _ 3 hr3 (by omega) (by omega) (by omega)).mono ?_
  rintro e w4 ⟨q4, rfl, -, hr4, hu4⟩
  have U4 := U3.trans hu4
  clear hr3 hu4 U3
  go_wp2_with fail
  refine (pick_any w0 _ R _ 5 hr4 (by omega) (by omega) (by omega)).mono ?_
  rintro e w5 ⟨q5, rfl, -, hr5, hu5⟩
  have U5 := U4.trans hu5
  clear hr4 hu5 U4
  go_wp2_with fail
  refine (pick_any w0 _ R _ 3 hr5 (by omega) (by omega) (by omega)).mono ?_
  rintro e w6 ⟨q6, rfl, -, hr6, hu6⟩
  have U6 := U5.trans hu6
  clear hr5 hu6 U5
  go_wp2_with fail
  refine (pick_any w0 _ R _ 3 hr6 (by omega) (by omega) (by omega)).mono ?_
  rintro e w7 ⟨q7, rfl, -, hr7, hu7⟩
  have U7 := U6.trans hu7
  clear hr6 hu7 U6
  go_wp2_with fail
  refine (pick_any w0 _ R _ 4 hr7 (by omega) (by omega) (by omega)).mono ?_
  rintro e w8 ⟨q8, rfl, -, hr8, hu8⟩
  have U8 := U7.trans hu8
  clear hr7 hu8 U7
  go_wp2_with fail
  refine (pick_any w0 _ R _ 4 hr8 (by omega) (by omega) (by omega)).mono ?_
  rintro e w9 ⟨q9, rfl, -, hr9, hu9⟩
  have U9 := U8.trans hu9
  clear hr8 hu9 U8
  go_wp2_with fail
  refine (pick_any w0 _ R _ 5 hr9 (by omega) (by omega) (by omega)).mono ?_
  rintro e w10 ⟨q10, rfl, -, hr10, hu10⟩
  have U10 := U9.trans hu10
  clear hr9 hu10 U9
  have G0 := hide (U10.keeps G.out (by omega))
  have z10 := U10.size
  simp only [World.size_alloc] at z10
  have UU := hide ((Upd.ofBelow al0).trans U10)
  clear G U10 al0
  go_wp2_with fail
  generalize (q1 : Int) = y0
  generalize (q2 : Int) = y1
  generalize wrap64 (1 + (q3 : Int)) = y2
  generalize wrap64 (1 + (q4 : Int)) = y3
  generalize wrap64 (1 + (q5 : Int)) = y4
  generalize (q6 : Int) = y5
  generalize (q7 : Int) = y6
  generalize wrap64 (1 + (q8 : Int)) = y7
  generalize (q9 : Int) = y8
  generalize wrap64 ((q10 : Int) - 1) = y9
  have hRl10 := hr10.lt.1
  have alc := bal (Below.refl w10.heap.size w10) (.cells #[.int .i64 y0, .int .i64 y1, .int .i64 y2, .int .i64 y3, .int .i64 y4, .int .i64 y5, .int .i64 y6, .int .i64 y7, .int .i64 y8, .int .i64 y9] 30)
  have K0 := hide (heap_up (.cells #[.int .i64 y0, .int .i64 y1, .int .i64 y2, .int .i64 y3, .int .i64 y4, .int .i64 y5, .int .i64 y6, .int .i64 y7, .int .i64 y8, .int .i64 y9] 30) G0.out)
  have K1 := hide (heap_alloc_new w10 (.cells #[.int .i64 y0, .int .i64 y1, .int .i64 y2, .int .i64 y3, .int .i64 y4, .int .i64 y5, .int .i64 y6, .int .i64 y7, .int .i64 y8, .int .i64 y9] 30))
  have hrc := hr10.keepB alc
  refine (pick_any w0 _ R _ 16 hrc (by omega) (by omega) (by omega)).mono ?_
  rintro e w11 ⟨q11, rfl, hq11, hr11, hu11⟩
  have L0 := hide (hu11.keeps K0.out (by omega))
  have L1 := hide (hu11.keeps K1.out (by omega))
  have U11 := hide ((UU.out.trans (Upd.ofBelow alc)).trans hu11)
  have hz11 := hu11.size
  simp only [World.size_alloc] at hz11
  clear hr10 G0 K0 K1 hrc alc hu11 UU
  rcases (by omega : q11 = 0 ∨ q11 = 1 ∨ q11 = 2 ∨ 3 ≤ q11) with h | h | h | h
  · subst h
    go_wp2_with fail
    refine (l72Num_any w0 _ R _ hr11 (by omega)).mono ?_
    rintro e w12 ⟨z, rfl, hr12, hu12⟩
    have N0 := hide (hu12.keeps L0.out (by omega))
    have N1 := hide (hu12.keeps L1.out (by omega))
    have U12 := U11.out.trans hu12
    have hz12 := hu12.size
    clear L0 L1 U11 hr11 hu12
    have M0 := hide ((Upd.setCell (S := fun j => j = w10.heap.size) w12 w10.heap.size 4 (.int .i64 z) rfl).keeps N0.out (by omega))
    have M1 : Hid ((w12.setCell ⟨w10.heap.size, 4, none⟩ (.int .i64 z)).heap[w10.heap.size]? = some (.cells #[.int .i64 y0, .int .i64 y1, .int .i64 y2, .int .i64 y3, .int .i64 z, .int .i64 y5, .int .i64 y6, .int .i64 y7, .int .i64 y8, .int .i64 y9] 30 (0, 0))) := row_set _ N1.out
    have us := Upd.setCell (S := fun j => j = w10.heap.size) w12 w10.heap.size 4 (.int .i64 z) rfl
    have c0 : w12.cell? ⟨w10.heap.size, 4, none⟩ = some (.int .i64 y4) := boxAt N1.out 4
    have c1 : w12.frozen? ⟨w10.heap.size, 4, none⟩ = false := boxFz N1.out 4
    go_wp2_with (first | (refine wpList_load_row rfl 30 (.tmp 3) rfl w10.heap.size rfl _ #[.int .i64 y0, .int .i64 y1, .int .i64 y2, .int .i64 y3, .int .i64 z, .int .i64 y5, .int .i64 y6, .int .i64 y7, .int .i64 y8, .int .i64 y9] (0, 0) _ M1.out Try.underlying30 rfl infoCm ?_) | (refine wpList_store_row rfl 30 (.tmp 2) (.tmp 53) rfl w.heap.size #[.int .i64 y0, .int .i64 y1, .int .i64 y2, .int .i64 y3, .int .i64 z, .int .i64 y5, .int .i64 y6, .int .i64 y7, .int .i64 y8, .int .i64 y9] rfl rfl _ _ M0.out infoCm rfl (all_of_list rfl) ?_))
    refine bodyPost_ret (v := .agg #[.int .i64 y0, .int .i64 y1, .int .i64 y2, .int .i64 y3, .int .i64 z, .int .i64 y5, .int .i64 y6, .int .i64 y7, .int .i64 y8, .int .i64 y9]) (results_cell_row Try.results72 _ _ w.heap.size _ _ (0, 0) _ rfl (setRow_heap _ _ _ _ _ _ M0.out) Try.underlying30 rfl infoCm) rfl ?_
    have u6 : Upd (fun j => j = w.heap.size) (w12.setCell ⟨w10.heap.size, 4, none⟩ (.int .i64 z)) ((w12.setCell ⟨w10.heap.size, 4, none⟩ (.int .i64 z)).setRow w.heap.size #[.int .i64 y0, .int .i64 y1, .int .i64 y2, .int .i64 y3, .int .i64 z, .int .i64 y5, .int .i64 y6, .int .i64 y7, .int .i64 y8, .int .i64 y9]) := ⟨rfl, rfl, rfl, by simp, fun k _ h => setRow_other _ _ _ _ h⟩
    exact ⟨⟨0, 0, 0, 0, 0, 0, y0, y1, y2, y3, z, y5, y6, y7, y8, y9, 0, 0, 0, 0, 0, 0, 0, 0, [], []⟩, _, rfl, (hr12.keep us (by omega) (fun k h => by omega)).keep u6 (by omega) (fun k h => by omega), by omega, (U12.transN us (fun k h => by omega)).transN u6 (fun k h => by omega)⟩
  · subst h
    have al := bal (Below.refl w11.heap.size w11) (.cells #[.int .i64 (-1), .int .i64 8, .int .i64 99] 3)
    have LA := hide (litAt w11 [(-1), 8, 99] 3)
    have hr11a := hr11.keepB al
    go_wp2_with fail
    refine (pick_any w0 _ R _ 3 hr11a (by omega) (by omega) (by omega)).mono ?_
    rintro e w12 ⟨q12, rfl, hq12, hr12, hu12⟩
    obtain ⟨z, hz⟩ := LA.out q12 hq12
    have f0 : w12.cell? ⟨w11.heap.size, q12, none⟩ = some (.int .i64 z) := updCell hu12 hz (by omega)
    have hi : (q12 : Int) < 3 := by omega
    have N0 := hide (hu12.keeps (bKeeps al L0.out) (by omega))
    have N1 := hide (hu12.keeps (bKeeps al L1.out) (by omega))
    have U12 := (U11.out.trans (Upd.ofBelow al)).trans hu12
    have hz12 := hu12.size
    simp only [World.size_alloc] at hz12
    clear L0 L1 U11 hr11 hr11a hu12 al LA hz
    have M0 := hide ((Upd.setCell (S := fun j => j = w10.heap.size) w12 w10.heap.size 0 (.int .i64 z) rfl).keeps N0.out (by omega))
    have M1 : Hid ((w12.setCell ⟨w10.heap.size, 0, none⟩ (.int .i64 z)).heap[w10.heap.size]? = some (.cells #[.int .i64 z, .int .i64 y1, .int .i64 y2, .int .i64 y3, .int .i64 y4, .int .i64 y5, .int .i64 y6, .int .i64 y7, .int .i64 y8, .int .i64 y9] 30 (0, 0))) := row_set _ N1.out
    have us := Upd.setCell (S := fun j => j = w10.heap.size) w12 w10.heap.size 0 (.int .i64 z) rfl
    have c0 : w12.cell? ⟨w10.heap.size, 0, none⟩ = some (.int .i64 y0) := boxAt N1.out 0
    have c1 : w12.frozen? ⟨w10.heap.size, 0, none⟩ = false := boxFz N1.out 0
    go_wp2_with (first | (refine wpList_load_row rfl 30 (.tmp 3) rfl w10.heap.size rfl _ #[.int .i64 z, .int .i64 y1, .int .i64 y2, .int .i64 y3, .int .i64 y4, .int .i64 y5, .int .i64 y6, .int .i64 y7, .int .i64 y8, .int .i64 y9] (0, 0) _ M1.out Try.underlying30 rfl infoCm ?_) | (refine wpList_store_row rfl 30 (.tmp 2) (.tmp 53) rfl w.heap.size #[.int .i64 z, .int .i64 y1, .int .i64 y2, .int .i64 y3, .int .i64 y4, .int .i64 y5, .int .i64 y6, .int .i64 y7, .int .i64 y8, .int .i64 y9] rfl rfl _ _ M0.out infoCm rfl (all_of_list rfl) ?_))
    refine bodyPost_ret (v := .agg #[.int .i64 z, .int .i64 y1, .int .i64 y2, .int .i64 y3, .int .i64 y4, .int .i64 y5, .int .i64 y6, .int .i64 y7, .int .i64 y8, .int .i64 y9]) (results_cell_row Try.results72 _ _ w.heap.size _ _ (0, 0) _ rfl (setRow_heap _ _ _ _ _ _ M0.out) Try.underlying30 rfl infoCm) rfl ?_
    have u6 : Upd (fun j => j = w.heap.size) (w12.setCell ⟨w10.heap.size, 0, none⟩ (.int .i64 z)) ((w12.setCell ⟨w10.heap.size, 0, none⟩ (.int .i64 z)).setRow w.heap.size #[.int .i64 z, .int .i64 y1, .int .i64 y2, .int .i64 y3, .int .i64 y4, .int .i64 y5, .int .i64 y6, .int .i64 y7, .int .i64 y8, .int .i64 y9]) := ⟨rfl, rfl, rfl, by simp, fun k _ h => setRow_other _ _ _ _ h⟩
    exact ⟨⟨0, 0, 0, 0, 0, 0, z, y1, y2, y3, y4, y5, y6, y7, y8, y9, 0, 0, 0, 0, 0, 0, 0, 0, [], []⟩, _, rfl, (hr12.keep us (by omega) (fun k h => by omega)).keep u6 (by omega) (fun k h => by omega), by omega, (U12.transN us (fun k h => by omega)).transN u6 (fun k h => by omega)⟩
  · subst h
    have al := bal (Below.refl w11.heap.size w11) (.cells #[.int .i64 (-2), .int .i64 100000] 3)
    have LA := hide (litAt w11 [(-2), 100000] 3)
    have hr11a := hr11.keepB al
    go_wp2_with fail
    refine (pick_any w0 _ R _ 2 hr11a (by omega) (by omega) (by omega)).mono ?_
    rintro e w12 ⟨q12, rfl, hq12, hr12, hu12⟩
    obtain ⟨z, hz⟩ := LA.out q12 hq12
    have f0 : w12.cell? ⟨w11.heap.size, q12, none⟩ = some (.int .i64 z) := updCell hu12 hz (by omega)
    have hi : (q12 : Int) < 2 := by omega
    have N0 := hide (hu12.keeps (bKeeps al L0.out) (by omega))
    have N1 := hide (hu12.keeps (bKeeps al L1.out) (by omega))
    have U12 := (U11.out.trans (Upd.ofBelow al)).trans hu12
    have hz12 := hu12.size
    simp only [World.size_alloc] at hz12
    clear L0 L1 U11 hr11 hr11a hu12 al LA hz
    have M0 := hide ((Upd.setCell (S := fun j => j = w10.heap.size) w12 w10.heap.size 7 (.int .i64 z) rfl).keeps N0.out (by omega))
    have M1 : Hid ((w12.setCell ⟨w10.heap.size, 7, none⟩ (.int .i64 z)).heap[w10.heap.size]? = some (.cells #[.int .i64 y0, .int .i64 y1, .int .i64 y2, .int .i64 y3, .int .i64 y4, .int .i64 y5, .int .i64 y6, .int .i64 z, .int .i64 y8, .int .i64 y9] 30 (0, 0))) := row_set _ N1.out
    have us := Upd.setCell (S := fun j => j = w10.heap.size) w12 w10.heap.size 7 (.int .i64 z) rfl
    have c0 : w12.cell? ⟨w10.heap.size, 7, none⟩ = some (.int .i64 y7) := boxAt N1.out 7
    have c1 : w12.frozen? ⟨w10.heap.size, 7, none⟩ = false := boxFz N1.out 7
    go_wp2_with (first | (refine wpList_load_row rfl 30 (.tmp 3) rfl w10.heap.size rfl _ #[.int .i64 y0, .int .i64 y1, .int .i64 y2, .int .i64 y3, .int .i64 y4, .int .i64 y5, .int .i64 y6, .int .i64 z, .int .i64 y8, .int .i64 y9] (0, 0) _ M1.out Try.underlying30 rfl infoCm ?_) | (refine wpList_store_row rfl 30 (.tmp 2) (.tmp 53) rfl w.heap.size #[.int .i64 y0, .int .i64 y1, .int .i64 y2, .int .i64 y3, .int .i64 y4, .int .i64 y5, .int .i64 y6, .int .i64 z, .int .i64 y8, .int .i64 y9] rfl rfl _ _ M0.out infoCm rfl (all_of_list rfl) ?_))
    refine bodyPost_ret (v := .agg #[.int .i64 y0, .int .i64 y1, .int .i64 y2, .int .i64 y3, .int .i64 y4, .int .i64 y5, .int .i64 y6, .int .i64 z, .int .i64 y8, .int .i64 y9]) (results_cell_row Try.results72 _ _ w.heap.size _ _ (0, 0) _ rfl (setRow_heap _ _ _ _ _ _ M0.out) Try.underlying30 rfl infoCm) rfl ?_
    have u6 : Upd (fun j => j = w.heap.size) (w12.setCell ⟨w10.heap.size, 7, none⟩ (.int .i64 z)) ((w12.setCell ⟨w10.heap.size, 7, none⟩ (.int .i64 z)).setRow w.heap.size #[.int .i64 y0, .int .i64 y1, .int .i64 y2, .int .i64 y3, .int .i64 y4, .int .i64 y5, .int .i64 y6, .int .i64 z, .int .i64 y8, .int .i64 y9]) := ⟨rfl, rfl, rfl, by simp, fun k _ h => setRow_other _ _ _ _ h⟩
    exact ⟨⟨0, 0, 0, 0, 0, 0, y0, y1, y2, y3, y4, y5, y6, z, y8, y9, 0, 0, 0, 0, 0, 0, 0, 0, [], []⟩, _, rfl, (hr12.keep us (by omega) (fun k h => by omega)).keep u6 (by omega) (fun k h => by omega), by omega, (U12.transN us (fun k h => by omega)).transN u6 (fun k h => by omega)⟩
  · have h0 : ¬ (q11 : Int) = 0 := by omega
    have h1 : ¬ (q11 : Int) = 1 := by omega
    have h2 : ¬ (q11 : Int) = 2 := by omega
    have g0 : ((q11 : Int) == 0) = false := by simpa using h0
    have g1 : ((q11 : Int) == 1) = false := by simpa using h1
    have g2 : ((q11 : Int) == 2) = false := by simpa using h2
    have M0 := hide L0.out
    have M1 := hide L1.out
    go_wp2_with (first | (refine wpList_load_row rfl 30 (.tmp 3) rfl w10.heap.size rfl _ #[.int .i64 y0, .int .i64 y1, .int .i64 y2, .int .i64 y3, .int .i64 y4, .int .i64 y5, .int .i64 y6, .int .i64 y7, .int .i64 y8, .int .i64 y9] (0, 0) _ M1.out Try.underlying30 rfl infoCm ?_) | (refine wpList_store_row rfl 30 (.tmp 2) (.tmp 53) rfl w.heap.size #[.int .i64 y0, .int .i64 y1, .int .i64 y2, .int .i64 y3, .int .i64 y4, .int .i64 y5, .int .i64 y6, .int .i64 y7, .int .i64 y8, .int .i64 y9] rfl rfl _ _ M0.out infoCm rfl (all_of_list rfl) ?_))
    refine bodyPost_ret (v := .agg #[.int .i64 y0, .int .i64 y1, .int .i64 y2, .int .i64 y3, .int .i64 y4, .int .i64 y5, .int .i64 y6, .int .i64 y7, .int .i64 y8, .int .i64 y9]) (results_cell_row Try.results72 _ _ w.heap.size _ _ (0, 0) _ rfl (setRow_heap _ _ _ _ _ _ M0.out) Try.underlying30 rfl infoCm) rfl ?_
    have u6 : Upd (fun j => j = w.heap.size) w11 (w11.setRow w.heap.size #[.int .i64 y0, .int .i64 y1, .int .i64 y2, .int .i64 y3, .int .i64 y4, .int .i64 y5, .int .i64 y6, .int .i64 y7, .int .i64 y8, .int .i64 y9]) := ⟨rfl, rfl, rfl, by simp, fun k _ h => setRow_other _ _ _ _ h⟩
    exact ⟨⟨0, 0, 0, 0, 0, 0, y0, y1, y2, y3, y4, y5, y6, y7, y8, y9, 0, 0, 0, 0, 0, 0, 0, 0, [], []⟩, _, rfl, hr11.keep u6 (by omega) (fun k h => by omega), by omega, U11.out.transN u6 (fun k h => by omega)⟩

end Go.Proofs.Ytafojnjpllpjjaa
