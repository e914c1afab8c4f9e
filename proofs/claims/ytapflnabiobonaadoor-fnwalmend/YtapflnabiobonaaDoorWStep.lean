/- WalSteps of the program: contracts; no statement of the seat is proved here. -/
import Derived.Test.YtapflnabiobonaaDoorWMend
namespace Go.Proofs.YtapflnabiobonaaDoor
open Go.RowKit

/-- The text at a place. -/
def tAt (xs : List ByteArray) (i : Nat) : ByteArray := xs[i]?.getD ⟨#[]⟩
theorem tAt_of {xs : List ByteArray} {i : Nat} {t : ByteArray} (h : xs[i]? = some t) : tAt xs i = t := by simp [tAt, h]
/-- The homes among the first k that do not say their texts yet. -/
def chgF (now hs : List ByteArray) (i : Nat) : Option (Int × ByteArray) := if (tAt hs i).toList == (tAt now i).toList then none else some ((i : Int), tAt hs i)
def chgK (now hs : List ByteArray) (k : Nat) : List (Int × ByteArray) := (List.range k).filterMap (chgF now hs)
theorem chgK_yes {now hs : List ByteArray} {k : Nat} {s t : ByteArray} (h1 : hs[k]? = some s) (h2 : now[k]? = some t) (h : (s.toList == t.toList) = true) : chgK now hs (k + 1) = chgK now hs k := by
  have e : chgF now hs k = none := by rw [chgF, tAt_of h1, tAt_of h2, h]; rfl
  rw [chgK, List.range_succ, List.filterMap_append]
  simp [e, chgK]
theorem chgK_no {now hs : List ByteArray} {k : Nat} {s t : ByteArray} (h1 : hs[k]? = some s) (h2 : now[k]? = some t) (h : (s.toList == t.toList) = false) : chgK now hs (k + 1) = chgK now hs k ++ [((k : Int), s)] := by
  have e : chgF now hs k = some ((k : Int), s) := by rw [chgF, tAt_of h1, tAt_of h2, h]; rfl
  rw [chgK, List.range_succ, List.filterMap_append]
  simp [e, chgK]
theorem chgK_len (now hs : List ByteArray) (k : Nat) : (chgK now hs k).length ≤ k := by
  have := List.length_filterMap_le (chgF now hs) (List.range k)
  simpa [chgK] using this
theorem chgK_mem {now hs : List ByteArray} {k : Nat} {x : Int × ByteArray} (h : x ∈ chgK now hs k) : 0 ≤ x.1 ∧ x.1 < k ∧ ∃ i, x = (((i : Nat) : Int), tAt hs i) := by
  obtain ⟨i, hi, he⟩ := List.mem_filterMap.1 h
  have hik := List.mem_range.1 hi
  unfold chgF at he
  split at he
  · cases he
  · obtain rfl := Option.some.inj he
    exact ⟨by show (0 : Int) ≤ (i : Int); omega, by show (i : Int) < (k : Int); omega, i, rfl⟩

set_option maxRecDepth 100000 in
set_option maxHeartbeats 4000000 in
theorem changes_any (g gc : Nat) (no : Option Addr) (nc : Nat) (F : List ByteArray) (L : List (Int × ByteArray)) (so : Option Addr) (sc : Nat) (hs : List ByteArray) (w : World) (hF : RowR w 1 (.slice (some ⟨g, 0, none⟩) F.length gc) F.length (F.map Value.string)) (hgc : F.length ≤ gc) (hl5 : F.length = 501)
    (hL : RowR w 2 (.slice no L.length nc) L.length (wcells L)) (hLb : ∀ x ∈ L, 0 ≤ x.1 ∧ x.1 < 250) (hhs : RowR w 1 (.slice so hs.length sc) hs.length (hs.map Value.string)) (hhl : hs.length = 250) :
    Calls Tryd.prog 50 #[.agg #[.slice (some ⟨g, 0, none⟩) F.length gc, .slice no L.length nc], .slice so hs.length sc] w fun e w' => ∃ ao ca, e = .returned (.slice ao (chgK (flushL (F.drop 251) L) hs 250).length ca) ∧ Row w' 109 2 (fun k => w.heap.size ≤ k) (.slice ao (chgK (flushL (F.drop 251) L) hs 250).length ca) (chgK (flushL (F.drop 251) L) hs 250).length (wcells (chgK (flushL (F.drop 251) L) hs 250)) ∧ Below w.heap.size w w' := by
  obtain ⟨i1, gi, gz0, gz1, gz2⟩ := info_parts infoNote
  have al : Below w.heap.size w (w.alloc (.cells #[.slice (some ⟨g, 0, none⟩) F.length gc, .slice no L.length nc] 69)) := (Below.refl _ _).alloc (Nat.le_refl _) _
  have HC := hide (said_any g gc no nc F L _ (hF.keep al) hgc hl5 (hL.keep al) hLb)
  obtain ⟨now, hnow⟩ : ∃ now, flushL (F.drop 251) L = now := ⟨_, rfl⟩
  have hnl : now.length = 250 := by rw [← hnow, flushL_len, List.length_drop]; omega
  rw [hnow] at HC ⊢
  have HH := hide hhs
  have hn1 : 250 ≤ now.length := by omega
  have hn2 : now.length ≤ 250 := by omega
  have hh1 : 250 ≤ hs.length := by omega
  have hh2 : hs.length ≤ 250 := by omega
  clear hF hgc hl5 hL hLb hhs hhl hnow hnl
  go_enter Tryd.func50, Tryd.ntmps50
  go_wp2_with fail
  refine (unhide HC).mono ?_
  rintro e w1 ⟨v1, rfl, r1, b1⟩
  obtain ⟨ho, hc, rfl⟩ := r1.shape
  have c1 := bAll al b1
  have z1 := c1.size
  have RN := hide r1.reads
  have HH1 := hide (HH.out.keep c1)
  clear r1 HC HH
  go_wp2
  go_loopw [5, 11] (fun ov iv wr => ∃ (k : Nat) (ao : Option Addr) (ca : Nat), k ≤ now.length ∧ iv = .int .i64 k ∧ ov = .slice ao (chgK now hs k).length ca ∧ RowA wr w1.heap.size 109 2 (.slice ao (chgK now hs k).length ca) (chgK now hs k).length (wcells (chgK now hs k)) ∧ Below w1.heap.size w1 wr) (fun _ iv _ => now.length - (intOf iv).toNat)
  case atStart => exact ⟨0, none, 0, Nat.zero_le _, rfl, rfl, .inl (World.ownsRow_nil _ _ _ _), Below.refl _ _⟩
  case round =>
    obtain ⟨k, ao, ca, hk, rfl, rfl, hown, hbel⟩ := hrel
    by_cases hlt : k < now.length
    · obtain ⟨t, ht⟩ := getAt now k hlt
      obtain ⟨s, hsk⟩ := getAt hs k (by omega)
      obtain ⟨b, off, cap, u, ev, hb, hu, hcu⟩ := RowR.ptr RN.out k hlt
      simp only [Value.slice.injEq, true_and] at ev
      obtain ⟨rfl, rfl⟩ := ev
      obtain rfl : u = .string t := by rw [List.getElem?_map, ht] at hu; simpa using hu.symm
      obtain ⟨b', off', cap', u, ev, hb', hu', hcu'⟩ := RowR.ptr HH1.out k (by omega)
      simp only [Value.slice.injEq, true_and] at ev
      obtain ⟨rfl, rfl⟩ := ev
      obtain rfl : u = .string s := by rw [List.getElem?_map, hsk] at hu'; simpa using hu'.symm
      have f1 : wr.cell? ⟨b, off + k, none⟩ = some (.string t) := (hbel.cell (p := ⟨b, off + k, none⟩) hb).trans hcu
      have f2 : wr.cell? ⟨b', off' + k, none⟩ = some (.string s) := (hbel.cell (p := ⟨b', off' + k, none⟩) hb').trans hcu'
      have hi : (k : Int) < (now.length : Int) := by omega
      have hi' : (k : Int) < (hs.length : Int) := by omega
      have hcl := chgK_len now hs k
      have zz := hbel.size
      have H1 := hide hsk
      have H2 := hide ht
      clear hu hcu hu' hcu' ht hsk
      cases hq : (s.toList == t.toList)
      · have HN := hide (chgK_no H1.out H2.out hq)
        obtain ⟨C, hC⟩ : ∃ C, chgK now hs k = C := ⟨_, rfl⟩
        rw [hC] at hown HN hcl ⊢
        clear hC
        go_wp2_with (at_builtin; refine wpList_appendA _ rfl _ _ 67 rfl w1.heap.size 109 i1 (.agg #[.int .i64 0, .string ⟨#[]⟩]) 2 24 Tryd.underlying67 gi gz0 gz1 gz2 rfl (by decide) _ C.length (wcells C) rfl (hown.keepB ((Below.refl _ _).alloc (Nat.le_refl _) _)) ⟨wr.heap.size, 0, none⟩ 1 1 [.int .i64 (k : Int), .string s] rfl rfl ?qn (new_one _ _) (by decide) ?q63 ?qby ?qbase ?_)
        case qn => exact new_cells _ _ _ _
        case q63 => unfold maxLen; omega
        case qby => omega
        case qbase => simp; omega
        intro v4 w4 hown4 u4
        obtain ⟨mo, cm, rfl⟩ := (Row.ofOwns hown4 (by omega)).shape
        have bA : Below w1.heap.size wr w4 := ((Below.refl w1.heap.size wr).alloc (by omega) _).trans (u4.below (by simp; omega) (fun k h => h.1))
        go_wp2
        go_roundw
        case rel =>
          refine ⟨k + 1, mo, cm, by omega, by go_num, ?_, ?_, hbel.trans bA⟩
          · rw [HN.out, List.length_append]; rfl
          · rw [HN.out, List.length_append, wcells_snoc]; exact .inl hown4
        case measure => simp [intOf]; omega
      · have HN := hide (chgK_yes H1.out H2.out hq)
        go_wp2
        go_roundw
        case rel =>
          refine ⟨k + 1, ao, ca, by omega, by go_num, ?_, ?_, hbel⟩
          · rw [HN.out]
          · rw [HN.out]; exact hown
        case measure => simp [intOf]; omega
    · obtain rfl : k = 250 := by omega
      have hcl := chgK_len now hs 250
      have RR := hide ((hown.row (by omega)).mono (T := fun k => w.heap.size ≤ k) (fun k _ h => by omega))
      go_wp2
      go_ret
      exact ⟨_, _, rfl, RR.out, bAll c1 hbel⟩

/-- A number as a text of one byte. -/
def byteS (n : Int) : ByteArray := ⟨#[UInt8.ofNat n.toNat]⟩

theorem walByte_any (n : Int) (w : World) (h0 : 0 ≤ n) (h1 : n < 256) :
    Calls Tryd.prog 78 #[.int .i64 n] w fun e w' => e = .returned (.string (byteS n)) ∧ Below w.heap.size w w' := by
  have hcv := fun w n => run_byte_string (P := Tryd.prog) 46 9 5 Tryd.underlying46 Tryd.underlying5 Tryd.underlying9 w n
  go_enter Tryd.func78, Tryd.ntmps78
  go_wp2
  go_ret
  exact ⟨rfl, (Below.refl _ _).alloc (Nat.le_refl _) _⟩

/-- Notes as the log is to say them, from the sector 1 + i on. -/
def logW : Nat → List (Int × ByteArray) → List (Int × ByteArray)
  | _, [] => []
  | i, x :: r => (((1 + i : Nat) : Int), byteS x.1 ++ x.2) :: logW (i + 1) r
theorem logW_len : ∀ (i : Nat) (L : List (Int × ByteArray)), (logW i L).length = L.length
  | _, [] => rfl
  | i, x :: r => by simp [logW, logW_len (i + 1) r]
theorem logW_snoc : ∀ (i : Nat) (L : List (Int × ByteArray)) (a : Int) (s : ByteArray), logW i (L ++ [(a, s)]) = logW i L ++ [(((1 + (i + L.length) : Nat) : Int), byteS a ++ s)]
  | i, [], a, s => by simp [logW]
  | i, x :: r, a, s => by
    simp only [List.cons_append, logW, List.length_cons, logW_snoc (i + 1) r a s]
    rw [show i + 1 + r.length = i + (r.length + 1) by omega]

set_option maxRecDepth 100000 in
set_option maxHeartbeats 4000000 in
theorem walLogged_any (no : Option Addr) (nc : Nat) (L : List (Int × ByteArray)) (w : World) (hL : RowR w 2 (.slice no L.length nc) L.length (wcells L)) (hLb : ∀ x ∈ L, 0 ≤ x.1 ∧ x.1 < 250 ∧ x.2.size ≤ 1000) (hLn : L.length ≤ 1000) :
    Calls Tryd.prog 77 #[.slice no L.length nc] w fun e w' => ∃ ao ca, e = .returned (.slice ao L.length ca) ∧ RowA w' w.heap.size 63 2 (.slice ao L.length ca) L.length (wcells (logW 0 L)) ∧ Below w.heap.size w w' := by
  obtain ⟨_, _, ev, hn, hl, hr⟩ := hL
  simp only [Value.slice.injEq, true_and] at ev
  obtain ⟨rfl, rfl⟩ := ev
  have HLb := hide hLb
  have Hr := hide hr
  obtain ⟨i1, gi, gz0, gz1, gz2⟩ := info_parts infoWr
  clear hLb hl hr
  go_enter Tryd.func77, Tryd.ntmps77
  go_wp2
  go_loopw [3, 8] (fun ov iv wr => ∃ (k : Nat) (ao : Option Addr) (ca : Nat), k ≤ L.length ∧ iv = .int .i64 k ∧ ov = .slice ao k ca ∧ RowA wr w.heap.size 63 2 (.slice ao k ca) k (wcells (logW 0 (L.take k))) ∧ Below w.heap.size w wr) (fun _ iv _ => L.length - (intOf iv).toNat)
  case atStart => exact ⟨0, none, 0, Nat.zero_le _, rfl, rfl, .inl (World.ownsRow_nil _ _ _ _), Below.refl _ _⟩
  case round =>
    obtain ⟨k, ao, ca, hk, rfl, rfl, hrow, hbel⟩ := hrel
    by_cases hlt : k < L.length
    · obtain ⟨⟨a, t⟩, hx⟩ := getAt L k hlt
      obtain ⟨ha0, ha1, ha2⟩ := HLb.out (a, t) (List.mem_of_getElem? hx)
      simp only at ha0 ha1 ha2
      obtain ⟨b, off, rfl, hcl⟩ := Hr.out (by omega)
      obtain ⟨e0, e1⟩ := wcells_at L k _ hx
      have g1 := hcl _ _ e0
      have g2 := hcl _ _ e1
      have l1 : b < w.heap.size := World.block_lt_of_cell? w _ g1
      have f1 : wr.cell? ⟨b, off + k * 2, none⟩ = some (.int .i64 a) := by rw [Nat.mul_comm k 2]; exact (hbel.cell (p := ⟨b, off + 2 * k, none⟩) l1).trans g1
      have f2 : wr.cell? ⟨b, off + k * 2 + 1, none⟩ = some (.string t) := by rw [Nat.mul_comm k 2]; exact (hbel.cell (p := ⟨b, off + (2 * k + 1), none⟩) l1).trans g2
      have hi' : (k : Int) < (L.length : Int) := by omega
      have Hx := hide hx
      have zz := hbel.size
      obtain ⟨W, hW⟩ : ∃ W, W = wr.alloc (.cells #[.int .i64 a, .string t] 109) := ⟨_, rfl⟩
      have al1 : Below wr.heap.size wr W := by rw [hW]; exact (Below.refl _ _).alloc (Nat.le_refl _) _
      have HXB := hide (show W.heap[wr.heap.size]? = some (.cells #[.int .i64 a, .string t] 109 (0, 0)) by rw [hW]; exact al1_0 wr _)
      have HB := hide (walByte_any a W.drew ha0 (by omega))
      have hcat : ¬ (9223372036854775807 < (byteS a).size + t.size) := by have : (byteS a).size = 1 := rfl; omega
      have zw : IntKind.i64.wrap (1 + (k : Int)) = 1 + (k : Int) := by simp [IntKind.wrap, IntKind.bits, IntKind.signed]; omega
      have ZW := hide zw
      clear zw
      have Hrow := hide (hrow.keepB al1)
      clear hcl g1 g2 e0 e1 hx hrow
      go_wp2
      rw [← hW]
      clear hW f1 f2
      obtain ⟨x0, x1, xl⟩ := box2 HXB.out
      go_region_law (first
        | (refine step_appendA rfl _ _ 29 rfl w.heap.size 63 i1 (.agg #[.int .i64 0, .string ⟨#[]⟩]) 2 24 Tryd.underlying29 gi gz0 gz1 gz2 rfl (by decide) _ k _ rfl s3 ⟨w6.heap.size, 0, none⟩ 1 1 [.int .i64 (IntKind.i64.wrap (1 + (k : Int))), .string (byteS a ++ t)] rfl rfl N3.out (new_one _ _) (by decide) (by unfold maxLen; omega) (by omega) hbs ?_; intro v4 w4 hown u4; obtain ⟨mo', cm', rfl⟩ := (Row.ofOwns hown (by omega)).shape)
        | (go_simp; go_at_call 78; refine (unhide HB).mono ?_; rintro e w6 ⟨rfl, b6⟩; have b6' : Below W.heap.size W w6 := bUndrew b6; have y1 : w6.cell? ⟨wr.heap.size, 1, none⟩ = some (.string t) := (b6'.cell (p := ⟨wr.heap.size, 1, none⟩) xl).trans x1; have al2 : Below w6.heap.size w6 (w6.alloc (.cells #[.int .i64 (IntKind.i64.wrap (1 + (k : Int))), .string (byteS a ++ t)] 63)) := (Below.refl _ _).alloc (Nat.le_refl _) _; have s3 := ((unhide Hrow).keepB b6').keepB al2; have N3 := hide (new_cells w6 (IntKind.i64.wrap (1 + (k : Int))) (byteS a ++ t) 63); have hbs : w.heap.size ≤ (w6.alloc (.cells #[.int .i64 (IntKind.i64.wrap (1 + (k : Int))), .string (byteS a ++ t)] 63)).heap.size := Nat.le_trans (Nat.le_trans zz (bAll al1 b6').size) al2.size))
      all_goals
        go_wp2
        go_roundw
        case rel =>
          refine ⟨k + 1, mo', cm', by omega, by go_num, rfl, ?_, hbel.trans (((bAll (bAll al1 b6') al2).mono zz).trans (u4.below hbs (fun j h => h.1)))⟩
          rw [List.take_add_one, Hx.out, Option.toList_some, logW_snoc, wcells_snoc]
          rw [show (((1 + (0 + (L.take k).length) : Nat)) : Int) = 1 + (k : Int) by rw [List.length_take]; omega]
          rw [ZW.out] at hown
          exact .inl hown
        case measure => simp [intOf]; omega
    · obtain rfl : k = L.length := by omega
      rw [List.take_length] at hrow
      go_wp2
      go_ret
      exact ⟨_, _, rfl, hrow, hbel⟩

/-- The steps that log notes, and sign them. -/
def commitL (L : List (Int × ByteArray)) : List Stp := (logW 0 L).map putS ++ [flushS, (false, 0, byteS L.length), flushS]
theorem commitL_len (L : List (Int × ByteArray)) : (commitL L).length = L.length + 3 := by simp [commitL, logW_len]

set_option maxRecDepth 100000 in
set_option maxHeartbeats 4000000 in
theorem bcommit_any (B base : Nat) (T : List Stp) (no : Option Addr) (nc : Nat) (L : List (Int × ByteArray)) (w : World) (hB : Bld w B base T) (hT : T.length ≤ 1000)
    (hL : RowR w 2 (.slice no L.length nc) L.length (wcells L)) (hLb : ∀ x ∈ L, 0 ≤ x.1 ∧ x.1 < 250 ∧ x.2.size ≤ 1000) (hLn : L.length ≤ 250) :
    Calls Tryd.prog 51 #[.pointer (some ⟨B, 0, none⟩), .slice no L.length nc] w fun e w' => e = .returned (.tuple #[]) ∧ Bld w' B base (T ++ commitL L) ∧ Upd (fun k => k = B ∨ base ≤ k) w w' := by
  have HB := hide hB
  have HC := hide (walLogged_any no nc L w hL hLb (by omega))
  clear hB hL hLb
  go_enter Tryd.func51, Tryd.ntmps51
  go_wp2_with fail
  refine (unhide HC).mono ?_
  rintro e w1 ⟨ao, ca, rfl, r1, b1⟩
  have HC2 := hide (bput_any B base T ao ca (logW 0 L) w1 (HB.out.keepB b1) (by rw [logW_len]; omega) (by rw [logW_len]; exact (r1.row (by omega)).mono (fun _ _ _ => trivial)))
  rw [logW_len] at HC2
  clear HC r1
  go_wp2_with fail
  refine (unhide HC2).mono ?_
  rintro e w2 ⟨rfl, B2, u2⟩
  have hl2 : (T ++ (logW 0 L).map putS).length ≤ 1600 := by simp [logW_len]; omega
  have HB2 := hide B2
  clear HC2 B2
  go_wp2_with fail
  refine (bflush_any B base _ w2 HB2.out (by omega)).mono ?_
  rintro e w3 ⟨rfl, B3, u3⟩
  have hl3 : ((T ++ (logW 0 L).map putS) ++ [flushS]).length ≤ 1601 := by rw [List.length_append]; simp only [List.length_cons, List.length_nil]; omega
  have HB3 := hide B3
  clear B3
  go_wp2_with fail
  refine (walByte_any _ w3 (by omega) (by omega)).mono ?_
  rintro e w3b ⟨rfl, b3b⟩
  have HC4 := hide (bput_any B base _ _ 1 [(0, byteS (L.length : Int))] (w3b.alloc (.cells #[.int .i64 0, .string (byteS (L.length : Int))] 63)) ((HB3.out.keepB b3b).keepB ((Below.refl _ _).alloc (Nat.le_refl _) _)) (by simp only [List.length_cons, List.length_nil]; omega) (row_one w3b 0 _))
  go_wp2_with fail
  refine (unhide HC4).mono ?_
  rintro e w4 ⟨rfl, B4, u4⟩
  have hl4 : (((T ++ (logW 0 L).map putS) ++ [flushS]) ++ [(0, byteS (L.length : Int))].map putS).length ≤ 1602 := by rw [List.length_append]; simp only [List.length_map, List.length_cons, List.length_nil]; omega
  have HB4 := hide B4
  clear B4 HC4
  go_wp2_with fail
  refine (bflush_any B base _ w4 HB4.out (by omega)).mono ?_
  rintro e w5 ⟨rfl, B5, u5⟩
  have HB5 := hide B5
  clear B5
  go_wp2
  go_end0
  refine ⟨rfl, ?_, ?_⟩
  · have e1 : T ++ commitL L = (((T ++ (logW 0 L).map putS) ++ [flushS]) ++ [(0, byteS (L.length : Int))].map putS) ++ [flushS] := by simp [commitL, putS]
    rw [e1]
    exact HB5.out
  · exact (((((Upd.ofBelow b1).trans u2).trans u3).trans (Upd.ofBelow (bAll b3b ((Below.refl _ _).alloc (Nat.le_refl _) _)))).trans u4).trans u5

end Go.Proofs.YtapflnabiobonaaDoor
