/- Steps that are gathered by the program's builder: contracts; no statement of the seat is proved here. -/
import Derived.Test.YtapflnabiobonaaDoorWBuild
import Derived.Test.YtapflnabiobonaaDoorStep
import Derived.Test.YtapflnabiobonaaDoorPutA
namespace Go.Proofs.YtapflnabiobonaaDoor
open Go.RowKit

/-- A write as a step. -/
def putS (x : Int × ByteArray) : Stp := (false, x.1, x.2)
def flushS : Stp := (true, 0, ⟨#[]⟩)

theorem scells_snoc (xs : List Stp) (f : Bool) (a : Int) (s : ByteArray) : scells (xs ++ [(f, a, s)]) = scells xs ++ [.bool f, .int .i64 a, .string s] := by simp [scells, scell]
theorem scells_app (xs ys : List Stp) : scells (xs ++ ys) = scells xs ++ scells ys := by simp [scells]

theorem new_cells3 (w : World) (f : Bool) (a : Int) (s : ByteArray) (e : TypeId) : ∀ j u, [Value.bool f, .int .i64 a, .string s][j]? = some u → (w.alloc (.cells #[.bool f, .int .i64 a, .string s] e)).cell? ((⟨w.heap.size, 0, none⟩ : Addr).add j) = some u := by
  intro j u h
  rw [Addr.add_lit, Nat.zero_add, cell_of_row _ _ j _ _ (0, 0) (al1_0 w _)]
  simpa using h

theorem new_one3 (f : Bool) (a : Int) (s : ByteArray) : ∀ u ∈ [Value.bool f, .int .i64 a, .string s], u.oneCell' = true := by
  intro u hu
  simp only [List.mem_cons, List.not_mem_nil, or_false] at hu
  rcases hu with rfl | rfl | rfl <;> rfl

theorem box1 {w : World} {B : Nat} {x : Value} {t : TypeId} (h : w.heap[B]? = some (.cells #[x] t (0, 0))) : w.cell? ⟨B, 0, none⟩ = some x ∧ w.frozen? ⟨B, 0, none⟩ = false ∧ B < w.heap.size :=
  ⟨(cell_of_row w B 0 _ _ (0, 0) h).trans rfl, frozen_of_row w B 0 _ _ h, heap_lt h⟩

/-- A builder in memory. -/
def Bld (w : World) (B base : Nat) (T : List Stp) : Prop :=
  B < base ∧ base ≤ w.heap.size ∧ ∃ so sc, w.heap[B]? = some (.cells #[.slice so T.length sc] 78 (0, 0)) ∧ RowA w base 50 3 (.slice so T.length sc) T.length (scells T)

theorem Bld.keepB {w w' : World} {B base : Nat} {T : List Stp} (h : Bld w B base T) (hb : Below w.heap.size w w') : Bld w' B base T := by
  obtain ⟨h1, h2, so, sc, h3, h4⟩ := h
  exact ⟨h1, Nat.le_trans h2 hb.size, so, sc, bKeeps hb h3, h4.keepB hb⟩

set_option maxRecDepth 100000 in
set_option maxHeartbeats 4000000 in
theorem bput_any (B base : Nat) (T : List Stp) (ao : Option Addr) (ca : Nat) (xs : List (Int × ByteArray)) (w : World) (hB : Bld w B base T) (hT : T.length + xs.length ≤ 2000)
    (hx : Row w 63 2 (fun _ => True) (.slice ao xs.length ca) xs.length (wcells xs)) :
    Calls Tryd.prog 73 #[.pointer (some ⟨B, 0, none⟩), .slice ao xs.length ca] w fun e w' => e = .returned (.tuple #[]) ∧ Bld w' B base (T ++ xs.map putS) ∧ Upd (fun k => k = B ∨ base ≤ k) w w' := by
  obtain ⟨i1, gi, gz0, gz1, gz2⟩ := info_parts infoSt
  have HXS := hide hx
  have HB := hide hB
  clear hx hB
  go_enter Tryd.func73, Tryd.ntmps73
  go_wp2
  go_loopw [8] (fun iv wr => ∃ k : Nat, k ≤ xs.length ∧ iv = .int .i64 k ∧ Bld wr B base (T ++ (xs.take k).map putS) ∧ Row wr 63 2 (fun _ => True) (.slice ao xs.length ca) xs.length (wcells xs) ∧ Upd (fun k => k = B ∨ base ≤ k) w wr) (fun iv _ => xs.length - (intOf iv).toNat)
  case atStart => exact ⟨0, Nat.zero_le _, rfl, by simpa using HB.out, HXS.out, Upd.refl _ _⟩
  case round =>
    obtain ⟨k, hk, rfl, ⟨hb1, hb2, so, sc, hbx, hrow⟩, hxr, hup⟩ := hrel
    by_cases hlt : k < xs.length
    · obtain ⟨⟨a, t⟩, hxk⟩ := getAt xs k hlt
      obtain ⟨_, _, ev, _, _, hc0⟩ := hxr.reads
      simp only [Value.slice.injEq, true_and] at ev
      obtain ⟨rfl, rfl⟩ := ev
      obtain ⟨b, off, rfl, hcl⟩ := hc0 (by omega)
      obtain ⟨e0, e1⟩ := wcells_at xs k _ hxk
      have f1 : wr.cell? ⟨b, off + k * 2, none⟩ = some (.int .i64 a) := by rw [Nat.mul_comm k 2]; exact hcl _ _ e0
      have f2 : wr.cell? ⟨b, off + k * 2 + 1, none⟩ = some (.string t) := by rw [Nat.mul_comm k 2]; exact hcl _ _ e1
      have hi' : (k : Int) < (xs.length : Int) := by omega
      have hlen : (T ++ (xs.take k).map putS).length ≤ 2000 := by simp; omega
      have HX := hide hxk
      have HXR := hide hxr
      have Hup := hide hup
      clear hcl hc0 e0 e1 hxk hxr hup
      obtain ⟨W, hW⟩ : ∃ W, W = wr.alloc (.cells #[.int .i64 a, .string t] 63) := ⟨_, rfl⟩
      have al1 : Below wr.heap.size wr W := by rw [hW]; exact (Below.refl _ _).alloc (Nat.le_refl _) _
      have HXB := hide (show W.heap[wr.heap.size]? = some (.cells #[.int .i64 a, .string t] 63 (0, 0)) by rw [hW]; exact al1_0 wr _)
      have ZW : Hid (W.heap.size = wr.heap.size + 1) := by show _ = _; rw [hW]; simp
      have HBX := hide (bKeeps al1 hbx)
      have hrow1 := hrow.keepB al1
      obtain ⟨T', hT'⟩ : ∃ T', T ++ (xs.take k).map putS = T' := ⟨_, rfl⟩
      rw [hT'] at hrow1 HBX hlen
      have HT' := hide hT'
      clear hbx hrow hT'
      go_wp2
      rw [← hW]
      clear hW f1 f2
      obtain ⟨x0, x1, xl⟩ := box2 HXB.out
      obtain ⟨p0, p1, pl⟩ := box1 HBX.out
      have al2 : Below W.heap.size W (W.drew.alloc (.cells #[.bool false, .int .i64 a, .string t] 50)) := ((Below.refl _ _).drew).alloc (Nat.le_refl _) _
      have N3 := hide (new_cells3 W.drew false a t 50)
      have s3 := hrow1.keepB al2
      have hbs : base ≤ (W.drew.alloc (.cells #[.bool false, .int .i64 a, .string t] 50)).heap.size := by have := al2.size; have := al1.size; omega
      go_region_law (refine step_appendA rfl _ _ 38 rfl base 50 i1 (.agg #[.bool false, .int .i64 0, .string ⟨#[]⟩]) 3 32 Tryd.underlying38 gi gz0 gz1 gz2 rfl (by decide) _ T'.length (scells T') rfl s3 ⟨W.heap.size, 0, none⟩ 1 1 [.bool false, .int .i64 a, .string t] rfl rfl N3.out (new_one3 false a t) (by decide) (by unfold maxLen; omega) (by omega) hbs ?_; intro v4 w4 hown u4; obtain ⟨mo', cm', rfl⟩ := (Row.ofOwns hown (by omega)).shape; obtain ⟨t0, t1, tl⟩ := box1 (u4.keeps (bKeeps al2 HBX.out) (typed_box (bKeeps al2 HBX.out) (by decide) rfl)))
      all_goals
        have hbx := u4.keeps (bKeeps al2 HBX.out) (typed_box (bKeeps al2 HBX.out) (by decide) rfl)
        have hu4 := upd_append (bAll al1 al2) u4
        have hu := Upd.setCell (S := fun k => k = B) w4 B 0 (.slice mo' (T'.length + 1) cm') rfl
        have HBX4 := hide hbx
        have zz := hu4.size
        clear hbx
        go_wp2
        go_roundw
        case rel =>
          have hTk : T ++ (xs.take (k + 1)).map putS = T' ++ [(false, a, t)] := by rw [List.take_add_one, HX.out, Option.toList_some, List.map_append, ← List.append_assoc, HT'.out]; rfl
          have hr2 : Row (w4.setCell ⟨B, 0, none⟩ (.slice mo' (T'.length + 1) cm')) 63 2 (fun _ => True) (.slice (some ⟨b, off, none⟩) xs.length ca) xs.length (wcells xs) := by
            have h1 := (HXR.out.typed).keep hu4 (fun j h => typed_apart (by decide) j h)
            exact (h1.keep hu (by rintro j ⟨-, cu, hcu⟩ rfl; have := hu4.keeps hcu (fun h => typed_apart (S := fun _ => True) (by decide) _ ⟨trivial, cu, hcu⟩ h); rw [HBX4.out] at this; cases this)).mono (fun _ _ _ => trivial)
          refine ⟨k + 1, by omega, by go_num, ?_, hr2, ?_⟩
          · rw [hTk]
            refine ⟨hb1, by have := hu.size; omega, mo', cm', ?_, ?_⟩
            · rw [List.length_append]; exact row_set _ HBX4.out
            · rw [List.length_append, scells_snoc]
              exact RowA.keepTy (.inl hown) hu (by rintro j ht rfl; exact typed_box HBX4.out (by decide) rfl ht)
          · exact Hup.out.trans ((hu4.mono (fun j h => .inr h.1)).trans (hu.mono (fun j h => .inl h)))
        case measure => simp [intOf]; omega
    · obtain rfl : k = xs.length := by omega
      have HBF : Hid (Bld wr B base (T ++ xs.map putS)) := by
        have : Bld wr B base (T ++ (xs.take xs.length).map putS) := ⟨hb1, hb2, so, sc, hbx, hrow⟩
        rwa [List.take_length] at this
      clear hbx hrow hxr
      go_wp2
      go_end0
      exact ⟨rfl, HBF.out, hup⟩

set_option maxRecDepth 100000 in
set_option maxHeartbeats 4000000 in
theorem bflush_any (B base : Nat) (T : List Stp) (w : World) (hB : Bld w B base T) (hT : T.length ≤ 2000) :
    Calls Tryd.prog 75 #[.pointer (some ⟨B, 0, none⟩)] w fun e w' => e = .returned (.tuple #[]) ∧ Bld w' B base (T ++ [flushS]) ∧ Upd (fun k => k = B ∨ base ≤ k) w w' := by
  obtain ⟨i1, gi, gz0, gz1, gz2⟩ := info_parts infoSt
  obtain ⟨hb1, hb2, so, sc, hbx, hrow⟩ := hB
  obtain ⟨p0, p1, pl⟩ := box1 hbx
  have HBX := hide hbx
  have al2 : Below w.heap.size w (w.alloc (.cells #[.bool true, .int .i64 0, .string ⟨#[]⟩] 50)) := (Below.refl _ _).alloc (Nat.le_refl _) _
  have N3 := hide (new_cells3 w true 0 ⟨#[]⟩ 50)
  have s3 := hrow.keepB al2
  have hbs : base ≤ (w.alloc (.cells #[.bool true, .int .i64 0, .string ⟨#[]⟩] 50)).heap.size := by have := al2.size; omega
  clear hbx hrow
  go_enter Tryd.func75, Tryd.ntmps75
  go_wp2_with (at_builtin; refine wpList_appendA _ rfl _ _ 38 rfl base 50 i1 (.agg #[.bool false, .int .i64 0, .string ⟨#[]⟩]) 3 32 Tryd.underlying38 gi gz0 gz1 gz2 rfl (by decide) _ T.length (scells T) rfl s3 ⟨w.heap.size, 0, none⟩ 1 1 [.bool true, .int .i64 0, .string ⟨#[]⟩] rfl rfl N3.out (new_one3 true 0 ⟨#[]⟩) (by decide) ?q63 ?qby hbs ?_)
  case q63 => unfold maxLen; omega
  case qby => omega
  intro v4 w4 hown u4
  obtain ⟨mo', cm', rfl⟩ := (Row.ofOwns hown (by omega)).shape
  have hbx := u4.keeps (bKeeps al2 HBX.out) (typed_box (bKeeps al2 HBX.out) (by decide) rfl)
  have hu4 := upd_append al2 u4
  have hu := Upd.setCell (S := fun k => k = B) w4 B 0 (.slice mo' (T.length + 1) cm') rfl
  obtain ⟨t0, t1, tl⟩ := box1 hbx
  have HBX4 := hide hbx
  have zz := hu4.size
  clear hbx p0 p1 pl
  go_wp2
  go_end0
  refine ⟨rfl, ⟨hb1, by have := hu.size; omega, mo', cm', ?_, ?_⟩, (hu4.mono (fun j h => .inr h.1)).trans (hu.mono (fun j h => .inl h))⟩
  · rw [List.length_append]; exact row_set _ HBX4.out
  · rw [List.length_append, flushS, scells_snoc]
    exact RowA.keepTy (.inl hown) hu (by rintro j ht rfl; exact typed_box HBX4.out (by decide) rfl ht)

/-- The steps that bring what is logged home, and strike the sign. -/
def applyL (L : List (Int × ByteArray)) : List Stp := (L.map appW).map putS ++ [flushS, (false, 0, ⟨#[]⟩), flushS]

theorem row_one (w : World) (a : Int) (s : ByteArray) : Row (w.alloc (.cells #[.int .i64 a, .string s] 63)) 63 2 (fun _ => True) (.slice (some ⟨w.heap.size, 0, none⟩) 1 1) 1 (wcells [(a, s)]) :=
  ⟨_, _, rfl, by omega, rfl, fun _ => ⟨w.heap.size, _, rfl, trivial, al1_0 w _, rfl⟩⟩

set_option maxRecDepth 100000 in
set_option maxHeartbeats 4000000 in
theorem bapply_any (B base : Nat) (T : List Stp) (no : Option Addr) (nc : Nat) (L : List (Int × ByteArray)) (w : World) (hB : Bld w B base T) (hT : T.length ≤ 1000)
    (hL : RowR w 2 (.slice no L.length nc) L.length (wcells L)) (hLb : ∀ x ∈ L, 0 ≤ x.1 ∧ x.1 < 250) (hLn : L.length ≤ 512) :
    Calls Tryd.prog 45 #[.pointer (some ⟨B, 0, none⟩), .slice no L.length nc] w fun e w' => e = .returned (.tuple #[]) ∧ Bld w' B base (T ++ applyL L) ∧ Upd (fun k => k = B ∨ base ≤ k) w w' := by
  have HB := hide hB
  have HC := hide (walApplied_any no nc L w hL hLb (by omega))
  clear hB hL hLb
  go_enter Tryd.func45, Tryd.ntmps45
  go_wp2_with fail
  refine (unhide HC).mono ?_
  rintro e w1 ⟨ao, ca, rfl, r1, b1⟩
  have hlen : (L.map appW).length = L.length := by simp
  have HC2 := hide (bput_any B base T ao ca (L.map appW) w1 (HB.out.keepB b1) (by rw [hlen]; omega) (by rw [hlen]; exact (r1.row (by omega)).mono (fun _ _ _ => trivial)))
  rw [hlen] at HC2
  clear HC r1 hlen
  go_wp2_with fail
  refine (unhide HC2).mono ?_
  rintro e w2 ⟨rfl, B2, u2⟩
  have hl2 : (T ++ (L.map appW).map putS).length ≤ 1600 := by simp; omega
  have HB2 := hide B2
  clear HC2 B2
  go_wp2_with fail
  refine (bflush_any B base _ w2 HB2.out (by omega)).mono ?_
  rintro e w3 ⟨rfl, B3, u3⟩
  have hl3 : ((T ++ (L.map appW).map putS) ++ [flushS]).length ≤ 1601 := by simp at hl2 ⊢; omega
  have HB3 := hide B3
  clear B3
  have HC4 := hide (bput_any B base _ _ 1 [(0, ⟨#[]⟩)] (w3.alloc (.cells #[.int .i64 0, .string ⟨#[]⟩] 63)) (HB3.out.keepB ((Below.refl _ _).alloc (Nat.le_refl _) _)) (by simp at hl3 ⊢; omega) (row_one w3 0 ⟨#[]⟩))
  go_wp2_with fail
  refine (unhide HC4).mono ?_
  rintro e w4 ⟨rfl, B4, u4⟩
  have hl4 : (((T ++ (L.map appW).map putS) ++ [flushS]) ++ [(0, (⟨#[]⟩ : ByteArray))].map putS).length ≤ 1602 := by simp at hl3 ⊢; omega
  have HB4 := hide B4
  clear B4 HC4
  go_wp2_with fail
  refine (bflush_any B base _ w4 HB4.out (by omega)).mono ?_
  rintro e w5 ⟨rfl, B5, u5⟩
  have HB5 := hide B5
  clear B5
  go_wp2
  go_end0
  refine ⟨rfl, ?_, ?_⟩
  · have e1 : T ++ applyL L = (((T ++ (L.map appW).map putS) ++ [flushS]) ++ [(0, (⟨#[]⟩ : ByteArray))].map putS) ++ [flushS] := by simp [applyL, putS]
    rw [e1]
    exact HB5.out
  · exact (((((Upd.ofBelow b1).trans u2).trans u3).trans (Upd.ofBelow ((Below.refl _ _).alloc (Nat.le_refl _) _))).trans u4).trans u5

end Go.Proofs.YtapflnabiobonaaDoor
