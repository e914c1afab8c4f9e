/- Contracts and plain facts that the claims of this seat lean on (texts WBld, WRead, WMend, WStep, WStep2); no statement of the seat is proved here. -/
import Derived.Test.YtapflnabiobonaaDoorPk5
import Derived.Test.YtapflnabiobonaaDoorPk7

/- Steps that are gathered by the program's builder: contracts; no statement of the seat is proved here. -/
namespace Go.Proofs.YtapflnabiobonaaDoor
open Go.RowKit

/-- A write as a step. -/
def putS (x : Int × ByteArray) : Stp := (false, x.1, x.2)
def flushS : Stp := (true, 0, ⟨#[]⟩)

theorem scells_snoc (xs : List Stp) (f : Bool) (a : Int) (s : ByteArray) : scells (xs ++ [(f, a, s)]) = scells xs ++ [.bool f, .int .i64 a, .string s] := by simp [scells, scell]
theorem scells_app (xs ys : List Stp) : scells (xs ++ ys) = scells xs ++ scells ys := by simp [scells]

theorem new_cells3 (w : World) (f : Bool) (a : Int) (s : ByteArray) (e : TypeId) : ∀ j u, [Value.bool f, .int .i64 a, .string s][j]? = some u → (w.alloc (.cells #[.bool f, .int .i64 a, .string s] e)).cell? ((⟨w.heap.size, 0, none⟩ : Addr).add j) = some u := by
  intro j u h
  rw [Addr.add_lit, Nat.zero_add, cell_of_row _ _ j _ _ (0, 0) (al1_0 w _)]
  simpa using h

theorem new_one3 (f : Bool) (a : Int) (s : ByteArray) : ∀ u ∈ [Value.bool f, .int .i64 a, .string s], u.oneCell' = true := by
  intro u hu
  simp only [List.mem_cons, List.not_mem_nil, or_false] at hu
  rcases hu with rfl | rfl | rfl <;> rfl

theorem box1 {w : World} {B : Nat} {x : Value} {t : TypeId} (h : w.heap[B]? = some (.cells #[x] t (0, 0))) : w.cell? ⟨B, 0, none⟩ = some x ∧ w.frozen? ⟨B, 0, none⟩ = false ∧ B < w.heap.size :=
  ⟨(cell_of_row w B 0 _ _ (0, 0) h).trans rfl, frozen_of_row w B 0 _ _ h, heap_lt h⟩

/-- A builder in memory. -/
def Bld (w : World) (B base : Nat) (T : List Stp) : Prop :=
  B < base ∧ base ≤ w.heap.size ∧ ∃ so sc, w.heap[B]? = some (.cells #[.slice so T.length sc] 78 (0, 0)) ∧ RowA w base 50 3 (.slice so T.length sc) T.length (scells T)

theorem Bld.keepB {w w' : World} {B base : Nat} {T : List Stp} (h : Bld w B base T) (hb : Below w.heap.size w w') : Bld w' B base T := by
  obtain ⟨h1, h2, so, sc, h3, h4⟩ := h
  exact ⟨h1, Nat.le_trans h2 hb.size, so, sc, bKeeps hb h3, h4.keepB hb⟩

set_option maxRecDepth 100000 in
set_option maxHeartbeats 4000000 in
theorem bput_any (B base : Nat) (T : List Stp) (ao : Option Addr) (ca : Nat) (xs : List (Int × ByteArray)) (w : World) (hB : Bld w B base T) (hT : T.length + xs.length ≤ 2000)
    (hx : Row w 63 2 (fun _ => True) (.slice ao xs.length ca) xs.length (wcells xs)) :
    Calls Tryd.prog 73 #[.pointer (some ⟨B, 0, none⟩), .slice ao xs.length ca] w fun e w' => e = .returned (.tuple #[]) ∧ Bld w' B base (T ++ xs.map putS) ∧ Upd (fun k => k = B ∨ base ≤ k) w w' := by
  obtain ⟨i1, gi, gz0, gz1, gz2⟩ := info_parts infoSt
  have HXS := hide hx
  have HB := hide hB
  clear hx hB
  go_enter Tryd.func73, Tryd.ntmps73
  go_wp2
  go_loopw [8] (fun iv wr => ∃ k : Nat, k ≤ xs.length ∧ iv = .int .i64 k ∧ Bld wr B base (T ++ (xs.take k).map putS) ∧ Row wr 63 2 (fun _ => True) (.slice ao xs.length ca) xs.length (wcells xs) ∧ Upd (fun k => k = B ∨ base ≤ k) w wr) (fun iv _ => xs.length - (intOf iv).toNat)
  case atStart => exact ⟨0, Nat.zero_le _, rfl, by simpa using HB.out, HXS.out, Upd.refl _ _⟩
  case round =>
    obtain ⟨k, hk, rfl, ⟨hb1, hb2, so, sc, hbx, hrow⟩, hxr, hup⟩ := hrel
    by_cases hlt : k < xs.length
    · obtain ⟨⟨a, t⟩, hxk⟩ := getAt xs k hlt
      obtain ⟨_, _, ev, _, _, hc0⟩ := hxr.reads
      simp only [Value.slice.injEq, true_and] at ev
      obtain ⟨rfl, rfl⟩ := ev
      obtain ⟨b, off, rfl, hcl⟩ := hc0 (by omega)
      obtain ⟨e0, e1⟩ := wcells_at xs k _ hxk
      have f1 : wr.cell? ⟨b, off + k * 2, none⟩ = some (.int .i64 a) := by rw [Nat.mul_comm k 2]; exact hcl _ _ e0
      have f2 : wr.cell? ⟨b, off + k * 2 + 1, none⟩ = some (.string t) := by rw [Nat.mul_comm k 2]; exact hcl _ _ e1
      have hi' : (k : Int) < (xs.length : Int) := by omega
      have hlen : (T ++ (xs.take k).map putS).length ≤ 2000 := by simp; omega
      have HX := hide hxk
      have HXR := hide hxr
      have Hup := hide hup
      clear hcl hc0 e0 e1 hxk hxr hup
      obtain ⟨W, hW⟩ : ∃ W, W = wr.alloc (.cells #[.int .i64 a, .string t] 63) := ⟨_, rfl⟩
      have al1 : Below wr.heap.size wr W := by rw [hW]; exact (Below.refl _ _).alloc (Nat.le_refl _) _
      have HXB := hide (show W.heap[wr.heap.size]? = some (.cells #[.int .i64 a, .string t] 63 (0, 0)) by rw [hW]; exact al1_0 wr _)
      have ZW : Hid (W.heap.size = wr.heap.size + 1) := by show _ = _; rw [hW]; simp
      have HBX := hide (bKeeps al1 hbx)
      have hrow1 := hrow.keepB al1
      obtain ⟨T', hT'⟩ : ∃ T', T ++ (xs.take k).map putS = T' := ⟨_, rfl⟩
      rw [hT'] at hrow1 HBX hlen
      have HT' := hide hT'
      clear hbx hrow hT'
      go_wp2
      rw [← hW]
      clear hW f1 f2
      obtain ⟨x0, x1, xl⟩ := box2 HXB.out
      obtain ⟨p0, p1, pl⟩ := box1 HBX.out
      have al2 : Below W.heap.size W (W.drew.alloc (.cells #[.bool false, .int .i64 a, .string t] 50)) := ((Below.refl _ _).drew).alloc (Nat.le_refl _) _
      have N3 := hide (new_cells3 W.drew false a t 50)
      have s3 := hrow1.keepB al2
      have hbs : base ≤ (W.drew.alloc (.cells #[.bool false, .int .i64 a, .string t] 50)).heap.size := by have := al2.size; have := al1.size; omega
      go_region_law (refine step_appendA rfl _ _ 38 rfl base 50 i1 (.agg #[.bool false, .int .i64 0, .string ⟨#[]⟩]) 3 32 Tryd.underlying38 gi gz0 gz1 gz2 rfl (by decide) _ T'.length (scells T') rfl s3 ⟨W.heap.size, 0, none⟩ 1 1 [.bool false, .int .i64 a, .string t] rfl rfl N3.out (new_one3 false a t) (by decide) (by unfold maxLen; omega) (by omega) hbs ?_; intro v4 w4 hown u4; obtain ⟨mo', cm', rfl⟩ := (Row.ofOwns hown (by omega)).shape; obtain ⟨t0, t1, tl⟩ := box1 (u4.keeps (bKeeps al2 HBX.out) (typed_box (bKeeps al2 HBX.out) (by decide) rfl)))
      all_goals
        have hbx := u4.keeps (bKeeps al2 HBX.out) (typed_box (bKeeps al2 HBX.out) (by decide) rfl)
        have hu4 := upd_append (bAll al1 al2) u4
        have hu := Upd.setCell (S := fun k => k = B) w4 B 0 (.slice mo' (T'.length + 1) cm') rfl
        have HBX4 := hide hbx
        have zz := hu4.size
        clear hbx
        go_wp2
        go_roundw
        case rel =>
          have hTk : T ++ (xs.take (k + 1)).map putS = T' ++ [(false, a, t)] := by rw [List.take_add_one, HX.out, Option.toList_some, List.map_append, ← List.append_assoc, HT'.out]; rfl
          have hr2 : Row (w4.setCell ⟨B, 0, none⟩ (.slice mo' (T'.length + 1) cm')) 63 2 (fun _ => True) (.slice (some ⟨b, off, none⟩) xs.length ca) xs.length (wcells xs) := by
            have h1 := (HXR.out.typed).keep hu4 (fun j h => typed_apart (by decide) j h)
            exact (h1.keep hu (by rintro j ⟨-, cu, hcu⟩ rfl; have := hu4.keeps hcu (fun h => typed_apart (S := fun _ => True) (by decide) _ ⟨trivial, cu, hcu⟩ h); rw [HBX4.out] at this; cases this)).mono (fun _ _ _ => trivial)
          refine ⟨k + 1, by omega, by go_num, ?_, hr2, ?_⟩
          · rw [hTk]
            refine ⟨hb1, by have := hu.size; omega, mo', cm', ?_, ?_⟩
            · rw [List.length_append]; exact row_set _ HBX4.out
            · rw [List.length_append, scells_snoc]
              exact RowA.keepTy (.inl hown) hu (by rintro j ht rfl; exact typed_box HBX4.out (by decide) rfl ht)
          · exact Hup.out.trans ((hu4.mono (fun j h => .inr h.1)).trans (hu.mono (fun j h => .inl h)))
        case measure => simp [intOf]; omega
    · obtain rfl : k = xs.length := by omega
      have HBF : Hid (Bld wr B base (T ++ xs.map putS)) := by
        have : Bld wr B base (T ++ (xs.take xs.length).map putS) := ⟨hb1, hb2, so, sc, hbx, hrow⟩
        rwa [List.take_length] at this
      clear hbx hrow hxr
      go_wp2
      go_end0
      exact ⟨rfl, HBF.out, hup⟩

set_option maxRecDepth 100000 in
set_option maxHeartbeats 4000000 in
theorem bflush_any (B base : Nat) (T : List Stp) (w : World) (hB : Bld w B base T) (hT : T.length ≤ 2000) :
    Calls Tryd.prog 75 #[.pointer (some ⟨B, 0, none⟩)] w fun e w' => e = .returned (.tuple #[]) ∧ Bld w' B base (T ++ [flushS]) ∧ Upd (fun k => k = B ∨ base ≤ k) w w' := by
  obtain ⟨i1, gi, gz0, gz1, gz2⟩ := info_parts infoSt
  obtain ⟨hb1, hb2, so, sc, hbx, hrow⟩ := hB
  obtain ⟨p0, p1, pl⟩ := box1 hbx
  have HBX := hide hbx
  have al2 : Below w.heap.size w (w.alloc (.cells #[.bool true, .int .i64 0, .string ⟨#[]⟩] 50)) := (Below.refl _ _).alloc (Nat.le_refl _) _
  have N3 := hide (new_cells3 w true 0 ⟨#[]⟩ 50)
  have s3 := hrow.keepB al2
  have hbs : base ≤ (w.alloc (.cells #[.bool true, .int .i64 0, .string ⟨#[]⟩] 50)).heap.size := by have := al2.size; omega
  clear hbx hrow
  go_enter Tryd.func75, Tryd.ntmps75
  go_wp2_with (at_builtin; refine wpList_appendA _ rfl _ _ 38 rfl base 50 i1 (.agg #[.bool false, .int .i64 0, .string ⟨#[]⟩]) 3 32 Tryd.underlying38 gi gz0 gz1 gz2 rfl (by decide) _ T.length (scells T) rfl s3 ⟨w.heap.size, 0, none⟩ 1 1 [.bool true, .int .i64 0, .string ⟨#[]⟩] rfl rfl N3.out (new_one3 true 0 ⟨#[]⟩) (by decide) ?q63 ?qby hbs ?_)
  case q63 => unfold maxLen; omega
  case qby => omega
  intro v4 w4 hown u4
  obtain ⟨mo', cm', rfl⟩ := (Row.ofOwns hown (by omega)).shape
  have hbx := u4.keeps (bKeeps al2 HBX.out) (typed_box (bKeeps al2 HBX.out) (by decide) rfl)
  have hu4 := upd_append al2 u4
  have hu := Upd.setCell (S := fun k => k = B) w4 B 0 (.slice mo' (T.length + 1) cm') rfl
  obtain ⟨t0, t1, tl⟩ := box1 hbx
  have HBX4 := hide hbx
  have zz := hu4.size
  clear hbx p0 p1 pl
  go_wp2
  go_end0
  refine ⟨rfl, ⟨hb1, by have := hu.size; omega, mo', cm', ?_, ?_⟩, (hu4.mono (fun j h => .inr h.1)).trans (hu.mono (fun j h => .inl h))⟩
  · rw [List.length_append]; exact row_set _ HBX4.out
  · rw [List.length_append, flushS, scells_snoc]
    exact RowA.keepTy (.inl hown) hu (by rintro j ht rfl; exact typed_box HBX4.out (by decide) rfl ht)

/-- The steps that bring what is logged home, and strike the sign. -/
def applyL (L : List (Int × ByteArray)) : List Stp := (L.map appW).map putS ++ [flushS, (false, 0, ⟨#[]⟩), flushS]

theorem row_one (w : World) (a : Int) (s : ByteArray) : Row (w.alloc (.cells #[.int .i64 a, .string s] 63)) 63 2 (fun _ => True) (.slice (some ⟨w.heap.size, 0, none⟩) 1 1) 1 (wcells [(a, s)]) :=
  ⟨_, _, rfl, by omega, rfl, fun _ => ⟨w.heap.size, _, rfl, trivial, al1_0 w _, rfl⟩⟩

set_option maxRecDepth 100000 in
set_option maxHeartbeats 4000000 in
theorem bapply_any (B base : Nat) (T : List Stp) (no : Option Addr) (nc : Nat) (L : List (Int × ByteArray)) (w : World) (hB : Bld w B base T) (hT : T.length ≤ 1000)
    (hL : RowR w 2 (.slice no L.length nc) L.length (wcells L)) (hLb : ∀ x ∈ L, 0 ≤ x.1 ∧ x.1 < 250) (hLn : L.length ≤ 512) :
    Calls Tryd.prog 45 #[.pointer (some ⟨B, 0, none⟩), .slice no L.length nc] w fun e w' => e = .returned (.tuple #[]) ∧ Bld w' B base (T ++ applyL L) ∧ Upd (fun k => k = B ∨ base ≤ k) w w' := by
  have HB := hide hB
  have HC := hide (walApplied_any no nc L w hL hLb (by omega))
  clear hB hL hLb
  go_enter Tryd.func45, Tryd.ntmps45
  go_wp2_with fail
  refine (unhide HC).mono ?_
  rintro e w1 ⟨ao, ca, rfl, r1, b1⟩
  have hlen : (L.map appW).length = L.length := by simp
  have HC2 := hide (bput_any B base T ao ca (L.map appW) w1 (HB.out.keepB b1) (by rw [hlen]; omega) (by rw [hlen]; exact (r1.row (by omega)).mono (fun _ _ _ => trivial)))
  rw [hlen] at HC2
  clear HC r1 hlen
  go_wp2_with fail
  refine (unhide HC2).mono ?_
  rintro e w2 ⟨rfl, B2, u2⟩
  have hl2 : (T ++ (L.map appW).map putS).length ≤ 1600 := by simp; omega
  have HB2 := hide B2
  clear HC2 B2
  go_wp2_with fail
  refine (bflush_any B base _ w2 HB2.out (by omega)).mono ?_
  rintro e w3 ⟨rfl, B3, u3⟩
  have hl3 : ((T ++ (L.map appW).map putS) ++ [flushS]).length ≤ 1601 := by simp at hl2 ⊢; omega
  have HB3 := hide B3
  clear B3
  have HC4 := hide (bput_any B base _ _ 1 [(0, ⟨#[]⟩)] (w3.alloc (.cells #[.int .i64 0, .string ⟨#[]⟩] 63)) (HB3.out.keepB ((Below.refl _ _).alloc (Nat.le_refl _) _)) (by simp at hl3 ⊢; omega) (row_one w3 0 ⟨#[]⟩))
  go_wp2_with fail
  refine (unhide HC4).mono ?_
  rintro e w4 ⟨rfl, B4, u4⟩
  have hl4 : (((T ++ (L.map appW).map putS) ++ [flushS]) ++ [(0, (⟨#[]⟩ : ByteArray))].map putS).length ≤ 1602 := by simp at hl3 ⊢; omega
  have HB4 := hide B4
  clear B4 HC4
  go_wp2_with fail
  refine (bflush_any B base _ w4 HB4.out (by omega)).mono ?_
  rintro e w5 ⟨rfl, B5, u5⟩
  have HB5 := hide B5
  clear B5
  go_wp2
  go_end0
  refine ⟨rfl, ?_, ?_⟩
  · have e1 : T ++ applyL L = (((T ++ (L.map appW).map putS) ++ [flushS]) ++ [(0, (⟨#[]⟩ : ByteArray))].map putS) ++ [flushS] := by simp [applyL, putS]
    rw [e1]
    exact HB5.out
  · exact (((((Upd.ofBelow b1).trans u2).trans u3).trans (Upd.ofBelow ((Below.refl _ _).alloc (Nat.le_refl _) _))).trans u4).trans u5

end Go.Proofs.YtapflnabiobonaaDoor

/- WalRead of the program: contracts; no statement of the seat is proved here. -/
namespace Go.Proofs.YtapflnabiobonaaDoor
open Go.RowKit

/-- What walOpen gives. -/
def OpenR (w' : World) (kept : List ByteArray) (wait : List (Int × ByteArray)) (e : Ending) : Prop :=
  (readB kept wait = true ∧ ∃ F s L g gc no nc, flushK kept wait = F ∧ F.length = 501 ∧ F[0]? = some s ∧ logL s F = L ∧ logB s F = true ∧ (∀ t ∈ F, t.size ≤ 16) ∧ e = .returned (.tuple #[.agg #[.slice (some ⟨g, 0, none⟩) F.length gc, .slice no L.length nc], .bool true]) ∧ F.length ≤ gc ∧ RowR w' 1 (.slice (some ⟨g, 0, none⟩) F.length gc) F.length (F.map Value.string) ∧ RowR w' 2 (.slice no L.length nc) L.length (wcells L)) ∨
  (readB kept wait = false ∧ e = .returned (.tuple #[.agg #[.slice none 0 0, .slice none 0 0], .bool false]))

theorem sign0_of {F : List ByteArray} {s : ByteArray} (h : F[0]? = some s) : sign0 F = s := by simp [sign0, h]

set_option maxRecDepth 100000 in
set_option maxHeartbeats 2000000 in
theorem walOpen_any (v : Value) (kept : List ByteArray) (wait : List (Int × ByteArray)) (w : World) (hg : ErrVar w) (hr : DiskR w v kept wait) (hs : ∀ s ∈ kept, s.size ≤ 9223372036854775807) (hs' : ∀ s ∈ wait, s.2.size ≤ 9223372036854775807) :
    Calls Tryd.prog 38 #[v] w fun e w' => OpenR w' kept wait e ∧ Below w.heap.size w w' := by
  cases hf : formB kept wait
  · have HNO : Hid (readB kept wait = false) := by show _ = _; simp [readB, hf]
    have Hr := hide hr
    obtain ⟨ak, aw, rfl, ⟨ao, ca, rfl, -⟩, ⟨bo, cb, rfl, -⟩⟩ := hr
    obtain ⟨Wa, hWa⟩ : ∃ Wa, Wa = ((w.alloc (.cells #[.slice ao kept.length ca, .slice bo wait.length cb] 31)).alloc (.cells #[.slice none 0 0, .slice none 0 0] 69)).alloc (.cells #[.bool false] 4) := ⟨_, rfl⟩
    have hal : Below w.heap.size w Wa := by rw [hWa]; exact (((Below.refl _ _).alloc (Nat.le_refl _) _).alloc (by simp) _).alloc (by simp; omega) _
    have X0 := hide (show Wa.heap[w.heap.size]? = some (.cells #[.slice ao kept.length ca, .slice bo wait.length cb] 31 (0, 0)) by rw [hWa]; exact al3_0 w _ _ _)
    have X1 := hide (show Wa.heap[w.heap.size + 1]? = some (.cells #[.slice none 0 0, .slice none 0 0] 69 (0, 0)) by rw [hWa]; exact al3_1 w _ _ _)
    have X2 := hide (show Wa.heap[w.heap.size + 1 + 1]? = some (.cells #[.bool false] 4 (0, 0)) by rw [hWa]; exact al3_2 w _ _ _)
    have hza : Wa.heap.size = w.heap.size + 3 := by rw [hWa]; simp
    go_enter Tryd.func38, Tryd.ntmps38
    go_wp2_with fail
    rw [← hWa]
    clear hWa
    refine (implSecOk_any kept wait _ _ (Hr.out.keep hal) hs hs').mono ?_
    rintro e w1 ⟨rfl, b1⟩
    have c1 := bAll hal b1
    have z1 := b1.size
    have y1 := bKeeps b1 X1.out
    have y2 := bKeeps b1 X2.out
    obtain ⟨p0, p1, pl⟩ := box2 (bKeeps b1 X0.out)
    obtain ⟨q0, q1, ql⟩ := box2 y1
    obtain ⟨q2, q3⟩ := box2f y1
    have r0 : w1.cell? ⟨w.heap.size + 1 + 1, 0, none⟩ = some (.bool false) := (cell_of_row w1 _ 0 _ _ (0, 0) y2).trans rfl
    have r1 : w1.frozen? ⟨w.heap.size + 1 + 1, 0, none⟩ = false := frozen_of_row w1 _ 0 _ _ y2
    have G1 := hide y1
    have G2 := hide y2
    clear y1 y2
    have fin : ∀ (K : Prop), K → K := fun _ h => h
    have ua := hide (upd_set2 w1 (w.heap.size + 1) 0 1 (.slice none 0 0) (.slice none 0 0))
    have ub := hide (Upd.setCell (S := fun k => k = w.heap.size + 1 + 1) ((w1.setCell ⟨w.heap.size + 1, 0, none⟩ (.slice none 0 0)).setCell ⟨w.heap.size + 1, 1, none⟩ (.slice none 0 0)) (w.heap.size + 1 + 1) 0 (.bool false) rfl)
    have hx1 := hide (ub.out.keeps (row_set (j := 1) (.slice none 0 0) (row_set (j := 0) (.slice none 0 0) G1.out)) (by omega))
    have hx2 := hide (row_set (j := 0) (.bool false) (ua.out.keeps G2.out (by omega)))
    have hbl := hide (c1.trans ((ua.out.below (by omega) (fun k h => by omega)).trans (ub.out.below (by have := ua.out.size; omega) (fun k h => by omega))))
    cases hok : okB kept wait
    · go_wp2
      obtain ⟨t0, t1, tl⟩ := box2 (x := .slice none 0 0) (y := .slice none 0 0) hx1.out
      have t2 := (cell_of_row _ _ 0 _ _ (0, 0) hx2.out).trans rfl
      exact bodyPost_ret (v := .tuple #[.agg #[.slice none 0 0, .slice none 0 0], .bool false]) (by simp [results, Tryd.results38, go_sem, t0, t1, t2]) rfl ⟨.inr ⟨HNO.out, rfl⟩, hbl.out⟩
    · have h5 : ((kept.length : Int) != 501) = true := by
        simp only [formB, hok, Bool.true_and, decide_eq_false_iff_not] at hf
        simp only [bne_iff_ne, ne_eq]
        omega
      clear hf
      go_wp2
      obtain ⟨t0, t1, tl⟩ := box2 (x := .slice none 0 0) (y := .slice none 0 0) hx1.out
      have t2 := (cell_of_row _ _ 0 _ _ (0, 0) hx2.out).trans rfl
      exact bodyPost_ret (v := .tuple #[.agg #[.slice none 0 0, .slice none 0 0], .bool false]) (by simp [results, Tryd.results38, go_sem, t0, t1, t2]) rfl ⟨.inr ⟨HNO.out, rfl⟩, hbl.out⟩
  · have hok : okB kept wait = true := by simp only [formB, Bool.and_eq_true] at hf; exact hf.1
    have h5 : kept.length = 501 := by simp only [formB, Bool.and_eq_true, decide_eq_true_eq] at hf; exact hf.2
    obtain ⟨hp1, hp2, hp3, hp4⟩ := okB_parts hok
    have hflK : flushK kept wait = flushL kept wait := by simp [flushK, hok]
    have hFl : (flushK kept wait).length = 501 := by rw [hflK, flushL_len, h5]
    have hFz : ∀ t ∈ flushK kept wait, t.size ≤ 16 := by rw [hflK]; exact flushL_all hp3 (fun x hx => (hp4 x hx).2.2)
    obtain ⟨F, hF⟩ : ∃ F, flushK kept wait = F := ⟨_, rfl⟩
    obtain ⟨s, h0⟩ := getAt F 0 (by rw [← hF]; omega)
    have hrb : readB kept wait = logB s F := by simp only [readB, hf, hF, Bool.true_and, sign0_of h0]
    refine (callsIn_wide.1 (walOpen_in v kept wait F s (logL s F) w hg hr hf hF h0 rfl)).mono ?_
    rintro e w' ⟨⟨h1, g, gc, no, nc, h2, h3, h4, h6⟩ | ⟨h1, h2⟩, hb⟩
    · exact ⟨.inl ⟨hrb.trans h1, F, s, _, g, gc, no, nc, hF, by rw [← hF]; exact hFl, h0, rfl, h1, by rw [← hF]; exact hFz, h2, h3, h4, h6⟩, hb⟩
    · exact ⟨.inr ⟨hrb.trans h1, h2⟩, hb⟩

set_option maxRecDepth 100000 in
set_option maxHeartbeats 2000000 in
theorem implWalRead_any (v : Value) (kept : List ByteArray) (wait : List (Int × ByteArray)) (w : World) (hg : ErrVar w) (hr : DiskR w v kept wait) (hs : ∀ s ∈ kept, s.size ≤ 9223372036854775807) (hs' : ∀ s ∈ wait, s.2.size ≤ 9223372036854775807) :
    Calls Tryd.prog 12 #[v] w fun e w' => ∃ v', e = .returned (.tuple #[v', .bool (readB kept wait)]) ∧ Row w' 9 1 (fun k => w.heap.size ≤ k) v' (readH kept wait).length ((readH kept wait).map Value.string) ∧ Below w.heap.size w w' := by
  have Hr := hide hr
  obtain ⟨ak, aw, rfl, ⟨ao, ca, rfl, -⟩, ⟨bo, cb, rfl, -⟩⟩ := hr
  have hal : Below w.heap.size w (w.alloc (.cells #[.slice ao kept.length ca, .slice bo wait.length cb] 31)) := (Below.refl _ _).alloc (Nat.le_refl _) _
  have Hg := hide (errVar_keep hg hal)
  clear hg
  go_enter Tryd.func12, Tryd.ntmps12
  go_wp2_with fail
  refine (walOpen_any _ kept wait _ Hg.out (Hr.out.keep hal) hs hs').mono ?_
  rintro e w1 ⟨⟨hrb, F, s, L, g, gc, no, nc, hF, hFl, h0, hL, hlb, hFz, rfl, hgc, kF, kL⟩ | ⟨hrb, rfl⟩, b1⟩
  · have c1 := bAll hal b1
    have al2 : Below w1.heap.size w1 (w1.alloc (.cells #[.slice (some ⟨g, 0, none⟩) F.length gc, .slice no L.length nc] 69)) := (Below.refl _ _).alloc (Nat.le_refl _) _
    have HX : Hid (readB kept wait = true ∧ readH kept wait = flushL (F.drop 251) L) := by
      refine ⟨hrb, ?_⟩
      simp only [readH, hrb, if_true, hF, homesL, sign0_of h0, hL]
    have hLb : ∀ x ∈ L, 0 ≤ x.1 ∧ x.1 < 250 := by rw [← hL]; exact logL_bound hlb
    have HC := hide (said_any g gc no nc F L _ (kF.keep al2) hgc hFl (kL.keep al2) hLb)
    have z1 := c1.size
    clear hrb hF hFl hL hlb hFz hgc kF kL hLb h0
    go_wp2_with fail
    refine (unhide HC).mono ?_
    rintro e w2 ⟨v2, rfl, r2, b2⟩
    obtain ⟨ho, hc, rfl⟩ := r2.shape
    go_wp2
    go_ret2
    rw [HX.out.1, HX.out.2]
    exact ⟨_, rfl, r2.mono (fun k _ h => by simp at h; omega), bAll (bAll c1 al2) b2⟩
  · have HX : Hid (readB kept wait = false ∧ readH kept wait = []) := ⟨hrb, by simp [readH, hrb]⟩
    have c1 := bAll hal b1
    clear hrb
    go_wp2
    go_ret2
    rw [HX.out.1, HX.out.2]
    exact ⟨_, rfl, Row.nil _ _ _ _, c1.alloc c1.size _⟩

end Go.Proofs.YtapflnabiobonaaDoor

/- WalMend of the program and of the specification: contracts; no statement of the seat is proved here. -/
namespace Go.Proofs.YtapflnabiobonaaDoor
open Go.RowKit

/-- The steps of mending. -/
def mendL (kept : List ByteArray) (wait : List (Int × ByteArray)) : List Stp :=
  if readB kept wait = true ∧ (sign0 (flushK kept wait)).size ≠ 0 then applyL (logL (sign0 (flushK kept wait)) (flushK kept wait)) else []

theorem mendL_no {kept : List ByteArray} {wait : List (Int × ByteArray)} (h : readB kept wait = false) : mendL kept wait = [] := by simp [mendL, h]
theorem mendL_of {kept : List ByteArray} {wait : List (Int × ByteArray)} {F : List ByteArray} {s : ByteArray} (hr : readB kept wait = true) (hF : flushK kept wait = F) (h0 : F[0]? = some s) : mendL kept wait = if s.size ≠ 0 then applyL (logL s F) else [] := by
  simp only [mendL, hr, hF, sign0_of h0, true_and]
theorem empty_size {s : ByteArray} (h : s.toList.isEmpty = true) : s.size = 0 := by
  have e := toList_len s
  rw [List.isEmpty_iff.1 h] at e
  simpa using e.symm

theorem applyL_len (L : List (Int × ByteArray)) : (applyL L).length = L.length + 3 := by simp [applyL]

set_option maxRecDepth 100000 in
set_option maxHeartbeats 2000000 in
theorem implWalMend_any (v : Value) (kept : List ByteArray) (wait : List (Int × ByteArray)) (w : World) (hg : ErrVar w) (hr : DiskR w v kept wait) (hs : ∀ s ∈ kept, s.size ≤ 9223372036854775807) (hs' : ∀ s ∈ wait, s.2.size ≤ 9223372036854775807) :
    Calls Tryd.prog 19 #[v] w fun e w' => ∃ v', e = .returned (.tuple #[v', .bool (readB kept wait)]) ∧ Row w' 50 3 (fun k => w.heap.size ≤ k) v' (mendL kept wait).length (scells (mendL kept wait)) ∧ Below w.heap.size w w' := by
  have Hr := hide hr
  obtain ⟨ak, aw, rfl, ⟨ao, ca, rfl, -⟩, ⟨bo, cb, rfl, -⟩⟩ := hr
  have hal : Below w.heap.size w (w.alloc (.cells #[.slice ao kept.length ca, .slice bo wait.length cb] 31)) := (Below.refl _ _).alloc (Nat.le_refl _) _
  have Hg := hide (errVar_keep hg hal)
  clear hg
  go_enter Tryd.func19, Tryd.ntmps19
  go_wp2_with fail
  refine (walOpen_any _ kept wait _ Hg.out (Hr.out.keep hal) hs hs').mono ?_
  rintro e w1 ⟨⟨hrb, F, s, L, g, gc, no, nc, hF, hFl, h0, hL, hlb, hFz, rfl, hgc, kF, kL⟩ | ⟨hrb, rfl⟩, b1⟩
  · have c1 := bAll hal b1
    have z1 := c1.size
    have hLb : ∀ x ∈ L, 0 ≤ x.1 ∧ x.1 < 250 := by rw [← hL]; exact logL_bound hlb
    have hLn : L.length ≤ 512 := by rw [← hL]; have := logL_len s F; omega
    have HRB := hide hrb
    have HM := hide (mendL_of hrb hF h0)
    rw [hL] at HM
    obtain ⟨W, hW⟩ : ∃ W, W = (w1.alloc (.cells #[.slice (some ⟨g, 0, none⟩) F.length gc, .slice no L.length nc] 69)).alloc (.cells #[.slice none 0 0] 78) := ⟨_, rfl⟩
    have al2 : Below w1.heap.size w1 W := by rw [hW]; exact ((Below.refl _ _).alloc (Nat.le_refl _) _).alloc (by simp) _
    have hzW : W.heap.size = w1.heap.size + 2 := by rw [hW]; simp
    have X0 := hide (show W.heap[w1.heap.size]? = some (.cells #[.slice (some ⟨g, 0, none⟩) F.length gc, .slice no L.length nc] 69 (0, 0)) by rw [hW]; exact al2_0 w1 _ _)
    have X1 := hide (show W.heap[w1.heap.size + 1]? = some (.cells #[.slice none 0 0] 78 (0, 0)) by rw [hW]; exact al2_1 w1 _ _)
    have HS := hide (signed_any _ no gc L.length nc F s W (kF.keep al2) h0)
    have kL2 := hide (kL.keep al2)
    clear hrb hF hFl hL hlb hFz hgc kF kL h0
    go_wp2_with fail
    rw [← hW]
    clear hW
    refine (unhide HS).mono ?_
    rintro e w2 ⟨rfl, b2⟩
    have c2 := bAll (bAll c1 al2) b2
    have z2 := b2.size
    replace X0 := hide (bKeeps b2 X0.out)
    replace X1 := hide (bKeeps b2 X1.out)
    obtain ⟨p0, p1, pl⟩ := box2 X0.out
    obtain ⟨q0, q1, ql⟩ := box1 X1.out
    clear HS
    cases he : s.toList.isEmpty
    · have hsz : s.size ≠ 0 := by have := size_pos he; omega
      have HM2 : Hid (mendL kept wait = applyL L) := by show _ = _; rw [HM.out, if_pos hsz]
      have HA := hide (bapply_any (w1.heap.size + 1) W.heap.size [] no nc L w2 ⟨by omega, by omega, none, 0, X1.out, .inl (World.ownsRow_nil _ _ _ _)⟩ (by simp) (kL2.out.keep b2) hLb hLn)
      clear hsz he HM
      go_wp2_with fail
      refine (unhide HA).mono ?_
      rintro e w3 ⟨rfl, ⟨hb1, hb2, so, sc, hbx, hrow⟩, u3⟩
      have r3 := (hrow.row (by rw [List.nil_append, applyL_len]; omega)).mono (T := fun k => w.heap.size ≤ k) (fun k _ h => by omega)
      rw [List.nil_append] at r3 hbx
      have R3 := hide r3
      obtain ⟨t0, t1, tl⟩ := box1 hbx
      have c3 : Below w.heap.size w w3 := c2.trans (u3.below (by have := c2.size; omega) (fun k h => by omega))
      clear p0 p1 pl q0 q1 ql HA hbx hrow r3
      go_wp2
      go_ret2
      rw [HRB.out, HM2.out]
      exact ⟨_, rfl, R3.out, c3⟩
    · have hsz : s.size = 0 := empty_size he
      have HM2 : Hid (mendL kept wait = []) := by show _ = _; rw [HM.out, if_neg (by simpa using hsz)]
      clear hsz HM
      go_wp2
      go_ret2
      rw [HRB.out, HM2.out]
      exact ⟨_, rfl, Row.nil _ _ _ _, c2⟩
  · have HX : Hid (readB kept wait = false ∧ mendL kept wait = []) := ⟨hrb, mendL_no hrb⟩
    have c1 := bAll hal b1
    clear hrb
    go_wp2
    go_ret2
    rw [HX.out.1, HX.out.2]
    exact ⟨_, rfl, Row.nil _ _ _ _, c1.alloc c1.size _⟩

theorem l2Put_any (a : Int) (s : ByteArray) (w : World) :
    Calls Tryd.prog 48 #[.int .i64 a, .string s] w fun e w' => e = .returned (.agg #[.bool false, .int .i64 a, .string s]) ∧ Below w.heap.size w w' := by
  go_enter Tryd.func48, Tryd.ntmps48
  go_wp2
  exact bodyPost_ret (v := .agg #[.bool false, .int .i64 a, .string s]) (by simp [results, Tryd.results48, go_sem]) rfl ⟨rfl, by repeat (first | exact Below.refl _ _ | refine Below.alloc ?_ (Nat.le_refl _) _)⟩

end Go.Proofs.YtapflnabiobonaaDoor

/- WalSteps of the program: contracts; no statement of the seat is proved here. -/
namespace Go.Proofs.YtapflnabiobonaaDoor
open Go.RowKit

/-- The text at a place. -/
def tAt (xs : List ByteArray) (i : Nat) : ByteArray := xs[i]?.getD ⟨#[]⟩
theorem tAt_of {xs : List ByteArray} {i : Nat} {t : ByteArray} (h : xs[i]? = some t) : tAt xs i = t := by simp [tAt, h]
/-- The homes among the first k that do not say their texts yet. -/
def chgF (now hs : List ByteArray) (i : Nat) : Option (Int × ByteArray) := if (tAt hs i).toList == (tAt now i).toList then none else some ((i : Int), tAt hs i)
def chgK (now hs : List ByteArray) (k : Nat) : List (Int × ByteArray) := (List.range k).filterMap (chgF now hs)
theorem chgK_yes {now hs : List ByteArray} {k : Nat} {s t : ByteArray} (h1 : hs[k]? = some s) (h2 : now[k]? = some t) (h : (s.toList == t.toList) = true) : chgK now hs (k + 1) = chgK now hs k := by
  have e : chgF now hs k = none := by rw [chgF, tAt_of h1, tAt_of h2, h]; rfl
  rw [chgK, List.range_succ, List.filterMap_append]
  simp [e, chgK]
theorem chgK_no {now hs : List ByteArray} {k : Nat} {s t : ByteArray} (h1 : hs[k]? = some s) (h2 : now[k]? = some t) (h : (s.toList == t.toList) = false) : chgK now hs (k + 1) = chgK now hs k ++ [((k : Int), s)] := by
  have e : chgF now hs k = some ((k : Int), s) := by rw [chgF, tAt_of h1, tAt_of h2, h]; rfl
  rw [chgK, List.range_succ, List.filterMap_append]
  simp [e, chgK]
theorem chgK_len (now hs : List ByteArray) (k : Nat) : (chgK now hs k).length ≤ k := by
  have := List.length_filterMap_le (chgF now hs) (List.range k)
  simpa [chgK] using this
theorem chgK_mem {now hs : List ByteArray} {k : Nat} {x : Int × ByteArray} (h : x ∈ chgK now hs k) : 0 ≤ x.1 ∧ x.1 < k ∧ ∃ i, x = (((i : Nat) : Int), tAt hs i) := by
  obtain ⟨i, hi, he⟩ := List.mem_filterMap.1 h
  have hik := List.mem_range.1 hi
  unfold chgF at he
  split at he
  · cases he
  · obtain rfl := Option.some.inj he
    exact ⟨by show (0 : Int) ≤ (i : Int); omega, by show (i : Int) < (k : Int); omega, i, rfl⟩

set_option maxRecDepth 100000 in
set_option maxHeartbeats 4000000 in
theorem changes_any (g gc : Nat) (no : Option Addr) (nc : Nat) (F : List ByteArray) (L : List (Int × ByteArray)) (so : Option Addr) (sc : Nat) (hs : List ByteArray) (w : World) (hF : RowR w 1 (.slice (some ⟨g, 0, none⟩) F.length gc) F.length (F.map Value.string)) (hgc : F.length ≤ gc) (hl5 : F.length = 501)
    (hL : RowR w 2 (.slice no L.length nc) L.length (wcells L)) (hLb : ∀ x ∈ L, 0 ≤ x.1 ∧ x.1 < 250) (hhs : RowR w 1 (.slice so hs.length sc) hs.length (hs.map Value.string)) (hhl : hs.length = 250) :
    Calls Tryd.prog 50 #[.agg #[.slice (some ⟨g, 0, none⟩) F.length gc, .slice no L.length nc], .slice so hs.length sc] w fun e w' => ∃ ao ca, e = .returned (.slice ao (chgK (flushL (F.drop 251) L) hs 250).length ca) ∧ Row w' 109 2 (fun k => w.heap.size ≤ k) (.slice ao (chgK (flushL (F.drop 251) L) hs 250).length ca) (chgK (flushL (F.drop 251) L) hs 250).length (wcells (chgK (flushL (F.drop 251) L) hs 250)) ∧ Below w.heap.size w w' := by
  obtain ⟨i1, gi, gz0, gz1, gz2⟩ := info_parts infoNote
  have al : Below w.heap.size w (w.alloc (.cells #[.slice (some ⟨g, 0, none⟩) F.length gc, .slice no L.length nc] 69)) := (Below.refl _ _).alloc (Nat.le_refl _) _
  have HC := hide (said_any g gc no nc F L _ (hF.keep al) hgc hl5 (hL.keep al) hLb)
  obtain ⟨now, hnow⟩ : ∃ now, flushL (F.drop 251) L = now := ⟨_, rfl⟩
  have hnl : now.length = 250 := by rw [← hnow, flushL_len, List.length_drop]; omega
  rw [hnow] at HC ⊢
  have HH := hide hhs
  have hn1 : 250 ≤ now.length := by omega
  have hn2 : now.length ≤ 250 := by omega
  have hh1 : 250 ≤ hs.length := by omega
  have hh2 : hs.length ≤ 250 := by omega
  clear hF hgc hl5 hL hLb hhs hhl hnow hnl
  go_enter Tryd.func50, Tryd.ntmps50
  go_wp2_with fail
  refine (unhide HC).mono ?_
  rintro e w1 ⟨v1, rfl, r1, b1⟩
  obtain ⟨ho, hc, rfl⟩ := r1.shape
  have c1 := bAll al b1
  have z1 := c1.size
  have RN := hide r1.reads
  have HH1 := hide (HH.out.keep c1)
  clear r1 HC HH
  go_wp2
  go_loopw [5, 11] (fun ov iv wr => ∃ (k : Nat) (ao : Option Addr) (ca : Nat), k ≤ now.length ∧ iv = .int .i64 k ∧ ov = .slice ao (chgK now hs k).length ca ∧ RowA wr w1.heap.size 109 2 (.slice ao (chgK now hs k).length ca) (chgK now hs k).length (wcells (chgK now hs k)) ∧ Below w1.heap.size w1 wr) (fun _ iv _ => now.length - (intOf iv).toNat)
  case atStart => exact ⟨0, none, 0, Nat.zero_le _, rfl, rfl, .inl (World.ownsRow_nil _ _ _ _), Below.refl _ _⟩
  case round =>
    obtain ⟨k, ao, ca, hk, rfl, rfl, hown, hbel⟩ := hrel
    by_cases hlt : k < now.length
    · obtain ⟨t, ht⟩ := getAt now k hlt
      obtain ⟨s, hsk⟩ := getAt hs k (by omega)
      obtain ⟨b, off, cap, u, ev, hb, hu, hcu⟩ := RowR.ptr RN.out k hlt
      simp only [Value.slice.injEq, true_and] at ev
      obtain ⟨rfl, rfl⟩ := ev
      obtain rfl : u = .string t := by rw [List.getElem?_map, ht] at hu; simpa using hu.symm
      obtain ⟨b', off', cap', u, ev, hb', hu', hcu'⟩ := RowR.ptr HH1.out k (by omega)
      simp only [Value.slice.injEq, true_and] at ev
      obtain ⟨rfl, rfl⟩ := ev
      obtain rfl : u = .string s := by rw [List.getElem?_map, hsk] at hu'; simpa using hu'.symm
      have f1 : wr.cell? ⟨b, off + k, none⟩ = some (.string t) := (hbel.cell (p := ⟨b, off + k, none⟩) hb).trans hcu
      have f2 : wr.cell? ⟨b', off' + k, none⟩ = some (.string s) := (hbel.cell (p := ⟨b', off' + k, none⟩) hb').trans hcu'
      have hi : (k : Int) < (now.length : Int) := by omega
      have hi' : (k : Int) < (hs.length : Int) := by omega
      have hcl := chgK_len now hs k
      have zz := hbel.size
      have H1 := hide hsk
      have H2 := hide ht
      clear hu hcu hu' hcu' ht hsk
      cases hq : (s.toList == t.toList)
      · have HN := hide (chgK_no H1.out H2.out hq)
        obtain ⟨C, hC⟩ : ∃ C, chgK now hs k = C := ⟨_, rfl⟩
        rw [hC] at hown HN hcl ⊢
        clear hC
        go_wp2_with (at_builtin; refine wpList_appendA _ rfl _ _ 67 rfl w1.heap.size 109 i1 (.agg #[.int .i64 0, .string ⟨#[]⟩]) 2 24 Tryd.underlying67 gi gz0 gz1 gz2 rfl (by decide) _ C.length (wcells C) rfl (hown.keepB ((Below.refl _ _).alloc (Nat.le_refl _) _)) ⟨wr.heap.size, 0, none⟩ 1 1 [.int .i64 (k : Int), .string s] rfl rfl ?qn (new_one _ _) (by decide) ?q63 ?qby ?qbase ?_)
        case qn => exact new_cells _ _ _ _
        case q63 => unfold maxLen; omega
        case qby => omega
        case qbase => simp; omega
        intro v4 w4 hown4 u4
        obtain ⟨mo, cm, rfl⟩ := (Row.ofOwns hown4 (by omega)).shape
        have bA : Below w1.heap.size wr w4 := ((Below.refl w1.heap.size wr).alloc (by omega) _).trans (u4.below (by simp; omega) (fun k h => h.1))
        go_wp2
        go_roundw
        case rel =>
          refine ⟨k + 1, mo, cm, by omega, by go_num, ?_, ?_, hbel.trans bA⟩
          · rw [HN.out, List.length_append]; rfl
          · rw [HN.out, List.length_append, wcells_snoc]; exact .inl hown4
        case measure => simp [intOf]; omega
      · have HN := hide (chgK_yes H1.out H2.out hq)
        go_wp2
        go_roundw
        case rel =>
          refine ⟨k + 1, ao, ca, by omega, by go_num, ?_, ?_, hbel⟩
          · rw [HN.out]
          · rw [HN.out]; exact hown
        case measure => simp [intOf]; omega
    · obtain rfl : k = 250 := by omega
      have hcl := chgK_len now hs 250
      have RR := hide ((hown.row (by omega)).mono (T := fun k => w.heap.size ≤ k) (fun k _ h => by omega))
      go_wp2
      go_ret
      exact ⟨_, _, rfl, RR.out, bAll c1 hbel⟩

/-- A number as a text of one byte. -/
def byteS (n : Int) : ByteArray := ⟨#[UInt8.ofNat n.toNat]⟩

theorem walByte_any (n : Int) (w : World) (h0 : 0 ≤ n) (h1 : n < 256) :
    Calls Tryd.prog 78 #[.int .i64 n] w fun e w' => e = .returned (.string (byteS n)) ∧ Below w.heap.size w w' := by
  have hcv := fun w n => run_byte_string (P := Tryd.prog) 46 9 5 Tryd.underlying46 Tryd.underlying5 Tryd.underlying9 w n
  go_enter Tryd.func78, Tryd.ntmps78
  go_wp2
  go_ret
  exact ⟨rfl, (Below.refl _ _).alloc (Nat.le_refl _) _⟩

/-- Notes as the log is to say them, from the sector 1 + i on. -/
def logW : Nat → List (Int × ByteArray) → List (Int × ByteArray)
  | _, [] => []
  | i, x :: r => (((1 + i : Nat) : Int), byteS x.1 ++ x.2) :: logW (i + 1) r
theorem logW_len : ∀ (i : Nat) (L : List (Int × ByteArray)), (logW i L).length = L.length
  | _, [] => rfl
  | i, x :: r => by simp [logW, logW_len (i + 1) r]
theorem logW_snoc : ∀ (i : Nat) (L : List (Int × ByteArray)) (a : Int) (s : ByteArray), logW i (L ++ [(a, s)]) = logW i L ++ [(((1 + (i + L.length) : Nat) : Int), byteS a ++ s)]
  | i, [], a, s => by simp [logW]
  | i, x :: r, a, s => by
    simp only [List.cons_append, logW, List.length_cons, logW_snoc (i + 1) r a s]
    rw [show i + 1 + r.length = i + (r.length + 1) by omega]

set_option maxRecDepth 100000 in
set_option maxHeartbeats 4000000 in
theorem walLogged_any (no : Option Addr) (nc : Nat) (L : List (Int × ByteArray)) (w : World) (hL : RowR w 2 (.slice no L.length nc) L.length (wcells L)) (hLb : ∀ x ∈ L, 0 ≤ x.1 ∧ x.1 < 250 ∧ x.2.size ≤ 1000) (hLn : L.length ≤ 1000) :
    Calls Tryd.prog 77 #[.slice no L.length nc] w fun e w' => ∃ ao ca, e = .returned (.slice ao L.length ca) ∧ RowA w' w.heap.size 63 2 (.slice ao L.length ca) L.length (wcells (logW 0 L)) ∧ Below w.heap.size w w' := by
  obtain ⟨_, _, ev, hn, hl, hr⟩ := hL
  simp only [Value.slice.injEq, true_and] at ev
  obtain ⟨rfl, rfl⟩ := ev
  have HLb := hide hLb
  have Hr := hide hr
  obtain ⟨i1, gi, gz0, gz1, gz2⟩ := info_parts infoWr
  clear hLb hl hr
  go_enter Tryd.func77, Tryd.ntmps77
  go_wp2
  go_loopw [3, 8] (fun ov iv wr => ∃ (k : Nat) (ao : Option Addr) (ca : Nat), k ≤ L.length ∧ iv = .int .i64 k ∧ ov = .slice ao k ca ∧ RowA wr w.heap.size 63 2 (.slice ao k ca) k (wcells (logW 0 (L.take k))) ∧ Below w.heap.size w wr) (fun _ iv _ => L.length - (intOf iv).toNat)
  case atStart => exact ⟨0, none, 0, Nat.zero_le _, rfl, rfl, .inl (World.ownsRow_nil _ _ _ _), Below.refl _ _⟩
  case round =>
    obtain ⟨k, ao, ca, hk, rfl, rfl, hrow, hbel⟩ := hrel
    by_cases hlt : k < L.length
    · obtain ⟨⟨a, t⟩, hx⟩ := getAt L k hlt
      obtain ⟨ha0, ha1, ha2⟩ := HLb.out (a, t) (List.mem_of_getElem? hx)
      simp only at ha0 ha1 ha2
      obtain ⟨b, off, rfl, hcl⟩ := Hr.out (by omega)
      obtain ⟨e0, e1⟩ := wcells_at L k _ hx
      have g1 := hcl _ _ e0
      have g2 := hcl _ _ e1
      have l1 : b < w.heap.size := World.block_lt_of_cell? w _ g1
      have f1 : wr.cell? ⟨b, off + k * 2, none⟩ = some (.int .i64 a) := by rw [Nat.mul_comm k 2]; exact (hbel.cell (p := ⟨b, off + 2 * k, none⟩) l1).trans g1
      have f2 : wr.cell? ⟨b, off + k * 2 + 1, none⟩ = some (.string t) := by rw [Nat.mul_comm k 2]; exact (hbel.cell (p := ⟨b, off + (2 * k + 1), none⟩) l1).trans g2
      have hi' : (k : Int) < (L.length : Int) := by omega
      have Hx := hide hx
      have zz := hbel.size
      obtain ⟨W, hW⟩ : ∃ W, W = wr.alloc (.cells #[.int .i64 a, .string t] 109) := ⟨_, rfl⟩
      have al1 : Below wr.heap.size wr W := by rw [hW]; exact (Below.refl _ _).alloc (Nat.le_refl _) _
      have HXB := hide (show W.heap[wr.heap.size]? = some (.cells #[.int .i64 a, .string t] 109 (0, 0)) by rw [hW]; exact al1_0 wr _)
      have HB := hide (walByte_any a W.drew ha0 (by omega))
      have hcat : ¬ (9223372036854775807 < (byteS a).size + t.size) := by have : (byteS a).size = 1 := rfl; omega
      have zw : IntKind.i64.wrap (1 + (k : Int)) = 1 + (k : Int) := by simp [IntKind.wrap, IntKind.bits, IntKind.signed]; omega
      have ZW := hide zw
      clear zw
      have Hrow := hide (hrow.keepB al1)
      clear hcl g1 g2 e0 e1 hx hrow
      go_wp2
      rw [← hW]
      clear hW f1 f2
      obtain ⟨x0, x1, xl⟩ := box2 HXB.out
      go_region_law (first
        | (refine step_appendA rfl _ _ 29 rfl w.heap.size 63 i1 (.agg #[.int .i64 0, .string ⟨#[]⟩]) 2 24 Tryd.underlying29 gi gz0 gz1 gz2 rfl (by decide) _ k _ rfl s3 ⟨w6.heap.size, 0, none⟩ 1 1 [.int .i64 (IntKind.i64.wrap (1 + (k : Int))), .string (byteS a ++ t)] rfl rfl N3.out (new_one _ _) (by decide) (by unfold maxLen; omega) (by omega) hbs ?_; intro v4 w4 hown u4; obtain ⟨mo', cm', rfl⟩ := (Row.ofOwns hown (by omega)).shape)
        | (go_simp; go_at_call 78; refine (unhide HB).mono ?_; rintro e w6 ⟨rfl, b6⟩; have b6' : Below W.heap.size W w6 := bUndrew b6; have y1 : w6.cell? ⟨wr.heap.size, 1, none⟩ = some (.string t) := (b6'.cell (p := ⟨wr.heap.size, 1, none⟩) xl).trans x1; have al2 : Below w6.heap.size w6 (w6.alloc (.cells #[.int .i64 (IntKind.i64.wrap (1 + (k : Int))), .string (byteS a ++ t)] 63)) := (Below.refl _ _).alloc (Nat.le_refl _) _; have s3 := ((unhide Hrow).keepB b6').keepB al2; have N3 := hide (new_cells w6 (IntKind.i64.wrap (1 + (k : Int))) (byteS a ++ t) 63); have hbs : w.heap.size ≤ (w6.alloc (.cells #[.int .i64 (IntKind.i64.wrap (1 + (k : Int))), .string (byteS a ++ t)] 63)).heap.size := Nat.le_trans (Nat.le_trans zz (bAll al1 b6').size) al2.size))
      all_goals
        go_wp2
        go_roundw
        case rel =>
          refine ⟨k + 1, mo', cm', by omega, by go_num, rfl, ?_, hbel.trans (((bAll (bAll al1 b6') al2).mono zz).trans (u4.below hbs (fun j h => h.1)))⟩
          rw [List.take_add_one, Hx.out, Option.toList_some, logW_snoc, wcells_snoc]
          rw [show (((1 + (0 + (L.take k).length) : Nat)) : Int) = 1 + (k : Int) by rw [List.length_take]; omega]
          rw [ZW.out] at hown
          exact .inl hown
        case measure => simp [intOf]; omega
    · obtain rfl : k = L.length := by omega
      rw [List.take_length] at hrow
      go_wp2
      go_ret
      exact ⟨_, _, rfl, hrow, hbel⟩

/-- The steps that log notes, and sign them. -/
def commitL (L : List (Int × ByteArray)) : List Stp := (logW 0 L).map putS ++ [flushS, (false, 0, byteS L.length), flushS]
theorem commitL_len (L : List (Int × ByteArray)) : (commitL L).length = L.length + 3 := by simp [commitL, logW_len]

set_option maxRecDepth 100000 in
set_option maxHeartbeats 4000000 in
theorem bcommit_any (B base : Nat) (T : List Stp) (no : Option Addr) (nc : Nat) (L : List (Int × ByteArray)) (w : World) (hB : Bld w B base T) (hT : T.length ≤ 1000)
    (hL : RowR w 2 (.slice no L.length nc) L.length (wcells L)) (hLb : ∀ x ∈ L, 0 ≤ x.1 ∧ x.1 < 250 ∧ x.2.size ≤ 1000) (hLn : L.length ≤ 250) :
    Calls Tryd.prog 51 #[.pointer (some ⟨B, 0, none⟩), .slice no L.length nc] w fun e w' => e = .returned (.tuple #[]) ∧ Bld w' B base (T ++ commitL L) ∧ Upd (fun k => k = B ∨ base ≤ k) w w' := by
  have HB := hide hB
  have HC := hide (walLogged_any no nc L w hL hLb (by omega))
  clear hB hL hLb
  go_enter Tryd.func51, Tryd.ntmps51
  go_wp2_with fail
  refine (unhide HC).mono ?_
  rintro e w1 ⟨ao, ca, rfl, r1, b1⟩
  have HC2 := hide (bput_any B base T ao ca (logW 0 L) w1 (HB.out.keepB b1) (by rw [logW_len]; omega) (by rw [logW_len]; exact (r1.row (by omega)).mono (fun _ _ _ => trivial)))
  rw [logW_len] at HC2
  clear HC r1
  go_wp2_with fail
  refine (unhide HC2).mono ?_
  rintro e w2 ⟨rfl, B2, u2⟩
  have hl2 : (T ++ (logW 0 L).map putS).length ≤ 1600 := by simp [logW_len]; omega
  have HB2 := hide B2
  clear HC2 B2
  go_wp2_with fail
  refine (bflush_any B base _ w2 HB2.out (by omega)).mono ?_
  rintro e w3 ⟨rfl, B3, u3⟩
  have hl3 : ((T ++ (logW 0 L).map putS) ++ [flushS]).length ≤ 1601 := by rw [List.length_append]; simp only [List.length_cons, List.length_nil]; omega
  have HB3 := hide B3
  clear B3
  go_wp2_with fail
  refine (walByte_any _ w3 (by omega) (by omega)).mono ?_
  rintro e w3b ⟨rfl, b3b⟩
  have HC4 := hide (bput_any B base _ _ 1 [(0, byteS (L.length : Int))] (w3b.alloc (.cells #[.int .i64 0, .string (byteS (L.length : Int))] 63)) ((HB3.out.keepB b3b).keepB ((Below.refl _ _).alloc (Nat.le_refl _) _)) (by simp only [List.length_cons, List.length_nil]; omega) (row_one w3b 0 _))
  go_wp2_with fail
  refine (unhide HC4).mono ?_
  rintro e w4 ⟨rfl, B4, u4⟩
  have hl4 : (((T ++ (logW 0 L).map putS) ++ [flushS]) ++ [(0, byteS (L.length : Int))].map putS).length ≤ 1602 := by rw [List.length_append]; simp only [List.length_map, List.length_cons, List.length_nil]; omega
  have HB4 := hide B4
  clear B4 HC4
  go_wp2_with fail
  refine (bflush_any B base _ w4 HB4.out (by omega)).mono ?_
  rintro e w5 ⟨rfl, B5, u5⟩
  have HB5 := hide B5
  clear B5
  go_wp2
  go_end0
  refine ⟨rfl, ?_, ?_⟩
  · have e1 : T ++ commitL L = (((T ++ (logW 0 L).map putS) ++ [flushS]) ++ [(0, byteS (L.length : Int))].map putS) ++ [flushS] := by simp [commitL, putS]
    rw [e1]
    exact HB5.out
  · exact (((((Upd.ofBelow b1).trans u2).trans u3).trans (Upd.ofBelow (bAll b3b ((Below.refl _ _).alloc (Nat.le_refl _) _)))).trans u4).trans u5

end Go.Proofs.YtapflnabiobonaaDoor

/- WalSteps of the program, whole: a contract; no statement of the seat is proved here. -/
namespace Go.Proofs.YtapflnabiobonaaDoor
open Go.RowKit

/-- Whether there are steps that make homes say these texts. -/
def stepsB (kept : List ByteArray) (wait : List (Int × ByteArray)) (hs : List ByteArray) : Bool := readB kept wait && (decide ((sign0 (flushK kept wait)).size = 0) && fitB hs)
def stepsOf (C : List (Int × ByteArray)) : List Stp := if C.length = 0 then [] else commitL C ++ applyL C
def stepsL (kept : List ByteArray) (wait : List (Int × ByteArray)) (hs : List ByteArray) : List Stp :=
  if stepsB kept wait hs = true then stepsOf (chgK (readH kept wait) hs 250) else []
theorem stepsL_no {kept : List ByteArray} {wait : List (Int × ByteArray)} {hs : List ByteArray} (h : stepsB kept wait hs = false) : stepsL kept wait hs = [] := by simp [stepsL, h]
theorem stepsL_yes {kept : List ByteArray} {wait : List (Int × ByteArray)} {hs : List ByteArray} (h : stepsB kept wait hs = true) : stepsL kept wait hs = stepsOf (chgK (readH kept wait) hs 250) := by simp [stepsL, h]
theorem stepsOf_len (C : List (Int × ByteArray)) : (stepsOf C).length ≤ 2 * C.length + 6 := by
  unfold stepsOf
  split
  · simp
  · rw [List.length_append, commitL_len, applyL_len]; omega
theorem fitB_parts {hs : List ByteArray} (h : fitB hs = true) : hs.length = 250 ∧ ∀ s ∈ hs, s.size ≤ 15 := by
  simp only [fitB, Bool.and_eq_true, decide_eq_true_eq, List.all_eq_true] at h
  exact h
theorem chgK_bound {now hs : List ByteArray} (h : fitB hs = true) : ∀ x ∈ chgK now hs 250, 0 ≤ x.1 ∧ x.1 < 250 ∧ x.2.size ≤ 1000 := by
  intro x hx
  obtain ⟨h1, h2, i, rfl⟩ := chgK_mem hx
  refine ⟨h1, h2, ?_⟩
  show (tAt hs i).size ≤ 1000
  unfold tAt
  cases hi : hs[i]? with
  | none => show (0 : Nat) ≤ _; omega
  | some t => have := (fitB_parts h).2 t (List.mem_of_getElem? hi); show t.size ≤ 1000; omega

set_option maxRecDepth 100000 in
set_option maxHeartbeats 4000000 in
theorem implWalSteps_any (v : Value) (so : Option Addr) (sc : Nat) (hs : List ByteArray) (kept : List ByteArray) (wait : List (Int × ByteArray)) (w : World) (hg : ErrVar w) (hr : DiskR w v kept wait) (hx : RowR w 1 (.slice so hs.length sc) hs.length (hs.map Value.string)) (hxz : ∀ s ∈ hs, s.size ≤ 9223372036854775807) (hs1 : ∀ s ∈ kept, s.size ≤ 9223372036854775807) (hs2 : ∀ s ∈ wait, s.2.size ≤ 9223372036854775807) :
    Calls Tryd.prog 26 #[v, .slice so hs.length sc] w fun e w' => ∃ v', e = .returned (.tuple #[v', .bool (stepsB kept wait hs)]) ∧ Row w' 50 3 (fun k => w.heap.size ≤ k) v' (stepsL kept wait hs).length (scells (stepsL kept wait hs)) ∧ Below w.heap.size w w' := by
  have Hr := hide hr
  have HX := hide hx
  obtain ⟨ak, aw, rfl, ⟨ao, ca, rfl, -⟩, ⟨bo, cb, rfl, -⟩⟩ := hr
  have hal : Below w.heap.size w (w.alloc (.cells #[.slice ao kept.length ca, .slice bo wait.length cb] 31)) := (Below.refl _ _).alloc (Nat.le_refl _) _
  have Hg := hide (errVar_keep hg hal)
  have HOP := hide (walOpen_any _ kept wait _ Hg.out (Hr.out.keep hal) hs1 hs2)
  have HFC := fun w h => walFit_any so sc hs w h hxz
  clear hg hx hxz hs1 hs2
  go_enter Tryd.func26, Tryd.ntmps26
  go_wp2_with fail
  refine (unhide HOP).mono ?_
  rintro e w1 ⟨⟨hrb, F, s, L, g, gc, no, nc, hF, hFl, h0, hL, hlb, hFz, rfl, hgc, kF, kL⟩ | ⟨hrb, rfl⟩, b1⟩
  · have c1 := bAll hal b1
    have z1 := c1.size
    have hLb : ∀ x ∈ L, 0 ≤ x.1 ∧ x.1 < 250 := by rw [← hL]; exact logL_bound hlb
    have HB : Hid (stepsB kept wait hs = (decide (s.size = 0) && fitB hs)) := by show _ = _; simp only [stepsB, hrb, hF, sign0_of h0, Bool.true_and]
    have HH : Hid (readH kept wait = flushL (F.drop 251) L) := by show _ = _; simp only [readH, hrb, if_true, hF, homesL, sign0_of h0, hL]
    have al2 : Below w1.heap.size w1 (w1.alloc (.cells #[.slice (some ⟨g, 0, none⟩) F.length gc, .slice no L.length nc] 69)) := (Below.refl _ _).alloc (Nat.le_refl _) _
    have X0 := hide (al1_0 w1 (.cells #[.slice (some ⟨g, 0, none⟩) F.length gc, .slice no L.length nc] 69))
    have HS := hide (signed_any _ no gc L.length nc F s _ (kF.keep al2) h0)
    have c2 := bAll c1 al2
    have kF2 := hide (kF.keep al2)
    have kL2 := hide (kL.keep al2)
    have HFl := hide hFl
    have HLb := hide hLb
    have Hgc := hide hgc
    clear hrb hF hFl hL hlb hFz hgc kF kL h0 HOP hLb
    go_wp2_with fail
    refine (unhide HS).mono ?_
    rintro e w3 ⟨rfl, b3⟩
    have c3 := bAll c2 b3
    clear HS
    cases he : s.toList.isEmpty
    · have hsz : s.size ≠ 0 := by have := size_pos he; omega
      have HN : Hid (stepsB kept wait hs = false) := by show _ = _; rw [HB.out]; simp [hsz]
      have HN2 := hide (stepsL_no HN.out)
      clear hsz
      go_wp2
      go_ret2
      rw [HN.out, HN2.out]
      exact ⟨_, rfl, Row.nil _ _ _ _, c3⟩
    · have hsz : s.size = 0 := empty_size he
      have HB2 : Hid (stepsB kept wait hs = fitB hs) := by show _ = _; rw [HB.out]; simp [hsz]
      have HF3 := hide (HFC w3 (HX.out.keep c3))
      clear hsz HB
      go_wp2_with fail
      refine (unhide HF3).mono ?_
      rintro e w3' ⟨rfl, e3⟩
      rw [e3]
      clear e3 w3' HF3 HFC
      cases hfit : fitB hs
      · have HN : Hid (stepsB kept wait hs = false) := HB2.out.trans hfit
        have HN2 := hide (stepsL_no HN.out)
        clear hfit
        go_wp2
        go_ret2
        rw [HN.out, HN2.out]
        exact ⟨_, rfl, Row.nil _ _ _ _, c3⟩
      · have HY : Hid (stepsB kept wait hs = true) := HB2.out.trans hfit
        have HY2 := hide (stepsL_yes HY.out)
        obtain ⟨p0, p1, pl⟩ := box2 (bKeeps b3 X0.out)
        have HCH := hide (changes_any g gc no nc F L so sc hs w3 (kF2.out.keep b3) Hgc.out HFl.out (kL2.out.keep b3) HLb.out (HX.out.keep c3) (fitB_parts hfit).1)
        have hCb := chgK_bound (now := flushL (F.drop 251) L) hfit
        have hCl := chgK_len (flushL (F.drop 251) L) hs 250
        rw [HH.out] at HY2
        obtain ⟨C, hC⟩ : ∃ C, chgK (flushL (F.drop 251) L) hs 250 = C := ⟨_, rfl⟩
        rw [hC] at HCH hCb hCl HY2
        have HCb := hide hCb
        clear hfit hC HB2 HH kF2 kL2 HLb Hgc HFl hCb
        go_wp2_with fail
        refine (unhide HCH).mono ?_
        rintro e w4 ⟨xo, xc, rfl, r4, b4⟩
        have c4 := bAll c3 b4
        have z4 := c4.size
        have r4' := r4.mono (T := fun k => k < w4.heap.size) (fun k hk _ => hk)
        clear HCH r4 p0 p1 pl
        by_cases hc0 : C.length = 0
        · have hc0' : ((C.length : Int) == 0) = true := by simp only [beq_iff_eq]; omega
          have HE : Hid (stepsL kept wait hs = []) := by show _ = _; rw [HY2.out]; simp [stepsOf, hc0]
          clear hc0 r4'
          go_wp2
          go_ret2
          rw [HY.out, HE.out]
          exact ⟨_, rfl, Row.nil _ _ _ _, c4⟩
        · have hc0' : ((C.length : Int) == 0) = false := by simp only [beq_eq_false_iff_ne, ne_eq]; omega
          have HE : Hid (stepsL kept wait hs = commitL C ++ applyL C) := by show _ = _; rw [HY2.out]; simp [stepsOf, hc0]
          have al5 : Below w4.heap.size w4 (w4.alloc (.cells #[.slice none 0 0] 78)) := (Below.refl _ _).alloc (Nat.le_refl _) _
          have r5 := r4'.keepB al5
          have HCM := hide (bcommit_any w4.heap.size (w4.heap.size + 1) [] xo xc C _ ⟨by omega, by simp, none, 0, al1_0 w4 _, .inl (World.ownsRow_nil _ _ _ _)⟩ (by simp) r5.reads HCb.out hCl)
          clear hc0 HY2 r4'
          go_wp2_with fail
          refine (unhide HCM).mono ?_
          rintro e w6 ⟨rfl, B6, u6⟩
          have r6 := r5.keep u6 (fun k h => by omega)
          have HAP := hide (bapply_any w4.heap.size (w4.heap.size + 1) _ xo xc C w6 B6 (by rw [List.nil_append, commitL_len]; omega) r6.reads (fun x hx => ⟨(HCb.out x hx).1, (HCb.out x hx).2.1⟩) (by omega))
          clear HCM B6 r5 r6
          go_wp2_with fail
          refine (unhide HAP).mono ?_
          rintro e w7 ⟨rfl, ⟨hb1, hb2, yo, yc, hbx, hrow⟩, u7⟩
          rw [List.nil_append] at hrow hbx
          have hll : (commitL C ++ applyL C).length ≤ 1000 := by rw [List.length_append, commitL_len, applyL_len]; omega
          obtain ⟨T, hT⟩ : ∃ T, commitL C ++ applyL C = T := ⟨_, rfl⟩
          rw [hT] at hrow hbx hll HE
          clear hT
          have r7 := hide ((hrow.row (by omega)).mono (T := fun k => w.heap.size ≤ k) (fun k _ h => by omega))
          obtain ⟨t0, t1, tl⟩ := box1 hbx
          have c7 : Below w.heap.size w w7 := ((bAll c4 al5).trans (u6.below (by simp; omega) (fun k h => by omega))).trans (u7.below (by have := u6.size; simp at this; omega) (fun k h => by omega))
          clear HAP hrow hbx
          go_wp2
          go_ret2
          rw [HY.out, HE.out]
          exact ⟨_, rfl, r7.out, c7⟩
  · have HN : Hid (stepsB kept wait hs = false) := by show _ = _; simp [stepsB, hrb]
    have HN2 := hide (stepsL_no HN.out)
    have c1 := bAll hal b1
    clear hrb HOP HFC
    go_wp2
    go_ret2
    rw [HN.out, HN2.out]
    exact ⟨_, rfl, Row.nil _ _ _ _, c1.alloc c1.size _⟩

end Go.Proofs.YtapflnabiobonaaDoor
