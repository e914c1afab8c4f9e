/- What SecNew does, in the specification and in the program: contracts; no statement of the seat is proved here. -/
import Derived.Test.YtpgkiacpadglbaaH3
import Derived.Deep.OwnRows
namespace Go.Proofs.Ytpgkiacpadglbaa
open Go.RowKit

def inB (a b c : Int) : Bool := decide (b ≤ a) && decide (a ≤ c)

theorem l6In_any (a b c : Int) (w : World) :
    Calls Try.prog 60 #[.int .i64 a, .int .i64 b, .int .i64 c] w fun e w' => e = .returned (.bool (inB a b c)) ∧ w' = w := by
  by_cases h1 : b ≤ a
  · by_cases h2 : a ≤ c
    · go_enter Try.func60, Try.ntmps60
      go_wp2
      go_ret
      exact ⟨by simp [inB, h1, h2], rfl⟩
    · go_enter Try.func60, Try.ntmps60
      go_wp2
      go_ret
      exact ⟨by simp [inB]; omega, rfl⟩
  · go_enter Try.func60, Try.ntmps60
    go_wp2
    go_ret
    exact ⟨by simp [inB]; omega, rfl⟩

/-- The sectors of a new disk. -/
def newKept (a : Int) : List ByteArray := if inB a 0 512 = true then List.replicate a.toNat ⟨#[]⟩ else []

theorem infoStr : (Try.prog.info? 9).map (fun i => (i.zero, i.size, i.bytes)) = some (some (.string ⟨#[]⟩), 1, 16) := by kernel_rfl

/-- The row that make lays, as a row. -/
theorem Row.ofOwns {w : World} {base : Nat} {e : TypeId} {size : Nat} {v : Value} {n : Nat} {xs : List Value} (h : w.ownsRow base e size v n xs) (hn : n ≤ 9223372036854775807) : Row w e size (fun k => base ≤ k) v n xs := by
  obtain ⟨hl, h⟩ := h
  rcases h with ⟨rfl, rfl⟩ | ⟨g, cap, cur, rfl, hb, hg, _, _, _, ht⟩
  · exact ⟨none, 0, rfl, hn, hl, fun h => by omega⟩
  · exact ⟨_, cap, rfl, hn, hl, fun _ => ⟨g, cur, rfl, hb, hg, ht⟩⟩

/-- The row that make has just laid. -/
theorem Row.made (W : World) (e : TypeId) (z : Value) (n base : Nat) (hb : base ≤ W.heap.size) (hn : n ≤ 9223372036854775807) :
    Row (W.alloc (.cells (madeCells #[z] n) e)) e 1 (fun k => base ≤ k) (.slice (some ⟨W.heap.size, 0, none⟩) n n) n (List.replicate n z) := by
  refine ⟨_, n, rfl, hn, by simp, fun _ => ⟨_, _, rfl, hb, heap_alloc_new W _, ?_⟩⟩
  rw [toList_madeCells_one]
  exact List.take_of_length_le (by simp)

theorem newDisk (W : World) (base n : Nat) (hb : base ≤ W.heap.size) (hn : n ≤ 512) :
    DiskO (W.alloc (.cells (madeCells #[.string ⟨#[]⟩] n) 9)) (fun k => base ≤ k) (.agg #[.slice (some ⟨W.heap.size, 0, none⟩) n n, .slice none 0 0]) (List.replicate n ⟨#[]⟩) [] := by
  refine ⟨_, _, rfl, ?_, Row.nil _ _ _ _⟩
  simpa using Row.made W 9 (.string ⟨#[]⟩) n base hb (by omega)

set_option maxHeartbeats 400000 in
theorem specSecNew_any (a : Int) (w : World) :
    Calls Try.prog 29 #[.int .i64 a] w fun e w' => ∃ v, e = .returned v ∧ DiskO w' (fun k => w.heap.size ≤ k) v (newKept a) [] ∧ Below w.heap.size w w' := by
  by_cases h : inB a 0 512 = true
  · have hk : newKept a = List.replicate a.toNat ⟨#[]⟩ := by simp [newKept, h]
    rw [hk]
    clear hk
    have hb : 0 ≤ a ∧ a ≤ 512 := by simpa [inB] using h
    obtain ⟨n, rfl⟩ := Int.eq_ofNat_of_zero_le hb.1
    have hn : n ≤ 512 := by omega
    rw [Int.toNat_natCast]
    clear hb
    have hmk := run_make_row' (P := Try.prog) 23 9 (.string ⟨#[]⟩) 16 Try.underlying23 infoStr rfl .i64 .i64 n (by omega) (by omega)
    go_enter Try.func29, Try.ntmps29
    go_wp2_with (go_at_call 60; refine (l6In_any _ _ _ _).mono ?_; rintro e w' ⟨rfl, rfl⟩)
    refine bodyPost_ret (v := .agg #[.slice (some ⟨w.heap.size + 1, 0, none⟩) n n, .slice none 0 0]) (by simp [results, Try.results29, go_sem]) rfl ⟨_, rfl, ?_, ((Below.refl _ _).alloc (Nat.le_refl _) _).alloc (by simp) _⟩
    have := newDisk (w.alloc (.cells #[.slice (some ⟨w.heap.size + 1, 0, none⟩) n n, .slice none 0 0] 26)) w.heap.size n (by simp) hn
    rw [World.size_alloc] at this
    exact this
  · have h0 : inB a 0 512 = false := by simpa using h
    have hk : newKept a = [] := by simp [newKept, h0]
    rw [hk]
    clear hk h
    go_enter Try.func29, Try.ntmps29
    go_wp2_with (go_at_call 60; refine (l6In_any _ _ _ _).mono ?_; rintro e w' ⟨rfl, rfl⟩)
    exact bodyPost_ret (v := .agg #[.slice none 0 0, .slice none 0 0]) (by simp [results, Try.results29, go_sem]) rfl ⟨_, rfl, ⟨_, _, rfl, Row.nil _ _ _ _, Row.nil _ _ _ _⟩, (Below.refl _ _).alloc (Nat.le_refl _) _⟩

set_option maxHeartbeats 400000 in
theorem implSecNew_any (a : Int) (w : World) :
    Calls Try.prog 30 #[.int .i64 a] w fun e w' => ∃ v, e = .returned v ∧ DiskO w' (fun k => w.heap.size ≤ k) v (newKept a) [] ∧ Below w.heap.size w w' := by
  by_cases h : inB a 0 512 = true
  · have hk : newKept a = List.replicate a.toNat ⟨#[]⟩ := by simp [newKept, h]
    rw [hk]
    clear hk
    have hb : 0 ≤ a ∧ a ≤ 512 := by simpa [inB] using h
    obtain ⟨n, rfl⟩ := Int.eq_ofNat_of_zero_le hb.1
    have hn : n ≤ 512 := by omega
    rw [Int.toNat_natCast]
    clear hb
    have hmk := run_make_row' (P := Try.prog) 23 9 (.string ⟨#[]⟩) 16 Try.underlying23 infoStr rfl .i64 .i64 n (by omega) (by omega)
    go_enter Try.func30, Try.ntmps30
    go_wp2
    refine bodyPost_ret (v := .agg #[.slice (some ⟨w.heap.size + 1, 0, none⟩) n n, .slice none 0 0]) (by simp [results, Try.results30, go_sem]) rfl ⟨_, rfl, ?_, ((Below.refl _ _).alloc (Nat.le_refl _) _).alloc (by simp) _⟩
    have := newDisk (w.alloc (.cells #[.slice (some ⟨w.heap.size + 1, 0, none⟩) n n, .slice none 0 0] 26)) w.heap.size n (by simp) hn
    rw [World.size_alloc] at this
    exact this
  · have h0 : inB a 0 512 = false := by simpa using h
    have hk : newKept a = [] := by simp [newKept, h0]
    rw [hk]
    clear hk h
    have hc : a < 0 ∨ 512 < a := by
      simp only [inB, Bool.and_eq_false_iff, decide_eq_false_iff_not] at h0
      omega
    clear h0
    rcases hc with hc | hc
    · go_enter Try.func30, Try.ntmps30
      go_wp2
      exact bodyPost_ret (v := .agg #[.slice none 0 0, .slice none 0 0]) (by simp [results, Try.results30, go_sem]) rfl ⟨_, rfl, ⟨_, _, rfl, Row.nil _ _ _ _, Row.nil _ _ _ _⟩, (Below.refl _ _).alloc (Nat.le_refl _) _⟩
    · have hc' : ¬ a < 0 := by omega
      go_enter Try.func30, Try.ntmps30
      go_wp2
      exact bodyPost_ret (v := .agg #[.slice none 0 0, .slice none 0 0]) (by simp [results, Try.results30, go_sem]) rfl ⟨_, rfl, ⟨_, _, rfl, Row.nil _ _ _ _, Row.nil _ _ _ _⟩, (Below.refl _ _).alloc (Nat.le_refl _) _⟩

theorem newKept_len (a : Int) : (newKept a).length ≤ 512 := by
  unfold newKept
  split
  · rename_i h
    have hb : 0 ≤ a ∧ a ≤ 512 := by simpa [inB] using h
    simp
    omega
  · simp

/-- What a variable of two cells holds. -/
theorem box2 {w : World} {B : Nat} {x y : Value} {t : TypeId} (h : w.heap[B]? = some (.cells #[x, y] t (0, 0))) : w.cell? ⟨B, 0, none⟩ = some x ∧ w.cell? ⟨B, 1, none⟩ = some y ∧ B < w.heap.size :=
  ⟨(cell_of_row w B 0 _ _ (0, 0) h).trans rfl, (cell_of_row w B 1 _ _ (0, 0) h).trans rfl, heap_lt h⟩

theorem box2f {w : World} {B : Nat} {x y : Value} {t : TypeId} (h : w.heap[B]? = some (.cells #[x, y] t (0, 0))) : w.frozen? ⟨B, 0, none⟩ = false ∧ w.frozen? ⟨B, 1, none⟩ = false :=
  ⟨frozen_of_row w B 0 _ _ h, frozen_of_row w B 1 _ _ h⟩

theorem DiskO.shape {w : World} {S : Nat → Prop} {v : Value} {kept : List ByteArray} {wait : List (Int × ByteArray)} (h : DiskO w S v kept wait) : ∃ ao ca ao' ca', v = .agg #[.slice ao kept.length ca, .slice ao' wait.length ca'] := by
  obtain ⟨vk, vw, rfl, ⟨ao, ca, rfl, -⟩, ⟨ao', ca', rfl, -⟩⟩ := h
  exact ⟨ao, ca, ao', ca', rfl⟩

theorem DiskO.upto {w : World} {lo : Nat} {v : Value} {kept : List ByteArray} {wait : List (Int × ByteArray)} (h : DiskO w (fun k => lo ≤ k) v kept wait) : DiskO w (fun k => lo ≤ k ∧ k < w.heap.size) v kept wait :=
  h.mono fun _ hk h => ⟨h, hk⟩

set_option maxHeartbeats 1000000 in
theorem secNew_walk (a : Int) (w : World) :
    Calls Try.prog 8 #[.int .i64 a] w fun e w' => e = .returned (.bool true) ∧ Below w.heap.size w w' := by
  have hlen0 := newKept_len a
  obtain ⟨K, HK⟩ : ∃ K, Hid (newKept a = K) := ⟨_, rfl⟩
  obtain ⟨X, HX⟩ : ∃ X : List (Int × ByteArray), Hid ([] = X) := ⟨_, rfl⟩
  have hlen : K.length ≤ 512 := by rw [← HK.out]; exact hlen0
  have hlenX : X.length ≤ 512 := by rw [← HX.out]; simp
  clear hlen0
  have specC := fun w => specSecNew_any a w
  have implC := fun w => implSecNew_any a w
  rw [HK.out, HX.out] at specC implC
  have specH := hide specC
  have implH := hide implC
  clear specC implC HK HX
  go_enter Try.func8, Try.ntmps8
  go_wp2_with fail
  refine (unhide specH _).mono ?_
  rintro e w1 ⟨v0, rfl, d0, b1⟩
  replace d0 := d0.upto
  obtain ⟨ao, ca, ao', ca', rfl⟩ := d0.shape
  go_wp2_with fail
  refine (unhide implH _).mono ?_
  rintro e w2 ⟨v1, rfl, d1, b2⟩
  replace d1 := d1.upto
  obtain ⟨bo, cb, bo', cb', rfl⟩ := d1.shape
  have z2 := b2.size
  simp only [World.size_alloc] at z2 d1
  have hb0 := bKeeps b2 (heap_alloc_new w1 _)
  obtain ⟨q00, q01, q0l⟩ := box2 hb0
  have Hb0 := hide hb0
  clear hb0
  have n0 := d0.keepB (((Below.refl _ _).alloc (Nat.le_refl _) _ : Below w1.heap.size w1 (w1.alloc (.cells #[.slice ao K.length ca, .slice ao' X.length ca'] 26))))
  replace n0 := n0.keepB b2
  go_wp2_with fail
  -- the first comparison
  have al2 : Below w2.heap.size w2 (w2.alloc (.cells #[.slice bo K.length cb, .slice bo' X.length cb'] 26)) := (Below.refl _ _).alloc (Nat.le_refl _) _
  have m0 := n0.keepB al2
  have m1 := d1.keepB al2
  have B0 := bKeeps al2 Hb0.out
  have B1 := heap_alloc_new w2 (.cells #[.slice bo K.length cb, .slice bo' X.length cb'] 26)
  clear q00 q01 q0l Hb0
  refine (eqSecDisk_true _ _ K X _ m1.reads m0.reads).mono ?_
  rintro e w3 ⟨rfl, b3⟩
  replace m0 := m0.keepB b3
  replace m1 := m1.keepB b3
  replace B0 := bKeeps b3 B0
  replace B1 := bKeeps b3 B1
  have z3 := b3.size
  simp only [World.size_alloc] at z3
  obtain ⟨p00, p01, p0l⟩ := box2 B0
  obtain ⟨p10, p11, p1l⟩ := box2 B1
  have H0 := hide B0
  have H1 := hide B1
  clear B0 B1
  go_wp2_with fail
  -- the marks
  refine (markSecDisk_any _ _ K X 1 _ m1 (by omega) (by omega)).mono ?_
  rintro e w4 ⟨rfl, m1', u4⟩
  have B0 := u4.keeps H0.out (by simp; omega)
  have B1 := u4.keeps H1.out (by simp)
  replace m0 := m0.keep u4 (by intro k; simp; omega)
  clear p00 p01 p0l p10 p11 p1l H0 H1
  obtain ⟨p00, p01, p0l⟩ := box2 B0
  obtain ⟨p10, p11, p1l⟩ := box2 B1
  have H0 := hide B0
  have H1 := hide B1
  clear B0 B1
  go_wp2_with fail
  refine (heldSecDisk_ok _ _ _ 1 _ m1'.reads (by omega) (by omega)).mono ?_
  rintro e w5 ⟨rfl, b5⟩
  replace m0 := m0.keepB b5
  replace m1' := m1'.keepB b5
  have B0 := bKeeps b5 H0.out
  have B1 := bKeeps b5 H1.out
  clear p00 p01 p0l p10 p11 p1l H0 H1
  obtain ⟨p00, p01, p0l⟩ := box2 B0
  obtain ⟨p10, p11, p1l⟩ := box2 B1
  have H0 := hide B0
  have H1 := hide B1
  clear B0 B1
  go_wp2_with fail
  -- once more
  refine (unhide implH _).mono ?_
  rintro e w6 ⟨v2, rfl, d2, b6⟩
  obtain ⟨co, cc, co', cc', rfl⟩ := d2.shape
  replace m0 := m0.keepB b6
  replace m1' := m1'.keepB b6
  have B0 := bKeeps b6 H0.out
  have B1 := bKeeps b6 H1.out
  clear p00 p01 p0l p10 p11 p1l H0 H1
  obtain ⟨p00, p01, p0l⟩ := box2 B0
  obtain ⟨p10, p11, p1l⟩ := box2 B1
  have H0 := hide B0
  have H1 := hide B1
  clear B0 B1
  go_wp2_with fail
  have al6 : Below w6.heap.size w6 (w6.alloc (.cells #[.slice co K.length cc, .slice co' X.length cc'] 26)) := (Below.refl _ _).alloc (Nat.le_refl _) _
  replace m0 := m0.keepB al6
  replace m1' := m1'.keepB al6
  replace d2 := d2.keepB al6
  have B1 := bKeeps al6 H1.out
  clear p00 p01 p0l p10 p11 p1l H0 H1
  refine (eqSecDisk_true _ _ K X _ d2.reads m0.reads).mono ?_
  rintro e w7 ⟨rfl, b7⟩
  replace m1' := m1'.keepB b7
  replace B1 := bKeeps b7 B1
  obtain ⟨p10, p11, p1l⟩ := box2 B1
  clear B1
  go_wp2_with fail
  refine (heldSecDisk_ok _ _ _ 1 _ m1'.reads (by omega) (by omega)).mono ?_
  rintro e w8 ⟨rfl, b8⟩
  go_wp2
  go_ret
  refine ⟨rfl, ?_⟩
  have c1 : Below w.heap.size w w3 := bAll (bAll (bAll (bAll b1 ((Below.refl _ _).alloc (Nat.le_refl _) _)) b2) al2) b3
  have c2 : Below w.heap.size w3 w4 := u4.below (by have := c1.size; omega) (by intro k hk; have := b1.size; omega)
  have c3 : Below w4.heap.size w4 w8 := bAll (bAll (bAll (bAll b5 b6) al6) b7) b8
  exact c1.trans (c2.trans (c3.mono (by have := c1.size; have := c2.size; omega)))

end Go.Proofs.Ytpgkiacpadglbaa
