/- What is kept of what waits, as it is drawn: contracts; no statement of the seat is proved here. -/
import Derived.Test.YtapflnabiobonaaDoorDraw2
import Derived.Test.YtapflnabiobonaaDoorSCut
namespace Go.Proofs.YtapflnabiobonaaDoor
open Go.RowKit

theorem new_int (w : World) (a : Int) (e : TypeId) : ∀ j u, [Value.int .i64 a][j]? = some u → (w.alloc (.cells #[.int .i64 a] e)).cell? ((⟨w.heap.size, 0, none⟩ : Addr).add j) = some u := by
  intro j u h
  cases j with
  | zero =>
    rw [Addr.add_lit, cell_of_row _ _ _ _ _ (0, 0) (al1_0 w _)]
    simpa using h
  | succ j => simp at h
theorem int_one (a : Int) : ∀ u ∈ [Value.int .i64 a], u.oneCell' = true := by
  intro u hu
  rw [List.mem_singleton] at hu
  subst hu
  rfl

theorem five_cells (w : World) (a b c d e : Int) (t : TypeId) : ∀ j, j < 5 → ∃ z : Int, (w.alloc (.cells #[.int .i64 a, .int .i64 b, .int .i64 c, .int .i64 d, .int .i64 e] t)).cell? ⟨w.heap.size, j, none⟩ = some (.int .i64 z) := by
  intro j hj
  have h := fun j => cell_of_row _ w.heap.size j _ _ (0, 0) (al1_0 w (.cells #[.int .i64 a, .int .i64 b, .int .i64 c, .int .i64 d, .int .i64 e] t))
  rcases (by omega : j = 0 ∨ j = 1 ∨ j = 2 ∨ j = 3 ∨ j = 4) with rfl | rfl | rfl | rfl | rfl
  · exact ⟨a, (h 0).trans rfl⟩
  · exact ⟨b, (h 1).trans rfl⟩
  · exact ⟨c, (h 2).trans rfl⟩
  · exact ⟨d, (h 3).trans rfl⟩
  · exact ⟨e, (h 4).trans rfl⟩

set_option maxRecDepth 100000 in
set_option maxHeartbeats 2000000 in
theorem l72Bits_any (w0 w : World) (R p m : Nat) (hr : Rd w0 w R p) (hp : p ≤ 900000) (hm : m ≤ 100) :
    Calls Tryd.prog 97 #[.pointer (some ⟨R, 0, none⟩), .int .i64 m] w fun e w' => ∃ (ko : Option Addr) (kc : Nat) (ks : List Int) (p' : Nat), e = .returned (.slice ko ks.length kc) ∧
      RowA w' w.heap.size 3 1 (.slice ko ks.length kc) ks.length (ks.map (Value.int .i64)) ∧ ks.length ≤ m ∧ Rd w0 w' R p' ∧ p' ≤ p + 1 + m ∧ Upd (fun j => j = R) w w' := by
  obtain ⟨hRl, hR0, hw0⟩ := hr.lt
  obtain ⟨i1, gi, gz0, gz1, gz2⟩ := info_parts infoInt
  have al0 := fun o : Obj => (Below.refl w.heap.size w).alloc (Nat.le_refl _) o
  go_enter Tryd.func97, Tryd.ntmps97
  go_wp2_with fail
  have hk : ((m : Int) + 1) = ((m + 1 : Nat) : Int) := by simp
  rw [hk]
  clear hk
  refine (pick_any w0 _ R p (m + 1) (hr.keepB (al0 _)) (by omega) (by omega) (by omega)).mono ?_
  rintro e w1 ⟨q, rfl, hq, hr1, hu1⟩
  have U1 : Upd (fun j => j = R) w w1 := (Upd.ofBelow (al0 _)).trans hu1
  clear hu1 hr
  go_wp2
  go_loopw [5, 6] (fun ov kv wr => ∃ (i : Nat) (ks : List Int) (ao : Option Addr) (ca p' : Nat), kv = .int .i64 i ∧ ov = .slice ao ks.length ca ∧ ks.length + i ≤ m ∧ p' + i ≤ p + 1 + m ∧
      RowA wr w.heap.size 3 1 (.slice ao ks.length ca) ks.length (ks.map (Value.int .i64)) ∧ Rd w0 wr R p' ∧ Upd (fun j => j = R) w wr) (fun _ kv _ => (intOf kv).toNat)
  case atStart => exact ⟨q, [], _, 0, p + 1, rfl, rfl, by simp; omega, by omega, .inr ⟨rfl, rfl, _, rfl⟩, hr1, U1⟩
  case round =>
    clear hr1 U1
    obtain ⟨i, ks, ao, ca, p', rfl, rfl, hl, hpi, hrow, hrd, hU⟩ := hrel
    by_cases hlt : 0 < i
    · have al2 : Below wr.heap.size wr (wr.alloc (.cells #[.int .i64 0, .int .i64 1, .int .i64 0, .int .i64 1, .int .i64 (-7)] 3)) := (Below.refl _ _).alloc (Nat.le_refl _) _
      have H5 := hide (five_cells wr 0 1 0 1 (-7) 3)
      have zr := hU.size
      go_wp2_with fail
      refine (pick_any w0 _ R p' 5 (hrd.keepB al2) (by omega) (by omega) (by omega)).mono ?_
      rintro e w2 ⟨q2, rfl, hq2, hr2, hu2⟩
      obtain ⟨z, hz⟩ := H5.out q2 hq2
      have f1 : w2.cell? ⟨wr.heap.size, q2, none⟩ = some (.int .i64 z) := (World.cell?_of_block (a := ⟨wr.heap.size, q2, none⟩) (hu2.block wr.heap.size (by simp) (by have := hrd.lt.1; omega))).trans hz
      have hq2' : (q2 : Int) < 5 := by omega
      have row2 := ((hrow.keepB al2).keepT hu2 (fun k ht e => by subst e; exact (hrd.keepB al2).apart (by decide) ht))
      have al3 : Below w2.heap.size w2 (w2.alloc (.cells #[.int .i64 z] 3)) := (Below.refl _ _).alloc (Nat.le_refl _) _
      have row3 := row2.keepB al3
      have N3 := hide (new_int w2 z 3)
      have z2 := hu2.size
      simp only [World.size_alloc] at z2
      clear hz
      go_wp2_with (at_builtin; refine wpList_appendA _ rfl _ _ 90 rfl w.heap.size 3 i1 (.int .i64 0) 1 8 Tryd.underlying90 gi gz0 gz1 gz2 rfl (by decide) _ ks.length (ks.map (Value.int .i64)) rfl row3 ⟨w2.heap.size, 0, none⟩ 1 1 [.int .i64 z] rfl rfl N3.out (int_one z) (by decide) ?q63 ?qby ?qbase ?_)
      case q63 => unfold maxLen; omega
      case qby => omega
      case qbase => simp; omega
      intro v4 w4 hown u4
      obtain ⟨mo, cm, rfl⟩ := (Row.ofOwns hown (by omega)).shape
      go_wp2
      have hr4 := ((hr2.keepB al3).keep u4 ((hr2.keepB al3).apart (by decide)) (fun k h => by have := h.1; omega))
      go_roundw
      case rel =>
        refine ⟨i - 1, ks ++ [z], mo, cm, p' + 1, by go_num, by simp, by simp; omega, by omega, ?_, hr4, ?_⟩
        · simp only [List.length_append, List.length_cons, List.length_nil, List.map_append, List.map_cons, List.map_nil]
          exact .inl hown
        · exact (((hU.trans (Upd.ofBelow al2)).trans hu2).trans (Upd.ofBelow al3)).transN u4 (fun k h => h.1)
      case measure => simp [intOf]; omega
    · go_wp2
      go_ret
      exact ⟨ao, ca, ks, p', rfl, hrow, by omega, hrd, by omega, hU⟩

end Go.Proofs.YtapflnabiobonaaDoor
