/- Contracts and plain facts that this claim leans on (texts XO, XO2); no statement of the seat is proved here. -/
import Derived.Test.YtdnojnkcmncffaaWk12

/- A word as a struct of its kind, in the program: contracts; no statement of the seat is proved here. -/
namespace Go.Proofs.Ytdnojnkcmncffaa
open Go.RowKit

theorem info16 : (Try.prog.info? 131).map (·.size) = some 16 := by kernel_rfl
/-- The type of the structs of a kind. -/
def kindT : Nat → TypeId
  | 1 => 95
  | 2 => 96
  | 3 => 97
  | 4 => 98
  | 5 => 99
  | 6 => 100
  | 7 => 101
  | 8 => 102
  | 9 => 103
  | 10 => 104
  | 11 => 105
  | 12 => 106
  | 13 => 107
  | 14 => 108
  | 15 => 109
  | _ => 0

set_option maxRecDepth 100000 in
set_option maxHeartbeats 4000000 in
theorem wordBlank_any (k : Int) (w : World) :
    Calls Try.prog 61 #[.int .i64 k] w fun e w' => ∃ v, e = .returned v ∧ (inI k 1 15 = false → v = .nilIface) ∧ (∀ j : Nat, 1 ≤ j → j ≤ 15 → k = j → ∃ Z, v = .iface (kindT j) Z) ∧ Below w.heap.size w w' := by
  go_enter Try.func61, Try.ntmps61
  go_wp2_with (refine wpList_store_row rfl 131 (.tmp 3) (.tmp 34) rfl w.heap.size _ rfl rfl _ _ (heap_alloc_new w _) info16 rfl (all_of_list rfl) ?_; rw [World.setRow_alloc_new])
  generalize (Value.agg #[.int .i64 0, .int .i64 0, .int .i64 0, .int .i64 0, .int .i64 0, .int .i64 0, .int .i64 0, .int .i64 0, .int .i64 0, .int .i64 0, .int .i64 0, .int .i64 0, .int .i64 0, .int .i64 0, .int .i64 0, .int .i64 0, .int .i64 0, .int .i64 0, .int .i64 0, .int .i64 0, .int .i64 0, .int .i64 0, .int .i64 0, .int .i64 0, .slice none 0 0, .slice none 0 0]) = Z
  have hcell : ∀ j : Nat, 1 ≤ j → j ≤ 15 → (w.alloc (.cells #[.nilIface, .iface 95 Z, .iface 96 Z, .iface 97 Z, .iface 98 Z, .iface 99 Z, .iface 100 Z, .iface 101 Z, .iface 102 Z, .iface 103 Z, .iface 104 Z, .iface 105 Z, .iface 106 Z, .iface 107 Z, .iface 108 Z, .iface 109 Z] 131)).cell? ⟨w.heap.size, j, none⟩ = some (.iface (kindT j) Z) := by
    intro j h1 h2
    rw [boxAt (heap_alloc_new w _)]
    rcases (by omega : j = 1 ∨ j = 2 ∨ j = 3 ∨ j = 4 ∨ j = 5 ∨ j = 6 ∨ j = 7 ∨ j = 8 ∨ j = 9 ∨ j = 10 ∨ j = 11 ∨ j = 12 ∨ j = 13 ∨ j = 14 ∨ j = 15) with rfl | rfl | rfl | rfl | rfl | rfl | rfl | rfl | rfl | rfl | rfl | rfl | rfl | rfl | rfl <;> rfl
  have HC := hide hcell
  clear hcell
  have hal : Below w.heap.size w (w.alloc (.cells #[.nilIface, .iface 95 Z, .iface 96 Z, .iface 97 Z, .iface 98 Z, .iface 99 Z, .iface 100 Z, .iface 101 Z, .iface 102 Z, .iface 103 Z, .iface 104 Z, .iface 105 Z, .iface 106 Z, .iface 107 Z, .iface 108 Z, .iface 109 Z] 131)) := bal (Below.refl _ _) _
  refine (blkWithin_any k 1 15 _).mono ?_
  rintro e w' ⟨rfl, rfl⟩
  rcases hb : inI k 1 15 with _ | _
  · have hno : ∀ j : Nat, 1 ≤ j → j ≤ 15 → k = j → False := by
      intro j h1 h2 h3
      have : inI k 1 15 = true := by simp only [inI, Bool.and_eq_true, decide_eq_true_eq]; omega
      rw [hb] at this
      cases this
    have HN := hide hno
    clear hno
    go_wp2
    go_ret
    exact ⟨_, rfl, fun _ => rfl, fun j h1 h2 h3 => (HN.out j h1 h2 h3).elim, hal⟩
  · have hk := hb
    simp only [inI, Bool.and_eq_true, decide_eq_true_eq] at hk
    obtain ⟨j, rfl⟩ : ∃ j : Nat, k = j := ⟨k.toNat, by omega⟩
    have hc := HC.out j (by omega) (by omega)
    have hj1 : 1 ≤ j := by omega
    have hj2 : j ≤ 15 := by omega
    clear hk
    go_wp2
    go_ret
    exact ⟨_, rfl, fun h => (by rw [hb] at h; cases h), fun i h1 h2 h3 => ⟨Z, by rw [show i = j by omega]; rfl⟩, hal⟩

end Go.Proofs.Ytdnojnkcmncffaa

/- A plain word as a struct of its kind, in the program: contracts; no statement of the seat is proved here. -/
namespace Go.Proofs.Ytdnojnkcmncffaa
open Go.RowKit

theorem infoWb : (Try.prog.info? 92).map (·.size) = some 26 := by kernel_rfl

theorem setRow_new1 (w : World) (o : Obj) (c c' : Array Value) (t : TypeId) : ((w.alloc o).alloc (.cells c t)).setRow (w.heap.size + 1) c' = (w.alloc o).alloc (.cells c' t) := by
  have := World.setRow_alloc_new (w.alloc o) c c' t
  rwa [World.size_alloc] at this

theorem as_no {P : Program} {t T xt : TypeId} {d : Array Field} (hu : P.underlying t = some (.struct d)) (hz : (P.info? t).map (fun i => i.zero.isSome) = some true) (h : T ≠ t) :
    ∃ z, ∀ (Z : Value) (w : World), (Instr.typeAssert (.iface T Z) xt t true).run P w = .ok (.tuple #[z, .bool false]) w := by
  cases hq : P.info? t with
  | none => simp [hq] at hz
  | some i =>
    cases hzz : i.zero with
    | none => simp [hq, hzz] at hz
    | some z =>
      refine ⟨z, fun Z w => ?_⟩
      simp [Instr.typeAssert, run_underlying hu, h, zeroValue, typeInfo, hq, hzz]
theorem as_nilNo {P : Program} {t xt : TypeId} {d : Array Field} (hu : P.underlying t = some (.struct d)) (hz : (P.info? t).map (fun i => i.zero.isSome) = some true) :
    ∃ z, ∀ (w : World), (Instr.typeAssert .nilIface xt t true).run P w = .ok (.tuple #[z, .bool false]) w := by
  cases hq : P.info? t with
  | none => simp [hq] at hz
  | some i =>
    cases hzz : i.zero with
    | none => simp [hq, hzz] at hz
    | some z =>
      refine ⟨z, fun w => ?_⟩
      simp [Instr.typeAssert, run_underlying hu, zeroValue, typeInfo, hq, hzz]
theorem as_yes {P : Program} {t xt : TypeId} {d : Array Field} (hu : P.underlying t = some (.struct d)) :
    ∀ (Z : Value) (w : World), (Instr.typeAssert (.iface t Z) xt t true).run P w = .ok (.tuple #[Z, .bool true]) w := by
  intro Z w
  simp [Instr.typeAssert, run_underlying hu]

end Go.Proofs.Ytdnojnkcmncffaa
