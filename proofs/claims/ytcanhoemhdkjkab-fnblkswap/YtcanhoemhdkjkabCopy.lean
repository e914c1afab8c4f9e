/- What a copy of a disk in the specification is: a contract; no statement of the seat is proved here. -/
import Derived.Test.YtcanhoemhdkjkabAp2
import Derived.Deep.RegionHeldLaw
import Derived.Deep.RegionLawGrows
namespace Go.Proofs.Ytcanhoemhdkjkab
open Go.RowKit

theorem bAlloc {W w : World} (h : Below W.heap.size W w) (o : Obj) : Below W.heap.size W (w.alloc o) := h.alloc h.size o

theorem bSet {B i : Nat} {W w : World} (h : Below B W w) (u : Value) : Below B W (w.setCell ⟨B, i, none⟩ u) := h.setCell (p := ⟨B, i, none⟩) (Nat.le_refl _) u

theorem step_copy0 {P : Program} {ops : Array Oper} {o : Oper} {a : Act} {w : World} {K : Act → World → Prop} {Q : Exit → Act → World → Prop} {E : Prop}
    (hg : o.guard = none) (s x : Operand) (t : TypeId) (hop : o.op = Op.call { callee := Callee.builtin Builtin.append, args := #[s, x], argTypes := #[t, t] })
    (e : TypeId) (i : TypeInfo) (z : Value) (size bytes : Nat) (ht : P.underlying t = some (.slice e)) (hi : P.info? e = some i) (hz : i.zero = some z)
    (hsize : i.size = size) (hby : i.bytes = bytes) (hzs : z.cells.size = size) (hsz : 0 < size)
    (ao0 : Option Addr) (hs : a.eval s = .slice ao0 0 0)
    (vx : Value) (m : Nat) (news : List Value) (hx : a.eval x = vx) (hr : RowR w size vx m news) (h1 : ∀ u ∈ news, u.oneCell' = true)
    (h63 : m ≤ 1048576) (hbytes : m * bytes ≤ 140737488355328)
    (hK : ∀ v' w', Row w' e size (fun k => w.heap.size ≤ k) v' m news → Below w.heap.size w w' → K (a.put o.dst v') w') :
    if Region.wanted o (yielded ops a.tmps) = true then Oper.wp P o a w K Q else E := by
  obtain ⟨ao, c, rfl, hn', hl, hr⟩ := hr
  rcases Nat.eq_zero_or_pos m with rfl | hpos
  · obtain rfl : news = [] := List.eq_nil_of_length_eq_zero (by simpa using hl)
    have hw : Region.wanted o (yielded ops a.tmps) = true := by simp [Region.wanted, hg]
    rw [if_pos hw]
    have hrun : (Builtin.append_ #[t, t] o.type #[.slice ao0 0 0, .slice ao 0 c]).run P w = .ok (.slice ao0 0 0) w := by
      cases ao <;> cases ao0 <;> simp [Builtin.append_, run_underlying ht, sizeOf, typeInfo, hi, Builtin.lenOf, Builtin.firstCells, storeCells, loadCells, loadCellsFrom]
    unfold Oper.wp
    simp [execOp, hop, resolve, invoke, builtin, hs, hx, hrun, Result.andThen]
    exact hK _ w ⟨ao0, 0, rfl, hn', hl, fun h => by omega⟩ (Below.refl _ _)
  · obtain ⟨b, off, rfl, hc⟩ := hr hpos
    refine step_append_grows hg s x t hop e i z size bytes ht hi hz hsize hby hzs hsz ao0 0 0 [] hs (fun _ => ⟨rfl, rfl⟩) (by simp) (fun _ _ j u h => by simp at h) ⟨b, off, none⟩ m c news hx hl (fun j u hj => by rw [Addr.add_lit]; exact hc j u hj) h1 (by omega) (by unfold maxLen; omega) (by rw [Nat.zero_add]; exact hbytes) ?_
    intro v' w' r1 r2
    rw [Nat.zero_add, List.nil_append] at r1
    exact hK v' w' (Row.ofOwns r1 (by omega)) ((Below.refl _ _).grown r2 (Nat.le_refl _) (fun k e => by cases e))

theorem keepS {w W w' : World} {x y : Value} (p0 : W.cell? ⟨w.heap.size, 0, none⟩ = some x) (p1 : W.cell? ⟨w.heap.size, 1, none⟩ = some y) (h : Below (w.heap.size + 1) W w') :
    (w'.cell? ⟨w.heap.size, 0, none⟩ = some x ∧ w'.cell? ⟨w.heap.size, 1, none⟩ = some y) ∧ Below (w.heap.size + 1) W w' :=
  ⟨⟨(h.cell (p := ⟨w.heap.size, 0, none⟩) (Nat.lt_succ_self _)).trans p0, (h.cell (p := ⟨w.heap.size, 1, none⟩) (Nat.lt_succ_self _)).trans p1⟩, h⟩

end Go.Proofs.Ytcanhoemhdkjkab
