/- What SecFlush of the program does: contracts; no statement of the seat is proved here. -/
import Derived.Test.YtcanhoemhdkjkabAp2
import Derived.Test.YtcanhoemhdkjkabLook
import Derived.Shelf.RegionOpen
namespace Go.Proofs.Ytcanhoemhdkjkab
open Go.RowKit Go.Shelf

attribute [local go_sem] Oper.semAt_some

theorem Upd.drew {S : Nat → Prop} {w w' : World} (h : Upd S w w') : Upd S w w'.drew := ⟨h.os, h.tape, h.output, h.size, h.block⟩

theorem own_upd {β : Type} {S : Nat → Prop} {w : World} {B : Nat} (h : w.heap.size ≤ B) : OwnFrom B (fun (_ : β) W => Upd S w W) := by
  intro s W W' row hs hg hr
  exact ⟨hg.os.trans hs.os, hg.tape.trans hs.tape, hg.output.trans hs.output, Nat.le_trans hs.size hg.size, fun k hk hS =>
    (hg.block k (by have := hs.size; omega) (fun e => by have := (hr k e.symm).1; omega)).trans (hs.block k hk hS)⟩

theorem own_row {β : Type} (B : Nat) (e : TypeId) (size : Nat) (S : Nat → Prop) (v : Value) (n : Nat) (cs : β → List Value) : OwnFrom B (fun (s : β) W => Row W e size S v n (cs s)) := by
  intro s W W' row hs hg hr
  obtain ⟨ao, cap, rfl, hn, hl, h⟩ := hs
  refine ⟨ao, cap, rfl, hn, hl, fun h0 => ?_⟩
  obtain ⟨g, cur, rfl, hS, hgg, ht⟩ := h h0
  exact ⟨g, cur, rfl, hS, own_cells B g (fun _ : β => cur) e s W W' row hgg hg hr, ht⟩

theorem upd_putObj {T : Nat → Prop} {w W : World} {D : Nat} (h : Upd T w W) (hD : w.heap.size ≤ D) (o : Obj) : Upd T w (W.putObj D o) := by
  have hg := grownBy_putObj' W D o
  exact ⟨hg.os.trans h.os, hg.tape.trans h.tape, hg.output.trans h.output, Nat.le_trans h.size hg.size, fun k hk hS => (hg.block k (by have := h.size; omega) (fun e => by cases e; omega)).trans (h.block k hk hS)⟩

theorem upd_putObj' (W : World) (D : Nat) (o : Obj) : Upd (fun k => k = D) W (W.putObj D o) := by
  have hg := grownBy_putObj' W D o
  exact ⟨hg.os, hg.tape, hg.output, hg.size, fun k hk hS => hg.block k hk (fun e => hS (by cases e; rfl))⟩

theorem flushL_ok {kept : List ByteArray} {wait : List (Int × ByteArray)} (hok : okB kept wait = true) : kept.length ≤ 1048576 ∧ wait.length ≤ 1048576 := by
  obtain ⟨h1, h2, -, -⟩ := okB_parts hok
  omega

end Go.Proofs.Ytcanhoemhdkjkab
