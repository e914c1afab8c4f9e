/- Contracts and plain facts that this claim leans on (texts XA, VP, VP2, MST, FW1, SK1, FW6, MG, MKD, MSM, MSTw, INT2, MK1); no statement of the seat is proved here. -/
import Derived.Test.YthdnnmmaalgpaaaMa1
import Derived.Test.YthdnnmmaalgpaaaMa2
import Derived.Laws.ResultCell
import Derived.Deep.DeepCutAuto
import Derived.Laws.StructEq

/- All numbers of a word, as the specification lists them: a contract; no statement of the seat is proved here. -/
namespace Go.Proofs.Ythdnnmmaalgpaaa
open Go.RowKit

theorem RowA.base {w : World} {b b' : Nat} {e : TypeId} {size : Nat} {v : Value} {n : Nat} {cs : List Value} (h : RowA w b e size v n cs) (hb : b' ≤ b) : RowA w b' e size v n cs := by
  rcases h with h | h
  · exact .inl ⟨h.1, h.2.imp id (fun ⟨g, cap, cur, e, hg, rest⟩ => ⟨g, cap, cur, e, Nat.le_trans hb hg, rest⟩)⟩
  · exact .inr h
end Go.Proofs.Ythdnnmmaalgpaaa

/- What the laws' own helpers do with papers and voters: contracts; no statement of the seat is proved here. -/
namespace Go.Proofs.Ythdnnmmaalgpaaa
open Go.RowKit

/-- A paper: its slot, its ballot, and its command (that of a word). -/
abbrev Pp := Int × Int × Wd
def pparr (p : Pp) : Array Value := (#[.int .i64 p.1, .int .i64 p.2.1, .int .i64 p.2.2.c0, .int .i64 p.2.2.c1, .int .i64 p.2.2.c2, .int .i64 p.2.2.c3, .int .i64 p.2.2.c4, .int .i64 p.2.2.c5, .int .i64 p.2.2.c6, .int .i64 p.2.2.c7, .int .i64 p.2.2.c8, .int .i64 p.2.2.c9] : Array Value)
def ppcell (p : Pp) : List Value := (pparr p).toList
def ppcells (xs : List Pp) : List Value := xs.flatMap ppcell
end Go.Proofs.Ythdnnmmaalgpaaa

/- What the laws' own helpers do with papers and voters: contracts; no statement of the seat is proved here. -/
namespace Go.Proofs.Ythdnnmmaalgpaaa
open Go.RowKit

/-- What a voter reads: what it promised, its papers. -/
def VtR (w : World) (v : Value) (P : Int) (xs : List Pp) : Prop := ∃ ao cap, v = .agg #[.int .i64 P, .slice ao xs.length cap] ∧ RowR w 12 (.slice ao xs.length cap) xs.length (ppcells xs)
theorem VtR.keep {w w' : World} {v : Value} {P : Int} {xs : List Pp} (h : VtR w v P xs) (hb : Below w.heap.size w w') : VtR w' v P xs := by
  obtain ⟨ao, cap, e, h⟩ := h
  exact ⟨ao, cap, e, h.keep hb⟩
end Go.Proofs.Ythdnnmmaalgpaaa

/- MapStart of both sides: contracts; no statement of the seat is proved here. -/
namespace Go.Proofs.Ythdnnmmaalgpaaa
open Go.RowKit

/-- The first views, each of two that stand side by side. -/
def viewsTo (n : Nat) : List Gc := (List.range n).map fun (r : Nat) => (1, Int.tmod (r : Int) 3, Int.tmod ((r : Int) + 1) 3)
theorem viewsTo_len (n : Nat) : (viewsTo n).length = n := by simp [viewsTo]
theorem viewsTo_succ (n : Nat) : viewsTo (n + 1) = viewsTo n ++ [(1, Int.tmod (n : Int) 3, Int.tmod ((n : Int) + 1) 3)] := by simp [viewsTo, List.range_succ]
/-- The map at first. -/
def startM : Ms := ⟨0, 3, 1, [], viewsTo 3, []⟩
theorem newG_cells (w : World) (x y z : Int) (e : TypeId) : ∀ j u, (gcell (x, y, z))[j]? = some u → (w.alloc (.cells #[.int .i64 x, .int .i64 y, .int .i64 z] e)).cell? ((⟨w.heap.size, 0, none⟩ : Addr).add j) = some u := by
  intro j u h
  rw [Addr.add_lit, Nat.zero_add, boxAt (al1_0 w _)]
  simpa [gcell] using h

set_option maxRecDepth 100000 in
set_option maxHeartbeats 8000000 in
theorem specMapStart_any (w : World) :
    Calls Try.prog 6 #[] w fun e w' => ∃ vv, e = .returned (.agg #[.int .i64 0, .int .i64 3, .int .i64 1, .slice none 0 0, vv, .slice none 0 0]) ∧ RowA w' w.heap.size 43 3 vv 3 (gcells (viewsTo 3)) ∧ Below w.heap.size w w' := by
  obtain ⟨i1, gi, gz0, gz1, gz2⟩ := info_parts infoGc
  go_enter Try.func6, Try.ntmps6
  go_upto_region 2 with fail
  generalize hW : World.alloc _ _ = W
  have al : Below w.heap.size w W := by rw [← hW]; exact bal (bal (Below.refl _ _) _) _
  have A0 : Hid (W.heap[w.heap.size]? = some (.cells #[.int .i64 0, .int .i64 0, .int .i64 0, .slice none 0 0, .slice none 0 0, .slice none 0 0] 26 (0, 0))) := by show _ = _; rw [← hW]; exact al2_0 w _ _
  have B0 : Hid (W.heap[w.heap.size + 1]? = some (.cells #[.int .i64 0, .int .i64 3, .int .i64 1, .slice none 0 0, .slice none 0 0, .slice none 0 0] 26 (0, 0))) := by show _ = _; rw [← hW]; exact al2_1 w _ _
  have zW : w.heap.size + 1 + 1 ≤ W.heap.size := by rw [← hW]; simp
  clear hW
  go_wp2
  go_loopw [2] (fun i wr => ∃ (k : Nat) (vv : Value), k ≤ 3 ∧ i = .int .i64 k ∧ RowA wr W.heap.size 43 3 vv k (gcells (viewsTo k)) ∧ wr.heap[w.heap.size + 1]? = some (.cells #[.int .i64 0, .int .i64 3, .int .i64 1, .slice none 0 0, vv, .slice none 0 0] 26 (0, 0)) ∧ Upd (fun j => j = w.heap.size + 1) W wr) (fun i _ => 3 - (intOf i).toNat)
  case atStart => exact ⟨0, _, Nat.zero_le _, rfl, .inr ⟨rfl, rfl, _, rfl⟩, B0.out, Upd.refl _ _⟩
  case round =>
    obtain ⟨k, vv, hk, rfl, hrow, hbox, hup⟩ := hrel
    have zr := hup.size
    obtain ⟨po, pc, rfl⟩ := hrow.shape
    by_cases hlt : k < 3
    · have hi : (k : Int) < 3 := by omega
      obtain ⟨x, hx⟩ : ∃ x, Int.tmod (k : Int) 3 = x := ⟨_, rfl⟩
      obtain ⟨y, hy⟩ : ∃ y, Int.tmod ((k : Int) + 1) 3 = y := ⟨_, rfl⟩
      have HX := hide hx
      have HY := hide hy
      have c4 : wr.cell? ⟨w.heap.size + 1, 4, none⟩ = some (.slice po k pc) := boxAt hbox 4
      have alV := bal (Below.refl wr.heap.size wr) (.cells #[.int .i64 1, .int .i64 x, .int .i64 y] 43)
      have rowV := hrow.keepB alV
      have NV : Hid (∀ j u, (gcell (1, x, y))[j]? = some u → (wr.alloc (.cells #[.int .i64 1, .int .i64 x, .int .i64 y] 43)).cell? ((⟨wr.heap.size, 0, none⟩ : Addr).add j) = some u) := newG_cells wr 1 x y _
      have bV1 : Hid ((wr.alloc (.cells #[.int .i64 1, .int .i64 x, .int .i64 y] 43)).heap[w.heap.size + 1]? = some (.cells #[.int .i64 0, .int .i64 3, .int .i64 1, .slice none 0 0, .slice po k pc, .slice none 0 0] 26 (0, 0))) := bKeeps alV hbox
      clear hrow hbox
      go_upto_region 4 with (at_builtin; refine wpList_appendA _ rfl _ _ 23 rfl W.heap.size 43 i1 (.agg #[.int .i64 0, .int .i64 0, .int .i64 0]) 3 24 Try.underlying23 gi gz0 gz1 gz2 rfl (by decide) _ k (gcells (viewsTo k)) rfl rowV ⟨wr.heap.size, 0, none⟩ 1 1 (gcell (1, x, y)) rfl rfl NV.out (gcell_one _) (by decide) ?q63 ?qby ?qbase ?_)
      case q63 => unfold maxLen; omega
      case qby => omega
      case qbase => first | omega | (simp; omega)
      intro v4 w4 r4 u4
      obtain ⟨so4, sc4, rfl, -⟩ := owns_shape r4
      have hb4 := u4.keeps bV1.out (fun h => by have := h.1; omega)
      have c4' : w4.cell? ⟨w.heap.size + 1, 4, none⟩ = some (.slice po k pc) := boxAt hb4 4
      have f4' := boxFz hb4 4
      have HB4 := hide hb4
      have R4 := hide (show RowA w4 W.heap.size 43 3 _ _ _ from .inl r4)
      have cu : Upd (fun j => j = w.heap.size + 1) W w4 := upd_late (hup.trans (Upd.ofBelow alV)) u4 (fun j h => h.1)
      clear r4 u4 rowV NV bV1 alV hup hb4 c4
      go_wp2
      go_roundw
      case rel =>
        have uS : Upd (fun j => j = w.heap.size + 1) w4 (w4.setCell ⟨w.heap.size + 1, 4, none⟩ (.slice so4 (k + 1) sc4)) := Upd.setCell _ _ _ _ rfl
        refine ⟨k + 1, _, by omega, by go_num, ?_, row_set _ HB4.out, cu.trans uS⟩
        rw [viewsTo_succ, HX.out, HY.out, gcells_snoc]
        exact R4.out.keep uS (fun j h1 h2 => by omega)
      case measure => simp [intOf]; omega
    · obtain rfl : k = 3 := by omega
      have bR := hup.keeps A0.out (by omega)
      have u9 := updRowMs wr w.heap.size #[.int .i64 0, .int .i64 3, .int .i64 1, .slice none 0 0, .slice po 3 pc, .slice none 0 0]
      have HR := hide (hrow.keep u9 (fun j h1 h2 => by omega))
      have hbx := hide hbox
      have hA := hide bR
      clear hrow hbox bR
      go_wp2_with (first
        | (refine wpList_load_row rfl 26 (.tmp 1) rfl (w.heap.size + 1) rfl _ #[.int .i64 0, .int .i64 3, .int .i64 1, .slice none 0 0, .slice po 3 pc, .slice none 0 0] (0, 0) _ hbx.out Try.underlying26 rfl infoMsI ?_)
        | (refine wpList_store_row rfl 26 (.tmp 0) (.tmp 19) rfl w.heap.size #[.int .i64 0, .int .i64 3, .int .i64 1, .slice none 0 0, .slice po 3 pc, .slice none 0 0] rfl rfl _ _ hA.out infoMsI (show (6 : Nat) = 6 from rfl) (all_of_list rfl) ?_))
      refine bodyPost_ret (v := .agg #[.int .i64 0, .int .i64 3, .int .i64 1, .slice none 0 0, .slice po 3 pc, .slice none 0 0]) (results_cell_row Try.results6 _ _ w.heap.size _ _ (0, 0) _ rfl (setRow_heap _ _ _ _ _ _ hA.out) Try.underlying26 rfl infoMsI) rfl ?_
      exact ⟨_, rfl, HR.out.base (by omega), (al.trans (hup.below al.size (fun j h => by omega))).trans (u9.below (al.trans (hup.below al.size (fun j h => by omega))).size (fun j h => by omega))⟩

set_option maxRecDepth 100000 in
set_option maxHeartbeats 8000000 in
theorem implMapStart_any (w : World) :
    Calls Try.prog 7 #[] w fun e w' => ∃ vv, e = .returned (.agg #[.int .i64 0, .int .i64 3, .int .i64 1, .slice none 0 0, vv, .slice none 0 0]) ∧ RowA w' w.heap.size 43 3 vv 3 (gcells (viewsTo 3)) ∧ Below w.heap.size w w' := by
  obtain ⟨i1, gi, gz0, gz1, gz2⟩ := info_parts infoGc
  go_enter Try.func7, Try.ntmps7
  go_upto_region 2 with fail
  generalize hW : World.alloc _ _ = W
  have al : Below w.heap.size w W := by rw [← hW]; exact bal (bal (Below.refl _ _) _) _
  have A0 : Hid (W.heap[w.heap.size]? = some (.cells #[.int .i64 0, .int .i64 0, .int .i64 0, .slice none 0 0, .slice none 0 0, .slice none 0 0] 26 (0, 0))) := by show _ = _; rw [← hW]; exact al2_0 w _ _
  have B0 : Hid (W.heap[w.heap.size + 1]? = some (.cells #[.int .i64 0, .int .i64 3, .int .i64 1, .slice none 0 0, .slice none 0 0, .slice none 0 0] 26 (0, 0))) := by show _ = _; rw [← hW]; exact al2_1 w _ _
  have zW : w.heap.size + 1 + 1 ≤ W.heap.size := by rw [← hW]; simp
  clear hW
  go_wp2
  go_loopw [2, 4] (fun _ i wr => ∃ (k : Nat) (vv : Value), k ≤ 3 ∧ i = .int .i64 k ∧ RowA wr W.heap.size 43 3 vv k (gcells (viewsTo k)) ∧ wr.heap[w.heap.size + 1]? = some (.cells #[.int .i64 0, .int .i64 3, .int .i64 1, .slice none 0 0, vv, .slice none 0 0] 26 (0, 0)) ∧ Upd (fun j => j = w.heap.size + 1) W wr) (fun _ i _ => 3 - (intOf i).toNat)
  case atStart => exact ⟨0, _, Nat.zero_le _, rfl, .inr ⟨rfl, rfl, _, rfl⟩, B0.out, Upd.refl _ _⟩
  case round =>
    obtain ⟨k, vv, hk, rfl, hrow, hbox, hup⟩ := hrel
    have zr := hup.size
    obtain ⟨po, pc, rfl⟩ := hrow.shape
    by_cases hlt : k < 3
    · have hi : (k : Int) < 3 := by omega
      obtain ⟨x, hx⟩ : ∃ x, Int.tmod (k : Int) 3 = x := ⟨_, rfl⟩
      obtain ⟨y, hy⟩ : ∃ y, Int.tmod ((k : Int) + 1) 3 = y := ⟨_, rfl⟩
      have HX := hide hx
      have HY := hide hy
      have c4 : wr.cell? ⟨w.heap.size + 1, 4, none⟩ = some (.slice po k pc) := boxAt hbox 4
      have alV := bal (Below.refl wr.heap.size wr) (.cells #[.int .i64 1, .int .i64 x, .int .i64 y] 43)
      have rowV := hrow.keepB alV
      have NV : Hid (∀ j u, (gcell (1, x, y))[j]? = some u → (wr.alloc (.cells #[.int .i64 1, .int .i64 x, .int .i64 y] 43)).cell? ((⟨wr.heap.size, 0, none⟩ : Addr).add j) = some u) := newG_cells wr 1 x y _
      have bV1 : Hid ((wr.alloc (.cells #[.int .i64 1, .int .i64 x, .int .i64 y] 43)).heap[w.heap.size + 1]? = some (.cells #[.int .i64 0, .int .i64 3, .int .i64 1, .slice none 0 0, .slice po k pc, .slice none 0 0] 26 (0, 0))) := bKeeps alV hbox
      clear hrow hbox
      go_upto_region 6 with (at_builtin; refine wpList_appendA _ rfl _ _ 23 rfl W.heap.size 43 i1 (.agg #[.int .i64 0, .int .i64 0, .int .i64 0]) 3 24 Try.underlying23 gi gz0 gz1 gz2 rfl (by decide) _ k (gcells (viewsTo k)) rfl rowV ⟨wr.heap.size, 0, none⟩ 1 1 (gcell (1, x, y)) rfl rfl NV.out (gcell_one _) (by decide) ?q63 ?qby ?qbase ?_)
      case q63 => unfold maxLen; omega
      case qby => omega
      case qbase => first | omega | (simp; omega)
      intro v4 w4 r4 u4
      obtain ⟨so4, sc4, rfl, -⟩ := owns_shape r4
      have hb4 := u4.keeps bV1.out (fun h => by have := h.1; omega)
      have c4' : w4.cell? ⟨w.heap.size + 1, 4, none⟩ = some (.slice po k pc) := boxAt hb4 4
      have f4' := boxFz hb4 4
      have HB4 := hide hb4
      have R4 := hide (show RowA w4 W.heap.size 43 3 _ _ _ from .inl r4)
      have cu : Upd (fun j => j = w.heap.size + 1) W w4 := upd_late (hup.trans (Upd.ofBelow alV)) u4 (fun j h => h.1)
      clear r4 u4 rowV NV bV1 alV hup hb4 c4
      go_wp2
      go_roundw
      case rel =>
        have uS : Upd (fun j => j = w.heap.size + 1) w4 (w4.setCell ⟨w.heap.size + 1, 4, none⟩ (.slice so4 (k + 1) sc4)) := Upd.setCell _ _ _ _ rfl
        refine ⟨k + 1, _, by omega, by go_num, ?_, row_set _ HB4.out, cu.trans uS⟩
        rw [viewsTo_succ, HX.out, HY.out, gcells_snoc]
        exact R4.out.keep uS (fun j h1 h2 => by omega)
      case measure => simp [intOf]; omega
    · obtain rfl : k = 3 := by omega
      have bR := hup.keeps A0.out (by omega)
      have u9 := updRowMs wr w.heap.size #[.int .i64 0, .int .i64 3, .int .i64 1, .slice none 0 0, .slice po 3 pc, .slice none 0 0]
      have HR := hide (hrow.keep u9 (fun j h1 h2 => by omega))
      have hbx := hide hbox
      have hA := hide bR
      clear hrow hbox bR
      go_wp2_with (first
        | (refine wpList_load_row rfl 26 (.tmp 1) rfl (w.heap.size + 1) rfl _ #[.int .i64 0, .int .i64 3, .int .i64 1, .slice none 0 0, .slice po 3 pc, .slice none 0 0] (0, 0) _ hbx.out Try.underlying26 rfl infoMsI ?_)
        | (refine wpList_store_row rfl 26 (.tmp 0) (.tmp 19) rfl w.heap.size #[.int .i64 0, .int .i64 3, .int .i64 1, .slice none 0 0, .slice po 3 pc, .slice none 0 0] rfl rfl _ _ hA.out infoMsI (show (6 : Nat) = 6 from rfl) (all_of_list rfl) ?_))
      refine bodyPost_ret (v := .agg #[.int .i64 0, .int .i64 3, .int .i64 1, .slice none 0 0, .slice po 3 pc, .slice none 0 0]) (results_cell_row Try.results7 _ _ w.heap.size _ _ (0, 0) _ rfl (setRow_heap _ _ _ _ _ _ hA.out) Try.underlying26 rfl infoMsI) rfl ?_
      exact ⟨_, rfl, HR.out.base (by omega), (al.trans (hup.below al.size (fun j h => by omega))).trans (u9.below (al.trans (hup.below al.size (fun j h => by omega))).size (fun j h => by omega))⟩

end Go.Proofs.Ythdnnmmaalgpaaa

/- Rows of words that bear no lists: compared, marked, held: contracts; no statement of the seat is proved here. (Written by wip/tools/mkfw.py.) -/
namespace Go.Proofs.Ythdnnmmaalgpaaa
open Go.RowKit

/-- Marks that are written one behind the other: so far. -/
structure MkI (V : World) (g : Nat) (cur0 : Array Value) (b c m : Nat) (t : TypeId) : Prop where
  ex : ∃ cur, V.heap[g]? = some (.cells cur t (0, 0)) ∧ cur.size = cur0.size ∧ (∀ r, r < c → cur[b + r]? = some (.int .i64 ((m + r : Nat) : Int))) ∧ ∀ i, i < b ∨ b + c ≤ i → cur[i]? = cur0[i]?
theorem MkI.cell {V : World} {g : Nat} {cur0 : Array Value} {b c m : Nat} {t : TypeId} (h : MkI V g cur0 b c m t) (hb : b + c < cur0.size) : ∃ u, V.cell? ⟨g, b + c, none⟩ = some u := by
  obtain ⟨cur, h1, h2, -, -⟩ := h.ex
  exact ⟨cur[b + c]'(by omega), (cell_of_row V _ _ cur _ (0, 0) h1).trans (by simp [show b + c < cur.size by omega])⟩
theorem MkI.fz {V : World} {g : Nat} {cur0 : Array Value} {b c m : Nat} {t : TypeId} {o : Nat} (h : MkI V g cur0 b c m t) : V.frozen? ⟨g, o, none⟩ = false := by
  obtain ⟨cur, h1, -, -, -⟩ := h.ex
  exact frozen_of_row V _ _ cur _ h1
theorem MkI.step {V : World} {g : Nat} {cur0 : Array Value} {b c m : Nat} {t : TypeId} (h : MkI V g cur0 b c m t) (hb : b + c < cur0.size) (V' : World) {z : Int} (e : V.setCell ⟨g, b + c, none⟩ (.int .i64 z) = V') (hz : z = ((m + c : Nat) : Int)) : MkI V' g cur0 b (c + 1) m t := by
  obtain ⟨cur, h1, h2, h3, h4⟩ := h.ex
  subst e hz
  refine ⟨_, row_set _ h1, by simpa using h2, fun r hr => ?_, fun i hi => ?_⟩
  · by_cases hrc : r = c
    · subst hrc
      rw [Array.getElem?_setIfInBounds_self_of_lt (by omega)]
    · rw [Array.getElem?_setIfInBounds_ne (by omega)]
      exact h3 r (by omega)
  · rw [Array.getElem?_setIfInBounds_ne (by omega)]
    exact h4 i (by omega)

end Go.Proofs.Ythdnnmmaalgpaaa

/- Seekers: what they read, and what the laws' own helpers do with them: contracts; no statement of the seat is proved here. -/
namespace Go.Proofs.Ythdnnmmaalgpaaa
open Go.RowKit

/-- A seeker: slot, ballot, phase, its own command (that of a word), the best paper, who said yes. -/
structure Sk where
  s : Int
  b : Int
  ph : Int
  m : Wd
  p : Pp
  ys : List Int
def skarr (k : Sk) (y : Value) : Array Value := (#[.int .i64 k.s, .int .i64 k.b, .int .i64 k.ph, .int .i64 k.m.c0, .int .i64 k.m.c1, .int .i64 k.m.c2, .int .i64 k.m.c3, .int .i64 k.m.c4, .int .i64 k.m.c5, .int .i64 k.m.c6, .int .i64 k.m.c7, .int .i64 k.m.c8, .int .i64 k.m.c9, .int .i64 k.p.1, .int .i64 k.p.2.1, .int .i64 k.p.2.2.c0, .int .i64 k.p.2.2.c1, .int .i64 k.p.2.2.c2, .int .i64 k.p.2.2.c3, .int .i64 k.p.2.2.c4, .int .i64 k.p.2.2.c5, .int .i64 k.p.2.2.c6, .int .i64 k.p.2.2.c7, .int .i64 k.p.2.2.c8, .int .i64 k.p.2.2.c9, y] : Array Value)
/-- What a seeker reads. -/
def SkR (w : World) (v : Value) (k : Sk) : Prop := ∃ yo yc, v = .agg (skarr k (.slice yo k.ys.length yc)) ∧ RowR w 1 (.slice yo k.ys.length yc) k.ys.length (ints k.ys)
def SkO (w : World) (S : Nat → Prop) (v : Value) (k : Sk) : Prop := ∃ yo yc, v = .agg (skarr k (.slice yo k.ys.length yc)) ∧ Row w 3 1 S (.slice yo k.ys.length yc) k.ys.length (ints k.ys)
theorem SkR.keep {w w' : World} {v : Value} {k : Sk} (h : SkR w v k) (hb : Below w.heap.size w w') : SkR w' v k := by
  obtain ⟨yo, yc, e, h⟩ := h
  exact ⟨yo, yc, e, h.keep hb⟩
theorem SkO.reads {w : World} {S : Nat → Prop} {v : Value} {k : Sk} (h : SkO w S v k) : SkR w v k := by
  obtain ⟨yo, yc, e, h⟩ := h
  exact ⟨yo, yc, e, h.reads⟩
theorem SkO.keep {w w' : World} {S T : Nat → Prop} {v : Value} {k : Sk} (h : SkO w S v k) (u : Upd T w w') (hT : ∀ j, S j → ¬ T j) : SkO w' S v k := by
  obtain ⟨yo, yc, e, h⟩ := h
  exact ⟨yo, yc, e, h.keep u hT⟩
theorem SkO.keepB {w w' : World} {S : Nat → Prop} {v : Value} {k : Sk} (h : SkO w S v k) (b : Below w.heap.size w w') : SkO w' S v k := by
  obtain ⟨yo, yc, e, h⟩ := h
  exact ⟨yo, yc, e, h.keepB b⟩
theorem SkO.mono {w : World} {S T : Nat → Prop} {v : Value} {k : Sk} (h : SkO w S v k) (hST : ∀ j, j < w.heap.size → S j → T j) : SkO w T v k := by
  obtain ⟨yo, yc, e, h⟩ := h
  exact ⟨yo, yc, e, h.mono hST⟩
end Go.Proofs.Ythdnnmmaalgpaaa

/- Marks in rows of numbers, in seekers: contracts; no statement of the seat is proved here. -/
namespace Go.Proofs.Ythdnnmmaalgpaaa
open Go.RowKit

def mkN (k n : Nat) : List Int := (List.range n).map fun i => ((k + i : Nat) : Int)
theorem mkN_len (k n : Nat) : (mkN k n).length = n := by simp [mkN]
theorem mkN_get (k n i : Nat) (h : i < n) : (mkN k n)[i]? = some ((k + i : Nat) : Int) := by simp [mkN, h]

set_option maxRecDepth 100000 in
set_option maxHeartbeats 4000000 in
theorem markIntS_row (S : Nat → Prop) (v : Value) (n : Nat) (cs : List Value) (k0 : Nat) (w : World) (hr : Row w 3 1 S v n cs) (h2 : k0 + n ≤ 1099511627776) :
    Calls Try.prog 49 #[v, .int .i64 k0] w fun e w' => e = .returned (.int .i64 (k0 + n : Nat)) ∧ Row w' 3 1 S v n (ints (mkN k0 n)) ∧ Upd S w w' := by
  obtain ⟨ao, cap, rfl, hn, hl, hr⟩ := hr
  rcases Nat.eq_zero_or_pos n with rfl | hpos
  · go_enter Try.func49, Try.ntmps49
    go_wp2
    refine wp_loop_rounds 1 ?_
    rw [rounds_succ]
    go_wp2
    go_ret
    exact ⟨rfl, ⟨ao, cap, rfl, hn, by simp [mkN, ints], fun h => by omega⟩, Upd.refl _ _⟩
  · obtain ⟨g, cur, rfl, hS, hg, ht⟩ := hr hpos
    have hcs : n ≤ cur.size := by
      have := congrArg List.length ht
      simp [hl] at this
      omega
    clear hr ht hl
    go_enter Try.func49, Try.ntmps49
    go_wp2
    go_loopw [1, 5] (fun kv i wr => ∃ (k m : Nat) (cur' : Array Value), k ≤ n ∧ m = k0 + k ∧ i = .int .i64 k ∧ kv = .int .i64 (m : Nat) ∧ wr.heap[g]? = some (.cells cur' 3 (0, 0)) ∧ cur'.size = cur.size ∧ (∀ j, j < k → cur'[j]? = some (.int .i64 (k0 + j : Nat))) ∧ Upd S w wr) (fun _ i _ => n - (intOf i).toNat)
    case atStart => exact ⟨0, k0, cur, Nat.zero_le _, rfl, rfl, rfl, hg, rfl, fun j hj => by omega, Upd.refl _ _⟩
    case round =>
      obtain ⟨k, m, cur', hk, hm, rfl, rfl, hgr, hsz, hmk, hup⟩ := hrel
      have Hm := hide hm
      have hm2 : (m : Int) ≤ 1099511627776 := by omega
      clear hm
      have HM := hide hmk
      have HZ := hide hsz
      have hsz' : n ≤ cur'.size := by omega
      clear hmk hsz
      by_cases hlt : k < n
      · have hi : (k : Int) < (n : Int) := by omega
        obtain ⟨u0, hu0⟩ : ∃ u, cur'[k]? = some u := ⟨cur'[k]'(by omega), by simp [show k < cur'.size by omega]⟩
        have hcw0 : wr.cell? ⟨g, k, none⟩ = some u0 := (cell_of_row wr _ _ cur' _ (0, 0) hgr).trans hu0
        have hfw0 : wr.frozen? ⟨g, k, none⟩ = false := frozen_of_row wr _ _ cur' _ hgr
        have Hg := hide hgr
        have HS' := hide hsz'
        clear hgr hsz' hu0
        go_wp2
        go_roundw
        case rel =>
          refine ⟨k + 1, m + 1, cur'.setIfInBounds k (.int .i64 (m : Int)), by omega, by rw [Hm.out]; omega, by go_num, by go_num, row_set _ Hg.out, by simpa using HZ.out, fun j hj => ?_, hup.trans (Upd.setCell _ _ _ _ hS)⟩
          by_cases hjk : j = k
          · subst hjk
            rw [Array.getElem?_setIfInBounds_self_of_lt (by have := HS'.out; omega), Hm.out]
          · rw [Array.getElem?_setIfInBounds_ne (by omega)]
            exact HM.out j (by omega)
        case measure => simp [intOf]; omega
      · go_wp2
        go_ret
        obtain rfl : k = n := by omega
        refine ⟨by rw [Hm.out]; rfl, ⟨_, cap, rfl, hn, by simp [ints, mkN_len], fun _ => ⟨g, cur', rfl, hS, hgr, ?_⟩⟩, hup⟩
        have hz := HZ.out
        apply List.ext_getElem?
        intro j
        by_cases hj : j < k
        · rw [List.getElem?_take_of_lt (by omega), ints, List.getElem?_map, mkN_get _ _ _ hj]
          simpa using HM.out j hj
        · rw [List.getElem?_eq_none (by simp; omega), List.getElem?_eq_none (by simp [ints, mkN_len]; omega)]

set_option maxRecDepth 100000 in
set_option maxHeartbeats 4000000 in
theorem heldIntS_ok (v : Value) (n k0 : Nat) (w : World) (hr : RowR w 1 v n (ints (mkN k0 n))) (h2 : k0 + n ≤ 1099511627776) :
    Calls Try.prog 50 #[v, .int .i64 k0] w fun e w' => e = .returned (.int .i64 (k0 + n : Nat)) ∧ Below w.heap.size w w' := by
  obtain ⟨ao, cap, rfl, hn, hl, hr⟩ := hr
  clear hl
  go_enter Try.func50, Try.ntmps50
  go_wp2
  go_loopw [1, 5] (fun kv i wr => ∃ k m : Nat, k ≤ n ∧ m = k0 + k ∧ i = .int .i64 k ∧ kv = .int .i64 (m : Nat) ∧ Below w.heap.size w wr) (fun _ i _ => n - (intOf i).toNat)
  case atStart => exact ⟨0, k0, Nat.zero_le _, rfl, rfl, rfl, Below.refl _ _⟩
  case round =>
    obtain ⟨k, m, hk, hm, rfl, rfl, hbel⟩ := hrel
    have Hm : Hid (m = k0 + k) := hm
    have hm2 : (m : Int) ≤ 1099511627776 := by omega
    clear hm
    by_cases hlt : k < n
    · obtain ⟨b1, o1, rfl, hc1⟩ := hr (by omega)
      have f0 : wr.cell? ⟨b1, o1 + k, none⟩ = some (.int .i64 (m : Int)) := by
        have q := hc1 k (.int .i64 ((k0 + k : Nat) : Int)) (by rw [ints, List.getElem?_map, mkN_get _ _ _ hlt]; rfl)
        rw [Hm.out]
        exact (hbel.cell (p := ⟨b1, o1 + k, none⟩) (World.block_lt_of_cell? w _ q)).trans q
      have hi : (k : Int) < (n : Int) := by omega
      clear hr hc1
      go_wp2
      go_roundw
      case rel => exact ⟨k + 1, m + 1, by omega, by rw [Hm.out]; omega, by go_num, by go_num, hbel⟩
      case measure => simp [intOf]; omega
    · go_wp2
      go_ret
      obtain rfl : k = n := by omega
      exact ⟨by rw [Hm.out]; rfl, hbel⟩

end Go.Proofs.Ythdnnmmaalgpaaa

/- Marks in rows of elements that hold rows of their own: plain facts; no statement of the seat is proved here. (Written by wip/tools/mkmk.py.) -/
namespace Go.Proofs.Ythdnnmmaalgpaaa
open Go.RowKit

/-- The mark of an element: what stands before it has its marks. -/
def offL {α : Type} (f : α → Nat) (k : Nat) (xs : List α) (j : Nat) : Nat := k + ((xs.take j).map f).sum
/-- The first n elements marked. -/
def mkU {α : Type} (f : α → Nat) (mk : Nat → α → α) : Nat → Nat → List α → List α
  | _, 0, xs => xs
  | _, _ + 1, [] => []
  | k, n + 1, x :: xs => mk k x :: mkU f mk (k + f x) n xs
theorem mkU_len {α : Type} {f : α → Nat} {mk : Nat → α → α} : ∀ (n k : Nat) (xs : List α), (mkU f mk k n xs).length = xs.length
  | 0, _, _ => rfl
  | _ + 1, _, [] => rfl
  | n + 1, k, x :: xs => by rw [mkU, List.length_cons, mkU_len n, List.length_cons]
theorem offL_zero {α : Type} {f : α → Nat} {k : Nat} {xs : List α} : offL f k xs 0 = k := by simp [offL]
theorem offL_zero' {α : Type} {f : α → Nat} {k n : Nat} : offL f k ([] : List α) n = k := by simp [offL]
theorem offL_cons {α : Type} {f : α → Nat} {k j : Nat} {x : α} {xs : List α} : offL f k (x :: xs) (j + 1) = offL f (k + f x) xs j := by simp [offL]; omega
theorem offL_succ {α : Type} {f : α → Nat} : ∀ {xs : List α} {k j : Nat} {x : α}, xs[j]? = some x → offL f k xs (j + 1) = offL f k xs j + f x
  | [], _, _, _, h => by simp at h
  | y :: ys, k, 0, x, h => by
    obtain rfl := Option.some.inj h
    rw [offL_cons, offL_zero, offL_zero]
  | y :: ys, k, j + 1, x, h => by
    rw [offL_cons, offL_cons]
    exact offL_succ (xs := ys) h
theorem offL_le {α : Type} {f : α → Nat} : ∀ {xs : List α} {k j : Nat}, offL f k xs j ≤ offL f k xs xs.length
  | [], k, j => by simp [offL]
  | y :: ys, k, 0 => by
    rw [offL_zero]
    simp only [offL]
    omega
  | y :: ys, k, j + 1 => by
    rw [offL_cons, List.length_cons, offL_cons]
    exact offL_le
theorem mkU_lt {α : Type} {f : α → Nat} {mk : Nat → α → α} : ∀ {n k j : Nat} {xs : List α} {x : α}, j < n → xs[j]? = some x → (mkU f mk k n xs)[j]? = some (mk (offL f k xs j) x)
  | 0, _, _, _, _, h, _ => by omega
  | _ + 1, _, _, [], _, _, h => by simp at h
  | n + 1, k, 0, y :: ys, x, _, h => by
    obtain rfl := Option.some.inj h
    rw [mkU, offL_zero]
    rfl
  | n + 1, k, j + 1, y :: ys, x, hj, h => by
    rw [mkU, offL_cons]
    exact mkU_lt (n := n) (xs := ys) (by omega) h
theorem mkU_ge {α : Type} {f : α → Nat} {mk : Nat → α → α} : ∀ {n k j : Nat} {xs : List α}, n ≤ j → (mkU f mk k n xs)[j]? = xs[j]?
  | 0, _, _, _, _ => rfl
  | _ + 1, _, _, [], _ => rfl
  | _ + 1, _, 0, _ :: _, h => by omega
  | n + 1, k, j + 1, y :: ys, h => by
    rw [mkU]
    exact mkU_ge (n := n) (xs := ys) (by omega)
theorem mkU_ne {α : Type} {f : α → Nat} {mk : Nat → α → α} {k k0 j : Nat} {xs : List α} (h : j ≠ k) : (mkU f mk k0 (k + 1) xs)[j]? = (mkU f mk k0 k xs)[j]? := by
  rcases Nat.lt_or_gt_of_ne h with h | h
  · cases hx : xs[j]? with
    | none =>
      have hl : xs.length ≤ j := List.getElem?_eq_none_iff.1 hx
      rw [List.getElem?_eq_none (by rw [mkU_len]; exact hl), List.getElem?_eq_none (by rw [mkU_len]; exact hl)]
    | some x => rw [mkU_lt (by omega) hx, mkU_lt h hx]
  · rw [mkU_ge (by omega), mkU_ge (by omega)]
/-- A row whose elements hold rows of their own, seen by its cells. -/
def Mid {α : Type} (w : World) (size : Nat) (EO : World → (Nat → Prop) → Value → α → Prop) (T : Nat → Nat → Prop) (cur : Array Value) (xs : List α) : Prop :=
  ∀ j x, xs[j]? = some x → ∃ cs : Array Value, cs.size = size ∧ cs.all (·.oneCell') = true ∧ (∀ r u, cs[r]? = some u → cur[j * size + r]? = some u) ∧ EO w (T j) (.agg cs) x
theorem Mid.step {α : Type} {f : α → Nat} {mk : Nat → α → α} {w w' : World} {size k0 k g : Nat} {EO : World → (Nat → Prop) → Value → α → Prop} {T : Nat → Nat → Prop} {cur cur' : Array Value} {xs : List α} {x : α} {cs : Array Value}
    (hE : ∀ (U R : Nat → Prop) v y, EO w U v y → Upd R w w' → (∀ b, U b → ¬ R b) → EO w' U v y) (h : Mid w size EO T cur (mkU f mk k0 k xs)) (hx : xs[k]? = some x) (u : Upd (fun b => b = g ∨ T k b) w w')
    (hT : ∀ j b, T j b → b ≠ g) (hT2 : ∀ i j b, T i b → T j b → i = j) (hc : ∀ i, i < k * size ∨ k * size + size ≤ i → cur'[i]? = cur[i]?)
    (h1 : cs.size = size) (h2 : cs.all (·.oneCell') = true) (h3 : ∀ r u, cs[r]? = some u → cur'[k * size + r]? = some u) (h4 : EO w' (T k) (.agg cs) (mk (offL f k0 xs k) x)) :
    Mid w' size EO T cur' (mkU f mk k0 (k + 1) xs) := by
  intro j y hy
  by_cases hj : j = k
  · subst hj
    rw [mkU_lt (by omega) hx] at hy
    obtain rfl := Option.some.inj hy
    exact ⟨cs, h1, h2, h3, h4⟩
  · rw [mkU_ne hj] at hy
    obtain ⟨ds, d1, d2, d3, d4⟩ := h j y hy
    refine ⟨ds, d1, d2, fun r v hr => ?_, hE _ _ _ _ d4 u (fun b hb hR => ?_)⟩
    · have hlt := (Array.getElem?_eq_some_iff.1 hr).1
      rw [hc _ ?_]
      · exact d3 r v hr
      · rcases Nat.lt_or_gt_of_ne hj with h | h
        · have := Nat.mul_le_mul_right size (show j + 1 ≤ k from h)
          rw [Nat.add_mul, Nat.one_mul] at this
          omega
        · have := Nat.mul_le_mul_right size (show k + 1 ≤ j from h)
          rw [Nat.add_mul, Nat.one_mul] at this
          omega
    · rcases hR with h | h
      · exact hT j b hb h
      · exact hj (hT2 _ _ _ hb h)

end Go.Proofs.Ythdnnmmaalgpaaa

/- Marks in rows of MapDisk: contracts; no statement of the seat is proved here. (Written by wip/tools/mkmk.py.) -/
namespace Go.Proofs.Ythdnnmmaalgpaaa
open Go.RowKit

def fDk (x : Dk) : Nat := 6 + x.ks.length
def mkDk (m : Nat) (x : Dk) : Dk := { i := ((m + 0 : Nat) : Int), z := ((m + 1 : Nat) : Int), ep := ((m + 2 : Nat) : Int), fr := ((m + 3 : Nat) : Int), cl := ((m + 4 : Nat) : Int), ca := ((m + 5 : Nat) : Int), ks := mkN (m + 6) x.ks.length }
def mkDkA (m : Nat) (x : Dk) (y : Value) : Array Value := (#[.int .i64 (mkDk m x).i, .int .i64 (mkDk m x).z, .int .i64 (mkDk m x).ep, .int .i64 (mkDk m x).fr, .int .i64 (mkDk m x).cl, .int .i64 (mkDk m x).ca, y] : Array Value)
set_option maxRecDepth 10000 in
theorem mkDk_at (m r : Nat) (x : Dk) (y : Value) (h : r < 6) : (mkDkA m x y)[r]? = some (.int .i64 ((m + r : Nat) : Int)) := by
  rcases (by omega : r = 0 ∨ r = 1 ∨ r = 2 ∨ r = 3 ∨ r = 4 ∨ r = 5) with rfl | rfl | rfl | rfl | rfl | rfl <;> rfl
theorem mkDk_last (m : Nat) (x : Dk) (y : Value) : (mkDkA m x y)[6]? = some y := rfl
theorem mkDk_one (m : Nat) (x : Dk) (ao : Option Addr) (n c : Nat) : (mkDkA m x (.slice ao n c)).all (·.oneCell') = true := all_of_list rfl

set_option maxRecDepth 100000 in
set_option maxHeartbeats 32000000 in
theorem markMapDiskS_own (S : Nat → Prop) (v : Value) (xs : List (Dk)) (k0 : Nat) (w : World) (hr : RowO w 57 7 S DkO v xs) (_h1 : 1 ≤ k0) (h2 : offL fDk k0 xs xs.length ≤ 1099511627776) :
    Calls Try.prog 20 #[v, .int .i64 k0] w fun e w' => e = .returned (.int .i64 (offL fDk k0 xs xs.length : Nat)) ∧ RowO w' 57 7 S DkO v (mkU fDk mkDk k0 xs.length xs) ∧ Upd S w w' := by
  obtain ⟨ao, cap, rfl, hn, hr⟩ := hr
  obtain ⟨n, hxn⟩ : ∃ n, n = xs.length := ⟨_, rfl⟩
  rw [← hxn] at hr h2 hn ⊢
  rcases Nat.eq_zero_or_pos n with h0 | hpos
  · obtain rfl : xs = [] := by cases xs with
      | nil => rfl
      | cons a l => rw [List.length_cons] at hxn; omega
    subst h0
    rw [offL_zero']
    clear hr h2 hxn
    go_enter Try.func20, Try.ntmps20
    go_wp2
    refine wp_loop_rounds 1 ?_
    rw [rounds_succ]
    go_wp2
    go_ret
    exact ⟨rfl, ⟨ao, cap, rfl, by rw [mkU_len]; exact hn, fun h => by rw [mkU_len] at h; exact absurd h (Nat.lt_irrefl 0)⟩, Upd.refl _ _⟩
  · obtain ⟨g, cur, rfl, hS, hg, T, hT, hT2, hel⟩ := hr hpos
    have HXN := hide hxn
    have H2 := hide h2
    have HT := hide hT
    have HT2 := hide hT2
    clear hr hxn h2 hT hT2
    go_enter Try.func20, Try.ntmps20
    go_wp2
    go_loopw [1, 5] (fun kv i wr => ∃ (k m : Nat) (cur' : Array Value), k ≤ n ∧ m = offL fDk k0 xs k ∧ i = .int .i64 k ∧ kv = .int .i64 (m : Nat) ∧ wr.heap[g]? = some (.cells cur' 57 (0, 0)) ∧ Mid wr 7 DkO T cur' (mkU fDk mkDk k0 k xs) ∧ Upd S w wr) (fun _ i _ => n - (intOf i).toNat)
    case atStart => exact ⟨0, k0, cur, Nat.zero_le _, offL_zero.symm, rfl, rfl, hg, hel, Upd.refl _ _⟩
    case round =>
      obtain ⟨k, m, cur', hk, hm, rfl, rfl, hgr, hmid, hup⟩ := hrel
      have Hm := hide hm
      have hm0 : k0 ≤ m := by rw [hm, offL]; omega
      have hm2 : (m : Int) ≤ 1099511627776 := by
        have := offL_le (f := fDk) (k := k0) (xs := xs) (j := k)
        rw [← HXN.out] at this
        have := H2.out
        omega
      have HD := hide hmid
      clear hm hmid hel hg
      by_cases hlt : k < n
      · have hi : (k : Int) < (n : Int) := by omega
        obtain ⟨x, hx⟩ := getAt xs k (by have := HXN.out; omega)
        have hfx : m + (6 + x.ks.length) ≤ 1099511627776 := by
          have h3 := offL_le (f := fDk) (k := k0) (xs := xs) (j := k + 1)
          rw [offL_succ hx, ← HXN.out, ← Hm.out] at h3
          exact Nat.le_trans h3 H2.out
        have HX := hide hx
        obtain ⟨cs, s1, s2, s3, ao, cp, ecs, hcap, hrow⟩ := HD.out k x (by rw [mkU_ge (Nat.le_refl _)]; exact hx)
        injection ecs with ecs
        have last : cur'[k * 7 + 6]? = some (.slice ao x.ks.length cp) := s3 6 _ (by rw [ecs]; rfl)
        have hk3 : k * 7 + 6 < cur'.size := (Array.getElem?_eq_some_iff.1 last).1
        have HR := hide hrow
        have HLa := hide last
        have HF := hide hfx
        have hm3 : ((m + 6 : Nat) : Int) ≤ 1099511627776 := by omega
        clear s1 s2 s3 ecs hrow hx last hfx
        have I0 : MkI wr g cur' (k * 7) 0 m 57 := ⟨cur', hgr, rfl, fun r h => by omega, fun i _ => rfl⟩
        have U0 : Upd (fun b => b = g) wr wr := Upd.refl _ _
        have Hm0 : Hid (m = m + 0) := rfl
        clear hgr
        obtain ⟨u, c0⟩ := I0.cell (by omega)
        have c1 : wr.cell? ⟨g, k * 7, none⟩ = some u := c0
        have f1 : wr.frozen? ⟨g, k * 7, none⟩ = false := I0.fz
        clear c0
        go_upto_region 6 with fail
        generalize hV : World.setCell _ _ _ = V1
        have I1 := I0.step (by omega) V1 hV (by have := Hm0.out; omega)
        have U1 : Upd (fun b => b = g) wr V1 := U0.trans (by rw [← hV]; exact Upd.setCell _ _ _ _ rfl)
        obtain ⟨m1, hm⟩ : ∃ q : Nat, q = m + 1 := ⟨_, rfl⟩
        have Hm1 := hide hm
        have hb1 : (m1 : Int) ≤ 1099511627776 := by omega
        rw [show (m : Int) + 1 = (m1 : Int) by have := Hm0.out; omega]
        clear hV c1 f1 hm I0 U0
        obtain ⟨u, c0⟩ := I1.cell (by omega)
        have c1 : V1.cell? ⟨g, k * 7 + 1, none⟩ = some u := c0
        have f1 : V1.frozen? ⟨g, k * 7 + 1, none⟩ = false := I1.fz
        clear c0
        go_upto_region 8 with fail
        generalize hV : World.setCell _ _ _ = V2
        have I2 := I1.step (by omega) V2 hV (by have := Hm1.out; omega)
        have U2 : Upd (fun b => b = g) wr V2 := U1.trans (by rw [← hV]; exact Upd.setCell _ _ _ _ rfl)
        obtain ⟨m2, hm⟩ : ∃ q : Nat, q = m + 2 := ⟨_, rfl⟩
        have Hm2 := hide hm
        have hb2 : (m2 : Int) ≤ 1099511627776 := by omega
        rw [show (m1 : Int) + 1 = (m2 : Int) by have := Hm1.out; omega]
        clear hV c1 f1 hm I1 U1
        clear hb1 Hm1
        obtain ⟨u, c0⟩ := I2.cell (by omega)
        have c1 : V2.cell? ⟨g, k * 7 + 2, none⟩ = some u := c0
        have f1 : V2.frozen? ⟨g, k * 7 + 2, none⟩ = false := I2.fz
        clear c0
        go_upto_region 10 with fail
        generalize hV : World.setCell _ _ _ = V3
        have I3 := I2.step (by omega) V3 hV (by have := Hm2.out; omega)
        have U3 : Upd (fun b => b = g) wr V3 := U2.trans (by rw [← hV]; exact Upd.setCell _ _ _ _ rfl)
        obtain ⟨m3, hm⟩ : ∃ q : Nat, q = m + 3 := ⟨_, rfl⟩
        have Hm3 := hide hm
        have hb3 : (m3 : Int) ≤ 1099511627776 := by omega
        rw [show (m2 : Int) + 1 = (m3 : Int) by have := Hm2.out; omega]
        clear hV c1 f1 hm I2 U2
        clear hb2 Hm2
        obtain ⟨u, c0⟩ := I3.cell (by omega)
        have c1 : V3.cell? ⟨g, k * 7 + 3, none⟩ = some u := c0
        have f1 : V3.frozen? ⟨g, k * 7 + 3, none⟩ = false := I3.fz
        clear c0
        go_upto_region 12 with fail
        generalize hV : World.setCell _ _ _ = V4
        have I4 := I3.step (by omega) V4 hV (by have := Hm3.out; omega)
        have U4 : Upd (fun b => b = g) wr V4 := U3.trans (by rw [← hV]; exact Upd.setCell _ _ _ _ rfl)
        obtain ⟨m4, hm⟩ : ∃ q : Nat, q = m + 4 := ⟨_, rfl⟩
        have Hm4 := hide hm
        have hb4 : (m4 : Int) ≤ 1099511627776 := by omega
        rw [show (m3 : Int) + 1 = (m4 : Int) by have := Hm3.out; omega]
        clear hV c1 f1 hm I3 U3
        clear hb3 Hm3
        obtain ⟨u, c0⟩ := I4.cell (by omega)
        have c1 : V4.cell? ⟨g, k * 7 + 4, none⟩ = some u := c0
        have f1 : V4.frozen? ⟨g, k * 7 + 4, none⟩ = false := I4.fz
        clear c0
        go_upto_region 14 with fail
        generalize hV : World.setCell _ _ _ = V5
        have I5 := I4.step (by omega) V5 hV (by have := Hm4.out; omega)
        have U5 : Upd (fun b => b = g) wr V5 := U4.trans (by rw [← hV]; exact Upd.setCell _ _ _ _ rfl)
        obtain ⟨m5, hm⟩ : ∃ q : Nat, q = m + 5 := ⟨_, rfl⟩
        have Hm5 := hide hm
        have hb5 : (m5 : Int) ≤ 1099511627776 := by omega
        rw [show (m4 : Int) + 1 = (m5 : Int) by have := Hm4.out; omega]
        clear hV c1 f1 hm I4 U4
        clear hb4 Hm4
        obtain ⟨u, c0⟩ := I5.cell (by omega)
        have c1 : V5.cell? ⟨g, k * 7 + 5, none⟩ = some u := c0
        have f1 : V5.frozen? ⟨g, k * 7 + 5, none⟩ = false := I5.fz
        clear c0
        go_upto_region 16 with fail
        generalize hV : World.setCell _ _ _ = V6
        have I6 := I5.step (by omega) V6 hV (by have := Hm5.out; omega)
        have U6 : Upd (fun b => b = g) wr V6 := U5.trans (by rw [← hV]; exact Upd.setCell _ _ _ _ rfl)
        obtain ⟨m6, hm⟩ : ∃ q : Nat, q = m + 6 := ⟨_, rfl⟩
        have Hm6 := hide hm
        have hb6 : (m6 : Int) ≤ 1099511627776 := by omega
        rw [show (m5 : Int) + 1 = (m6 : Int) by have := Hm5.out; omega]
        clear hV c1 f1 hm I5 U5
        clear hb5 Hm5
        have e6 := Hm6.out
        obtain ⟨cN, GN, zN, q1, q2⟩ := I6.ex
        have sN : V6.cell? ⟨g, k * 7 + 6, none⟩ = some (.slice ao x.ks.length cp) := (cell_of_row V6 _ _ _ _ (0, 0) GN).trans ((q2 _ (by omega)).trans HLa.out)
        have c := markIntS_row (T k) _ _ _ m6 V6 (HR.out.keep U6 (fun b hb => (HT.out k b hb).2)) (by have := HF.out; omega)
        obtain ⟨M, hM⟩ : ∃ M : Nat, M = m6 + x.ks.length := ⟨_, rfl⟩
        rw [← hM] at c
        have HM := hide hM
        have hMb : (M : Int) ≤ 1099511627776 := by have := HF.out; omega
        have GH := hide GN
        have Q1 := hide q1
        have Q2 := hide q2
        have EN := hide e6
        clear hM GN zN q1 q2 I6 e6 Hm6 HF
        go_wp2_with fail
        refine c.mono ?_
        rintro e VE ⟨rfl, rE, uE⟩
        have GE := hide (uE.keeps GH.out (fun h => (HT.out k g h).2 rfl))
        have UE : Upd (fun b => b = g ∨ T k b) wr VE := (U6.mono (fun b h => Or.inl h)).trans (uE.mono (fun b h => Or.inr h))
        have RE := hide rE
        clear c sN GH uE rE U6
        go_wp2
        go_roundw
        case rel =>
          refine ⟨k + 1, M, cN, by omega, by rw [offL_succ HX.out, ← Hm.out, HM.out, EN.out, fDk]; omega, by go_num, rfl, GE.out, ?mid, hup.trans (UE.mono (fun b h => by rcases h with h | h; exact h ▸ hS; exact (HT.out k b h).1))⟩
          refine Mid.step (g := g) (cs := mkDkA m x (.slice ao x.ks.length cp)) (fun U R v y h u hU => DkO.keep h u hU) HD.out HX.out UE (fun j b h => (HT.out j b h).2) HT2.out (fun i hi => Q2.out i (by omega)) rfl (mkDk_one _ _ _ _ _) (fun r u hu => ?_) ?_
          · by_cases hr : r < 6
            · rw [mkDk_at _ _ _ _ hr] at hu
              rw [Q1.out r hr, hu]
            · have hr2 : r < 7 := (Array.getElem?_eq_some_iff.1 hu).1
              obtain rfl : r = 6 := by omega
              rw [mkDk_last] at hu
              rw [Q2.out _ (by omega), HLa.out, hu]
          · rw [← Hm.out]
            have R1 := RE.out
            rw [EN.out] at R1
            exact ⟨ao, cp, by rw [show (mkDk m x).ks.length = x.ks.length from mkN_len _ _]; rfl, by rw [show (mkDk m x).ks.length = x.ks.length from mkN_len _ _]; exact hcap, by rw [show (mkDk m x).ks.length = x.ks.length from mkN_len _ _]; exact R1⟩
        case measure => simp [intOf]; omega
      · go_wp2
        go_ret
        obtain rfl : k = n := by omega
        exact ⟨by rw [Hm.out]; rfl, ⟨_, cap, by rw [mkU_len, ← HXN.out], by rw [mkU_len, ← HXN.out]; exact hn, fun _ => ⟨g, cur', rfl, hS, hgr, T, HT.out, HT2.out, HD.out⟩⟩, hup⟩

set_option maxRecDepth 100000 in
set_option maxHeartbeats 32000000 in
theorem heldMapDiskS_own (v : Value) (xs : List (Dk)) (k0 : Nat) (w : World) (hr : RowE w 7 DkR v (mkU fDk mkDk k0 xs.length xs)) (_h1 : 1 ≤ k0) (h2 : offL fDk k0 xs xs.length ≤ 1099511627776) :
    Calls Try.prog 23 #[v, .int .i64 k0] w fun e w' => e = .returned (.int .i64 (offL fDk k0 xs xs.length : Nat)) ∧ Below w.heap.size w w' := by
  obtain ⟨ao, cap, rfl⟩ := hr.shape
  have hn := hr.small
  rw [mkU_len] at hr hn ⊢
  obtain ⟨n, hxn⟩ : ∃ n, n = xs.length := ⟨_, rfl⟩
  rw [← hxn] at hr h2 hn ⊢
  have HXN := hide hxn
  have H2 := hide h2
  have HRo := hide hr
  clear hxn h2 hr
  go_enter Try.func23, Try.ntmps23
  go_wp2
  go_loopw [1, 5] (fun kv i wr => ∃ k m : Nat, k ≤ n ∧ m = offL fDk k0 xs k ∧ i = .int .i64 k ∧ kv = .int .i64 (m : Nat) ∧ Below w.heap.size w wr) (fun _ i _ => n - (intOf i).toNat)
  case atStart => exact ⟨0, k0, Nat.zero_le _, offL_zero.symm, rfl, rfl, Below.refl _ _⟩
  case round =>
    obtain ⟨k, m, hk, hm, rfl, rfl, hbel⟩ := hrel
    have Hm := hide hm
    have hm0 : k0 ≤ m := by rw [hm, offL]; omega
    have hm2 : (m : Int) ≤ 1099511627776 := by
      have := offL_le (f := fDk) (k := k0) (xs := xs) (j := k)
      rw [← HXN.out] at this
      have := H2.out
      omega
    clear hm
    by_cases hlt : k < n
    · have hi : (k : Int) < (n : Int) := by omega
      obtain ⟨x, hx⟩ := getAt xs k (by have := HXN.out; omega)
      have hfx : m + (6 + x.ks.length) ≤ 1099511627776 := by
        have h3 := offL_le (f := fDk) (k := k0) (xs := xs) (j := k + 1)
        rw [offL_succ hx, ← HXN.out, ← Hm.out] at h3
        exact Nat.le_trans h3 H2.out
      obtain ⟨-, b1, o1, rfl, cs, s1, s2, s3, a2, cp, ecs, -, hrow⟩ := HRo.out.elem (mkU_lt hlt hx)
      rw [← Hm.out] at ecs hrow
      injection ecs with ecs
      subst ecs
      have hl : (mkDk m x).ks.length = x.ks.length := mkN_len _ _
      rw [hl] at s3 hrow
      have HX := hide hx
      have F := hide s3
      have HF := hide hfx
      have hm3 : ((m + 6 : Nat) : Int) ≤ 1099511627776 := by omega
      have HR := hide hrow
      have HL := hide hl
      have K : ∀ r u, (mkDkA m x (.slice a2 x.ks.length cp))[r]? = some u → wr.cell? ⟨b1, o1 + k * 7 + r, none⟩ = some u := fun r u h => (hbel.cell (p := ⟨b1, o1 + k * 7 + r, none⟩) (World.block_lt_of_cell? w _ (F.out r u h))).trans (F.out r u h)
      have HK := hide K
      have HLT : Hid (k + 1 ≤ n) := hlt
      have Hm0 : Hid (m = m + 0) := rfl
      clear s1 s2 s3 hrow hl hx hfx K
      have c1 : wr.cell? ⟨b1, o1 + k * 7, none⟩ = some (.int .i64 (m : Int)) := by
        have q := HK.out 0 _ (mkDk_at m 0 x _ (by omega))
        rw [← Hm0.out] at q
        exact q
      go_upto_region 7 with fail
      obtain ⟨m1, hm⟩ : ∃ q : Nat, q = m + 1 := ⟨_, rfl⟩
      have Hm1 := hide hm
      have hb1 : (m1 : Int) ≤ 1099511627776 := by omega
      rw [show (m : Int) + 1 = (m1 : Int) by have := Hm0.out; omega]
      clear c1 hm
      have c1 : wr.cell? ⟨b1, o1 + k * 7 + 1, none⟩ = some (.int .i64 (m1 : Int)) := by
        have q := HK.out 1 _ (mkDk_at m 1 x _ (by omega))
        rw [← Hm1.out] at q
        exact q
      go_upto_region 10 with fail
      obtain ⟨m2, hm⟩ : ∃ q : Nat, q = m + 2 := ⟨_, rfl⟩
      have Hm2 := hide hm
      have hb2 : (m2 : Int) ≤ 1099511627776 := by omega
      rw [show (m1 : Int) + 1 = (m2 : Int) by have := Hm1.out; omega]
      clear c1 hm
      clear hb1 Hm1
      have c1 : wr.cell? ⟨b1, o1 + k * 7 + 2, none⟩ = some (.int .i64 (m2 : Int)) := by
        have q := HK.out 2 _ (mkDk_at m 2 x _ (by omega))
        rw [← Hm2.out] at q
        exact q
      go_upto_region 13 with fail
      obtain ⟨m3, hm⟩ : ∃ q : Nat, q = m + 3 := ⟨_, rfl⟩
      have Hm3 := hide hm
      have hb3 : (m3 : Int) ≤ 1099511627776 := by omega
      rw [show (m2 : Int) + 1 = (m3 : Int) by have := Hm2.out; omega]
      clear c1 hm
      clear hb2 Hm2
      have c1 : wr.cell? ⟨b1, o1 + k * 7 + 3, none⟩ = some (.int .i64 (m3 : Int)) := by
        have q := HK.out 3 _ (mkDk_at m 3 x _ (by omega))
        rw [← Hm3.out] at q
        exact q
      go_upto_region 16 with fail
      obtain ⟨m4, hm⟩ : ∃ q : Nat, q = m + 4 := ⟨_, rfl⟩
      have Hm4 := hide hm
      have hb4 : (m4 : Int) ≤ 1099511627776 := by omega
      rw [show (m3 : Int) + 1 = (m4 : Int) by have := Hm3.out; omega]
      clear c1 hm
      clear hb3 Hm3
      have c1 : wr.cell? ⟨b1, o1 + k * 7 + 4, none⟩ = some (.int .i64 (m4 : Int)) := by
        have q := HK.out 4 _ (mkDk_at m 4 x _ (by omega))
        rw [← Hm4.out] at q
        exact q
      go_upto_region 19 with fail
      obtain ⟨m5, hm⟩ : ∃ q : Nat, q = m + 5 := ⟨_, rfl⟩
      have Hm5 := hide hm
      have hb5 : (m5 : Int) ≤ 1099511627776 := by omega
      rw [show (m4 : Int) + 1 = (m5 : Int) by have := Hm4.out; omega]
      clear c1 hm
      clear hb4 Hm4
      have c1 : wr.cell? ⟨b1, o1 + k * 7 + 5, none⟩ = some (.int .i64 (m5 : Int)) := by
        have q := HK.out 5 _ (mkDk_at m 5 x _ (by omega))
        rw [← Hm5.out] at q
        exact q
      go_upto_region 22 with fail
      obtain ⟨m6, hm⟩ : ∃ q : Nat, q = m + 6 := ⟨_, rfl⟩
      have Hm6 := hide hm
      have hb6 : (m6 : Int) ≤ 1099511627776 := by omega
      rw [show (m5 : Int) + 1 = (m6 : Int) by have := Hm5.out; omega]
      clear c1 hm
      clear hb5 Hm5
      have e6 := Hm6.out
      have hrow := (HR.out.keep hbel)
      have hrow : RowR wr 1 (.slice a2 x.ks.length cp) x.ks.length (ints (mkN m6 x.ks.length)) := by rw [e6]; exact hrow
      have c := heldIntS_ok _ x.ks.length m6 wr hrow (by have := HF.out; omega)
      have sN : wr.cell? ⟨b1, o1 + k * 7 + 6, none⟩ = some (.slice a2 x.ks.length cp) := HK.out 6 _ (mkDk_last _ _ _)
      obtain ⟨M, hM⟩ : ∃ M : Nat, M = m6 + x.ks.length := ⟨_, rfl⟩
      rw [← hM] at c
      have HM := hide hM
      have hMb : (M : Int) ≤ 1099511627776 := by have := HF.out; omega
      have hneg : decide ((M : Int) < 0) = false := decide_eq_false (by omega)
      have EN := hide e6
      clear hM hrow e6 Hm6 HF hm0 hm2 hm3 hk hlt hb6
      go_wp2_with fail
      refine c.mono ?_
      rintro e VE ⟨rfl, bE⟩
      have hbE := bAll hbel bE
      clear c sN bE
      go_wp2
      go_roundw
      case rel => exact ⟨k + 1, M, HLT.out, by rw [offL_succ HX.out, ← Hm.out, HM.out, EN.out, fDk]; omega, by go_num, rfl, hbE⟩
      case measure => (have := HLT.out; simp [intOf]; omega)
    · go_wp2
      go_ret
      obtain rfl : k = n := by omega
      exact ⟨by rw [Hm.out]; rfl, hbel⟩

end Go.Proofs.Ythdnnmmaalgpaaa

/- Marks in maps: contracts; no statement of the seat is proved here. (Written by wip/tools/mkmsm.py.) -/
namespace Go.Proofs.Ythdnnmmaalgpaaa
open Go.RowKit

/-- A map of one's own: the blocks of its three parts are apart. -/
def MsD (w : World) (base : Nat) (D : Nat → Nat → Prop) (v0 v1 v2 : Value) (c : Ms) : Prop :=
  (∀ i b, D i b → base ≤ b ∧ b < w.heap.size) ∧ (∀ i j b, D i b → D j b → i = j) ∧
    RowO w 57 7 (D 0) DkO v0 c.ds ∧ Row w 43 3 (D 1) v1 c.vs.length (gcells c.vs) ∧ Row w 59 4 (D 2) v2 c.es.length (ecells c.es)
theorem MsD.reads {w : World} {base : Nat} {D : Nat → Nat → Prop} {v0 v1 v2 : Value} {c : Ms} (h : MsD w base D v0 v1 v2 c) : MsP w v0 v1 v2 c := by
  obtain ⟨-, -, h0, h1, h2⟩ := h
  exact ⟨h0.reads (fun _ _ _ h => h.reads), h1.reads, h2.reads⟩
theorem MsD.keepB {w w' : World} {base : Nat} {D : Nat → Nat → Prop} {v0 v1 v2 : Value} {c : Ms} (h : MsD w base D v0 v1 v2 c) (b' : Below w.heap.size w w') : MsD w' base D v0 v1 v2 c := by
  obtain ⟨p, q, h0, h1, h2⟩ := h
  have u : Upd (fun _ => False) w w' := Upd.ofBelow b'
  exact ⟨fun i b hb => ⟨(p i b hb).1, Nat.lt_of_lt_of_le (p i b hb).2 b'.size⟩, q, h0.keep (fun T v x _ h => h.keepB b') u (fun _ _ h => h), h1.keepB b', h2.keepB b'⟩
theorem MsD.keep {w w' : World} {base : Nat} {D : Nat → Nat → Prop} {R : Nat → Prop} {v0 v1 v2 : Value} {c : Ms} (h : MsD w base D v0 v1 v2 c) (u : Upd R w w') (hR : ∀ b, R b → b < base ∨ w.heap.size ≤ b) : MsD w' base D v0 v1 v2 c := by
  obtain ⟨p, q, h0, h1, h2⟩ := h
  have hD : ∀ i b, D i b → ¬ R b := fun i b hb hr => by have := p i b hb; have := hR b hr; omega
  exact ⟨fun i b hb => ⟨(p i b hb).1, Nat.lt_of_lt_of_le (p i b hb).2 u.size⟩, q, h0.keep (fun T v x hT h => h.keep u hT) u (hD 0), h1.keep u (hD 1), h2.keep u (hD 2)⟩
/-- A map in memory of its own, its blocks apart. -/
theorem MsO.parts {w : World} {base : Nat} {v : Value} {c : Ms} (h : MsO w base v c) : ∃ v0 v1 v2 D, v = .agg #[.int .i64 c.sl, .int .i64 c.sv, .int .i64 c.nx, v0, v1, v2] ∧ MsD w base D v0 v1 v2 c := by
  obtain ⟨v0, v1, v2, e, lo, hb, hl, h0, h1, h2⟩ := h
  refine ⟨v0, v1, v2, fun i b => ((i = 0 ∧ lo 0 ≤ b ∧ b < lo 1) ∨ (i = 1 ∧ lo 1 ≤ b ∧ b < lo 2) ∨ (i = 2 ∧ lo 2 ≤ b ∧ b < lo 3)) ∧ b < w.heap.size, e, fun i b h => ⟨by omega, h.2⟩, fun i j b h1 h2 => by omega, ?_, ?_, ?_⟩
  · exact (h0.inside (fun T v x h => dkIn h)).mono (fun b h => ⟨.inl ⟨rfl, h.1⟩, h.2⟩)
  · exact (rowInD h1).mono (fun b _ h => ⟨.inr (.inl ⟨rfl, h.1⟩), h.2⟩)
  · exact (rowInD h2).mono (fun b _ h => ⟨.inr (.inr ⟨rfl, h.1⟩), h.2⟩)
/-- Where the marks of a map begin and end, part by part. -/
def eM1 (k : Nat) (c : Ms) : Nat := offL fDk k c.ds c.ds.length
def eM2 (k : Nat) (c : Ms) : Nat := eM1 k c + c.vs.length * 3
def eM3 (k : Nat) (c : Ms) : Nat := eM2 k c + c.es.length * 4
def mkMs (k : Nat) (c : Ms) : Ms := { c with ds := mkU fDk mkDk k c.ds.length c.ds, vs := mkG (eM1 k c) c.vs.length, es := mkE (eM2 k c) c.es.length }

set_option maxRecDepth 100000 in
set_option maxHeartbeats 8000000 in
theorem markMapState_own (base : Nat) (D : Nat → Nat → Prop) (v0 v1 v2 : Value) (c : Ms) (w : World) (h : MsD w base D v0 v1 v2 c) (h2 : eM3 1 c ≤ 1099511627776) :
    Calls Try.prog 9 #[.agg #[.int .i64 c.sl, .int .i64 c.sv, .int .i64 c.nx, v0, v1, v2], .int .i64 1] w fun e w' => e = .returned (.int .i64 (eM3 1 c : Nat)) ∧ MsD w' base D v0 v1 v2 (mkMs 1 c) ∧ Upd (fun b => ∃ i, D i b) w w' := by
  obtain ⟨⟨a0, k0, rfl⟩, ⟨a1, k1, rfl⟩, ⟨a2, k2, rfl⟩⟩ := h.reads.shapes
  have e2 : eM2 1 c ≤ eM3 1 c := by rw [eM3]; omega
  have e1 : eM1 1 c ≤ eM2 1 c := by rw [eM2]; omega
  have e0 : 1 ≤ eM1 1 c := by rw [eM1, offL]; omega
  obtain ⟨E1, hE1⟩ : ∃ E, E = eM1 1 c := ⟨_, rfl⟩
  obtain ⟨E2, hE2⟩ : ∃ E, E = eM2 1 c := ⟨_, rfl⟩
  obtain ⟨E3, hE3⟩ : ∃ E, E = eM3 1 c := ⟨_, rfl⟩
  have al := bal (Below.refl w.heap.size w) (.cells #[.int .i64 c.sl, .int .i64 c.sv, .int .i64 c.nx, .slice a0 c.ds.length k0, .slice a1 c.vs.length k1, .slice a2 c.es.length k2] 26)
  have A0 := hide (al1_0 w (.cells #[.int .i64 c.sl, .int .i64 c.sv, .int .i64 c.nx, .slice a0 c.ds.length k0, .slice a1 c.vs.length k1, .slice a2 c.es.length k2] 26))
  obtain ⟨p, q, r0, r1, r2⟩ := h.keepB al
  have c0 := fun V (h : RowO V 57 7 (D 0) DkO (.slice a0 c.ds.length k0) c.ds) => markMapDiskS_own _ _ c.ds 1 V h (Nat.le_refl _) (show eM1 1 c ≤ _ by omega)
  have c1 := fun V (h : Row V 43 3 (D 1) (.slice a1 c.vs.length k1) c.vs.length (gcells c.vs)) => markMapViewS_any _ _ _ _ (eM1 1 c) V h (by omega) (show eM2 1 c ≤ _ by omega)
  have c2 := fun V (h : Row V 59 4 (D 2) (.slice a2 c.es.length k2) c.es.length (ecells c.es)) => markMapDoneS_any _ _ _ _ (eM2 1 c) V h (by omega) (show eM3 1 c ≤ _ by omega)
  rw [show offL fDk 1 c.ds c.ds.length = E1 from hE1.symm] at c0
  rw [show eM1 1 c + c.vs.length * 3 = E2 from hE2.symm] at c1
  rw [show eM2 1 c + c.es.length * 4 = E3 from hE3.symm] at c2
  have C : Hid ((mkMs 1 c).ds = mkU fDk mkDk 1 c.ds.length c.ds ∧ (mkMs 1 c).vs = mkG E1 c.vs.length ∧ (mkMs 1 c).es = mkE E2 c.es.length) := by
    rw [hE1, hE2]
    exact ⟨rfl, rfl, rfl⟩
  rw [← hE1] at c1
  rw [← hE2] at c2
  rw [← hE3]
  have P := hide p
  have Q := hide q
  have R := hide (And.intro r0 (And.intro r1 r2))
  have B := hide h.1
  clear p q r0 r1 r2 h h2 e0 e1 e2 hE1 hE2 hE3
  go_enter Try.func9, Try.ntmps9
  go_upto_region 1 with fail
  generalize World.alloc _ _ = W at al A0 P R ⊢
  have nb : ∀ i, ¬ D i w.heap.size := fun i h => by have := (B.out i _ h).2; omega
  have NB := hide nb
  clear nb
  have x0 : W.cell? ⟨w.heap.size, 3, none⟩ = some (.slice a0 c.ds.length k0) := boxAt A0.out 3
  go_wp2_with fail
  refine (c0 W R.out.1).mono ?_
  rintro e W1 ⟨rfl, s0, u0⟩
  have S0 := hide s0
  have B1 := hide (u0.keeps A0.out (NB.out 0))
  have R1 := hide (And.intro (R.out.2.1.keep u0 (fun b h1 h2 => by have := Q.out _ _ _ h1 h2; omega)) (R.out.2.2.keep u0 (fun b h1 h2 => by have := Q.out _ _ _ h1 h2; omega)))
  have t0 := u0.mono (T := fun b => ∃ i, D i b) (fun b h => ⟨0, h⟩)
  clear x0 c0 s0 u0 A0 R
  have x1 : W1.cell? ⟨w.heap.size, 4, none⟩ = some (.slice a1 c.vs.length k1) := boxAt B1.out 4
  go_wp2_with fail
  refine (c1 W1 R1.out.1).mono ?_
  rintro e W2 ⟨rfl, s1, u1⟩
  have S1 := hide s1
  have B2 := hide (u1.keeps B1.out (NB.out 1))
  have S0 := hide (S0.out.keep (fun T v x hT h => h.keep u1 hT) u1 (fun b h1 h2 => by have := Q.out _ _ _ h1 h2; omega))
  have R2 := hide (R1.out.2.keep u1 (fun b h1 h2 => by have := Q.out _ _ _ h1 h2; omega))
  have t1 := t0.trans (u1.mono (fun b h => ⟨1, h⟩))
  clear x1 c1 s1 u1 B1 R1 t0
  have x2 : W2.cell? ⟨w.heap.size, 5, none⟩ = some (.slice a2 c.es.length k2) := boxAt B2.out 5
  go_wp2_with fail
  refine (c2 W2 R2.out).mono ?_
  rintro e W3 ⟨rfl, s2, u2⟩
  have S2 := hide s2
  have S0 := hide (S0.out.keep (fun T v x hT h => h.keep u2 hT) u2 (fun b h1 h2 => by have := Q.out _ _ _ h1 h2; omega))
  have S1 := hide (S1.out.keep u2 (fun b h1 h2 => by have := Q.out _ _ _ h1 h2; omega))
  have t2 := t1.trans (u2.mono (fun b h => ⟨2, h⟩))
  clear x2 c2 s2 u2 B2 R2 t1
  go_wp2
  go_ret
  refine ⟨rfl, ⟨fun i b h => ⟨(P.out i b h).1, Nat.lt_of_lt_of_le (P.out i b h).2 t2.size⟩, Q.out, ?_⟩, (Upd.ofBelow al).trans t2⟩
  obtain ⟨m0, m1, m2⟩ := C.out
  rw [m0, m1, m2, mkG_len, mkE_len]
  exact ⟨S0.out, S1.out, S2.out⟩

set_option maxRecDepth 100000 in
set_option maxHeartbeats 8000000 in
theorem heldMapState_own (v0 v1 v2 : Value) (c : Ms) (w : World) (h : MsP w v0 v1 v2 (mkMs 1 c)) (h2 : eM3 1 c ≤ 1099511627776) :
    Calls Try.prog 10 #[.agg #[.int .i64 c.sl, .int .i64 c.sv, .int .i64 c.nx, v0, v1, v2], .int .i64 1] w fun e w' => e = .returned (.int .i64 (eM3 1 c : Nat)) ∧ Below w.heap.size w w' := by
  obtain ⟨⟨a0, k0, rfl⟩, ⟨a1, k1, rfl⟩, ⟨a2, k2, rfl⟩⟩ := h.shapes
  have e2 : eM2 1 c ≤ eM3 1 c := by rw [eM3]; omega
  have e1 : eM1 1 c ≤ eM2 1 c := by rw [eM2]; omega
  have e0 : 1 ≤ eM1 1 c := by rw [eM1, offL]; omega
  have l0 : (mkMs 1 c).ds.length = c.ds.length := mkU_len _ _ _
  have l1 : (mkMs 1 c).vs.length = c.vs.length := mkG_len _ _
  have l2 : (mkMs 1 c).es.length = c.es.length := mkE_len _ _
  have hv := h.ds
  have hr := h.vs
  have hk := h.es
  rw [l0] at hv
  rw [l1] at hr
  rw [l2] at hk
  rw [l0, l1, l2]
  obtain ⟨E1, hE1⟩ : ∃ E, E = eM1 1 c := ⟨_, rfl⟩
  obtain ⟨E2, hE2⟩ : ∃ E, E = eM2 1 c := ⟨_, rfl⟩
  obtain ⟨E3, hE3⟩ : ∃ E, E = eM3 1 c := ⟨_, rfl⟩
  have al := bal (Below.refl w.heap.size w) (.cells #[.int .i64 c.sl, .int .i64 c.sv, .int .i64 c.nx, .slice a0 c.ds.length k0, .slice a1 c.vs.length k1, .slice a2 c.es.length k2] 26)
  have A0 := hide (al1_0 w (.cells #[.int .i64 c.sl, .int .i64 c.sv, .int .i64 c.nx, .slice a0 c.ds.length k0, .slice a1 c.vs.length k1, .slice a2 c.es.length k2] 26))
  have c0 := fun V (b : Below w.heap.size w V) => heldMapDiskS_own _ c.ds 1 V (hv.keep (fun v x h => DkR.keep h b) b) (Nat.le_refl _) (show eM1 1 c ≤ _ by omega)
  have c1 := fun V (b : Below w.heap.size w V) => heldMapViewS_ok _ c.vs.length (eM1 1 c) V (RowR.keep hr b) (by omega) (show eM2 1 c ≤ _ by omega)
  have c2 := fun V (b : Below w.heap.size w V) => heldMapDoneS_ok _ c.es.length (eM2 1 c) V (RowR.keep hk b) (by omega) (show eM3 1 c ≤ _ by omega)
  rw [show offL fDk 1 c.ds c.ds.length = E1 from hE1.symm] at c0
  rw [show eM1 1 c + c.vs.length * 3 = E2 from hE2.symm, ← hE1] at c1
  rw [show eM2 1 c + c.es.length * 4 = E3 from hE3.symm, ← hE2] at c2
  rw [← hE3]
  have g1 : decide ((E1 : Int) < 0) = false := decide_eq_false (by omega)
  have g2 : decide ((E2 : Int) < 0) = false := decide_eq_false (by omega)
  have g3 : decide ((E3 : Int) < 0) = false := decide_eq_false (by omega)
  clear h h2 e0 e1 e2 hE1 hE2 hE3 hv hr hk l0 l1 l2
  go_enter Try.func10, Try.ntmps10
  go_upto_region 1 with fail
  generalize World.alloc _ _ = W at al A0 ⊢
  have x0 : W.cell? ⟨w.heap.size, 3, none⟩ = some (.slice a0 c.ds.length k0) := boxAt A0.out 3
  go_wp2_with fail
  refine (c0 W al).mono ?_
  rintro e W1 ⟨rfl, b1⟩
  have al1 := bAll al b1
  have A1 := hide (bKeeps b1 A0.out)
  clear x0 c0 b1 A0
  have x1 : W1.cell? ⟨w.heap.size, 4, none⟩ = some (.slice a1 c.vs.length k1) := boxAt A1.out 4
  go_wp2_with fail
  refine (c1 W1 al1).mono ?_
  rintro e W2 ⟨rfl, b2⟩
  have al2 := bAll al1 b2
  have A2 := hide (bKeeps b2 A1.out)
  clear x1 c1 b2 A1
  have x2 : W2.cell? ⟨w.heap.size, 5, none⟩ = some (.slice a2 c.es.length k2) := boxAt A2.out 5
  go_wp2_with fail
  refine (c2 W2 al2).mono ?_
  rintro e W3 ⟨rfl, b3⟩
  have al3 := bAll al2 b3
  clear x2 c2 b3 A2
  go_wp2
  go_ret
  exact ⟨rfl, al3⟩

end Go.Proofs.Ythdnnmmaalgpaaa

/- What the law FnExactMapStart does: its walk; the statement itself is proved elsewhere. -/
namespace Go.Proofs.Ythdnnmmaalgpaaa
open Go.RowKit

theorem three_of {v : Value} {n : Nat} (h : ∃ ao cap, v = .slice ao n cap) (hn : n = 3) : ∃ ao cap, v = .slice ao 3 cap := by subst hn; exact h
theorem noRowO {α : Type} {w : World} {e : TypeId} {size : Nat} {S : Nat → Prop} {EO : World → (Nat → Prop) → Value → α → Prop} : RowO w e size S EO (.slice none 0 0) [] := ⟨none, 0, rfl, Nat.zero_le _, fun h => absurd h (Nat.lt_irrefl 0)⟩
theorem startD {w' : World} {base : Nat} {vv : Value} (h : RowA w' base 43 3 vv 3 (gcells (viewsTo 3))) : ∃ D, MsD w' base D (.slice none 0 0) vv (.slice none 0 0) startM :=
  ⟨fun i b => i = 1 ∧ base ≤ b ∧ b < w'.heap.size, fun i b h => h.2, fun i j b h1 h2 => h1.1.trans h2.1.symm, noRowO, (rowInD (h.row (by omega))).mono (fun b _ h => ⟨rfl, h⟩), Row.nil _ _ _ _⟩
theorem specMapStartD_any (w : World) :
    Calls Try.prog 6 #[] w fun e w' => ∃ vv D, e = .returned (.agg #[.int .i64 0, .int .i64 3, .int .i64 1, .slice none 0 0, vv, .slice none 0 0]) ∧ MsD w' w.heap.size D (.slice none 0 0) vv (.slice none 0 0) startM ∧ Below w.heap.size w w' := by
  refine (specMapStart_any w).mono ?_
  rintro e w' ⟨vv, he, hr, b⟩
  obtain ⟨D, hD⟩ := startD hr
  exact ⟨vv, D, he, hD, b⟩
theorem implMapStartD_any (w : World) :
    Calls Try.prog 7 #[] w fun e w' => ∃ vv D, e = .returned (.agg #[.int .i64 0, .int .i64 3, .int .i64 1, .slice none 0 0, vv, .slice none 0 0]) ∧ MsD w' w.heap.size D (.slice none 0 0) vv (.slice none 0 0) startM ∧ Below w.heap.size w w' := by
  refine (implMapStart_any w).mono ?_
  rintro e w' ⟨vv, he, hr, b⟩
  obtain ⟨D, hD⟩ := startD hr
  exact ⟨vv, D, he, hD, b⟩

set_option maxRecDepth 100000 in
set_option maxHeartbeats 16000000 in
theorem mapStart_walk (w : World) :
    Calls Try.prog 3 #[] w fun e w' => e = .returned (.bool true) ∧ Below w.heap.size w w' := by
  obtain ⟨E, hE⟩ : ∃ E, E = eM3 1 startM := ⟨_, rfl⟩
  have hE2 : eM3 1 startM ≤ 1099511627776 := by decide
  have cM := fun base D v1 V h => markMapState_own base D (.slice none 0 0) v1 (.slice none 0 0) startM V h hE2
  have cH := fun v1 V h => heldMapState_own (.slice none 0 0) v1 (.slice none 0 0) startM V h hE2
  rw [← hE] at cM cH
  have g1 : decide ((E : Int) < 0) = false := decide_eq_false (by omega)
  have g2 : decide ((E : Int) ≠ (E : Int)) = false := decide_eq_false (by omega)
  clear hE hE2
  go_enter Try.func3, Try.ntmps3
  -- the specification
  go_wp2_with fail
  refine (specMapStartD_any w).mono ?_
  rintro e V1 ⟨v0, D1, rfl, r1, b1⟩
  obtain ⟨o0, c0, rfl⟩ := three_of r1.reads.shapes.2.1 (viewsTo_len 3)
  have a1 := bal (Below.refl V1.heap.size V1) (.cells #[.int .i64 0, .int .i64 3, .int .i64 1, .slice none 0 0, .slice o0 3 c0, .slice none 0 0] 26)
  have N1 := hide (heap_alloc_new V1 (.cells #[.int .i64 0, .int .i64 3, .int .i64 1, .slice none 0 0, .slice o0 3 c0, .slice none 0 0] 26))
  have R1 := hide (r1.keepB a1)
  go_upto_region 2 with (refine wpList_store_row rfl 26 (.tmp 1) (.tmp 6) rfl V1.heap.size #[.int .i64 0, .int .i64 3, .int .i64 1, .slice none 0 0, .slice o0 3 c0, .slice none 0 0] rfl rfl _ _ (heap_alloc_new V1 _) infoMsI (show (6 : Nat) = 6 from rfl) (all_of_list rfl) ?_; rw [World.setRow_alloc_new])
  generalize hX : V1.alloc (.cells #[.int .i64 0, .int .i64 3, .int .i64 1, .slice none 0 0, .slice o0 3 c0, .slice none 0 0] 26) = X1 at a1 N1 R1 ⊢
  have l1 := heap_lt N1.out
  generalize V1.heap.size = h1 at N1 l1 ⊢
  have b1' := bAll b1 a1
  clear hX r1 b1 a1
  -- the program
  go_wp2_with fail
  refine (implMapStartD_any X1).mono ?_
  rintro e V2 ⟨u0, D, rfl, r2, b2⟩
  obtain ⟨p0, d0, rfl⟩ := three_of r2.reads.shapes.2.1 (viewsTo_len 3)
  have a2 := bal (Below.refl V2.heap.size V2) (.cells #[.int .i64 0, .int .i64 3, .int .i64 1, .slice none 0 0, .slice p0 3 d0, .slice none 0 0] 26)
  have N2 := hide (heap_alloc_new V2 (.cells #[.int .i64 0, .int .i64 3, .int .i64 1, .slice none 0 0, .slice p0 3 d0, .slice none 0 0] 26))
  have R2 := hide (r2.keepB a2)
  have D2 := hide r2.1
  go_upto_region 3 with (refine wpList_store_row rfl 26 (.tmp 2) (.tmp 7) rfl V2.heap.size #[.int .i64 0, .int .i64 3, .int .i64 1, .slice none 0 0, .slice p0 3 d0, .slice none 0 0] rfl rfl _ _ (heap_alloc_new V2 _) infoMsI (show (6 : Nat) = 6 from rfl) (all_of_list rfl) ?_; rw [World.setRow_alloc_new])
  generalize hX : V2.alloc (.cells #[.int .i64 0, .int .i64 3, .int .i64 1, .slice none 0 0, .slice p0 3 d0, .slice none 0 0] 26) = X2 at a2 N2 R2 ⊢
  have b2' := bAll b2 a2
  have z2 := b2.size
  generalize V2.heap.size = h2 at N2 D2 z2 ⊢
  have Z2 := hide z2
  clear hX r2 b2 a2 z2
  have n1 := bKeeps b2' N1.out
  have n2 := N2.out
  go_wp2_with (first | (refine wpList_load_row rfl 26 (.tmp 2) rfl h2 rfl _ #[.int .i64 0, .int .i64 3, .int .i64 1, .slice none 0 0, .slice p0 3 d0, .slice none 0 0] (0, 0) _ n2 Try.underlying26 rfl infoMsI ?_) | (refine wpList_load_row rfl 26 (.tmp 1) rfl h1 rfl _ #[.int .i64 0, .int .i64 3, .int .i64 1, .slice none 0 0, .slice o0 3 c0, .slice none 0 0] (0, 0) _ n1 Try.underlying26 rfl infoMsI ?_))
  refine (eqMapState_true _ _ startM X2 ⟨_, _, _, rfl, R2.out.reads⟩ ⟨_, _, _, rfl, (R1.out.keepB b2').reads⟩).mono ?_
  rintro e V3 ⟨rfl, b3⟩
  have n2 := bKeeps b3 N2.out
  have R2 := hide (R2.out.keepB b3)
  have b3' := bAll b2' b3
  clear n1 b2' b3
  go_wp2_with (refine wpList_load_row rfl 26 (.tmp 2) rfl h2 rfl _ #[.int .i64 0, .int .i64 3, .int .i64 1, .slice none 0 0, .slice p0 3 d0, .slice none 0 0] (0, 0) _ n2 Try.underlying26 rfl infoMsI ?_)
  refine (cM _ D _ V3 R2.out).mono ?_
  rintro e V4 ⟨rfl, r4, u4⟩
  have b4' : Below X1.heap.size X1 V4 := b3'.trans (u4.below b3'.size (fun b h => by obtain ⟨i, h⟩ := h; exact (D2.out i b h).1))
  have n2 := u4.keeps n2 (fun h => by obtain ⟨i, h⟩ := h; have := (D2.out i _ h).2; omega)
  have N2 := hide n2
  have R4 := hide r4
  clear r4 u4 b3' cM
  go_wp2_with (refine wpList_load_row rfl 26 (.tmp 2) rfl h2 rfl _ #[.int .i64 0, .int .i64 3, .int .i64 1, .slice none 0 0, .slice p0 3 d0, .slice none 0 0] (0, 0) _ n2 Try.underlying26 rfl infoMsI ?_)
  refine (cH _ V4 R4.out.reads).mono ?_
  rintro e V5 ⟨rfl, b5⟩
  have N2 := hide (bKeeps b5 N2.out)
  have R5 := hide (R4.out.keepB b5)
  have b5' := bAll b4' b5
  clear n2 b4' b5 R4
  go_wp2_with fail
  refine (implMapStartD_any V5).mono ?_
  rintro e V6 ⟨t0, D6, rfl, r6, b6⟩
  obtain ⟨q0, e0, rfl⟩ := three_of r6.reads.shapes.2.1 (viewsTo_len 3)
  have a6 := bal (Below.refl V6.heap.size V6) (.cells #[.int .i64 0, .int .i64 3, .int .i64 1, .slice none 0 0, .slice q0 3 e0, .slice none 0 0] 26)
  have N6 := hide (heap_alloc_new V6 (.cells #[.int .i64 0, .int .i64 3, .int .i64 1, .slice none 0 0, .slice q0 3 e0, .slice none 0 0] 26))
  have R6 := hide (r6.keepB a6)
  go_upto_region 14 with (refine wpList_store_row rfl 26 (.tmp 5) (.tmp 23) rfl V6.heap.size #[.int .i64 0, .int .i64 3, .int .i64 1, .slice none 0 0, .slice q0 3 e0, .slice none 0 0] rfl rfl _ _ (heap_alloc_new V6 _) infoMsI (show (6 : Nat) = 6 from rfl) (all_of_list rfl) ?_; rw [World.setRow_alloc_new])
  generalize hX : V6.alloc (.cells #[.int .i64 0, .int .i64 3, .int .i64 1, .slice none 0 0, .slice q0 3 e0, .slice none 0 0] 26) = X6 at a6 N6 R6 ⊢
  have b6' := bAll b6 a6
  generalize V6.heap.size = h6 at N6 ⊢
  have N2 := hide (bKeeps b6' N2.out)
  have R5 := hide (R5.out.keepB b6')
  have b7' := bAll b5' b6'
  clear hX r6 b6 a6 b5' b6'
  have n1 := bKeeps b7' N1.out
  have n6 := N6.out
  go_wp2_with (first | (refine wpList_load_row rfl 26 (.tmp 5) rfl h6 rfl _ #[.int .i64 0, .int .i64 3, .int .i64 1, .slice none 0 0, .slice q0 3 e0, .slice none 0 0] (0, 0) _ n6 Try.underlying26 rfl infoMsI ?_) | (refine wpList_load_row rfl 26 (.tmp 1) rfl h1 rfl _ #[.int .i64 0, .int .i64 3, .int .i64 1, .slice none 0 0, .slice o0 3 c0, .slice none 0 0] (0, 0) _ n1 Try.underlying26 rfl infoMsI ?_))
  refine (eqMapState_true _ _ startM X6 ⟨_, _, _, rfl, R6.out.reads⟩ ⟨_, _, _, rfl, (R1.out.keepB b7').reads⟩).mono ?_
  rintro e V8 ⟨rfl, b8⟩
  have n2 := bKeeps b8 N2.out
  have R8 := hide (R5.out.keepB b8)
  have b8' := bAll b7' b8
  clear n1 n6 b7' b8 R5
  go_wp2_with (refine wpList_load_row rfl 26 (.tmp 2) rfl h2 rfl _ #[.int .i64 0, .int .i64 3, .int .i64 1, .slice none 0 0, .slice p0 3 d0, .slice none 0 0] (0, 0) _ n2 Try.underlying26 rfl infoMsI ?_)
  refine (cH _ V8 R8.out.reads).mono ?_
  rintro e V9 ⟨rfl, b9⟩
  have b9' := bAll b1' (bAll b8' b9)
  clear cH n2
  go_wp2
  go_ret
  exact ⟨rfl, b9'⟩

end Go.Proofs.Ythdnnmmaalgpaaa

/- Rows of numbers: is one among them, and a copy, by both sides; what holds of all of a list: contracts; no statement of the seat is proved here. -/
namespace Go.Proofs.Ythdnnmmaalgpaaa
open Go.RowKit

theorem all_no {α : Type} {p : α → Bool} {xs : List α} {j : Nat} {x : α} (hj : xs[j]? = some x) (h : p x = false) : xs.all p = false := by
  rw [List.all_eq_false]
  exact ⟨x, List.mem_of_getElem? hj, by simp [h]⟩
theorem all_yes {α : Type} {p : α → Bool} {xs : List α} (h : ∀ j x, j < xs.length → xs[j]? = some x → p x = true) : xs.all p = true := by
  rw [List.all_eq_true]
  intro x hx
  obtain ⟨j, hj⟩ := List.getElem?_of_mem hx
  exact h j x (List.getElem?_eq_some_iff.1 hj).1 hj
theorem ints_at {w : World} {so : Option Addr} {n sc k : Nat} {ys : List Int} {y : Int} (h : RowR w 1 (.slice so n sc) n (ints ys)) (hy : ys[k]? = some y) :
    ∃ b o, so = some ⟨b, o, none⟩ ∧ k < n ∧ ∀ V : World, Below w.heap.size w V → V.cell? ⟨b, o + k, none⟩ = some (.int .i64 y) := by
  obtain ⟨ao, ca, e, -, hl, hc⟩ := h
  injection e with e1 _ e2
  subst e1 e2
  have hk := (List.getElem?_eq_some_iff.1 hy).1
  have hl2 : ys.length = n := by simpa [ints] using hl
  obtain ⟨b, o, e, hc⟩ := hc (by omega)
  refine ⟨b, o, e, by omega, fun V hV => ?_⟩
  have q := hc k (.int .i64 y) (by rw [ints, List.getElem?_map, hy]; rfl)
  exact (hV.cell (p := ⟨b, o + k, none⟩) (World.block_lt_of_cell? w _ q)).trans q

set_option maxRecDepth 100000 in
set_option maxHeartbeats 4000000 in
theorem l22Has_any (v : Value) (ys : List Int) (x : Int) (w : World) (hr : RowR w 1 v ys.length (ints ys)) :
    Calls Try.prog 52 #[v, .int .i64 x] w fun e w' => e = .returned (.bool (decide (x ∈ ys))) ∧ Below w.heap.size w w' := by
  obtain ⟨D, hD⟩ : ∃ D, decide (x ∈ ys) = D := ⟨_, rfl⟩
  rw [hD]
  have HD := hide hD
  obtain ⟨n, hn⟩ : ∃ n, ys.length = n := ⟨_, rfl⟩
  have HN := hide hn
  rw [hn] at hr
  have hn0 : n ≤ 9223372036854775807 := by obtain ⟨_, _, _, h, _⟩ := hr; exact h
  obtain ⟨so, sc, rfl⟩ : ∃ so sc, v = .slice so n sc := by obtain ⟨so, sc, e, -⟩ := hr; exact ⟨so, sc, e⟩
  clear hD hn
  go_enter Try.func52, Try.ntmps52
  go_wp2
  go_loopw [5] (fun i wr => ∃ k : Nat, k ≤ n ∧ i = .int .i64 k ∧ (∀ y ∈ ys.take k, y ≠ x) ∧ Below w.heap.size w wr) (fun i _ => n - (intOf i).toNat)
  case atStart => exact ⟨0, Nat.zero_le _, rfl, by simp, Below.refl _ _⟩
  case round =>
    obtain ⟨k, hk, rfl, hno, hbel⟩ := hrel
    have HNO := hide hno
    clear hno
    by_cases hlt : k < n
    · obtain ⟨y, hy⟩ := getAt ys k (by have := HN.out; omega)
      obtain ⟨b, o, rfl, -, hc⟩ := ints_at hr hy
      have f0 := hc wr hbel
      have HYY := hide hy
      have hi : (k : Int) < (n : Int) := by omega
      clear hr hc hy
      by_cases hyx : y = x
      · have e1 : (y == x) = true := by simpa using hyx
        have ht : Hid (D = true) := by show _ = _; rw [← HD.out, decide_eq_true_eq, ← hyx]; exact List.mem_of_getElem? HYY.out
        clear hyx
        go_wp2
        go_ret
        exact ⟨by rw [ht.out]; rfl, hbel⟩
      · have e1 : (y == x) = false := by simpa using hyx
        have HYX := hide hyx
        clear hyx
        go_wp2
        go_roundw
        case rel =>
          refine ⟨k + 1, by omega, by go_num, fun z hz => ?_, hbel⟩
          have hm := (List.getElem?_eq_some_iff.1 HYY.out).1
          rw [List.take_succ_eq_append_getElem hm, List.mem_append] at hz
          rcases hz with hz | hz
          · exact HNO.out z hz
          · have e := HYY.out
            rw [List.getElem?_eq_getElem hm] at e
            rw [List.mem_singleton.1 hz, Option.some.inj e]
            exact HYX.out
        case measure => simp [intOf]; omega
    · go_wp2
      go_ret
      obtain rfl : k = n := by omega
      refine ⟨?_, hbel⟩
      have hf : D = false := by
        rw [← HD.out, decide_eq_false_iff_not]
        intro hx
        refine HNO.out x ?_ rfl
        rw [List.take_of_length_le (by have := HN.out; omega)]
        exact hx
      rw [hf]
      rfl

set_option maxRecDepth 100000 in
set_option maxHeartbeats 4000000 in
theorem index_any (v : Value) (ys : List Int) (x : Int) (w : World) (hr : RowR w 1 v ys.length (ints ys)) :
    Calls Try.prog 68 #[v, .int .i64 x] w fun e w' => ∃ r : Int, e = .returned (.int .i64 r) ∧ decide (r ≥ 0) = decide (x ∈ ys) ∧ Below w.heap.size w w' := by
  obtain ⟨D, hD⟩ : ∃ D, decide (x ∈ ys) = D := ⟨_, rfl⟩
  rw [hD]
  have HD := hide hD
  obtain ⟨n, hn⟩ : ∃ n, ys.length = n := ⟨_, rfl⟩
  have HN := hide hn
  rw [hn] at hr
  have hn0 : n ≤ 9223372036854775807 := by obtain ⟨_, _, _, h, _⟩ := hr; exact h
  obtain ⟨so, sc, rfl⟩ : ∃ so sc, v = .slice so n sc := by obtain ⟨so, sc, e, -⟩ := hr; exact ⟨so, sc, e⟩
  clear hD hn
  go_enter Try.func68, Try.ntmps68
  go_wp2
  go_loopw [8] (fun i wr => ∃ k : Nat, k ≤ n ∧ i = .int .i64 k ∧ (∀ y ∈ ys.take k, y ≠ x) ∧ Below w.heap.size w wr) (fun i _ => n - (intOf i).toNat)
  case atStart => exact ⟨0, Nat.zero_le _, rfl, by simp, Below.refl _ _⟩
  case round =>
    obtain ⟨k, hk, rfl, hno, hbel⟩ := hrel
    have HNO := hide hno
    clear hno
    by_cases hlt : k < n
    · obtain ⟨y, hy⟩ := getAt ys k (by have := HN.out; omega)
      obtain ⟨b, o, rfl, -, hc⟩ := ints_at hr hy
      have f0 := hc wr hbel
      have HYY := hide hy
      have hi : (k : Int) < (n : Int) := by omega
      clear hr hc hy
      by_cases hyx : x = y
      · have e1 : (x == y) = true := by simpa using hyx
        have ht : Hid (D = true) := by show _ = _; rw [← HD.out, decide_eq_true_eq, hyx]; exact List.mem_of_getElem? HYY.out
        clear hyx
        go_wp2
        go_ret
        exact ⟨(k : Int), rfl, by rw [ht.out]; simp, hbel⟩
      · have e1 : (x == y) = false := by simpa using hyx
        have HYX := hide hyx
        clear hyx
        go_wp2
        go_roundw
        case rel =>
          refine ⟨k + 1, by omega, by go_num, fun z hz => ?_, hbel⟩
          have hm := (List.getElem?_eq_some_iff.1 HYY.out).1
          rw [List.take_succ_eq_append_getElem hm, List.mem_append] at hz
          rcases hz with hz | hz
          · exact HNO.out z hz
          · have e := HYY.out
            rw [List.getElem?_eq_getElem hm] at e
            rw [List.mem_singleton.1 hz, Option.some.inj e]
            exact fun h => HYX.out h.symm
        case measure => simp [intOf]; omega
    · go_wp2
      go_ret
      obtain rfl : k = n := by omega
      refine ⟨-1, rfl, ?_, hbel⟩
      have hf : D = false := by
        rw [← HD.out, decide_eq_false_iff_not]
        intro hx
        refine HNO.out x ?_ rfl
        rw [List.take_of_length_le (by have := HN.out; omega)]
        exact hx
      rw [hf]
      rfl

set_option maxHeartbeats 2000000 in
theorem contains_any (v : Value) (ys : List Int) (x : Int) (w : World) (hr : RowR w 1 v ys.length (ints ys)) :
    Calls Try.prog 67 #[v, .int .i64 x] w fun e w' => e = .returned (.bool (decide (x ∈ ys))) ∧ Below w.heap.size w w' := by
  obtain ⟨D, hD⟩ : ∃ D, decide (x ∈ ys) = D := ⟨_, rfl⟩
  rw [hD]
  have cI := index_any v ys x w hr
  rw [hD] at cI
  clear hD hr
  go_enter Try.func67, Try.ntmps67
  go_wp2_with fail
  refine cI.mono ?_
  rintro e w1 ⟨r, rfl, hr, b1⟩
  go_wp2
  go_ret
  exact ⟨by rw [← hr]; rfl, b1⟩

end Go.Proofs.Ythdnnmmaalgpaaa

/- Whether a disk of the map is ok, by the program: contracts; no statement of the seat is proved here. -/
namespace Go.Proofs.Ythdnnmmaalgpaaa
open Go.RowKit

/-- Whether the range at a place is one, and not ahead of it already. -/
def ackAt (ks : List Int) (j : Nat) : Bool :=
  match ks[j]? with
  | some r => inI r 0 2 && !decide (r ∈ ks.take j)
  | none => true
def acksB (ks : List Int) : Bool := (List.range ks.length).all (ackAt ks)
def frB (d : Dk) : Bool := if d.fr = 0 then (decide (d.cl = 0) && (decide (d.ca = 0) && decide (d.ks.length = 0))) else (inI d.fr 1 2 && (inI d.cl 0 3 && (inI d.ca 1 99999 && (decide (d.ks.length < 3) && acksB d.ks))))
def fitD (nx : Int) (d : Dk) : Bool := inI d.i 1 (nx - 1) && (inI d.z 1 8 && (inI d.ep 1 99999 && frB d))
def ordD (x y : Dk) : Int := cmpI x.i y.i
def fitW (sv : Int) (v : Gc) : Bool := inI v.1 1 99999 && (inI v.2.1 0 (sv - 1) && (inI v.2.2 (-1) (sv - 1) && !decide (v.2.1 = v.2.2)))
def fitE (e : Ec) : Bool := inI e.1 0 3 && (inI e.2.1 1 99999 && (inI e.2.2.1 0 6 && inI e.2.2.2 (-1) 99999))
def ordE (x y : Ec) : Int := cmpI x.1 y.1
def okMs (c : Ms) : Bool := decide (c.ds.length ≤ 4) && (decide (c.vs.length = 3) && (decide (c.es.length ≤ 4) && (inI c.sl 0 60 && (inI c.sv 3 5 && (inI c.nx 1 5 && ((List.range c.ds.length).all (goodAt (fitD c.nx) ordD c.ds) && (c.vs.all (fitW c.sv) && (List.range c.es.length).all (goodAt fitE ordE c.es))))))))

theorem take_row {w : World} {yo : Option Addr} {n yc k : Nat} {ys : List Int} (h : RowR w 1 (.slice yo n yc) n (ints ys)) (hk : k ≤ n) : RowR w 1 (.slice yo k yc) (ys.take k).length (ints (ys.take k)) := by
  obtain ⟨ao, ca, e, hn, hl, hc⟩ := h
  injection e with e1 _ e3
  subst e1 e3
  have hl2 : ys.length = n := by simpa [ints] using hl
  have hkl : (ys.take k).length = k := by rw [List.length_take]; omega
  rw [hkl]
  refine ⟨yo, yc, rfl, by omega, by simp [ints]; omega, fun h0 => ?_⟩
  obtain ⟨b, o, e, hc⟩ := hc (by omega)
  refine ⟨b, o, e, fun j u hj => hc j u ?_⟩
  have hj' : j < k := by have := (List.getElem?_eq_some_iff.1 hj).1; simp [ints] at this; omega
  rw [ints, List.map_take, List.getElem?_take_of_lt hj'] at hj
  exact hj

theorem wrapI (m : Int) (h1 : -9223372036854775808 ≤ m) (h2 : m ≤ 9223372036854775807) : IntKind.i64.wrap m = m := by
  simp [IntKind.wrap, IntKind.bits, IntKind.signed]
  omega

theorem mapIsRange_any (n : Int) (w : World) :
    Calls Try.prog 66 #[.int .i64 n] w fun e w' => e = .returned (.bool (inI n 0 2)) ∧ w' = w := by
  have c := blkWithin_any n 0 2
  obtain ⟨r, hr⟩ : ∃ r, inI n 0 2 = r := ⟨_, rfl⟩
  rw [hr] at c ⊢
  clear hr
  go_enter Try.func66, Try.ntmps66
  go_wp2_with fail
  refine (c w).mono ?_
  rintro e w1 ⟨rfl, rfl⟩
  go_wp2
  go_ret
  exact ⟨rfl, rfl⟩

theorem mapIsCall_any (a b : Int) (w : World) :
    Calls Try.prog 58 #[.int .i64 a, .int .i64 b] w fun e w' => e = .returned (.bool (inI a 0 3 && inI b 1 99999)) ∧ w' = w := by
  have c := blkWithin_any a 0 3
  have c2 := blkWithin_any b 1 99999
  obtain ⟨r, hr⟩ : ∃ r, inI a 0 3 = r := ⟨_, rfl⟩
  obtain ⟨s, hs⟩ : ∃ r, inI b 1 99999 = r := ⟨_, rfl⟩
  rw [hr] at c ⊢
  rw [hs] at c2 ⊢
  clear hr hs
  go_enter Try.func58, Try.ntmps58
  go_wp2_with fail
  refine (c w).mono ?_
  rintro e w1 ⟨rfl, rfl⟩
  cases r
  · go_wp2
    go_ret
    exact ⟨rfl, rfl⟩
  go_wp2_with fail
  refine (c2 _).mono ?_
  rintro e w2 ⟨rfl, rfl⟩
  go_wp2
  go_ret
  exact ⟨rfl, rfl⟩

set_option maxRecDepth 100000 in
set_option maxHeartbeats 8000000 in
theorem acksFit_any (g : Nat) (d : Dk) (yo : Option Addr) (yc : Nat) (w : World) (hg : w.heap[g]? = some (.cells #[.int .i64 d.i, .int .i64 d.z, .int .i64 d.ep, .int .i64 d.fr, .int .i64 d.cl, .int .i64 d.ca, .slice yo d.ks.length yc] 57 (0, 0))) (hcap : d.ks.length ≤ yc) (hr : RowR w 1 (.slice yo d.ks.length yc) d.ks.length (ints d.ks)) :
    Calls Try.prog 63 #[.pointer (some ⟨g, 0, none⟩)] w fun e w' => e = .returned (.bool (decide (d.ks.length < 3) && acksB d.ks)) ∧ Below w.heap.size w w' := by
  obtain ⟨Q, HQ⟩ : ∃ Q, Hid ((decide (d.ks.length < 3) && acksB d.ks) = Q) := ⟨_, rfl⟩
  rw [HQ.out]
  have x6 : w.cell? ⟨g, 6, none⟩ = some (.slice yo d.ks.length yc) := boxAt hg 6
  have G := hide hg
  have hn := (show d.ks.length ≤ 9223372036854775807 by obtain ⟨_, _, _, h, _⟩ := hr; exact h)
  clear hg
  obtain ⟨n, hnn⟩ : ∃ n, d.ks.length = n := ⟨_, rfl⟩
  have HN := hide hnn
  rw [hnn] at x6 hn hr hcap
  clear hnn
  by_cases h3 : n < 3
  case neg =>
    have e3 : decide ((n : Int) ≥ 3) = true := by simp; omega
    have hno : Q = false := by rw [← HQ.out, HN.out]; simp; omega
    go_enter Try.func63, Try.ntmps63
    go_wp2
    go_ret
    exact ⟨by rw [hno]; rfl, Below.refl _ _⟩
  have e3 : decide ((n : Int) ≥ 3) = false := by simp; omega
  go_enter Try.func63, Try.ntmps63
  go_wp2
  go_loopw [3, 4, 16] (fun _ _ i wr => ∃ k : Nat, k ≤ n ∧ i = .int .i64 k ∧ (∀ j, j < k → ackAt d.ks j = true) ∧ Below w.heap.size w wr) (fun _ _ i _ => n - (intOf i).toNat)
  case atStart => exact ⟨0, Nat.zero_le _, rfl, fun j hj => by omega, Below.refl _ _⟩
  case round =>
    obtain ⟨k, hk, rfl, hgood, hbel⟩ := hrel
    have HG := hide hgood
    clear hgood
    by_cases hlt : k < n
    · have hi : (k : Int) < (n : Int) := by omega
      obtain ⟨r, hy⟩ := getAt d.ks k (by have := HN.out; omega)
      obtain ⟨b, o, hyo, -, hc⟩ := ints_at hr hy
      have f0 := hc wr hbel
      have HY := hide hy
      have y6 : wr.cell? ⟨g, 6, none⟩ = some (.slice yo n yc) := by have := boxAt (bKeeps hbel G.out) 6; rw [HN.out] at this; exact this
      subst hyo
      have hkc : (k : Int) ≤ (yc : Int) := by omega
      have cC := contains_any (.slice (some ⟨b, o, none⟩) k yc) (d.ks.take k) r wr ((take_row hr (Nat.le_of_lt hlt)).keep hbel)
      obtain ⟨q, hq⟩ : ∃ q, inI r 0 2 = q := ⟨_, rfl⟩
      obtain ⟨m, hm⟩ : ∃ m, decide (r ∈ d.ks.take k) = m := ⟨_, rfl⟩
      have cR := mapIsRange_any r wr
      have HA : Hid (ackAt d.ks k = (q && !m)) := by show _ = _; simp only [ackAt, HY.out, hq, hm]
      rw [hq] at cR
      rw [hm] at cC
      clear hq hm hc hy x6 hcap
      go_wp2_with fail
      refine cR.mono ?_
      rintro e w1 ⟨rfl, rfl⟩
      cases q with
      | false =>
        have hno : Q = false := by
          rw [← HQ.out, acksB, show (List.range d.ks.length).all (ackAt d.ks) = false from ?_, Bool.and_false]
          rw [List.all_eq_false]
          exact ⟨k, by rw [HN.out]; simpa using hlt, by rw [HA.out]; simp⟩
        go_wp2
        go_ret
        exact ⟨by rw [hno]; rfl, hbel⟩
      | true =>
        go_wp2_with fail
        refine cC.mono ?_
        rintro e w2 ⟨rfl, b2⟩
        have c2 := bAll hbel b2
        clear cC cR f0 y6 b2
        cases m with
        | true =>
          have hno : Q = false := by
            rw [← HQ.out, acksB, show (List.range d.ks.length).all (ackAt d.ks) = false from ?_, Bool.and_false]
            rw [List.all_eq_false]
            exact ⟨k, by rw [HN.out]; simpa using hlt, by rw [HA.out]; simp⟩
          go_wp2
          go_ret
          exact ⟨by rw [hno]; rfl, c2⟩
        | false =>
          go_wp2
          go_roundw
          case rel => exact ⟨k + 1, by omega, by go_num, lt_succ HG.out (by rw [HA.out]; rfl), c2⟩
          case measure => simp [intOf]; omega
    · have hyes : Q = true := by
        rw [← HQ.out, Bool.and_eq_true]
        refine ⟨by rw [HN.out]; simpa using h3, ?_⟩
        rw [acksB, List.all_eq_true]
        exact fun j hj => HG.out j (by have := List.mem_range.1 hj; have := HN.out; omega)
      go_wp2
      go_ret
      exact ⟨by rw [hyes]; rfl, hbel⟩

end Go.Proofs.Ythdnnmmaalgpaaa
