/- A range over an iterator whose second variable lies in a variable of its own each round: one law, off the library's; no statement of the seat is proved here. -/
import Derived.RangeFuncNested
import Derived.RangeFuncBound
import Derived.RangeFuncCalls
import Derived.RangeFuncLeaves
import Derived.Shelf.Abstract
import Derived.OwnWalkIn
import Derived.TacticsInMore
import Derived.LoopNIn
import Derived.LoopIn
import Derived.Test.YtapflnabiobonaaDoorK
namespace Go.Proofs.YtapflnabiobonaaDoor
open Go.RowKit Go.Shelf

/-- The frame of a round: what is handed over laid into its slots, and the pointer to the round's own variable. -/
def roundTmps (ps : Array Tmp) (vs : Array Value) (p : Tmp) (Bx : Nat) (t : Array Value) : Array Value :=
  ((ps.zip vs).foldl (fun t (p, v) => t.setIfInBounds p v) t).setIfInBounds p (.pointer (some ⟨Bx, 0, none⟩))

theorem roundTmps_two (p1 p2 p : Tmp) (v1 v2 : Value) (Bx : Nat) (t : Array Value) : roundTmps #[p1, p2] #[v1, v2] p Bx t = ((t.setIfInBounds p1 v1).setIfInBounds p2 v2).setIfInBounds p (.pointer (some ⟨Bx, 0, none⟩)) := by
  simp [roundTmps]

theorem range_boxed {F : Fence} {n : Nat} {P : Program} {α : Type} {g : Operand} {ps : Array Tmp} {assign body : Code} {Q : Exit → Act → World → Prop} {a : Act} {w : World}
    (hro : F.round = none) (h1 : 1 ≤ n) {gf : Nat} {lb : Array Value} (hg : a.eval g = .func (.func gf) #[] lb) (hFg : F.fn gf) (eg : ∀ args w, (callFunc gf args).run P w = .ok (.enter gf args) w)
    {encs : α → Array Value} {Kp : World → World → Prop} {S Sp : List α → Prop} {N : Nat} {w0 : World} (hseq : SeqStopsK F (n - 1) P gf lb encs Kp S Sp N w0)
    (hKt : ∀ {A B C : World}, Kp A B → Kp B C → Kp A C) (hKb : ∀ (W : World) (l : Nat) (o o' : Obj), w.heap.size ≤ l → W.heap[l]? = some o → o.isCells = false → o.isWalk = false → Kp W (W.putObj l o')) (hb0 : Below w0.heap.size w0 w) (hps : ∀ x, (encs x).size = ps.size)
    (I : List α → World → Prop) (Ix : Code → List α → World → Prop) (hI : OwnFrom w.heap.size I) (hIx : ∀ c, OwnFrom w.heap.size (Ix c)) (h0 : I [] w)
    (hIs : ∀ pre W, I pre W → w.heap.size ≤ W.heap.size) (hKa : ∀ pre W o, I pre W → Kp W (W.alloc o))
    (p : Tmp) (t : TypeId) (cs : α → Array Value)
    (hassign : ∀ (l : Nat) (pre : List α) (x : α) (W : World) (K : Act → World → Prop), I pre W → K { tmps := roundTmps ps (encs x) p W.heap.size a.tmps, defers := [] } (W.alloc (.cells (cs x) t)) →
      assign.wpIn (F.inRound l) (n - 1 - 1) P (Exit.then K (fun _ _ _ => False)) { tmps := (ps.zip (encs x)).foldl (fun t (p, v) => t.setIfInBounds p v) a.tmps, defers := [] } W)
    (hbody : ∀ (l : Nat) (pre : List α) (x : α) (Bx : Nat) (W : World), w.heap.size ≤ l → w.heap.size ≤ Bx → W.heap[Bx]? = some (.cells (cs x) t (0, 0)) → I pre W → pre.length < N →
      body.wpIn (F.inRound l) (n - 1 - 1) P (ownPostG w.heap.size Kp I Ix (pre ++ [x]) W) { tmps := roundTmps ps (encs x) p Bx a.tmps, defers := [] } W)
    (hdone : ∀ (D : Nat) (xs : List α) (W : World), w.heap.size ≤ D → S xs → I xs W → W.heap[D]? = some (.deferred (some [])) → Q .normal { a with defers := { target := .collected D, args := #[] } :: a.defers } W)
    (hstop : ∀ (D : Nat) (c : Code) (pre : List α) (W : World), w.heap.size ≤ D → Sp pre → Ix c pre W → W.heap[D]? = some (.deferred (some [])) → c.wpIn F n P Q { a with defers := { target := .collected D, args := #[] } :: a.defers } W) :
    (Code.rangeFunc g ps assign body).wpIn F n P Q a w := by
  refine wpIn_rangeFunc_ownH hro h1 hg hFg eg hseq (fun h k => hKt h k) hKb hb0 hps I Ix hI hIx h0
    (fun x a' W => ∃ Bx, w.heap.size ≤ Bx ∧ W.heap[Bx]? = some (.cells (cs x) t (0, 0)) ∧ a' = { tmps := roundTmps ps (encs x) p Bx a.tmps, defers := [] }) ?_ ?_ ?_ hdone hstop
  · rintro x a' _ X Y row ⟨Bx, hB, hx, e⟩ hgr hr
    refine ⟨Bx, hB, (hgr.block Bx (heap_lt hx) (fun er => ?_)).trans hx, e⟩
    obtain ⟨_, o, ho, hc⟩ := hr Bx er.symm
    rw [hx] at ho
    obtain rfl := Option.some.inj ho
    simp [Obj.isCells] at hc
  · intro l pre x W K hi hK
    exact hassign l pre x W K hi (hK _ _ ((KeepsOthers.alloc _ _).from _) (hKa pre W _ hi) (hI.alloc _ hi) ⟨W.heap.size, hIs pre W hi, heap_alloc_new W _, rfl⟩)
  · rintro l pre x a' W hl _ hi ⟨Bx, hB, hx, rfl⟩ hN
    exact hbody l pre x Bx W hl hB hx hi hN

theorem own_cells {β : Type} (B g : Nat) (c : β → Array Value) (t : TypeId) : OwnFrom B (fun (s : β) W => W.heap[g]? = some (.cells (c s) t (0, 0))) := by
  intro s W W' row hs hg hr
  refine (hg.block g (heap_lt hs) (fun e => ?_)).trans hs
  obtain ⟨_, o, ho, hc⟩ := hr g e.symm
  rw [hs] at ho
  obtain rfl := Option.some.inj ho
  simp [Obj.isCells] at hc
theorem own_pure {β : Type} (B : Nat) (P : β → Prop) : OwnFrom B (fun (s : β) _ => P s) := fun _ _ _ _ hs _ _ => hs
theorem own_size {β : Type} (B k : Nat) : OwnFrom B (fun (_ : β) W => k ≤ W.heap.size) := fun _ _ _ _ hs hg _ => Nat.le_trans hs hg.size

end Go.Proofs.YtapflnabiobonaaDoor
