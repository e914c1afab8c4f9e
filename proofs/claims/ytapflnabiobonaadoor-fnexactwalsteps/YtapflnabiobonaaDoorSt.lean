/- What a law keeps in hand between its calls: variables of two cells, and disks of its own; no statement of the seat is proved here. -/
import Derived.Test.YtapflnabiobonaaDoorOkLaw
namespace Go.Proofs.YtapflnabiobonaaDoor
open Go.RowKit

/-- A variable that holds a disk. -/
structure Bx where
  at_ : Nat
  x : Value
  y : Value
  t : TypeId
/-- A disk of the law's own. -/
structure Dk where
  v : Value
  S : Nat → Prop
  kept : List ByteArray
  wait : List (Int × ByteArray)

def St (w : World) (bs : List Bx) (ds : List Dk) : Prop :=
  (∀ b ∈ bs, w.heap[b.at_]? = some (.cells #[b.x, b.y] b.t (0, 0))) ∧ ∀ d ∈ ds, DiskO w d.S d.v d.kept d.wait

theorem St.keepB {w w' : World} {bs : List Bx} {ds : List Dk} (h : St w bs ds) (hb : Below w.heap.size w w') : St w' bs ds :=
  ⟨fun b hm => bKeeps hb (h.1 b hm), fun d hm => (h.2 d hm).keepB hb⟩

theorem St.keepU {w w' : World} {bs : List Bx} {ds : List Dk} {T : Nat → Prop} (h : St w bs ds) (hb : Upd T w w') (h1 : ∀ b ∈ bs, ¬ T b.at_) (h2 : ∀ d ∈ ds, ∀ k, d.S k → ¬ T k) : St w' bs ds :=
  ⟨fun b hm => hb.keeps (h.1 b hm) (h1 b hm), fun d hm => (h.2 d hm).keep hb (h2 d hm)⟩

theorem St.box {w : World} {bs : List Bx} {ds : List Dk} (h : St w bs ds) (b : Bx) (hm : b ∈ bs) : w.cell? ⟨b.at_, 0, none⟩ = some b.x ∧ w.cell? ⟨b.at_, 1, none⟩ = some b.y ∧ b.at_ < w.heap.size := box2 (h.1 b hm)

theorem St.addB {w : World} {bs : List Bx} {ds : List Dk} (h : St w bs ds) (x y : Value) (t : TypeId) : St (w.alloc (.cells #[x, y] t)) (⟨w.heap.size, x, y, t⟩ :: bs) ds := by
  have h' := h.keepB ((Below.refl _ _).alloc (Nat.le_refl _) (.cells #[x, y] t))
  refine ⟨fun b hm => ?_, h'.2⟩
  rcases List.mem_cons.1 hm with rfl | hm
  · exact al1_0 w _
  · exact h'.1 b hm

theorem St.addD {w : World} {bs : List Bx} {ds : List Dk} (h : St w bs ds) (d : Dk) (hd : DiskO w d.S d.v d.kept d.wait) : St w bs (d :: ds) := by
  refine ⟨h.1, fun e hm => ?_⟩
  rcases List.mem_cons.1 hm with rfl | hm
  · exact hd
  · exact h.2 e hm

theorem St.dropD {w : World} {bs : List Bx} {ds : List Dk} {d : Dk} (h : St w bs (d :: ds)) : St w bs ds := ⟨h.1, fun e hm => h.2 e (List.mem_cons_of_mem _ hm)⟩

theorem St.drop2 {w : World} {bs : List Bx} {ds : List Dk} {c d : Dk} (h : St w bs (c :: d :: ds)) : St w bs (c :: ds) :=
  ⟨h.1, fun e hm => h.2 e (by rcases List.mem_cons.1 hm with rfl | hm; exact List.mem_cons_self; exact List.mem_cons_of_mem _ (List.mem_cons_of_mem _ hm))⟩

theorem DiskO.within {w : World} {lo : Nat} {v : Value} {kept : List ByteArray} {wait : List (Int × ByteArray)} (h : DiskO w (fun k => lo ≤ k) v kept wait) (hi : Nat) (he : hi = w.heap.size) : DiskO w (fun k => lo ≤ k ∧ k < hi) v kept wait := by
  subst he
  exact h.upto

end Go.Proofs.YtapflnabiobonaaDoor
