/- Contracts and plain facts that the claims of this seat lean on (texts As, As2, As3, Cut, WOpenP, Laid, Said, WBuild, Step); no statement of the seat is proved here. -/
import Derived.Test.YtapflnabiobonaaDoorProg
import Derived.WalkKit
import Derived.LaidEql
import Derived.Stop.Asserts
import Derived.RowKitTokens
import Derived.Test.YtapflnabiobonaaDoorPk1
import Derived.Test.YtapflnabiobonaaDoorPk3
import Derived.Test.YtapflnabiobonaaDoorPk4
import Derived.Test.YtapflnabiobonaaDoorRows
import Derived.ChangeVars
import Derived.LaidLaws
import Derived.LaidHandle

/- errors.As at the program's own fault: nil, or a fault: contracts, after the guide's worked pattern; no statement of the seat is proved here. -/
namespace Go.Proofs.YtapflnabiobonaaDoor
open Go.RowKit Go.Extern.Stop Go.Stop Go.Extern

/-- errors.As of no error. -/
theorem as_nil (t : Value) (w : World) :
    Calls Tryd.prog 71 #[.nilIface, t] w fun e w' => e = .returned (.bool false) ∧ w' = w := by
  go_enter Tryd.func71, Tryd.ntmps71
  go_wp2
  go_ret
  exact ⟨rfl, rfl⟩

theorem as_valueOfP (t : Addr) (w : World) : (ReflectliteValue.unpack (.iface 113 (.pointer (some t)))).run Tryd.prog w
    = .ok (.agg #[.pointer (some ⟨1, 113, none⟩), .pointer (some ⟨w.heap.size, 0, none⟩), .int .u64 150]) (w.alloc (.cells #[.pointer (some t)] 113)) := by kernel_rfl
theorem as_valueOfE (a : Int) (w : World) : (ReflectliteValue.unpack (.iface 104 (.agg #[.int .i64 a]))).run Tryd.prog w
    = .ok (.agg #[.pointer (some ⟨1, 104, none⟩), .pointer (some ⟨w.heap.size, 0, none⟩), .int .u64 153]) (w.alloc (.cells #[.int .i64 a] 104)) := by kernel_rfl
theorem as_typeP (a : Addr) (w : World) : (ReflectliteValue.methodAny (ReflectliteValue.valueError "reflectlite.Value.Type" 0) (fun t _ _ _ => ReflectliteType.toType t) #[.agg #[.pointer (some ⟨1, 113, none⟩), .pointer (some a), .int .u64 150]]).run Tryd.prog w
    = .ok (.iface 154 (.agg #[.pointer (some ⟨1, 113, none⟩)])) w := by kernel_rfl
theorem as_kindP (w : World) : ((ReflectliteType.abiMethod fun t => (fun a : Nat => Value.int IntKind.u8 (a : Int)) <$> Rtype.kind t) #[.pointer (some ⟨1, 113, none⟩)]).run Tryd.prog w = .ok (.int .u8 22) w := by kernel_rfl
theorem as_kindE (w : World) : ((ReflectliteType.abiMethod fun t => (fun a : Nat => Value.int IntKind.u8 (a : Int)) <$> Rtype.kind t) #[.pointer (some ⟨1, 104, none⟩)]).run Tryd.prog w = .ok (.int .u8 25) w := by kernel_rfl
theorem as_partsP (a : Addr) (w : World) : (ReflectliteValue.parts (.agg #[.pointer (some ⟨1, 113, none⟩), .pointer (some a), .int .u64 150])).run Tryd.prog w = .ok (some (113, a, 150)) w := by kernel_rfl
theorem as_elemT (w : World) : (ReflectliteType.method ReflectliteType.elem #[.agg #[.pointer (some ⟨1, 113, none⟩)]]).run Tryd.prog w = .ok (.iface 154 (.agg #[.pointer (some ⟨1, 104, none⟩)])) w := by kernel_rfl
theorem as_implements (w : World) : (ReflectliteType.relation "Implements" ReflectliteType.implements_ #[.agg #[.pointer (some ⟨1, 104, none⟩)], .iface 154 (.agg #[.pointer (some ⟨1, 111, none⟩)])]).run Tryd.prog w = .ok (.bool true) w := by kernel_rfl
theorem as_typeOfE (v : Value) (w : World) : (ReflectliteType.typeOf #[.iface 104 v]).run Tryd.prog w = .ok (.iface 154 (.agg #[.pointer (some ⟨1, 104, none⟩)])) w := by kernel_rfl
theorem as_assignable (w : World) : (ReflectliteType.relation "AssignableTo" ReflectliteType.assignableTo #[.agg #[.pointer (some ⟨1, 104, none⟩)], .iface 154 (.agg #[.pointer (some ⟨1, 104, none⟩)])]).run Tryd.prog w = .ok (.bool true) w := by kernel_rfl
theorem as_elemOf (w : World) : (Rtype.elem? 113).run Tryd.prog w = .ok (some 104) w := by kernel_rfl
theorem as_mkE (p : Addr) (w : World) : (ReflectliteValue.mk 104 p ReflectliteValue.flagAddr).run Tryd.prog w = .ok (.agg #[.pointer (some ⟨1, 104, none⟩), .pointer (some p), .int .u64 409]) w := by kernel_rfl
theorem as_partsEa (a : Addr) (w : World) : (ReflectliteValue.parts (.agg #[.pointer (some ⟨1, 104, none⟩), .pointer (some a), .int .u64 409])).run Tryd.prog w = .ok (some (104, a, 409)) w := by kernel_rfl
theorem as_partsE (a : Addr) (w : World) : (ReflectliteValue.parts (.agg #[.pointer (some ⟨1, 104, none⟩), .pointer (some a), .int .u64 153])).run Tryd.prog w = .ok (some (104, a, 153)) w := by kernel_rfl
theorem as_direct (w : World) : (Rtype.directlyAssignable 104 104).run Tryd.prog w = .ok true w := by kernel_rfl

end Go.Proofs.YtapflnabiobonaaDoor

/- errors.As at the program's own fault: a contract, after the guide's worked pattern; no statement of the seat is proved here. -/
namespace Go.Proofs.YtapflnabiobonaaDoor
open Go.RowKit Go.Extern.Stop Go.Stop Go.Extern

theorem as_rlm (z : Sem Value) (f : TypeId → Addr → Nat → Nat → Sem Value) (v : Value) :
    ReflectliteValue.method z f #[v] = (do match ← ReflectliteValue.parts v with | none => z | some (t, a, fl) => f t a fl (fl % 32)) := rfl
theorem as_isNil (a p : Addr) (W : World) (ha : W.cell? a = some (.pointer (some p))) :
    (ReflectliteValue.method (ReflectliteValue.valueError "reflectlite.Value.IsNil" 0) ReflectliteValue.isNil #[.agg #[.pointer (some ⟨1, 113, none⟩), .pointer (some a), .int .u64 150]]).run Tryd.prog W = .ok (.bool false) W := by
  rw [as_rlm]
  simp only [Sem.run_bind, as_partsP, Result.andThen]
  simp [ReflectliteValue.isNil, loadVar, isAgg, underlying, Tryd.underlying113, ha, Result.andThen]
theorem as_elemV (a p : Addr) (W : World) (ha : W.cell? a = some (.pointer (some p))) :
    (ReflectliteValue.method (ReflectliteValue.valueError "reflectlite.Value.Elem" 0) ReflectliteValue.elem #[.agg #[.pointer (some ⟨1, 113, none⟩), .pointer (some a), .int .u64 150]]).run Tryd.prog W
      = .ok (.agg #[.pointer (some ⟨1, 104, none⟩), .pointer (some p), .int .u64 409]) W := by
  rw [as_rlm]
  simp only [Sem.run_bind, as_partsP, Result.andThen]
  simp [ReflectliteValue.elem, loadVar, isAgg, underlying, Tryd.underlying113, ha, Result.andThen, as_elemOf, as_mkE]
theorem as_set (b ta : Addr) (n : Int) (old : Value) (W : World) (hb : W.cell? b = some (.int .i64 n)) (ht : W.cell? ta = some old) (hf : W.frozen? ta = false) :
    (ReflectliteValue.set #[.agg #[.pointer (some ⟨1, 104, none⟩), .pointer (some ta), .int .u64 409], .agg #[.pointer (some ⟨1, 104, none⟩), .pointer (some b), .int .u64 153]]).run Tryd.prog W
      = .ok (.tuple #[]) (W.setCell ta (.int .i64 n)) := by
  change Sem.run _ (Bind.bind (ReflectliteValue.parts (.agg #[.pointer (some ⟨1, 104, none⟩), .pointer (some ta), .int .u64 409])) (fun p => Bind.bind (ReflectliteValue.parts (.agg #[.pointer (some ⟨1, 104, none⟩), .pointer (some b), .int .u64 153])) (_ : _ → _))) _ = _
  simp only [Sem.run_bind, as_partsEa, as_partsE, Result.andThen]
  simp [ReflectliteValue.flagAddr, loadVar, isAgg, underlying, Tryd.underlying104, hb, Result.andThen, as_direct, storeVar, Value.cells, storeCells, loadCells, loadCellsFrom, Addr.add]
  rw [run_store Tryd.prog W ta _ _ (by rfl)]
  simp [ht, hf]

end Go.Proofs.YtapflnabiobonaaDoor

/- errors.As at the program's own fault: a contract, after the guide's worked pattern; no statement of the seat is proved here. -/
namespace Go.Proofs.YtapflnabiobonaaDoor
open Go.RowKit Go.Extern.Stop Go.Stop Go.Extern

theorem as_mKind (h : Value) (w : World) : (Go.method 298 154 (.agg #[h]) "Kind").run Tryd.prog w = .ok (120, h) w := by kernel_rfl
theorem as_mElem (h : Value) (w : World) : (Go.method 298 154 (.agg #[h]) "Elem").run Tryd.prog w = .ok (130, .agg #[h]) w := by kernel_rfl
theorem as_mImplements (h : Value) (w : World) : (Go.method 298 154 (.agg #[h]) "Implements").run Tryd.prog w = .ok (131, .agg #[h]) w := by kernel_rfl
theorem as_mAssignableTo (h : Value) (w : World) : (Go.method 298 154 (.agg #[h]) "AssignableTo").run Tryd.prog w = .ok (128, .agg #[h]) w := by kernel_rfl

set_option maxRecDepth 100000 in
set_option maxHeartbeats 4000000 in
theorem as_hit (n : Int) (t : Addr) (old : Value) (w : World) (hg : w.cell? ⟨0, 0, none⟩ = some (.iface 154 (.agg #[.pointer (some ⟨1, 111, none⟩)]))) (ht0 : w.cell? t = some old) (hf0 : w.frozen? t = false) :
    Calls Tryd.prog 71 #[.iface 104 (.agg #[.int .i64 n]), .iface 113 (.pointer (some t))] w fun ev w' => ev = .returned (.bool true) ∧ w' = ((((w.alloc (.cells #[.pointer (some t)] 113)).alloc (.cells #[.pointer (some ⟨1, 113, none⟩), .pointer (some ⟨w.heap.size, 0, none⟩), .int .u64 150] 138)).alloc (.cells #[.pointer (some ⟨1, 113, none⟩), .pointer (some ⟨w.heap.size, 0, none⟩), .int .u64 150] 138)).alloc (.cells #[.int .i64 n] 104)).setCell t (.int .i64 n) := by
  have h6 := @run_callFunc_extern Tryd.prog 91 _ (fun args => ReflectliteValue.unpack (args.getD 0 (.tuple #[]))) Tryd.func91 (by kernel_rfl) (by kernel_rfl) (by kernel_rfl) (by kernel_rfl)
  have h7 := @run_callFunc_extern Tryd.prog 92 _ (ReflectliteValue.methodAny (ReflectliteValue.valueError "reflectlite.Value.Type" 0) (fun t _ _ _ => ReflectliteType.toType t)) Tryd.func92 (by kernel_rfl) (by kernel_rfl) (by kernel_rfl) (by kernel_rfl)
  have h8 := @run_callFunc_extern Tryd.prog 93 _ (ReflectliteValue.method (ReflectliteValue.valueError "reflectlite.Value.IsNil" 0) ReflectliteValue.isNil) Tryd.func93 (by kernel_rfl) (by kernel_rfl) (by kernel_rfl) (by kernel_rfl)
  have h27 := @run_callFunc_extern Tryd.prog 120 _ (ReflectliteType.abiMethod fun t => do pure (.int .u8 (← Rtype.kind t))) Tryd.func120 (by kernel_rfl) (by kernel_rfl) (by kernel_rfl) (by kernel_rfl)
  have h37 := @run_callFunc_extern Tryd.prog 130 _ (ReflectliteType.method ReflectliteType.elem) Tryd.func130 (by kernel_rfl) (by kernel_rfl) (by kernel_rfl) (by kernel_rfl)
  have h38 := @run_callFunc_extern Tryd.prog 131 _ (ReflectliteType.relation "Implements" ReflectliteType.implements_) Tryd.func131 (by kernel_rfl) (by kernel_rfl) (by kernel_rfl) (by kernel_rfl)
  have h10 := @run_callFunc_extern Tryd.prog 101 _ ReflectliteType.typeOf Tryd.func101 (by kernel_rfl) (by kernel_rfl) (by kernel_rfl) (by kernel_rfl)
  have h35 := @run_callFunc_extern Tryd.prog 128 _ (ReflectliteType.relation "AssignableTo" ReflectliteType.assignableTo) Tryd.func128 (by kernel_rfl) (by kernel_rfl) (by kernel_rfl) (by kernel_rfl)
  have h11 := @run_callFunc_extern Tryd.prog 102 _ (ReflectliteValue.method (ReflectliteValue.valueError "reflectlite.Value.Elem" 0) ReflectliteValue.elem) Tryd.func102 (by kernel_rfl) (by kernel_rfl) (by kernel_rfl) (by kernel_rfl)
  have h12 := @run_callFunc_extern Tryd.prog 103 _ ReflectliteValue.set Tryd.func103 (by kernel_rfl) (by kernel_rfl) (by kernel_rfl) (by kernel_rfl)
  have mK := as_mKind
  have mE := as_mElem
  have mI := as_mImplements
  have mA := as_mAssignableTo
  have tO := as_typeOfE
  have a25 := as_assignable
  have v25 := as_valueOfE
  have f6 := as_valueOfP
  have f7 := as_typeP
  have k27 := as_kindP
  have k25 := as_kindE
  have e27 := as_elemT
  have i25 := as_implements
  have n8 := as_isNil ⟨w.heap.size, 0, none⟩ t ((w.alloc (.cells #[.pointer (some t)] 113)).alloc (.cells #[.pointer (some ⟨1, 113, none⟩), .pointer (some ⟨w.heap.size, 0, none⟩), .int .u64 150] 138)) (by simp)
  have hlt : 0 < w.heap.size := by
    rcases Nat.eq_zero_or_pos w.heap.size with h0 | h
    · simp [World.cell?, h0] at hg
    · exact h
  have hg2 : ((w.alloc (.cells #[.pointer (some t)] 113)).alloc (.cells #[.pointer (some ⟨1, 113, none⟩), .pointer (some ⟨w.heap.size, 0, none⟩), .int .u64 150] 138)).cell? ⟨0, 0, none⟩ = some (.iface 154 (.agg #[.pointer (some ⟨1, 111, none⟩)])) := by
    rw [World.cell?_alloc_lt _ _ ⟨0, 0, none⟩ (by simp), World.cell?_alloc_lt _ _ ⟨0, 0, none⟩ hlt]; exact hg
  have htl : t.block < w.heap.size := by
    rcases Nat.lt_or_ge t.block w.heap.size with h | h
    · exact h
    · simp [World.cell?, Array.getElem?_eq_none h] at ht0
  have el := as_elemV ⟨w.heap.size, 0, none⟩ t (((w.alloc (.cells #[.pointer (some t)] 113)).alloc (.cells #[.pointer (some ⟨1, 113, none⟩), .pointer (some ⟨w.heap.size, 0, none⟩), .int .u64 150] 138)).alloc (.cells #[.pointer (some ⟨1, 113, none⟩), .pointer (some ⟨w.heap.size, 0, none⟩), .int .u64 150] 138)) (by rw [World.cell?_alloc_lt _ _ ⟨w.heap.size, 0, none⟩ (by simp; omega)]; simp)
  have st := as_set ⟨w.heap.size + 1 + 1 + 1, 0, none⟩ t n old ((((w.alloc (.cells #[.pointer (some t)] 113)).alloc (.cells #[.pointer (some ⟨1, 113, none⟩), .pointer (some ⟨w.heap.size, 0, none⟩), .int .u64 150] 138)).alloc (.cells #[.pointer (some ⟨1, 113, none⟩), .pointer (some ⟨w.heap.size, 0, none⟩), .int .u64 150] 138)).alloc (.cells #[.int .i64 n] 104))
    (by rw [World.cell?_alloc_at _ _ _ _ (by simp)]; rfl)
    (by rw [World.cell?_alloc_lt _ _ t (by simp; omega), World.cell?_alloc_lt _ _ t (by simp; omega), World.cell?_alloc_lt _ _ t (by simp; omega), World.cell?_alloc_lt _ _ t htl]; exact ht0)
    (by rw [World.frozen?_alloc_old _ _ t (by simp; omega), World.frozen?_alloc_old _ _ t (by simp; omega), World.frozen?_alloc_old _ _ t (by simp; omega), World.frozen?_alloc_old _ _ t (Nat.ne_of_lt htl)]; exact hf0)
  go_enter Tryd.func71, Tryd.ntmps71
  go_wp2
  refine wp_loop_rounds 1 ?_
  rw [rounds_succ]
  go_wp2
  go_ret
  exact ⟨rfl, rfl⟩

end Go.Proofs.YtapflnabiobonaaDoor

/- What SecCut of the program does: contracts; no statement of the seat is proved here. -/
namespace Go.Proofs.YtapflnabiobonaaDoor
open Go.RowKit Go.Shelf

attribute [local go_sem] Oper.semAt_some

theorem range_boxed2 {F : Fence} {n : Nat} {P : Program} {α : Type} {g : Operand} {ps : Array Tmp} {assign body : Code} {Q : Exit → Act → World → Prop} {a : Act} {w : World}
    (hro : F.round = none) (h1 : 1 ≤ n) {gf : Nat} {lb : Array Value} (hg : a.eval g = .func (.func gf) #[] lb) (hFg : F.fn gf) (eg : ∀ args w, (callFunc gf args).run P w = .ok (.enter gf args) w)
    {encs : α → Array Value} {Kp : World → World → Prop} {S Sp : List α → Prop} {N : Nat} {w0 : World} (hseq : SeqStopsK F (n - 1) P gf lb encs Kp S Sp N w0)
    (hKt : ∀ {A B C : World}, Kp A B → Kp B C → Kp A C) (hKb : ∀ (W : World) (l : Nat) (o o' : Obj), w.heap.size ≤ l → W.heap[l]? = some o → o.isCells = false → o.isWalk = false → Kp W (W.putObj l o')) (hb0 : Below w0.heap.size w0 w) (hps : ∀ x, (encs x).size = ps.size)
    (I : List α → World → Prop) (Ix : Code → List α → World → Prop) (hI : OwnFrom w.heap.size I) (hIx : ∀ c, OwnFrom w.heap.size (Ix c)) (h0 : I [] w)
    (hIs : ∀ pre W, I pre W → w.heap.size ≤ W.heap.size) (hKa : ∀ pre W o, I pre W → Kp W (W.alloc o))
    (fr : α → Nat → Array Value → Array Value) (t : TypeId) (cs : α → Array Value)
    (hassign : ∀ (l : Nat) (pre : List α) (x : α) (W : World) (K : Act → World → Prop), I pre W → K { tmps := fr x W.heap.size a.tmps, defers := [] } (W.alloc (.cells (cs x) t)) →
      assign.wpIn (F.inRound l) (n - 1 - 1) P (Exit.then K (fun _ _ _ => False)) { tmps := (ps.zip (encs x)).foldl (fun t (p, v) => t.setIfInBounds p v) a.tmps, defers := [] } W)
    (hbody : ∀ (l : Nat) (pre : List α) (x : α) (Bx : Nat) (W : World), w.heap.size ≤ l → w.heap.size ≤ Bx → W.heap[Bx]? = some (.cells (cs x) t (0, 0)) → I pre W → pre.length < N →
      body.wpIn (F.inRound l) (n - 1 - 1) P (ownPostG w.heap.size Kp I Ix (pre ++ [x]) W) { tmps := fr x Bx a.tmps, defers := [] } W)
    (hdone : ∀ (D : Nat) (xs : List α) (W : World), w.heap.size ≤ D → S xs → I xs W → W.heap[D]? = some (.deferred (some [])) → Q .normal { a with defers := { target := .collected D, args := #[] } :: a.defers } W)
    (hstop : ∀ (D : Nat) (c : Code) (pre : List α) (W : World), w.heap.size ≤ D → Sp pre → Ix c pre W → W.heap[D]? = some (.deferred (some [])) → c.wpIn F n P Q { a with defers := { target := .collected D, args := #[] } :: a.defers } W) :
    (Code.rangeFunc g ps assign body).wpIn F n P Q a w := by
  refine wpIn_rangeFunc_ownH hro h1 hg hFg eg hseq (fun h k => hKt h k) hKb hb0 hps I Ix hI hIx h0
    (fun x a' W => ∃ Bx, w.heap.size ≤ Bx ∧ W.heap[Bx]? = some (.cells (cs x) t (0, 0)) ∧ a' = { tmps := fr x Bx a.tmps, defers := [] }) ?_ ?_ ?_ hdone hstop
  · rintro x a' _ X Y row ⟨Bx, hB, hx, e⟩ hgr hr
    refine ⟨Bx, hB, (hgr.block Bx (heap_lt hx) (fun er => ?_)).trans hx, e⟩
    obtain ⟨_, o, ho, hc⟩ := hr Bx er.symm
    rw [hx] at ho
    obtain rfl := Option.some.inj ho
    simp [Obj.isCells] at hc
  · intro l pre x W K hi hK
    exact hassign l pre x W K hi (hK _ _ ((KeepsOthers.alloc _ _).from _) (hKa pre W _ hi) (hI.alloc _ hi) ⟨W.heap.size, hIs pre W hi, heap_alloc_new W _, rfl⟩)
  · rintro l pre x a' W hl _ hi ⟨Bx, hB, hx, rfl⟩ hN
    exact hbody l pre x Bx W hl hB hx hi hN

/-- The frame of a round of cut: what is handed over, the place, and the pointer to the round's own write. -/
def cutTmps (x : Nat) (v : Value) (Bx : Nat) (t : Array Value) : Array Value :=
  (((t.setIfInBounds 11 (.int .i64 x)).setIfInBounds 12 v).setIfInBounds 4 (.int .i64 x)).setIfInBounds 5 (.pointer (some ⟨Bx, 0, none⟩))

theorem cutL_len (kept : List ByteArray) (wait : List (Int × ByteArray)) (ks : List Int) : (cutL kept wait ks).length = kept.length := flushL_len _ _

set_option maxRecDepth 100000 in
set_option maxHeartbeats 4000000 in
theorem cut_in (kept : List ByteArray) (wait : List (Int × ByteArray)) (ks : List Int) (ko : Option Addr) (kc : Nat) (S T : Nat → Prop) (B : Nat) (no mo : Option Addr) (cn cm : Nat) (w : World)
    (hbox : w.heap[B]? = some (.cells #[.slice no kept.length cn, .slice mo wait.length cm] 94 (0, 0)))
    (hrow : Row w 9 1 S (.slice no kept.length cn) kept.length (kept.map Value.string)) (hwait : Row w 63 2 T (.slice mo wait.length cm) wait.length (wcells wait))
    (hks : RowR w 1 (.slice ko ks.length kc) ks.length (ks.map (Value.int .i64))) (hSk : ∀ b off, 0 < ks.length → ko = some ⟨b, off, none⟩ → ¬ S b)
    (hST : ∀ k, T k → ¬ S k) (hSB : ¬ S B) (hSw : ∀ k, S k → k < w.heap.size) (hok : okB kept wait = true) :
    CallsIn Fence.wide 9 Tryd.prog 61 #[.pointer (some ⟨B, 0, none⟩), .slice ko ks.length kc] w fun e w' => e = .returned (.tuple #[]) ∧
      w'.heap[B]? = some (.cells #[.slice no kept.length cn, .slice none 0 0] 94 (0, 0)) ∧ Row w' 9 1 S (.slice no kept.length cn) kept.length ((cutL kept wait ks).map Value.string) ∧ Upd (fun k => S k ∨ k = B) w w' := by
  obtain ⟨hp1, hp2, -, hp4⟩ := okB_parts hok
  have P4 := hide hp4
  clear hp4
  have hBl := heap_lt hbox
  have HKS := hide hks
  have HSk := hide hSk
  clear hks hSk
  obtain ⟨W1, hW1⟩ : ∃ W1, W1 = (w.alloc (.cells #[.pointer (some ⟨B, 0, none⟩)] 123)).alloc (.cells #[.slice ko ks.length kc] 90) := ⟨_, rfl⟩
  have al1 : Below w.heap.size w W1 := by rw [hW1]; exact ((Below.refl _ _).alloc (Nat.le_refl _) _).alloc (by simp) _
  have hz1 : W1.heap.size = w.heap.size + 2 := by rw [hW1]; simp
  have hptr : W1.heap[w.heap.size]? = some (.cells #[.pointer (some ⟨B, 0, none⟩)] 123 (0, 0)) := by rw [hW1]; exact al2_0 w _ _
  have hkb : W1.heap[w.heap.size + 1]? = some (.cells #[.slice ko ks.length kc] 90 (0, 0)) := by rw [hW1]; exact al2_1 w _ _
  have c0 : W1.cell? ⟨w.heap.size, 0, none⟩ = some (.pointer (some ⟨B, 0, none⟩)) := (cell_of_row W1 _ 0 _ _ (0, 0) hptr).trans rfl
  have Hkb := hide hkb
  clear hkb
  obtain ⟨p0, p1, pl⟩ := box2 hbox
  have hrow1 := hrow.keepB al1
  have hwait1 := hwait.keepB al1
  have hbox1 := bKeeps al1 hbox
  have Hptr := hide hptr
  have Hbox1 := hide hbox1
  clear hbox hrow hwait hptr hbox1
  refine callsIn_of_wp_marks Tryd.func61 rfl trivial ?_ rfl
  simp only [ Tryd.ntmps61, List.size_toArray, List.length_cons, List.length_nil, Nat.reduceAdd, Nat.reduceSub, Array.replicate_succ, Array.replicate_zero, List.push_toArray, List.append_toArray, List.nil_append, List.cons_append]
  gi_wp2_with fail
  refine ⟨trivial, ?_⟩
  refine (told_in Fence.wide 8 trivial rfl mo wait.length cm _).mono ?_
  rintro e w' ⟨rfl, rfl⟩
  rw [← hW1]
  clear hW1 p0 p1 pl c0
  obtain ⟨mo', cm', e2, hn2, -, q2⟩ := hwait1.reads
  simp only [Value.slice.injEq, true_and] at e2
  obtain ⟨rfl, rfl⟩ := e2
  obtain ⟨b, off, hbl, hbo, hao, hcs⟩ := told_prep wait mo (.cells #[.slice mo wait.length cm] 92) (Below.refl _ W1) q2
  have hSb : ¬ S b := by
    rcases hbo with ⟨h0, h⟩ | h
    · obtain ⟨_, _, e3, _, _, h3⟩ := hwait1
      obtain ⟨g, _, e4, hT, _, _⟩ := h3 h0
      simp only [Value.slice.injEq] at e3
      have := (hao h0).2
      rw [e3.1, e4] at this
      simp at this
      rw [← this.1]
      exact hST g hT
    · intro hb
      have := hSw b hb
      omega
  clear hbo q2
  obtain ⟨W0, hW0⟩ : ∃ W0, W0 = W1.alloc (.cells #[.slice mo wait.length cm] 92) := ⟨_, rfl⟩
  have al2 : Below W1.heap.size W1 W0 := by rw [hW0]; exact (Below.refl _ _).alloc (Nat.le_refl _) _
  have hz2 : W0.heap.size = w.heap.size + 3 := by rw [hW0]; simp [hz1]
  have hBs : W0.heap[W1.heap.size]? = some (.cells #[.slice mo wait.length cm] 92 (0, 0)) := by rw [hW0]; exact al1_0 W1 _
  rw [← hW0] at hbl hcs ⊢
  clear hW0
  have Hcs := hide hcs
  have Hao := hide (fun h => (hao h).2)
  clear hcs hao
  rw [hz1] at hBs
  gi_wp2_with fail
  refine range_boxed2 rfl (by omega) (gf := 100) (lb := #[.pointer (some ⟨w.heap.size + 2, 0, none⟩)]) rfl trivial (enters_of Tryd.func100 (by kernel_rfl) rfl)
    (told_stops Fence.wide (9 - 1) trivial rfl (by omega) (w.heap.size + 2) b off cm mo wait W0 hn2 Hao.out hBs Hcs.out) kpB_t (kpB_b hbl) (Below.refl _ _) (fun _ => rfl)
    (fun pre W => (Row W 9 1 S (.slice no kept.length cn) kept.length ((flushL kept (selL wait ks pre)).map Value.string) ∧ ((W.heap[w.heap.size]? = some (.cells #[.pointer (some ⟨B, 0, none⟩)] 123 (0, 0)) ∧ W.heap[w.heap.size + 1]? = some (.cells #[.slice ko ks.length kc] 90 (0, 0))) ∧ W.heap[B]? = some (.cells #[.slice no kept.length cn, .slice mo wait.length cm] 94 (0, 0)))) ∧ (Upd S w W ∧ W0.heap.size ≤ W.heap.size))
    (fun _ _ _ => False)
    ?hI ?hIx ?h0 ?hIs ?hKa (fun x Bx t => cutTmps x (.agg #[.int .i64 (wAt wait x).1, .string (wAt wait x).2]) Bx t) 63 (fun x => #[.int .i64 (wAt wait x).1, .string (wAt wait x).2]) ?assign ?body ?done ?stop
  case hI => exact OwnFrom.and (OwnFrom.and (own_row _ _ _ _ _ _ _) (OwnFrom.and (OwnFrom.and (own_cells _ _ (fun _ => _) _) (own_cells _ _ (fun _ => _) _)) (own_cells _ _ (fun _ => _) _))) (OwnFrom.and (own_upd (by omega)) (own_size _ _))
  case hIx => exact fun c => own_pure _ _
  case h0 => exact ⟨⟨by simpa [flushL, selL] using hrow1.keepB al2, ⟨bKeeps al2 Hptr.out, bKeeps al2 Hkb.out⟩, bKeeps al2 Hbox1.out⟩, (Upd.ofBelow al1).trans (Upd.ofBelow al2), Nat.le_refl _⟩
  case hIs => exact fun pre W h => h.2.2
  case hKa => exact fun pre W o h => Below.heap_alloc W o b (by have := h.2.2; omega)
  case assign =>
    intro l pre x W K hi hK
    obtain ⟨a, s, hx⟩ : ∃ a s, wAt wait x = (a, s) := ⟨_, _, rfl⟩
    rw [wEnc_eq hx]
    simp only [hx] at hK
    unfold cutTmps at hK
    clear hi hBs
    gi_wp2
    exact hK
  case body =>
    rintro l pre x Bx W hl hBx hxb ⟨⟨hrw, ⟨hpt, hkp⟩, hbx⟩, hup, hsW⟩ hN
    obtain ⟨a, s, hx⟩ : ∃ a s, wAt wait x = (a, s) := ⟨_, _, rfl⟩
    have hab : 0 ≤ a ∧ a < kept.length := by
      obtain ⟨y, hy⟩ := getAt wait 0 (by omega)
      have h1 := P4.out y (List.mem_of_getElem? hy)
      cases hxx : wait[x]? with
      | none =>
        simp only [wAt, hxx, Option.getD_none, Prod.mk.injEq] at hx
        omega
      | some z =>
        have h2 := P4.out z (List.mem_of_getElem? hxx)
        simp only [wAt, hxx, Option.getD_some] at hx
        rw [hx] at h2
        exact ⟨h2.1, h2.2.1⟩
    simp only [hx] at hxb ⊢
    unfold cutTmps
    obtain ⟨i, rfl⟩ := Int.eq_ofNat_of_zero_le hab.1
    have hin : i < kept.length := by omega
    clear hab
    obtain ⟨x0, x1, xl⟩ := box2 hxb
    have r0 : W.cell? ⟨w.heap.size, 0, none⟩ = some (.pointer (some ⟨B, 0, none⟩)) := (cell_of_row W _ 0 _ _ (0, 0) hpt).trans rfl
    have r1 : W.cell? ⟨w.heap.size + 1, 0, none⟩ = some (.slice ko ks.length kc) := (cell_of_row W _ 0 _ _ (0, 0) hkp).trans rfl
    have Hrw := hide hrw
    have Hpt := hide hpt
    have Hkp := hide hkp
    have Hbx := hide hbx
    have Hx := hide hx
    have Hst := hide (store_any S B no kept.length cn i (.slice mo wait.length cm) _ s W.drew (show W.drew.heap[B]? = _ from hbx) (hrw.keepB ((Below.refl _ _).drew)) hin)
    clear hrw hpt hkp hbx hxb hx hBs
    have hd : 1 ≤ 9 - 1 - 1 := by omega
    have hmx : Tryd.prog.follows .mixedOrders = true := by kernel_rfl
    by_cases hkl : x < ks.length
    · have hi2 : (x : Int) < (ks.length : Int) := by omega
      obtain ⟨kb, koff, kcap, u, ev, hkbl, hu, hcu⟩ := RowR.ptr HKS.out x hkl
      have hSkb : ¬ S kb := by
        simp only [Value.slice.injEq, true_and] at ev
        exact HSk.out kb koff (by omega) ev.1
      simp only [Value.slice.injEq, true_and] at ev
      obtain ⟨rfl, rfl⟩ := ev
      obtain ⟨q, hq⟩ := getAt ks x hkl
      obtain rfl : u = .int .i64 q := by simpa [hq] using hu.symm
      have fq : W.cell? ⟨kb, koff + x, none⟩ = some (.int .i64 q) := (World.cell?_of_block (a := ⟨kb, koff + x, none⟩) (hup.block kb hkbl hSkb)).trans hcu
      clear hu hcu
      by_cases hq0 : q = 0
      · have hq' : (q == 0) = true := by simpa using hq0
        have Hs := hide (selL_no (wait := wait) pre (keepAt_zero hq hq0))
        clear hq Hst
        gi_wp2
        refine ⟨KeepsFrom.refl _ _, rfl, ⟨?_, ⟨Hpt.out, Hkp.out⟩, Hbx.out⟩, hup, by omega⟩
        rw [Hs.out]
        exact Hrw.out
      · have hq' : (q == 0) = false := by simpa using hq0
        have Hs := hide (selL_yes (wait := wait) pre (keepAt_yes hq hq0))
        clear hq hq0
        gi_wp2
        gi_region_with_o (refine ⟨trivial, ?_⟩; gi_at_call 85; refine (CallsIn.inRound l (callsIn_wide.2 (unhide Hst))).mono ?_; rintro e W2 ⟨rfl, hr2, hu2⟩)
        all_goals
          gi_wp2
          have hu3 : Upd S W W2 := ⟨hu2.os, hu2.tape, hu2.output, hu2.size, hu2.block⟩
          refine ⟨⟨hu3.size, fun k o hk ho _ => hu3.keeps ho (fun hS => by have := hSw k hS; omega)⟩, hu3.block b (by omega) hSb, ⟨?_, ⟨hu3.keeps Hpt.out (fun hS => by have := hSw _ hS; omega), hu3.keeps Hkp.out (fun hS => by have := hSw _ hS; omega)⟩, hu3.keeps Hbx.out hSB⟩, hup.trans hu3, Nat.le_trans hsW hu3.size⟩
          rw [Hs.out, Hx.out, flushL_snoc, List.map_set]
          exact hr2
    · have hi2 : ¬ (x : Int) < (ks.length : Int) := by omega
      have Hs := hide (selL_no (wait := wait) pre (keepAt_none hkl))
      clear Hst
      gi_wp2
      refine ⟨KeepsFrom.refl _ _, rfl, ⟨?_, ⟨Hpt.out, Hkp.out⟩, Hbx.out⟩, hup, by omega⟩
      rw [Hs.out]
      exact Hrw.out
  case done =>
    rintro D ys W hD rfl ⟨⟨hrw, ⟨hpt, -⟩, hbx⟩, hup, hsW⟩ hK
    have r0 : W.cell? ⟨w.heap.size, 0, none⟩ = some (.pointer (some ⟨B, 0, none⟩)) := (cell_of_row W _ 0 _ _ (0, 0) hpt).trans rfl
    obtain ⟨p0, p1, pl⟩ := box2 hbx
    obtain ⟨p2, p3⟩ := box2f hbx
    have Hrw := hide hrw
    have Hbx := hide hbx
    have HKD := hide hK
    clear hrw hpt hbx hK hBs
    gi_wp2
    have hK' := (KeepsOthers.setCell W ⟨B, 1, none⟩ (.slice none 0 0)).same D _ HKD.out rfl
    refine ⟨by simp, .inl ⟨_, _, rfl, run_takeDeferred hK', ?_⟩⟩
    refine ⟨_, results_none rfl _ _ _, rfl, ?_, ?_, ?_⟩
    · exact (upd_putObj' _ D _).keeps (row_set _ Hbx.out) (by omega)
    · have h1 := Hrw.out
      unfold cutL
      exact (h1.keep (Upd.setCell (S := fun k => k = B) W B 1 (.slice none 0 0) rfl) (fun k hk e => by subst e; exact hSB hk)).keep (upd_putObj' _ D _) (fun k hk e => by have := hSw k hk; omega)
    · exact upd_putObj ((hup.mono (fun k h => .inl h)).trans (Upd.setCell _ _ _ _ (.inr rfl))) (by omega) _
  case stop =>
    rintro D c pre W _ _ h _
    exact h.elim

end Go.Proofs.YtapflnabiobonaaDoor

/- How the program reads a disk with transactions: contracts; no statement of the seat is proved here. -/
namespace Go.Proofs.YtapflnabiobonaaDoor
open Go.RowKit Go.Shelf

attribute [local go_sem] Oper.semAt_some

/-- What the library's variable holds in every started world. -/
abbrev ErrVar (w : World) : Prop := w.cell? ⟨0, 0, none⟩ = some (.iface 154 (.agg #[.pointer (some ⟨1, 111, none⟩)]))

theorem errVar_lt {w : World} (h : ErrVar w) : 0 < w.heap.size := World.block_lt_of_cell? w _ h
theorem errVar_keep {w w' : World} (h : ErrVar w) (hb : Below w.heap.size w w') : ErrVar w' := (hb.cell (p := ⟨0, 0, none⟩) (errVar_lt h)).trans h

theorem as_hitU (n : Int) (B : Nat) (old : Value) (w : World) (hg : ErrVar w) (ht0 : w.cell? ⟨B, 0, none⟩ = some old) (hf0 : w.frozen? ⟨B, 0, none⟩ = false) :
    Calls Tryd.prog 71 #[.iface 104 (.agg #[.int .i64 n]), .iface 113 (.pointer (some ⟨B, 0, none⟩))] w fun ev w' => ev = .returned (.bool true) ∧ Upd (fun k => k = B) w w' := by
  refine (as_hit n ⟨B, 0, none⟩ old w hg ht0 hf0).mono ?_
  rintro e w' ⟨rfl, rfl⟩
  refine ⟨rfl, Upd.trans (Upd.ofBelow ?_) (Upd.setCell _ _ _ _ rfl)⟩
  exact ((((Below.refl _ _).alloc (Nat.le_refl _) _).alloc (by simp) _).alloc (by simp; omega) _).alloc (by simp; omega) _

set_option maxHeartbeats 1000000 in
theorem log_in (n : Nat) (x y : Value) (w : World) :
    CallsIn Fence.wide n Tryd.prog 70 #[.agg #[x, y]] w fun e w' => e = .returned (.func (.func 88) #[] #[.pointer (some ⟨w.heap.size, 0, none⟩)]) ∧ w' = w.alloc (.cells #[x, y] 69) := by
  refine callsIn_of_wp Tryd.func70 rfl trivial ?_ rfl
  simp only [ Tryd.ntmps70, List.size_toArray, List.length_cons, List.length_nil, Nat.reduceAdd, Nat.reduceSub, Array.replicate_succ, Array.replicate_zero, List.push_toArray, List.append_toArray, List.nil_append, List.cons_append]
  gi_wp2
  go_ret
  exact ⟨rfl, rfl⟩

theorem log_stops (n : Nat) (hn : 1 ≤ n) (Bs g sc : Nat) (no : Option Addr) (m nc : Nat) (ss : List ByteArray) (s : ByteArray) (w : World)
    (hBs : w.heap[Bs]? = some (.cells #[.slice (some ⟨g, 0, none⟩) ss.length sc, .slice no m nc] 69 (0, 0)))
    (hr : RowR w 1 (.slice (some ⟨g, 0, none⟩) ss.length sc) ss.length (ss.map Value.string)) (hgl : g < w.heap.size) (h0 : ss[0]? = some s) (hz : ∀ t ∈ ss, t.size ≤ 16) (hlen : 251 ≤ ss.length) :
    SeqStopsK Fence.wide n Tryd.prog 88 #[.pointer (some ⟨Bs, 0, none⟩)] iEnc (KpS (fun k => k = Bs ∨ k = g)) (logAll s ss) (logPre s ss) 251 w :=
  fun l J Jx W hW hJ _ hY hJ0 => log1_in n hn l Bs g sc no m nc ss s J Jx W hJ hY (bKeeps hW hBs) (hr.keep hW) (Nat.lt_of_lt_of_le hgl hW.size) h0 hz hlen hJ0

theorem own_note {β : Type} (B Bw base : Nat) (x : Value) (t e : TypeId) (n : β → Nat) (cs : β → List Value) : OwnFrom B (fun (s : β) W => ∃ nv, W.heap[Bw]? = some (.cells #[x, nv] t (0, 0)) ∧ W.ownsRow base e 2 nv (n s) (cs s)) := by
  rintro s W W' row ⟨nv, h1, hl, h2⟩ hg hr
  refine ⟨nv, own_cells B Bw (fun _ : β => #[x, nv]) t s W W' row h1 hg hr, hl, ?_⟩
  rcases h2 with h | ⟨g, cap, cur, rfl, hgb, hh, h3⟩
  · exact .inl h
  · exact .inr ⟨g, cap, cur, rfl, hgb, own_cells B g (fun _ : β => cur) e s W W' row hh hg hr, h3⟩

theorem owns_keep {w w' : World} {base : Nat} {e : TypeId} {size : Nat} {T : Nat → Prop} {v : Value} {n : Nat} {cs : List Value} (h : w.ownsRow base e size v n cs) (hb : Upd T w w') (hT : ∀ k, base ≤ k → ¬ T k) : w'.ownsRow base e size v n cs := by
  obtain ⟨hl, h⟩ := h
  refine ⟨hl, ?_⟩
  rcases h with h | ⟨g, cap, cur, rfl, hg, hh, h1⟩
  · exact .inl h
  · exact .inr ⟨g, cap, cur, rfl, hg, hb.keeps hh (hT g hg), h1⟩

theorem keepsFrom_upd {S : Nat → Prop} {B : Nat} {W W' : World} (h : Upd S W W') (hS : ∀ k, S k → k < B) : KeepsFrom B W W' :=
  ⟨h.size, fun k o hk ho _ => h.keeps ho (fun hs => by have := hS k hs; omega)⟩

theorem keepsFrom_grown {base B : Nat} {e : TypeId} {size n : Nat} {v : Value} {cs : List Value} {o : Obj} {W W' : World} (hown : W.ownsRow base e size v n cs) (hgr : (W.alloc o).grownBy W' v.ownBlock) : KeepsFrom B W W' := by
  refine ⟨Nat.le_trans (by simp) hgr.size, fun k x hk hx hc => ?_⟩
  have hlt := heap_lt hx
  refine (hgr.block k (by simp; omega) (fun e1 => ?_)).trans ((Below.heap_alloc W o k hlt).trans hx)
  rcases hown.2 with ⟨rfl, _⟩ | ⟨g, cap, cur, rfl, hg, hh, _⟩
  · simp [Value.ownBlock] at e1
  · simp only [Value.ownBlock, Option.some.injEq] at e1
    subst e1
    rw [hh] at hx
    obtain rfl := Option.some.inj hx
    simp [Obj.isCells] at hc

/-- The frame of a round of walOpen. -/
def openTmps (x : Itm) (Bx : Nat) (t : Array Value) : Array Value :=
  (((t.setIfInBounds 27 (.agg #[.int .i64 (x.1 : Nat), .string x.2.1])).setIfInBounds 28 (errV x.2.2)).setIfInBounds 7 (.pointer (some ⟨Bx, 0, none⟩))).setIfInBounds 8 (errV x.2.2)

theorem infoNote : (Tryd.prog.info? 109).map (fun i => (i.zero, i.size, i.bytes)) = some (some (.agg #[.int .i64 0, .string ⟨#[]⟩]), 2, 24) := by kernel_rfl

set_option maxRecDepth 100000 in
set_option maxHeartbeats 4000000 in
theorem walOpen_in (v : Value) (kept : List ByteArray) (wait : List (Int × ByteArray)) (F : List ByteArray) (s : ByteArray) (L : List (Int × ByteArray)) (w : World) (hg : ErrVar w) (hr : DiskR w v kept wait) (hf : formB kept wait = true) (hF : flushK kept wait = F) (h0 : F[0]? = some s) (hL : logL s F = L) :
    CallsIn Fence.wide 9 Tryd.prog 38 #[v] w fun e w' =>
      ((logB s F = true ∧ ∃ g gc no nc, e = .returned (.tuple #[.agg #[.slice (some ⟨g, 0, none⟩) F.length gc, .slice no L.length nc], .bool true]) ∧ F.length ≤ gc ∧ RowR w' 1 (.slice (some ⟨g, 0, none⟩) F.length gc) F.length (F.map Value.string) ∧ RowR w' 2 (.slice no L.length nc) L.length (wcells L)) ∨
       (logB s F = false ∧ e = .returned (.tuple #[.agg #[.slice none 0 0, .slice none 0 0], .bool false]))) ∧ Below w.heap.size w w' := by
  have hok : okB kept wait = true := by simp only [formB, Bool.and_eq_true] at hf; exact hf.1
  have h5 : kept.length = 501 := by simp only [formB, Bool.and_eq_true, decide_eq_true_eq] at hf; exact hf.2
  obtain ⟨hp1, hp2, hp3, hp4⟩ := okB_parts hok
  have P3 := hide hp3
  have P4 := hide hp4
  have Hr := hide hr
  have Hok := hide hok
  have Hg := hide hg
  obtain ⟨ak, aw, rfl, ⟨ao, ca, rfl, -⟩, ⟨bo, cb, rfl, -⟩⟩ := hr
  have hflK : flushK kept wait = flushL kept wait := by simp [flushK, hok]
  rw [hF] at hflK
  have hFl : F.length = 501 := by rw [hflK, flushL_len, h5]
  have hFz : ∀ t ∈ F, t.size ≤ 16 := by rw [hflK]; exact flushL_all hp3 (fun x hx => (hp4 x hx).2.2)
  have HFl := hide hFl
  have HFK := hide hflK
  have HFz := hide hFz
  have HL := hide hL
  have hkl : ((kept.length : Int) != 501) = false := by simp; omega
  have hk1 : 501 ≤ kept.length := by omega
  have hk2 : kept.length ≤ 501 := by omega
  have hF1 : 501 ≤ F.length := by omega
  have hF2 : F.length ≤ 501 := by omega
  have H0 := hide h0
  clear hp3 hp4 hF hf hok hg h0 hflK hFz hL h5 hFl hp1
  obtain ⟨i1, gi, gz0, gz1, gz2⟩ := info_parts infoNote
  refine callsIn_of_wp_marks Tryd.func38 rfl trivial ?_ rfl
  simp only [ Tryd.ntmps38, List.size_toArray, List.length_cons, List.length_nil, Nat.reduceAdd, Nat.reduceSub, Array.replicate_succ, Array.replicate_zero, List.push_toArray, List.append_toArray, List.nil_append, List.cons_append]
  obtain ⟨Wa, hWa⟩ : ∃ Wa, Wa = ((w.alloc (.cells #[.slice ao kept.length ca, .slice bo wait.length cb] 31)).alloc (.cells #[.slice none 0 0, .slice none 0 0] 69)).alloc (.cells #[.bool false] 4) := ⟨_, rfl⟩
  have hal : Below w.heap.size w Wa := by rw [hWa]; exact (((Below.refl _ _).alloc (Nat.le_refl _) _).alloc (by simp) _).alloc (by simp; omega) _
  have X0 := hide (show Wa.heap[w.heap.size]? = some (.cells #[.slice ao kept.length ca, .slice bo wait.length cb] 31 (0, 0)) by rw [hWa]; exact al3_0 w _ _ _)
  have X1 := hide (show Wa.heap[w.heap.size + 1]? = some (.cells #[.slice none 0 0, .slice none 0 0] 69 (0, 0)) by rw [hWa]; exact al3_1 w _ _ _)
  have X2 := hide (show Wa.heap[w.heap.size + 1 + 1]? = some (.cells #[.bool false] 4 (0, 0)) by rw [hWa]; exact al3_2 w _ _ _)
  have hza : Wa.heap.size = w.heap.size + 3 := by rw [hWa]; simp
  gi_wp2_with fail
  rw [← hWa]
  clear hWa
  refine ⟨trivial, ?_⟩
  refine (callsIn_wide.2 (implSecOk_any kept wait _ _ (Hr.out.keep hal) (fun s hs => by have := P3.out s hs; omega) (fun s hs => by have := (P4.out s hs).2.2; omega))).mono ?_
  rintro e w1 ⟨rfl, b1⟩
  rw [Hok.out]
  have c1 := bAll hal b1
  replace X0 := hide (bKeeps b1 X0.out)
  replace X1 := hide (bKeeps b1 X1.out)
  replace X2 := hide (bKeeps b1 X2.out)
  obtain ⟨p0, p1, pl⟩ := box2 X0.out
  have z1 := b1.size
  gi_wp2_with fail
  refine ⟨trivial, ?_⟩
  refine (callsIn_wide.2 (secOwnC_any kept wait _ _ (Hr.out.keep c1) (by omega) (by omega))).mono ?_
  rintro e w2 ⟨no, cn, vw, rfl, hcn, r2, s2, b2⟩
  obtain ⟨mo, cm, rfl⟩ := s2.shape
  have s2' := s2.row (by omega)
  have c2 := bAll c1 b2
  replace X1 := hide (bKeeps b2 X1.out)
  replace X2 := hide (bKeeps b2 X2.out)
  have z2 := b2.size
  clear p0 p1 pl s2
  gi_wp2_with fail
  have al3 : Below w2.heap.size w2 (w2.alloc (.cells #[.slice no kept.length cn, .slice mo wait.length cm] 94)) := (Below.refl _ _).alloc (Nat.le_refl _) _
  have r3 := ((r2.mono (T := fun k => w1.heap.size ≤ k ∧ k < w2.heap.size) (fun k hk h => ⟨h, hk⟩)).keepB al3).typed
  have s3 := ((s2'.mono (T := fun k => w1.heap.size ≤ k ∧ k < w2.heap.size) (fun k hk h => ⟨h, hk⟩)).keepB al3).typed
  refine ⟨trivial, ?_⟩
  refine (callsIn_wide.2 (callsIn_wide.1 (flush_in kept wait _ _ w2.heap.size no mo cn cm _ (al1_0 w2 _) r3 s3 (fun k => typed_apart (by decide) k) (fun h => by have := h.1; omega) (fun k h => by have := h.1.2; simp; omega) Hok.out))).mono ?_
  rintro e w4 ⟨rfl, hbx, r4, u4⟩
  have u4' : Upd (fun k => w1.heap.size ≤ k) (w2.alloc (.cells #[.slice no kept.length cn, .slice mo wait.length cm] 94)) w4 := u4.mono (fun k h => by rcases h with h | h; exact h.1.1; omega)
  have c4 : Below w.heap.size w w4 := (bAll c2 al3).trans (u4'.below (by simp; omega) (fun k h => by omega))
  replace X1 := hide (u4'.keeps (bKeeps al3 X1.out) (by omega))
  replace X2 := hide (u4'.keeps (bKeeps al3 X2.out) (by omega))
  have z4 := u4.size
  simp only [World.size_alloc] at z4
  rw [← HFK.out, show kept.length = F.length by omega] at r4
  rw [show kept.length = F.length by omega] at hbx hcn
  have kF := r4.reads
  obtain ⟨g, rfl, hgS, hgg⟩ : ∃ g, no = some ⟨g, 0, none⟩ ∧ g < w4.heap.size ∧ w1.heap.size ≤ g := by
    obtain ⟨_, _, ev, _, _, h3⟩ := r4
    obtain ⟨g, cur, rfl, hS, hh, _⟩ := h3 (by omega)
    simp only [Value.slice.injEq, true_and] at ev
    exact ⟨g, ev.1, heap_lt hh, hS.1.1⟩
  have KF := hide kF
  obtain ⟨p0, p1, pl⟩ := box2 hbx
  clear hbx r2 r3 s2' s3 kF r4
  gi_wp2_with fail
  obtain ⟨Wb, hWb⟩ : ∃ Wb, Wb = (w4.alloc (.cells #[.slice (some ⟨g, 0, none⟩) F.length cn, .slice none 0 0] 69)).alloc (.cells #[.int .i64 0] 104) := ⟨_, rfl⟩
  refine ⟨trivial, ?_⟩
  refine (log_in _ _ _ _).mono ?_
  rintro e w5 ⟨rfl, rfl⟩
  rw [← hWb]
  have alb : Below w4.heap.size w4 Wb := by rw [hWb]; exact ((Below.refl _ _).alloc (Nat.le_refl _) _).alloc (by simp) _
  have hzb : Wb.heap.size = w4.heap.size + 2 := by rw [hWb]; simp
  have Y0 := hide (show Wb.heap[w4.heap.size]? = some (.cells #[.slice (some ⟨g, 0, none⟩) F.length cn, .slice none 0 0] 69 (0, 0)) by rw [hWb]; exact al2_0 w4 _ _)
  have Y1 := hide (show Wb.heap[w4.heap.size + 1]? = some (.cells #[.int .i64 0] 104 (0, 0)) by rw [hWb]; exact al2_1 w4 _ _)
  clear hWb p0 p1 pl
  obtain ⟨W0, hW0⟩ : ∃ W0, W0 = Wb.alloc (.cells #[.slice (some ⟨g, 0, none⟩) F.length cn, .slice none 0 0] 69) := ⟨_, rfl⟩
  have alw : Below Wb.heap.size Wb W0 := by rw [hW0]; exact (Below.refl _ _).alloc (Nat.le_refl _) _
  have hz0 : W0.heap.size = w4.heap.size + 3 := by rw [hW0]; simp [hzb]
  have hBs : W0.heap[w4.heap.size + 2]? = some (.cells #[.slice (some ⟨g, 0, none⟩) F.length cn, .slice none 0 0] 69 (0, 0)) := by rw [hW0, ← hzb]; exact al1_0 Wb _
  have hszb : Wb.heap.size = w4.heap.size + 2 := hzb
  rw [← hW0, hszb]
  clear hW0
  have cb0 := bAll alb alw
  have c0 := bAll c4 cb0
  replace X1 := hide (bKeeps cb0 X1.out)
  replace X2 := hide (bKeeps cb0 X2.out)
  replace Y0 := hide (bKeeps alw Y0.out)
  replace Y1 := hide (bKeeps alw Y1.out)
  have KF0 := hide (KF.out.keep cb0)
  have zz4 := c4.size
  have HBs := hide hBs
  clear hBs
  have hd : 1 ≤ 9 - 1 - 1 := by omega
  gi_wp2_with fail
  refine range_boxed2 rfl (by omega) (gf := 88) (lb := #[.pointer (some ⟨w4.heap.size + 2, 0, none⟩)]) rfl trivial (enters_of Tryd.func88 (by kernel_rfl) rfl)
    (log_stops (9 - 1) (by omega) (w4.heap.size + 2) g cn none 0 0 F s W0 HBs.out KF0.out (by omega) H0.out HFz.out (by omega)) kpS_t (kpS_b (fun k h => by rcases h with rfl | rfl <;> omega)) (Below.refl _ _) (fun _ => rfl)
    (fun pre W => ((∀ x ∈ pre, x.2.2 = none) ∧ ∃ nv, W.heap[w4.heap.size]? = some (.cells #[.slice (some ⟨g, 0, none⟩) F.length cn, nv] 69 (0, 0)) ∧ W.ownsRow W0.heap.size 109 2 nv pre.length (wcells (pre.map iW))) ∧ Upd (fun k => k = w4.heap.size) W0 W)
    (fun c pre W => (c = .ret ∧ (∃ x ∈ pre, x.2.2 ≠ none) ∧ (W.heap[w.heap.size + 1]? = some (.cells #[.slice none 0 0, .slice none 0 0] 69 (0, 0)) ∧ W.heap[w.heap.size + 1 + 1]? = some (.cells #[.bool false] 4 (0, 0)))) ∧ Below w.heap.size w W)
    ?hI ?hIx ?h0 ?hIs ?hKa openTmps 109 (fun x => #[.int .i64 (x.1 : Nat), .string x.2.1]) ?assign ?body ?done ?stop
  case hI => exact OwnFrom.and (OwnFrom.and (own_pure _ _) (own_note _ _ _ _ _ _ _ _)) (own_upd (Nat.le_refl _))
  case hIx => exact fun c => OwnFrom.and (OwnFrom.and (own_pure _ _) (OwnFrom.and (own_pure _ _) (OwnFrom.and (own_cells _ _ (fun _ => _) _) (own_cells _ _ (fun _ => _) _)))) (ownFrom_below (Nat.le_refl _) (by omega))
  case h0 => exact ⟨⟨by simp, _, Y0.out, World.ownsRow_nil _ _ _ _⟩, Upd.refl _ _⟩
  case hIs => exact fun pre W h => h.2.size
  case hKa => exact fun pre W o h => kpS_of ((Below.refl _ _).alloc (Nat.le_refl _) _) (fun k hk => by have := h.2.size; rcases hk with rfl | rfl <;> omega)
  case assign =>
    rintro l pre ⟨hh, tt, oo⟩ W K hi hK
    simp only [openTmps] at hK
    clear hi
    simp only [iEnc]
    gi_wp2
    exact hK
  case body =>
    rintro l pre ⟨hh, tt, oo⟩ Bx W hl hBx hxb ⟨⟨hall, nv, hbw, hown⟩, hup⟩ hN
    have zW := hup.size
    simp only at hxb
    obtain ⟨x0, x1, xl⟩ := box2 hxb
    have HALL := hide hall
    have Hbw := hide hbw
    have Hup := hide hup
    have Hown := hide hown
    have Y1' := hide (hup.keeps Y1.out (by omega))
    have X1' := hide (hup.keeps X1.out (by omega))
    have X2' := hide (hup.keeps X2.out (by omega))
    have hE : Hid (ErrVar W) := (World.cell?_of_block (a := ⟨0, 0, none⟩) (hup.block 0 (by omega) (by have := errVar_lt Hg.out; omega))).trans (errVar_keep Hg.out c0)
    cases oo with
    | none =>
      obtain ⟨q0, q1, ql⟩ := box2 hbw
      clear hxb hbw hall hup
      simp only [openTmps, errV]
      gi_wp2_with fail
      refine ⟨trivial, ?_⟩
      refine (CallsIn.inRound l (callsIn_wide.2 (as_nil _ W))).mono ?_
      rintro e W1 ⟨rfl, e1⟩
      rw [e1]
      clear e1 W1
      gi_wp2_with (gi_at_builtin; (refine wpListIn_append_own _ rfl _ _ 67 rfl W0.heap.size 109 i1 (.agg #[.int .i64 0, .string ⟨#[]⟩]) 2 24 Tryd.underlying67 gi gz0 gz1 gz2 rfl (by decide) _ _ _ rfl (hown.alloc _) ⟨W.heap.size, 0, none⟩ 1 1 [.int .i64 (hh : Nat), .string tt] rfl rfl ?c1 ?c2 ?c3 ?c4 ?c5 ?_))
      case c1 => exact new_cells _ _ _ _
      case c2 => exact new_one _ _
      case c3 => unfold maxLen; omega
      case c4 => omega
      case c5 => simp; omega
      intro v' w' hown' hgr hv'
      obtain ⟨mo', cm', rfl⟩ := (Row.ofOwns hown' (by omega)).shape
      have bA : Below W0.heap.size W w' := ((Below.refl W0.heap.size W).alloc (by omega) _).grown hgr (by simp; omega) (fun k e => (Hown.out.lt k e).1)
      have bw' : w'.heap[w4.heap.size]? = some (.cells #[.slice (some ⟨g, 0, none⟩) F.length cn, nv] 69 (0, 0)) := (bA.block _ (by omega)).trans Hbw.out
      have hkf := hide (keepsFrom_grown (B := W0.heap.size) Hown.out hgr)
      obtain ⟨r0, r1, rl⟩ := box2 bw'
      obtain ⟨r2, r3⟩ := box2f bw'
      have Hbw' := hide bw'
      have Hown' := hide hown'
      clear q0 q1 ql hgr hown' hown bw' hv'
      gi_wp2
      have us := Upd.setCell (S := fun k => k = w4.heap.size) w' w4.heap.size 1 (.slice mo' (pre.length + 1) cm') rfl
      refine ⟨hkf.out.trans ((KeepsOthers.setCell _ _ _).from _), ?_, ⟨?_, _, row_set _ Hbw'.out, ?_⟩, ?_⟩
      · intro k hk
        refine (us.block k ?_ ?_).trans (bA.block k ?_)
        · have := bA.size; rcases hk with rfl | rfl <;> omega
        · rcases hk with rfl | rfl <;> omega
        · rcases hk with rfl | rfl <;> omega
      · intro x hx
        rcases List.mem_append.1 hx with h | h
        · exact HALL.out x h
        · obtain rfl : x = (hh, tt, none) := by simpa using h
          rfl
      · have h1 := owns_keep Hown'.out us (fun k hk => by omega)
        rw [List.length_append, List.map_append, List.map_cons, List.map_nil]
        have e1 : wcells (pre.map iW ++ [iW (hh, tt, none)]) = wcells (pre.map iW) ++ [.int .i64 (hh : Nat), .string tt] := wcells_snoc _ _ _
        rw [e1, hz0]
        exact h1
      · have u1 : Upd (fun k => k = w4.heap.size) W0 w' := ⟨bA.os.trans Hup.out.os, bA.tape.trans Hup.out.tape, bA.output.trans Hup.out.output, Nat.le_trans Hup.out.size bA.size, fun k hk hS => (bA.block k hk).trans (Hup.out.block k hk hS)⟩
        exact u1.trans us
    | some n =>
      have f0 : W.cell? ⟨w4.heap.size + 1, 0, none⟩ = some (.int .i64 0) := (cell_of_row W _ 0 _ _ (0, 0) Y1'.out).trans rfl
      have f1 : W.frozen? ⟨w4.heap.size + 1, 0, none⟩ = false := frozen_of_row W _ 0 _ _ Y1'.out
      clear hxb hbw hall hup hown
      simp only [openTmps, errV]
      gi_wp2_with fail
      refine ⟨trivial, ?_⟩
      refine (CallsIn.inRound l (callsIn_wide.2 (as_hitU _ (w4.heap.size + 1) _ W hE.out f0 f1))).mono ?_
      rintro e W1 ⟨rfl, u1⟩
      have x1' := u1.keeps X1'.out (by omega)
      have x2' := u1.keeps X2'.out (by omega)
      obtain ⟨q0, q1, ql⟩ := box2 x1'
      obtain ⟨q2, q3⟩ := box2f x1'
      have r0 : W1.cell? ⟨w.heap.size + 1 + 1, 0, none⟩ = some (.bool false) := (cell_of_row W1 _ 0 _ _ (0, 0) x2').trans rfl
      have r1 : W1.frozen? ⟨w.heap.size + 1 + 1, 0, none⟩ = false := frozen_of_row W1 _ 0 _ _ x2'
      have G1 := hide x1'
      have G2 := hide x2'
      clear f0 f1 x1' x2'
      gi_wp2
      have ua := upd_set2 W1 (w.heap.size + 1) 0 1 (.slice none 0 0) (.slice none 0 0)
      have ub := Upd.setCell (S := fun k => k = w.heap.size + 1 + 1) ((W1.setCell ⟨w.heap.size + 1, 0, none⟩ (.slice none 0 0)).setCell ⟨w.heap.size + 1, 1, none⟩ (.slice none 0 0)) (w.heap.size + 1 + 1) 0 (.bool false) rfl
      have hx1 := ub.keeps (row_set (j := 1) (.slice none 0 0) (row_set (j := 0) (.slice none 0 0) G1.out)) (by omega)
      have hx2 := row_set (j := 0) (.bool false) (ua.keeps G2.out (by omega))
      refine ⟨(keepsFrom_upd u1 (fun k h => by omega)).trans ((keepsFrom_upd ua (fun k h => by omega)).trans (keepsFrom_upd ub (fun k h => by omega))), ⟨rfl, ⟨(hh, tt, some n), by simp, by simp⟩, hx1, hx2⟩, ?_⟩
      have cW : Below w.heap.size w W := c0.trans (Hup.out.below (by omega) (fun k h => by omega))
      exact (cW.trans (u1.below (by omega) (fun k h => by omega))).trans ((ua.below (by have := u1.size; omega) (fun k h => by omega)).trans (ub.below (by have := u1.size; have := ua.size; omega) (fun k h => by omega)))
  case done =>
    rintro D ys W hD hys ⟨⟨hall, nv, hbw, hown⟩, hup⟩ hK
    obtain ⟨hlb, hmap⟩ := hys hall
    have zW := hup.size
    have hlen : ys.length = L.length := by rw [← HL.out, ← hmap]; simp
    have hLl : L.length ≤ 512 := by rw [← HL.out]; have := logL_len s F; omega
    rw [hmap, HL.out, hlen] at hown
    have rn := (Row.ofOwns hown (by omega)).typed
    obtain ⟨nno, nnc, rfl⟩ := rn.shape
    have RN := hide rn
    have HLB := hide hlb
    have Hup := hide hup
    have HKD := hide hK
    obtain ⟨q0, q1, ql⟩ := box2 hbw
    have x1' := hup.keeps X1.out (by omega)
    have x2' := hup.keeps X2.out (by omega)
    obtain ⟨p0, p1, pl⟩ := box2 x1'
    obtain ⟨p2, p3⟩ := box2f x1'
    have r0 : W.cell? ⟨w.heap.size + 1 + 1, 0, none⟩ = some (.bool false) := (cell_of_row W _ 0 _ _ (0, 0) x2').trans rfl
    have r1 : W.frozen? ⟨w.heap.size + 1 + 1, 0, none⟩ = false := frozen_of_row W _ 0 _ _ x2'
    have G1 := hide x1'
    have G2 := hide x2'
    have RF := hide (RowR.keepG KF0.out (hup.block g (by omega) (by omega)))
    clear hys hmap hown rn hlb hup hK hbw x1' x2' hall
    gi_wp2
    have ua := upd_set2 W (w.heap.size + 1) 0 1 (.slice (some ⟨g, 0, none⟩) F.length cn) (.slice nno L.length nnc)
    have ub := Upd.setCell (S := fun k => k = w.heap.size + 1 + 1) ((W.setCell ⟨w.heap.size + 1, 0, none⟩ (.slice (some ⟨g, 0, none⟩) F.length cn)).setCell ⟨w.heap.size + 1, 1, none⟩ (.slice nno L.length nnc)) (w.heap.size + 1 + 1) 0 (.bool true) rfl
    have hx1 := ub.keeps (row_set (j := 1) (.slice nno L.length nnc) (row_set (j := 0) (.slice (some ⟨g, 0, none⟩) F.length cn) G1.out)) (by omega)
    have hx2 := row_set (j := 0) (.bool true) (ua.keeps G2.out (by omega))
    have hK' := ub.keeps (ua.keeps HKD.out (by omega)) (by omega)
    refine ⟨by simp, .inl ⟨_, _, rfl, run_takeDeferred hK', ?_⟩⟩
    obtain ⟨Wf, hWf⟩ : ∃ Wf, Wf = ((W.setCell ⟨w.heap.size + 1, 0, none⟩ (.slice (some ⟨g, 0, none⟩) F.length cn)).setCell ⟨w.heap.size + 1, 1, none⟩ (.slice nno L.length nnc)).setCell ⟨w.heap.size + 1 + 1, 0, none⟩ (.bool true) := ⟨_, rfl⟩
    rw [← hWf] at hx1 hx2 hK' ub ⊢
    have uc := upd_putObj' Wf D (.deferred none)
    have hx3 := uc.keeps hx1 (by omega)
    have hx4 := uc.keeps hx2 (by omega)
    obtain ⟨t0, t1, tl⟩ := box2 (x := .slice (some ⟨g, 0, none⟩) F.length cn) (y := .slice nno L.length nnc) hx3
    have t2 : (Wf.putObj D (.deferred none)).cell? ⟨w.heap.size + 1 + 1, 0, none⟩ = some (.bool true) := (cell_of_row _ _ 0 _ _ (0, 0) hx4).trans rfl
    have hg1 : (Wf.putObj D (.deferred none)).heap[g]? = W.heap[g]? := (uc.block g (by have := ua.size; have := ub.size; omega) (by omega)).trans ((ub.block g (by have := ua.size; omega) (by omega)).trans (ua.block g (by omega) (by omega)))
    refine ⟨.tuple #[.agg #[.slice (some ⟨g, 0, none⟩) F.length cn, .slice nno L.length nnc], .bool true], by simp [results, Tryd.results38, go_sem, t0, t1, t2], .inl ⟨HLB.out, g, cn, nno, nnc, rfl, hcn, RowR.keepG RF.out hg1, ?_⟩, ?_⟩
    · refine (((RN.out.keep ua (fun k h e => by have := h.1; omega)).keep ub (fun k h e => by have := h.1; omega)).keep uc (fun k h e => ?_)).reads
      obtain ⟨-, cu, hcu⟩ := h
      rw [e, HKD.out] at hcu
      cases hcu
    · have cW : Below w.heap.size w W := c0.trans (Hup.out.below (by omega) (fun k h => by omega))
      have d1 := cW.trans (ua.below (by omega) (fun k h => by omega))
      have d2 := d1.trans (ub.below (by have := ua.size; omega) (fun k h => by omega))
      exact d2.trans (uc.below (by have := ua.size; have := ub.size; omega) (fun k h => by omega))
  case stop =>
    rintro D c pre W hD hpre ⟨⟨rfl, hbad, hx1, hx2⟩, hbel⟩ hK
    have HLB := hide (hpre hbad)
    have HKD := hide hK
    have G1 := hide hx1
    have G2 := hide hx2
    clear hpre hbad hx1 hx2 hK
    gi_wp2
    refine ⟨by simp, .inl ⟨_, _, rfl, run_takeDeferred HKD.out, ?_⟩⟩
    have uc := upd_putObj' W D (.deferred none)
    have hx3 := uc.keeps G1.out (by omega)
    have hx4 := uc.keeps G2.out (by omega)
    obtain ⟨t0, t1, tl⟩ := box2 hx3
    have t2 : (W.putObj D (.deferred none)).cell? ⟨w.heap.size + 1 + 1, 0, none⟩ = some (.bool false) := (cell_of_row _ _ 0 _ _ (0, 0) hx4).trans rfl
    refine ⟨.tuple #[.agg #[.slice none 0 0, .slice none 0 0], .bool false], by simp [results, Tryd.results38, go_sem, t0, t1, t2], .inr ⟨HLB.out, rfl⟩, ?_⟩
    exact hbel.trans (uc.below (by have := hbel.size; omega) (fun k h => by omega))

end Go.Proofs.YtapflnabiobonaaDoor

/- What the row's condition on the library's variable gives a walk: its one cell; no statement of the seat is proved here. -/
namespace Go.Proofs.YtapflnabiobonaaDoor
open Go.ChangeShapes Go.WideShapes Go.RowKit

theorem laid_et : Tryd.prog.globalNamed "errors.errorType" = some 0 := by kernel_rfl
theorem laid_rt : (Tryd.prog.cutTypes.find? (·.1 == "internal/reflectlite.rtype")).map (·.2) = some 154 := by kernel_rfl
theorem laid_oneRow : ((List.range 198).filter fun t => Tryd.prog.rowNamed t [101, 114, 114, 111, 114]) = [ 111 ] := by kernel_rfl
theorem laid_size : Tryd.prog.types.size = 198 := by kernel_rfl

/-- The variable's one cell. -/
theorem errVar_of_laid {W : World} (h : laidMetH Tryd.prog [("errors.errorType", Rows.laid_errors_errorType)] W) : ErrVar W := by
  have h' : laidMet Tryd.prog [] W ∧ handlesMet Tryd.prog [("errors.errorType", Rows.laid_errors_errorType)] W := h
  obtain ⟨name, u, ty, e1, e2, e3, e4, e5⟩ := h'.2 _ (List.mem_singleton.2 rfl)
  have en : name = [101, 114, 114, 111, 114] := (Option.some.inj e1).symm
  subst en
  obtain rfl := Option.some.inj (laid_rt.symm.trans e2)
  have hm : ty ∈ (List.range 198).filter fun t => Tryd.prog.rowNamed t [101, 114, 114, 111, 114] := List.mem_filter.2 ⟨List.mem_range.2 (by rw [← laid_size]; exact e3), e4⟩
  rw [laid_oneRow] at hm
  obtain rfl := List.mem_singleton.1 hm
  have hh : typeHandle Tryd.prog 111 = .pointer (some ⟨1, 111, none⟩) := by kernel_rfl
  rw [hh] at e5
  simpa using World.var?_cell laid_et e5 0

end Go.Proofs.YtapflnabiobonaaDoor

/- What the program's homes say: a contract; no statement of the seat is proved here. -/
namespace Go.Proofs.YtapflnabiobonaaDoor
open Go.RowKit

set_option maxRecDepth 100000 in
set_option maxHeartbeats 4000000 in
theorem said_any (g gc : Nat) (no : Option Addr) (nc : Nat) (F : List ByteArray) (L : List (Int × ByteArray)) (w : World) (hF : RowR w 1 (.slice (some ⟨g, 0, none⟩) F.length gc) F.length (F.map Value.string)) (hgc : F.length ≤ gc) (hl5 : F.length = 501)
    (hL : RowR w 2 (.slice no L.length nc) L.length (wcells L)) (hLb : ∀ x ∈ L, 0 ≤ x.1 ∧ x.1 < 250) :
    Calls Tryd.prog 39 #[.agg #[.slice (some ⟨g, 0, none⟩) F.length gc, .slice no L.length nc]] w fun e w' => ∃ v', e = .returned v' ∧ Row w' 9 1 (fun k => w.heap.size ≤ k) v' (flushL (F.drop 251) L).length ((flushL (F.drop 251) L).map Value.string) ∧ Below w.heap.size w w' := by
  have hF1 : 501 ≤ F.length := by omega
  have hF2 : F.length ≤ 501 := by omega
  have hLn : L.length ≤ 9223372036854775807 := by obtain ⟨_, _, _, h, _⟩ := hL; exact h
  obtain ⟨i0, hi, hz0, hz1, hz2⟩ := info_parts infoStr
  have HLb := hide hLb
  have hLr := hide hL
  have hi5 : (251 : Int) ≤ (F.length : Int) := by omega
  have hgc' : (F.length : Int) ≤ (gc : Int) := by omega
  have al : Below w.heap.size w (w.alloc (.cells #[.slice (some ⟨g, 0, none⟩) F.length gc, .slice no L.length nc] 69)) := (Below.refl _ _).alloc (Nat.le_refl _) _
  have H0 := hide (al1_0 w (.cells #[.slice (some ⟨g, 0, none⟩) F.length gc, .slice no L.length nc] 69))
  have kF2 := hide (RowR.drop251 hF hF1)
  clear hLb hL hF hl5
  go_enter Tryd.func39, Tryd.ntmps39
  go_wp2_with (at_builtin; refine wpList_append_row _ rfl _ _ 22 rfl (w.heap.size + 1) 9 i0 (.string ⟨#[]⟩) 1 16 Tryd.underlying22 hi hz0 hz1 hz2 rfl (by decide) _ 0 [] rfl ?qown _ (F.length - 251) ((F.drop 251).map Value.string) rfl ?qrow (strs_one _) ?q63 ?qby ?qbase ?_)
  case qown => exact World.ownsRow_nil _ _ _ _
  case qrow => exact kF2.out.keep al
  case q63 => unfold maxLen; omega
  case qby => omega
  case qbase => simp
  intro v' w4 hown hgr
  try simp only [Nat.zero_add, List.nil_append] at hown
  have r4 := (Row.ofOwns hown (by omega)).mono (T := fun k => w.heap.size + 1 ≤ k ∧ k < w4.heap.size) (fun k hk h => ⟨h, hk⟩)
  have b4 : Below (w.heap.size + 1) (w.alloc (.cells #[.slice (some ⟨g, 0, none⟩) F.length gc, .slice no L.length nc] 69)) w4 := (Below.refl _ _).grown hgr (by simp) (fun k e => by simp [Value.ownBlock] at e)
  obtain ⟨ho, hc, rfl⟩ := r4.shape
  have c4 : Below w.heap.size w w4 := al.trans (b4.mono (by omega))
  have z4 := b4.size
  simp only [World.size_alloc] at z4
  have B0 := (b4.block w.heap.size (by omega)).trans H0.out
  obtain ⟨m, hm⟩ : ∃ m, F.length - 251 = m := ⟨_, rfl⟩
  have hm1 : m = 250 := by omega
  rw [hm] at r4 ⊢
  have HM := hide hm1
  clear hown hgr hm hm1
  obtain ⟨p0, p1, pl⟩ := box2 B0
  clear B0
  go_wp2
  clear p0 p1 pl
  go_loopw [14] (fun iv wr => ∃ k : Nat, k ≤ L.length ∧ iv = .int .i64 k ∧ Row wr 9 1 (fun k => w.heap.size + 1 ≤ k ∧ k < w4.heap.size) (.slice ho m hc) m ((flushL (F.drop 251) (L.take k)).map Value.string) ∧ Upd (fun k => w.heap.size + 1 ≤ k ∧ k < w4.heap.size) w4 wr) (fun iv _ => L.length - (intOf iv).toNat)
  case atStart => exact ⟨0, Nat.zero_le _, rfl, by simpa [flushL] using r4, Upd.refl _ _⟩
  case round =>
    clear r4
    obtain ⟨k, hk, rfl, hrow, hup⟩ := hrel
    by_cases hlt : k < L.length
    · obtain ⟨⟨a, t⟩, hx⟩ := getAt L k hlt
      obtain ⟨ha0, ha1⟩ := HLb.out (a, t) (List.mem_of_getElem? hx)
      simp only at ha0 ha1
      obtain ⟨n, rfl⟩ := Int.eq_ofNat_of_zero_le ha0
      have hnm : n < m := by have := HM.out; omega
      have Hx := hide hx
      obtain ⟨_, _, ev, _, _, hc0⟩ := hLr.out
      simp only [Value.slice.injEq, true_and] at ev
      obtain ⟨rfl, rfl⟩ := ev
      obtain ⟨b, off, rfl, hcl⟩ := hc0 (by omega)
      obtain ⟨e0, e1⟩ := wcells_at L k _ hx
      have g1 := hcl _ _ e0
      have g2 := hcl _ _ e1
      have l1 : b < w.heap.size := World.block_lt_of_cell? w _ g1
      have keep : ∀ j, wr.cell? ⟨b, j, none⟩ = w.cell? ⟨b, j, none⟩ := fun j => (World.cell?_of_block (a := ⟨b, j, none⟩) (hup.block b (by omega) (by omega))).trans (c4.cell (p := ⟨b, j, none⟩) l1)
      have f1 : wr.cell? ⟨b, off + k * 2, none⟩ = some (.int .i64 (n : Int)) := by rw [Nat.mul_comm k 2, keep]; exact g1
      have f2 : wr.cell? ⟨b, off + k * 2 + 1, none⟩ = some (.string t) := by rw [Nat.mul_comm k 2, keep]; exact g2
      have hi' : (k : Int) < (L.length : Int) := by omega
      have hn' : (n : Int) < (m : Int) := by omega
      have zu := hup.size
      obtain ⟨W, hW⟩ : ∃ W, W = wr.alloc (.cells #[.int .i64 (n : Int), .string t] 109) := ⟨_, rfl⟩
      have alW : Below wr.heap.size wr (wr.alloc (.cells #[.int .i64 (n : Int), .string t] 109)) := (Below.refl _ _).alloc (Nat.le_refl _) _
      obtain ⟨gh, caph, u, ev, hS, hgl', hcu, -, hfu, hset⟩ := (hrow.keepB alW).at n hnm
      simp only [Value.slice.injEq, true_and] at ev
      obtain ⟨rfl, rfl⟩ := ev
      have hne : ¬ gh = wr.heap.size := by omega
      have Hset := hide hset
      clear hset hcl g1 g2 e0 e1 hx hc0 keep hW
      go_wp2
      go_roundw
      case rel =>
        have hup2 : Upd (fun k => w.heap.size + 1 ≤ k ∧ k < w4.heap.size) wr ((wr.alloc (.cells #[.int .i64 (n : Int), .string t] 109)).setCell ⟨gh, n, none⟩ (.string t)) := (Upd.ofBelow alW).trans (Upd.setCell _ _ _ _ hS)
        refine ⟨k + 1, by omega, by go_num, ?_, hup.trans hup2⟩
        have h2 : flushL (F.drop 251) (L.take (k + 1)) = (flushL (F.drop 251) (L.take k)).set n t := by
          rw [List.take_add_one, Hx.out, Option.toList_some, flushL_snoc]
          simp
        rw [h2, List.map_set]
        exact Hset.out (.string t)
      case measure => simp [intOf]; omega
    · obtain rfl : k = L.length := by omega
      rw [List.take_of_length_le (Nat.le_refl _)] at hrow
      have hlen : (flushL (F.drop 251) L).length = m := by rw [flushL_len, List.length_drop]; have := HM.out; omega
      have HLEN := hide hlen
      clear hlen
      go_wp2
      go_ret
      rw [HLEN.out]
      exact ⟨_, rfl, hrow.mono (fun j _ h => by omega), c4.trans (hup.below c4.size (fun j h => by omega))⟩

end Go.Proofs.YtapflnabiobonaaDoor

/- Parts of a transaction's steps in the program: contracts; no statement of the seat is proved here. -/
namespace Go.Proofs.YtapflnabiobonaaDoor
open Go.RowKit

/-- Whether homes can be made to say these texts. -/
def fitB (hs : List ByteArray) : Bool := decide (hs.length = 250) && hs.all (fun s => decide (s.size ≤ 15))

set_option maxHeartbeats 1000000 in
theorem walFit_any (so : Option Addr) (sc : Nat) (hs : List ByteArray) (w : World) (hr : RowR w 1 (.slice so hs.length sc) hs.length (hs.map Value.string)) (hz : ∀ s ∈ hs, s.size ≤ 9223372036854775807) :
    Calls Tryd.prog 49 #[.slice so hs.length sc] w fun e w' => e = .returned (.bool (fitB hs)) ∧ w' = w := by
  obtain ⟨_, _, ev, hn, hl, hr⟩ := hr
  simp only [Value.slice.injEq, true_and] at ev
  obtain ⟨rfl, rfl⟩ := ev
  have HZ := hide hz
  clear hz hl
  by_cases h5 : hs.length = 250
  · have h5' : ((hs.length : Int) != 250) = false := by simp [h5]
    have H5 := hide h5
    clear h5
    go_enter Tryd.func49, Tryd.ntmps49
    go_wp2
    go_loopw [10] (fun iv wr => ∃ k : Nat, k ≤ hs.length ∧ iv = .int .i64 k ∧ (∀ j t, j < k → hs[j]? = some t → t.size ≤ 15) ∧ wr = w) (fun iv _ => hs.length - (intOf iv).toNat)
    case atStart => exact ⟨0, Nat.zero_le _, rfl, fun j t hj => by omega, rfl⟩
    case round =>
      obtain ⟨k, hk, rfl, hall, rfl⟩ := hrel
      have HA := hide hall
      clear hall
      by_cases hlt : k < hs.length
      · obtain ⟨b, off, rfl, hc⟩ := hr (by omega)
        obtain ⟨t, ht⟩ := getAt hs k hlt
        have f1 : wr.cell? ⟨b, off + k, none⟩ = some (.string t) := hc k _ (by simp [ht])
        have htz := HZ.out t (List.mem_of_getElem? ht)
        have hi : (k : Int) < (hs.length : Int) := by omega
        have Ht := hide ht
        clear hc ht hr
        by_cases h15 : (t.size : Int) > 15
        · have HF : Hid (fitB hs = false) := by
            show _ = _
            have : hs.all (fun s => decide (s.size ≤ 15)) = false := by
              rw [List.all_eq_false]
              exact ⟨t, List.mem_of_getElem? Ht.out, by simp; omega⟩
            simp [fitB, this]
          go_wp2
          go_ret
          rw [HF.out]
          exact ⟨rfl, rfl⟩
        · go_wp2
          go_roundw
          case rel =>
            refine ⟨k + 1, by omega, by go_num, fun j x hj hx => ?_, by first | rfl | trivial⟩
            by_cases hjk : j = k
            · subst hjk
              rw [Ht.out] at hx
              rw [← Option.some.inj hx]
              omega
            · exact HA.out j x (by omega) hx
          case measure => simp [intOf]; omega
      · have HF : Hid (fitB hs = true) := by
          show _ = _
          have : hs.all (fun s => decide (s.size ≤ 15)) = true := by
            rw [List.all_eq_true]
            intro x hx
            obtain ⟨j, hj⟩ := List.getElem?_of_mem hx
            have := (List.getElem?_eq_some_iff.1 hj).1
            simp only [decide_eq_true_eq]
            exact HA.out j x (by omega) hj
          simp [fitB, this, H5.out]
        go_wp2
        go_ret
        rw [HF.out]
        exact ⟨rfl, rfl⟩
  · have HF : Hid (fitB hs = false) := by show _ = _; simp [fitB, h5]
    have h5' : ((hs.length : Int) != 250) = true := by simp only [bne_iff_ne, ne_eq]; omega
    go_enter Tryd.func49, Tryd.ntmps49
    go_wp2
    go_ret
    rw [HF.out]
    exact ⟨rfl, rfl⟩

/-- Notes as their homes are to say them. -/
def appW (x : Int × ByteArray) : Int × ByteArray := (251 + x.1, x.2)

set_option maxRecDepth 100000 in
set_option maxHeartbeats 2000000 in
theorem walApplied_any (no : Option Addr) (nc : Nat) (L : List (Int × ByteArray)) (w : World) (hL : RowR w 2 (.slice no L.length nc) L.length (wcells L)) (hLb : ∀ x ∈ L, 0 ≤ x.1 ∧ x.1 < 250) (hLn : L.length ≤ 1000) :
    Calls Tryd.prog 74 #[.slice no L.length nc] w fun e w' => ∃ ao ca, e = .returned (.slice ao L.length ca) ∧ RowA w' w.heap.size 63 2 (.slice ao L.length ca) L.length (wcells (L.map appW)) ∧ Below w.heap.size w w' := by
  obtain ⟨_, _, ev, hn, hl, hr⟩ := hL
  simp only [Value.slice.injEq, true_and] at ev
  obtain ⟨rfl, rfl⟩ := ev
  have HLb := hide hLb
  have Hr := hide hr
  obtain ⟨i1, gi, gz0, gz1, gz2⟩ := info_parts infoWr
  clear hLb hl hr
  go_enter Tryd.func74, Tryd.ntmps74
  go_wp2
  go_loopw [3, 8] (fun ov iv wr => ∃ (k : Nat) (ao : Option Addr) (ca : Nat), k ≤ L.length ∧ iv = .int .i64 k ∧ ov = .slice ao k ca ∧ RowA wr w.heap.size 63 2 (.slice ao k ca) k (wcells ((L.take k).map appW)) ∧ Below w.heap.size w wr) (fun _ iv _ => L.length - (intOf iv).toNat)
  case atStart => exact ⟨0, none, 0, Nat.zero_le _, rfl, rfl, .inl (World.ownsRow_nil _ _ _ _), Below.refl _ _⟩
  case round =>
    obtain ⟨k, ao, ca, hk, rfl, rfl, hrow, hbel⟩ := hrel
    by_cases hlt : k < L.length
    · obtain ⟨⟨a, t⟩, hx⟩ := getAt L k hlt
      obtain ⟨ha0, ha1⟩ := HLb.out (a, t) (List.mem_of_getElem? hx)
      simp only at ha0 ha1
      obtain ⟨b, off, rfl, hcl⟩ := Hr.out (by omega)
      obtain ⟨e0, e1⟩ := wcells_at L k _ hx
      have g1 := hcl _ _ e0
      have g2 := hcl _ _ e1
      have l1 : b < w.heap.size := World.block_lt_of_cell? w _ g1
      have f1 : wr.cell? ⟨b, off + k * 2, none⟩ = some (.int .i64 a) := by rw [Nat.mul_comm k 2]; exact (hbel.cell (p := ⟨b, off + 2 * k, none⟩) l1).trans g1
      have f2 : wr.cell? ⟨b, off + k * 2 + 1, none⟩ = some (.string t) := by rw [Nat.mul_comm k 2]; exact (hbel.cell (p := ⟨b, off + (2 * k + 1), none⟩) l1).trans g2
      have hi' : (k : Int) < (L.length : Int) := by omega
      have Hx := hide hx
      have zz := hbel.size
      have al1 : Below wr.heap.size wr (wr.alloc (.cells #[.int .i64 a, .string t] 109)) := (Below.refl _ _).alloc (Nat.le_refl _) _
      have al2 := al1.alloc (o := .cells #[.int .i64 (251 + a), .string t] 63) (by simp)
      have s3 := hrow.keepB al2
      have N3 := hide (new_cells (wr.alloc (.cells #[.int .i64 a, .string t] 109)) (251 + a) t 63)
      clear hcl g1 g2 e0 e1 hx
      go_wp2_with (at_builtin; refine wpList_appendA _ rfl _ _ 29 rfl w.heap.size 63 i1 (.agg #[.int .i64 0, .string ⟨#[]⟩]) 2 24 Tryd.underlying29 gi gz0 gz1 gz2 rfl (by decide) _ k _ rfl s3 ⟨wr.heap.size + 1, 0, none⟩ 1 1 [.int .i64 (251 + a), .string t] rfl rfl ?qn (new_one _ _) (by decide) ?q63 ?qby ?qbase ?_)
      case qn => simpa using N3.out
      case q63 => unfold maxLen; omega
      case qby => omega
      case qbase => simp; omega
      intro v4 w4 hown u4
      obtain ⟨mo, cm, rfl⟩ := (Row.ofOwns hown (by omega)).shape
      go_wp2
      go_roundw
      case rel =>
        refine ⟨k + 1, mo, cm, by omega, by go_num, rfl, ?_, hbel.trans ((al2.mono zz).trans (u4.below (by simp; omega) (fun j h => h.1)))⟩
        rw [List.take_add_one, Hx.out, Option.toList_some, List.map_append, List.map_cons, List.map_nil, appW, wcells_snoc]
        rw [← List.map_take] at hown
        exact .inl hown
      case measure => simp [intOf]; omega
    · obtain rfl : k = L.length := by omega
      rw [List.take_length] at hrow
      go_wp2
      go_ret
      exact ⟨_, _, rfl, hrow, hbel⟩

end Go.Proofs.YtapflnabiobonaaDoor

/- What the laws' own helpers do with steps: contracts; no statement of the seat is proved here. -/
namespace Go.Proofs.YtapflnabiobonaaDoor
open Go.RowKit

/-- A step: a flush, or a write. -/
abbrev Stp := Bool × Int × ByteArray
/-- The cells of steps. -/
def scell (x : Stp) : List Value := [.bool x.1, .int .i64 x.2.1, .string x.2.2]
def scells (xs : List Stp) : List Value := xs.flatMap scell
theorem scells_len (xs : List Stp) : (scells xs).length = xs.length * 3 := by
  induction xs with
  | nil => rfl
  | cons x xs ih => simp only [scells, List.flatMap_cons, List.length_append, scell, List.length_cons, List.length_nil] at ih ⊢; omega
theorem scells_at (xs : List Stp) (i : Nat) (x : Stp) (h : xs[i]? = some x) : (scells xs)[3 * i]? = some (.bool x.1) ∧ (scells xs)[3 * i + 1]? = some (.int .i64 x.2.1) ∧ (scells xs)[3 * i + 2]? = some (.string x.2.2) := by
  induction xs generalizing i with
  | nil => simp at h
  | cons y ys ih =>
    cases i with
    | zero => simp at h; subst h; simp [scells, scell]
    | succ i =>
      have := ih i (by simpa using h)
      simp only [scells, List.flatMap_cons, scell, List.cons_append, List.nil_append] at this ⊢
      rw [show 3 * (i + 1) = 3 * i + 1 + 1 + 1 by omega]
      simpa using this

/-- The cells of the step at a place, in a later world. -/
theorem step_cells {w wr : World} {b o k : Nat} {xs : List Stp} {x : Stp} (hc : ∀ j u, (scells xs)[j]? = some u → w.cell? ⟨b, o + j, none⟩ = some u) (h : xs[k]? = some x) (hb : Below w.heap.size w wr) :
    wr.cell? ⟨b, o + k * 3, none⟩ = some (.bool x.1) ∧ wr.cell? ⟨b, o + k * 3 + 1, none⟩ = some (.int .i64 x.2.1) ∧ wr.cell? ⟨b, o + k * 3 + 2, none⟩ = some (.string x.2.2) ∧ b < w.heap.size := by
  obtain ⟨e0, e1, e2⟩ := scells_at xs k x h
  have g0 := hc _ _ e0
  have g1 := hc _ _ e1
  have g2 := hc _ _ e2
  have l1 : b < w.heap.size := World.block_lt_of_cell? w _ g0
  rw [Nat.mul_comm k 3]
  exact ⟨(hb.cell (p := ⟨b, o + 3 * k, none⟩) l1).trans g0, (hb.cell (p := ⟨b, o + (3 * k + 1), none⟩) l1).trans g1, (hb.cell (p := ⟨b, o + (3 * k + 2), none⟩) l1).trans g2, l1⟩

set_option maxHeartbeats 400000 in
theorem eqSecStep_true (x : Stp) (w : World) :
    Calls Tryd.prog 46 #[.agg #[.bool x.1, .int .i64 x.2.1, .string x.2.2], .agg #[.bool x.1, .int .i64 x.2.1, .string x.2.2]] w fun e w' => e = .returned (.bool true) ∧ Below w.heap.size w w' := by
  obtain ⟨f, a, s⟩ := x
  cases f
  all_goals
    go_enter Tryd.func46, Tryd.ntmps46
    go_wp2
    go_ret
    exact ⟨rfl, ((Below.refl _ _).alloc (Nat.le_refl _) _).alloc (by simp) _⟩

set_option maxHeartbeats 400000 in
theorem eqSecStepS_true (va vb : Value) (n : Nat) (xs : List Stp) (w : World) (ha : RowR w 3 va n (scells xs)) (hb : RowR w 3 vb n (scells xs)) :
    Calls Tryd.prog 20 #[va, vb] w fun e w' => e = .returned (.bool true) ∧ Below w.heap.size w w' := by
  obtain ⟨ao, ca, rfl, hn, hl, ha⟩ := ha
  obtain ⟨bo, cb, rfl, _, _, hb⟩ := hb
  rw [scells_len] at hl
  go_enter Tryd.func20, Tryd.ntmps20
  go_wp2
  go_loopw [5] (fun i wr => ∃ k : Nat, k ≤ n ∧ i = .int .i64 k ∧ Below w.heap.size w wr) (fun i _ => n - (intOf i).toNat)
  case atStart => exact ⟨0, Nat.zero_le _, rfl, Below.refl _ _⟩
  case round =>
    obtain ⟨k, hk, rfl, hbel⟩ := hrel
    by_cases hlt : k < n
    · obtain ⟨b1, o1, rfl, hc1⟩ := ha (by omega)
      obtain ⟨b2, o2, rfl, hc2⟩ := hb (by omega)
      obtain ⟨x, hx⟩ := getAt xs k (by omega)
      obtain ⟨f0, f1, f2, l1⟩ := step_cells hc1 hx hbel
      obtain ⟨g0, g1, g2, l2⟩ := step_cells hc2 hx hbel
      obtain ⟨f, a, s⟩ := x
      have hi : (k : Int) < (n : Int) := by omega
      clear ha hb hc1 hc2 hx hl
      go_wp2
      go_region_with (go_at_call 46; refine (eqSecStep_true (f, a, s) _).mono ?_; rintro e w1 ⟨rfl, hbm⟩; have hbm' : Below wr.heap.size wr w1 := bUndrew hbm)
      all_goals
        go_wp2
        go_roundw
        case rel => exact ⟨k + 1, by omega, by go_num, bAllTo hbel hbm'⟩
        case measure => simp [intOf]; omega
    · go_wp2
      go_ret
      exact ⟨rfl, hbel⟩

/-- How many bytes steps have together. -/
def bytesT (xs : List Stp) : Nat := (xs.map (·.2.2.size)).sum
theorem bytesT_take (ss : List Stp) (k : Nat) (h : k < ss.length) : bytesT (ss.take (k + 1)) = bytesT (ss.take k) + (ss[k]'h).2.2.size := by
  rw [List.take_succ_eq_append_getElem h]
  simp only [bytesT, List.map_append, List.sum_append, List.map_cons, List.map_nil, List.sum_cons, List.sum_nil, Nat.add_zero]

theorem infoSt : (Tryd.prog.info? 50).map (fun i => (i.zero, i.size, i.bytes)) = some (some (.agg #[.bool false, .int .i64 0, .string ⟨#[]⟩]), 3, 32) := by kernel_rfl

/-- Three cells of a row, written one behind the other. -/
theorem set3 {cur : Array Value} {j k : Nat} (x y z : Value) (hk : k * 3 + 2 < cur.size) :
    let c := ((cur.setIfInBounds (k * 3) x).setIfInBounds (k * 3 + 1) y).setIfInBounds (k * 3 + 2) z
    (j = k → c[3 * j]? = some x ∧ c[3 * j + 1]? = some y ∧ c[3 * j + 2]? = some z) ∧ (j ≠ k → c[3 * j]? = cur[3 * j]? ∧ c[3 * j + 1]? = cur[3 * j + 1]? ∧ c[3 * j + 2]? = cur[3 * j + 2]?) := by
  refine ⟨?_, fun h => ?_⟩
  · rintro rfl
    rw [Nat.mul_comm 3 j]
    refine ⟨?_, ?_, ?_⟩
    · rw [Array.getElem?_setIfInBounds_ne (by omega), Array.getElem?_setIfInBounds_ne (by omega), Array.getElem?_setIfInBounds_self_of_lt (by omega)]
    · rw [Array.getElem?_setIfInBounds_ne (by omega), Array.getElem?_setIfInBounds_self_of_lt (by simp; omega)]
    · rw [Array.getElem?_setIfInBounds_self_of_lt (by simp; omega)]
  · refine ⟨?_, ?_, ?_⟩ <;> rw [Array.getElem?_setIfInBounds_ne (by omega), Array.getElem?_setIfInBounds_ne (by omega), Array.getElem?_setIfInBounds_ne (by omega)]

/-- A list of cells that holds steps at every place is theirs. -/
theorem scells_ext (xs : List Stp) (cs : List Value) (hl : cs.length = xs.length * 3) (h : ∀ j x, xs[j]? = some x → cs[3 * j]? = some (.bool x.1) ∧ cs[3 * j + 1]? = some (.int .i64 x.2.1) ∧ cs[3 * j + 2]? = some (.string x.2.2)) : cs = scells xs := by
  apply List.ext_getElem?
  intro j
  by_cases hj : j < xs.length * 3
  · obtain ⟨x, hx⟩ := getAt xs (j / 3) (by omega)
    have h1 := h (j / 3) x hx
    have h2 := scells_at xs (j / 3) x hx
    rcases (by omega : j = 3 * (j / 3) ∨ j = 3 * (j / 3) + 1 ∨ j = 3 * (j / 3) + 2) with e | e | e
    · rw [← e] at h1 h2; rw [h1.1, h2.1]
    · rw [← e] at h1 h2; rw [h1.2.1, h2.2.1]
    · rw [← e] at h1 h2; rw [h1.2.2, h2.2.2]
  · rw [List.getElem?_eq_none (by omega), List.getElem?_eq_none (by rw [scells_len]; omega)]

end Go.Proofs.YtapflnabiobonaaDoor
