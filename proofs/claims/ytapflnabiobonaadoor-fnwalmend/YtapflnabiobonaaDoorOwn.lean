/- Rows that may be appended to; copies of a disk whose writes are such a row: contracts; no statement of the seat is proved here. -/
import Derived.Test.YtapflnabiobonaaDoorCopy
import Derived.Test.YtapflnabiobonaaDoorFlush
namespace Go.Proofs.YtapflnabiobonaaDoor
open Go.RowKit

/-- A slice that append may be given: a row of one's own, or one with no room at all. -/
def RowA (w : World) (base : Nat) (e : TypeId) (size : Nat) (v : Value) (n : Nat) (cs : List Value) : Prop :=
  w.ownsRow base e size v n cs ∨ (n = 0 ∧ cs = [] ∧ ∃ ao, v = .slice ao 0 0)

theorem RowA.row {w : World} {base : Nat} {e : TypeId} {size : Nat} {v : Value} {n : Nat} {cs : List Value} (h : RowA w base e size v n cs) (hn : n ≤ 9223372036854775807) : Row w e size (fun k => base ≤ k) v n cs := by
  rcases h with h | ⟨rfl, rfl, ao, rfl⟩
  · exact Row.ofOwns h hn
  · exact ⟨ao, 0, rfl, hn, by simp, fun h => by omega⟩

theorem RowA.keep {w w' : World} {base : Nat} {e : TypeId} {size : Nat} {T : Nat → Prop} {v : Value} {n : Nat} {cs : List Value} (h : RowA w base e size v n cs) (hb : Upd T w w') (hT : ∀ k, base ≤ k → ¬ T k) : RowA w' base e size v n cs := by
  rcases h with ⟨hl, h⟩ | h
  · refine .inl ⟨hl, ?_⟩
    rcases h with h | ⟨g, cap, cur, rfl, hg, hh, h1, h2, h3, h4⟩
    · exact .inl h
    · exact .inr ⟨g, cap, cur, rfl, hg, hb.keeps hh (hT g hg), h1, h2, h3, h4⟩
  · exact .inr h

theorem RowA.keepB {w w' : World} {base : Nat} {e : TypeId} {size : Nat} {v : Value} {n : Nat} {cs : List Value} (h : RowA w base e size v n cs) (hb : Below w.heap.size w w') : RowA w' base e size v n cs :=
  h.keep (T := fun _ => False) (Upd.ofBelow hb) (fun _ _ h => h)

theorem RowA.mono {w : World} {base base' : Nat} {e : TypeId} {size : Nat} {v : Value} {n : Nat} {cs : List Value} (h : RowA w base e size v n cs) (hb : base' ≤ base) : RowA w base' e size v n cs := by
  rcases h with ⟨hl, h⟩ | h
  · refine .inl ⟨hl, ?_⟩
    rcases h with h | ⟨g, cap, cur, h0, hg, h'⟩
    · exact .inl h
    · exact .inr ⟨g, cap, cur, h0, by omega, h'⟩
  · exact .inr h

theorem RowA.shape {w : World} {base : Nat} {e : TypeId} {size : Nat} {v : Value} {n : Nat} {cs : List Value} (h : RowA w base e size v n cs) : ∃ ao cap, v = .slice ao n cap := by
  rcases h with ⟨_, ⟨rfl, rfl⟩ | ⟨g, cap, cur, rfl, _⟩⟩ | ⟨rfl, _, ao, rfl⟩ <;> exact ⟨_, _, rfl⟩

/-- A disk of one's own, whose writes may be appended to. -/
def DiskA (w : World) (base : Nat) (v : Value) (kept : List ByteArray) (wait : List (Int × ByteArray)) : Prop :=
  ∃ vk vw, v = .agg #[vk, vw] ∧ Row w 9 1 (fun k => base ≤ k) vk kept.length (kept.map Value.string) ∧ RowA w base 63 2 vw wait.length (wcells wait)

theorem run_appendA {P : Program} {w : World} (base : Nat) (t ty e : TypeId) (i : TypeInfo) (z : Value) (size bytes : Nat) (ht : P.underlying t = some (.slice e)) (hi : P.info? e = some i) (hz : i.zero = some z)
    (hsize : i.size = size) (hby : i.bytes = bytes) (hzs : z.cells.size = size) (hsz : 0 < size)
    (v : Value) (n : Nat) (xs : List Value) (hown : RowA w base e size v n xs)
    (a : Addr) (m c : Nat) (news : List Value) (hl : news.length = m * size) (hnews : ∀ j u, news[j]? = some u → w.cell? (a.add j) = some u) (h1 : ∀ u ∈ news, u.oneCell' = true)
    (hm : 0 < m) (h63 : n + m ≤ maxLen) (hbytes : (n + m) * bytes ≤ 140737488355328) (hbase : base ≤ w.heap.size) :
    ∃ v' w', (Builtin.append_ #[t, t] ty #[v, .slice (some a) m c]).run P w = .ok v' w' ∧ w'.ownsRow base e size v' (n + m) (xs ++ news) ∧ Upd (typed w (fun k => base ≤ k) e) w w' := by
  rcases hown with hown | ⟨rfl, rfl, ao, rfl⟩
  · obtain ⟨v', w', hrun, r1, r2, _⟩ := run_append_own (P := P) w base t ty e i z size bytes ht hi hz hsize hby hzs hsz v n xs hown a m c news hl hnews h1 h63 hbytes hbase
    refine ⟨v', w', hrun, r1, r2.os, r2.tape, r2.output, r2.size, fun k hk hT => r2.block k hk (fun e => hT ?_)⟩
    rcases hown.2 with ⟨rfl, _⟩ | ⟨g, cap, cur, rfl, hg, hh, _⟩
    · simp [Value.ownBlock] at e
    · simp only [Value.ownBlock, Option.some.injEq] at e
      subst e
      exact ⟨hg, cur, hh⟩
  · cases ao with
    | none =>
      obtain ⟨v', w', hrun, r1, r2, _⟩ := run_append_own (P := P) w base t ty e i z size bytes ht hi hz hsize hby hzs hsz _ 0 [] (World.ownsRow_nil w base e size) a m c news hl hnews h1 h63 hbytes hbase
      exact ⟨v', w', hrun, r1, r2.os, r2.tape, r2.output, r2.size, fun k hk hT => r2.block k hk (fun e => by simp [Value.ownBlock] at e)⟩
    | some b =>
      obtain ⟨v', w', hrun, r1, r2⟩ := run_append_arg_grows (P := P) w t ty e i z size bytes ht hi hz hsize hby hzs hsz b 0 0 [] (by simp) (fun j u h => by simp at h) a m c news hl hnews (by omega) h63 hbytes
      refine ⟨v', w', hrun, ?_, r2.os, r2.tape, r2.output, r2.size, fun k hk hT => r2.block k hk (fun e => by cases e)⟩
      obtain ⟨q1, q2⟩ := r1
      refine ⟨q1, ?_⟩
      rcases q2 with h | ⟨g, cap, cur, h0, hg, h'⟩
      · exact .inl h
      · exact .inr ⟨g, cap, cur, h0, by omega, h'⟩

theorem wpList_appendA {P : Program} (w : World) {ops : Array Oper} {rest : List Oper} {o : Oper} {a : Act} {Q : Exit → Act → World → Prop} (hgd : o.guard = none) (s x : Operand) (t : TypeId)
    (ho : o.op = .call { callee := .builtin .append, args := #[s, x], argTypes := #[t, t] })
    (base : Nat) (e : TypeId) (i : TypeInfo) (z : Value) (size bytes : Nat) (ht : P.underlying t = some (.slice e)) (hi : P.info? e = some i) (hz : i.zero = some z)
    (hsize : i.size = size) (hby : i.bytes = bytes) (hzs : z.cells.size = size) (hsz : 0 < size)
    (v : Value) (n : Nat) (xs : List Value) (hs : a.eval s = v) (hown : RowA w base e size v n xs)
    (ad : Addr) (m c : Nat) (news : List Value) (hx : a.eval x = .slice (some ad) m c) (hl : news.length = m * size) (hnews : ∀ j u, news[j]? = some u → w.cell? (ad.add j) = some u) (h1 : ∀ u ∈ news, u.oneCell' = true)
    (hm : 0 < m) (h63 : n + m ≤ maxLen) (hbytes : (n + m) * bytes ≤ 140737488355328) (hbase : base ≤ w.heap.size)
    (h : ∀ v' w', w'.ownsRow base e size v' (n + m) (xs ++ news) → Upd (typed w (fun k => base ≤ k) e) w w' → wpList P ops Q rest (a.put o.dst v') w') : wpList P ops Q (o :: rest) a w := by
  obtain ⟨v', w', hrun, r1, r2⟩ := run_appendA (P := P) (w := w) base t o.type e i z size bytes ht hi hz hsize hby hzs hsz v n xs hown ad m c news hl hnews h1 hm h63 hbytes hbase
  refine wpList_plain hgd fun K hK => ?_
  unfold Oper.wp
  simp [execOp, ho, resolve, invoke, builtin, hs, hx, hrun, Result.andThen]
  exact hK _ _ (h v' w' r1 r2)

theorem step_appendA {P : Program} {ops : Array Oper} {o : Oper} {a : Act} {w : World} {K : Act → World → Prop} {Q : Exit → Act → World → Prop} {E : Prop}
    (hg : o.guard = none) (s x : Operand) (t : TypeId) (hop : o.op = Op.call { callee := Callee.builtin Builtin.append, args := #[s, x], argTypes := #[t, t] })
    (base : Nat) (e : TypeId) (i : TypeInfo) (z : Value) (size bytes : Nat) (ht : P.underlying t = some (.slice e)) (hi : P.info? e = some i) (hz : i.zero = some z)
    (hsize : i.size = size) (hby : i.bytes = bytes) (hzs : z.cells.size = size) (hsz : 0 < size)
    (v : Value) (n : Nat) (xs : List Value) (hs : a.eval s = v) (hown : RowA w base e size v n xs)
    (ad : Addr) (m c : Nat) (news : List Value) (hx : a.eval x = .slice (some ad) m c) (hl : news.length = m * size) (hnews : ∀ j u, news[j]? = some u → w.cell? (ad.add j) = some u) (h1 : ∀ u ∈ news, u.oneCell' = true)
    (hm : 0 < m) (h63 : n + m ≤ maxLen) (hbytes : (n + m) * bytes ≤ 140737488355328) (hbase : base ≤ w.heap.size)
    (hK : ∀ v' w', w'.ownsRow base e size v' (n + m) (xs ++ news) → Upd (typed w (fun k => base ≤ k) e) w w' → K (a.put o.dst v') w') :
    if Region.wanted o (yielded ops a.tmps) = true then Oper.wp P o a w K Q else E := by
  have hw : Region.wanted o (yielded ops a.tmps) = true := by simp [Region.wanted, hg]
  rw [if_pos hw]
  obtain ⟨v', w', hrun, r1, r2⟩ := run_appendA (P := P) (w := w) base t o.type e i z size bytes ht hi hz hsize hby hzs hsz v n xs hown ad m c news hl hnews h1 hm h63 hbytes hbase
  unfold Oper.wp
  simp [execOp, hop, resolve, invoke, builtin, hs, hx, hrun, Result.andThen]
  exact hK v' w' r1 r2

theorem step_copyA {P : Program} {ops : Array Oper} {o : Oper} {a : Act} {w : World} {K : Act → World → Prop} {Q : Exit → Act → World → Prop} {E : Prop}
    (hg : o.guard = none) (s x : Operand) (t : TypeId) (hop : o.op = Op.call { callee := Callee.builtin Builtin.append, args := #[s, x], argTypes := #[t, t] })
    (base : Nat) (e : TypeId) (i : TypeInfo) (z : Value) (size bytes : Nat) (ht : P.underlying t = some (.slice e)) (hi : P.info? e = some i) (hz : i.zero = some z)
    (hsize : i.size = size) (hby : i.bytes = bytes) (hzs : z.cells.size = size) (hsz : 0 < size)
    (v : Value) (hs : a.eval s = v) (hown : w.ownsRow base e size v 0 [])
    (vx : Value) (m : Nat) (news : List Value) (hx : a.eval x = vx) (hr : RowR w size vx m news) (h1 : ∀ u ∈ news, u.oneCell' = true)
    (h63 : m ≤ 1048576) (hbytes : m * bytes ≤ 140737488355328) (hbase : base ≤ w.heap.size)
    (hK : ∀ v' w', RowA w' base e size v' m news → Below base w w' → K (a.put o.dst v') w') :
    if Region.wanted o (yielded ops a.tmps) = true then Oper.wp P o a w K Q else E := by
  have hw : Region.wanted o (yielded ops a.tmps) = true := by simp [Region.wanted, hg]
  rw [if_pos hw]
  obtain ⟨ao, c, rfl, _, hl, hr⟩ := hr
  rcases Nat.eq_zero_or_pos m with rfl | hpos
  · obtain rfl : news = [] := List.eq_nil_of_length_eq_zero (by simpa using hl)
    have hrun := run_append_zero (P := P) (w := w) base t o.type e i size ht hi v 0 [] hown ao c
    unfold Oper.wp
    simp [execOp, hop, resolve, invoke, builtin, hs, hx, hrun, Result.andThen]
    exact hK v w (.inl hown) (Below.refl _ _)
  · obtain ⟨b, off, rfl, hc⟩ := hr hpos
    obtain ⟨v', w', hrun, r1, r2, _⟩ := run_append_own (P := P) w base t o.type e i z size bytes ht hi hz hsize hby hzs hsz v 0 [] hown ⟨b, off, none⟩ m c news hl (fun j u hj => by rw [Addr.add_lit]; exact hc j u hj) h1 (by unfold maxLen; omega) (by rw [Nat.zero_add]; exact hbytes) hbase
    unfold Oper.wp
    simp [execOp, hop, resolve, invoke, builtin, hs, hx, hrun, Result.andThen]
    rw [Nat.zero_add, List.nil_append] at r1
    exact hK v' w' (.inl r1) ((Below.refl _ _).grown r2 hbase (fun k e => (hown.lt k e).1))

set_option maxRecDepth 100000 in
set_option maxHeartbeats 2000000 in
theorem secOwnA_any (kept : List ByteArray) (wait : List (Int × ByteArray)) (v : Value) (w : World) (hr : DiskR w v kept wait) (hk : kept.length ≤ 1048576) (hw : wait.length ≤ 1048576) :
    Calls Tryd.prog 58 #[v] w fun e w' => ∃ v', e = .returned v' ∧ DiskA w' w.heap.size v' kept wait ∧ Below w.heap.size w w' := by
  obtain ⟨ak, aw, rfl, a1, a2⟩ := hr
  obtain ⟨ao, ca, rfl⟩ : ∃ ao ca, ak = .slice ao kept.length ca := by obtain ⟨ao, ca, h, -⟩ := a1; exact ⟨ao, ca, h⟩
  obtain ⟨bo, cb, rfl⟩ : ∃ ao ca, aw = .slice ao wait.length ca := by obtain ⟨ao, ca, h, -⟩ := a2; exact ⟨ao, ca, h⟩
  have hal : Below w.heap.size w ((w.alloc (.cells #[.slice ao kept.length ca, .slice bo wait.length cb] 31)).alloc (.cells #[.slice none 0 0, .slice none 0 0] 94)) := ((Below.refl _ _).alloc (Nat.le_refl _) _).alloc (by simp) _
  obtain ⟨W, hW⟩ : ∃ W, W = (w.alloc (.cells #[.slice ao kept.length ca, .slice bo wait.length cb] 31)).alloc (.cells #[.slice none 0 0, .slice none 0 0] 94) := ⟨_, rfl⟩
  have B0 : W.heap[w.heap.size]? = some (.cells #[.slice ao kept.length ca, .slice bo wait.length cb] 31 (0, 0)) := by rw [hW]; exact al2_0 w _ _
  have B1 : W.heap[w.heap.size + 1]? = some (.cells #[.slice none 0 0, .slice none 0 0] 94 (0, 0)) := by rw [hW]; exact al2_1 w _ _
  have hsz : W.heap.size = w.heap.size + 2 := by rw [hW]; simp
  rw [← hW] at hal
  have k1 := hide (a1.keep hal)
  have k2 := hide (a2.keep hal)
  clear a1 a2
  obtain ⟨i0, hi, hz0, hz1, hz2⟩ := info_parts infoStr
  obtain ⟨i1, gi, gz0, gz1, gz2⟩ := info_parts infoWr
  go_enter Tryd.func58, Tryd.ntmps58
  go_wp2
  rw [← hW]
  clear hW
  obtain ⟨p0, p1, pl⟩ := box2 B0
  obtain ⟨q0, q1, ql⟩ := box2 B1
  obtain ⟨q2, q3⟩ := box2f B1
  have H0 := hide B0
  have H1 := hide B1
  clear B0 B1
  go_region_law (first
    | (refine step_copyA rfl (.const (.slice none 0 0)) (.tmp 4) 22 rfl W.heap.size 9 i0 (.string ⟨#[]⟩) 1 16 Tryd.underlying22 hi hz0 hz1 hz2 rfl (by decide) (.slice none 0 0) (by simp [Act.eval]) (World.ownsRow_nil _ _ _ _) (.slice ao kept.length ca) kept.length (kept.map Value.string) (by simp [Act.eval, Act.put]) (k1.out.keep ((Below.refl _ _).drew)) (strs_one _) hk (by omega) (by simp) ?_; intro v1 w1 r1' b1; have r1 := r1'.row (by omega); clear r1'; obtain ⟨no, cn, rfl⟩ := r1.shape; have b1' : Below W.heap.size W w1 := bUndrew b1; have s0 : w1.cell? ⟨w.heap.size, 1, none⟩ = some (.slice bo wait.length cb) := (b1'.cell (p := ⟨w.heap.size, 1, none⟩) pl).trans p1)
    | (refine step_copyA rfl (.const (.slice none 0 0)) (.tmp 8) 29 rfl w1.heap.size 63 i1 (.agg #[.int .i64 0, .string ⟨#[]⟩]) 2 24 Tryd.underlying29 gi gz0 gz1 gz2 rfl (by decide) (.slice none 0 0) (by simp [Act.eval]) (World.ownsRow_nil _ _ _ _) (.slice bo wait.length cb) wait.length (wcells wait) (by simp [Act.eval, Act.put]) (k2.out.keep b1') (wcells_one _) hw (by omega) (Nat.le_refl _) ?_; intro v2 w2 r2 b2; obtain ⟨mo, cm, rfl⟩ := r2.shape; obtain ⟨t0, t1, tl⟩ := box2 (bKeeps b2 (bKeeps b1' H1.out)); obtain ⟨t2, t3⟩ := box2f (bKeeps b2 (bKeeps b1' H1.out))))
  all_goals
    go_wp2
    have hu := upd_set2 w2 (w.heap.size + 1) 0 1 (.slice no kept.length cn) (.slice mo wait.length cm)
    have hz1' := b1'.size
    have hz2' := b2.size
    refine bodyPost_ret (v := .agg #[.slice no kept.length cn, .slice mo wait.length cm]) (by simp [results, Tryd.results58, go_sem, t0, t1]) rfl ⟨_, rfl, ⟨_, _, rfl, ?_, ?_⟩, ?_⟩
    · exact ((r1.keepB b2).keep hu (by intro k hk; omega)).mono (fun k _ hk => by omega)
    · exact (r2.keep hu (by intro k hk; omega)).mono (by omega)
    · exact ((bAll hal b1').trans (b2.mono (by omega))).trans (hu.below (by omega) (by intro k hk; omega))

theorem step_copyA0 {P : Program} {ops : Array Oper} {o : Oper} {a : Act} {w : World} {K : Act → World → Prop} {Q : Exit → Act → World → Prop} {E : Prop}
    (hg : o.guard = none) (s x : Operand) (t : TypeId) (hop : o.op = Op.call { callee := Callee.builtin Builtin.append, args := #[s, x], argTypes := #[t, t] })
    (e : TypeId) (i : TypeInfo) (z : Value) (size bytes : Nat) (ht : P.underlying t = some (.slice e)) (hi : P.info? e = some i) (hz : i.zero = some z)
    (hsize : i.size = size) (hby : i.bytes = bytes) (hzs : z.cells.size = size) (hsz : 0 < size)
    (ao0 : Option Addr) (hs : a.eval s = .slice ao0 0 0)
    (vx : Value) (m : Nat) (news : List Value) (hx : a.eval x = vx) (hr : RowR w size vx m news) (h1 : ∀ u ∈ news, u.oneCell' = true)
    (h63 : m ≤ 1048576) (hbytes : m * bytes ≤ 140737488355328)
    (hK : ∀ v' w', RowA w' w.heap.size e size v' m news → Below w.heap.size w w' → K (a.put o.dst v') w') :
    if Region.wanted o (yielded ops a.tmps) = true then Oper.wp P o a w K Q else E := by
  obtain ⟨ao, c, rfl, _, hl, hr⟩ := hr
  rcases Nat.eq_zero_or_pos m with rfl | hpos
  · obtain rfl : news = [] := List.eq_nil_of_length_eq_zero (by simpa using hl)
    have hw : Region.wanted o (yielded ops a.tmps) = true := by simp [Region.wanted, hg]
    rw [if_pos hw]
    have hrun : (Builtin.append_ #[t, t] o.type #[.slice ao0 0 0, .slice ao 0 c]).run P w = .ok (.slice ao0 0 0) w := by
      cases ao <;> cases ao0 <;> simp [Builtin.append_, run_underlying ht, sizeOf, typeInfo, hi, Builtin.lenOf, Builtin.firstCells, storeCells, loadCells, loadCellsFrom]
    unfold Oper.wp
    simp [execOp, hop, resolve, invoke, builtin, hs, hx, hrun, Result.andThen]
    exact hK _ w (.inr ⟨rfl, rfl, ao0, rfl⟩) (Below.refl _ _)
  · obtain ⟨b, off, rfl, hc⟩ := hr hpos
    refine step_append_grows hg s x t hop e i z size bytes ht hi hz hsize hby hzs hsz ao0 0 0 [] hs (fun _ => ⟨rfl, rfl⟩) (by simp) (fun _ _ j u h => by simp at h) ⟨b, off, none⟩ m c news hx hl (fun j u hj => by rw [Addr.add_lit]; exact hc j u hj) h1 (by omega) (by unfold maxLen; omega) (by rw [Nat.zero_add]; exact hbytes) ?_
    intro v' w' r1 r2
    rw [Nat.zero_add, List.nil_append] at r1
    exact hK v' w' (.inl r1) ((Below.refl _ _).grown r2 (Nat.le_refl _) (fun k e => by cases e))

set_option maxRecDepth 100000 in
set_option maxHeartbeats 2000000 in
theorem l1CopyA_any (kept : List ByteArray) (wait : List (Int × ByteArray)) (v : Value) (w : World) (hr : DiskR w v kept wait) (hk : kept.length ≤ 1048576) (hw : wait.length ≤ 1048576) :
    Calls Tryd.prog 104 #[v] w fun e w' => ∃ v', e = .returned v' ∧ DiskA w' w.heap.size v' kept wait ∧ Below w.heap.size w w' := by
  obtain ⟨ak, aw, rfl, a1, a2⟩ := hr
  obtain ⟨ao, ca, rfl⟩ : ∃ ao ca, ak = .slice ao kept.length ca := by obtain ⟨ao, ca, h, -⟩ := a1; exact ⟨ao, ca, h⟩
  obtain ⟨bo, cb, rfl⟩ : ∃ ao ca, aw = .slice ao wait.length ca := by obtain ⟨ao, ca, h, -⟩ := a2; exact ⟨ao, ca, h⟩
  have hal : Below w.heap.size w ((w.alloc (.cells #[.slice ao kept.length ca, .slice bo wait.length cb] 31)).alloc (.cells #[.slice none 0 0, .slice none 0 0] 31)) := ((Below.refl _ _).alloc (Nat.le_refl _) _).alloc (by simp) _
  obtain ⟨W, hW⟩ : ∃ W, W = (w.alloc (.cells #[.slice ao kept.length ca, .slice bo wait.length cb] 31)).alloc (.cells #[.slice none 0 0, .slice none 0 0] 31) := ⟨_, rfl⟩
  have B0 : W.heap[w.heap.size]? = some (.cells #[.slice ao kept.length ca, .slice bo wait.length cb] 31 (0, 0)) := by rw [hW]; exact al2_0 w _ _
  have B1 : W.heap[w.heap.size + 1]? = some (.cells #[.slice none 0 0, .slice none 0 0] 31 (0, 0)) := by rw [hW]; exact al2_1 w _ _
  have hsz : W.heap.size = w.heap.size + 2 := by rw [hW]; simp
  rw [← hW] at hal
  have k1 := hide (a1.keep hal)
  have k2 := hide (a2.keep hal)
  clear a1 a2
  obtain ⟨i0, hi, hz0, hz1, hz2⟩ := info_parts infoStr
  obtain ⟨i1, gi, gz0, gz1, gz2⟩ := info_parts infoWr
  go_enter Tryd.func104, Tryd.ntmps104
  go_wp2
  rw [← hW]
  clear hW
  obtain ⟨p0, p1, pl⟩ := box2 B0
  obtain ⟨q0, q1, ql⟩ := box2 B1
  obtain ⟨q2, q3⟩ := box2f B1
  have H0 := hide B0
  have H1 := hide B1
  clear B0 B1
  go_region_held_law (fun w' => (w'.cell? ⟨w.heap.size, 0, none⟩ = some (.slice ao kept.length ca) ∧ w'.cell? ⟨w.heap.size, 1, none⟩ = some (.slice bo wait.length cb)) ∧ Below (w.heap.size + 1) W w')
    ((refine keepS p0 p1 ?_; first | (refine Below.mono (B := W.heap.size) ?_ (by omega); (repeat (first | exact Below.refl _ _ | assumption | refine bAlloc ?_ _ | refine Below.drew ?_)); done) | (refine bSet (bSet ?_ _) _; exact b2'.mono (by omega))))
    (first
    | (refine step_copyA0 rfl (.tmp 3) (.tmp 5) 22 rfl 9 i0 (.string ⟨#[]⟩) 1 16 Tryd.underlying22 hi hz0 hz1 hz2 rfl (by decide) _ rfl (.slice ao kept.length ca) kept.length (kept.map Value.string) rfl (k1.out.keep (by repeat (first | exact Below.refl _ _ | assumption | refine bAlloc ?_ _ | refine Below.drew ?_))) (strs_one _) hk (by omega) ?_; intro v1 w1 r1' b1; have r1 := r1'.row (by omega); clear r1'; obtain ⟨no, cn, rfl⟩ := r1.shape; have b1' : Below W.heap.size W w1 := bAll (by repeat (first | exact Below.refl _ _ | assumption | refine bAlloc ?_ _ | refine Below.drew ?_)) b1)
    | (refine step_copyA0 rfl (.tmp 7) (.tmp 9) 29 rfl 63 i1 (.agg #[.int .i64 0, .string ⟨#[]⟩]) 2 24 Tryd.underlying29 gi gz0 gz1 gz2 rfl (by decide) _ rfl (.slice bo wait.length cb) wait.length (wcells wait) rfl (k2.out.keep (by repeat (first | exact Below.refl _ _ | assumption | refine bAlloc ?_ _ | refine Below.drew ?_))) (wcells_one _) hw (by omega) ?_; intro v2 w2 r2 b2; obtain ⟨mo, cm, rfl⟩ := r2.shape; have b2' : Below W.heap.size W w2 := bAll (by repeat (first | exact Below.refl _ _ | assumption | refine bAlloc ?_ _ | refine Below.drew ?_)) b2; obtain ⟨t0, t1, tl⟩ := box2 (bKeeps b2' H1.out); obtain ⟨t2, t3⟩ := box2f (bKeeps b2' H1.out)))
  all_goals
    go_wp2
    have hu := upd_set2 w2 (w.heap.size + 1) 0 1 (.slice no kept.length cn) (.slice mo wait.length cm)
    have hz1' := b1'.size
    have hz2' := b2'.size
    refine bodyPost_ret (v := .agg #[.slice no kept.length cn, .slice mo wait.length cm]) (by simp [results, Tryd.results104, go_sem, t0, t1]) rfl ⟨_, rfl, ⟨_, _, rfl, ?_, ?_⟩, ?_⟩
    · refine (Row.keep (Row.keepB r1 ?_) hu ?_).mono ?_
      · first | exact b2 | exact bAll (bAlloc (Below.refl _ _) _) b2
      · intro k hk
        try simp at hk
        omega
      · intro k _ hk
        try simp at hk
        omega
    · refine (RowA.keep r2 hu ?_).mono ?_
      · intro k hk
        try simp at hk
        omega
      · try simp
        omega
    · exact (bAll hal b2').trans (hu.below (by omega) (by intro k hk; omega))

end Go.Proofs.YtapflnabiobonaaDoor
