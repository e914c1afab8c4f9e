/- Contracts and plain facts that this claim leans on (texts BS9); no statement of the seat is proved here. -/
import Derived.Test.YteddhdbglciahaaLk5

/- BlkPut of the specification: a contract; no statement of the seat is proved here. -/
namespace Go.Proofs.Yteddhdbglciahaa
open Go.RowKit

theorem run_appendW {P : Program} (w0 : World) {w : World} (base : Nat) (t ty e : TypeId) (i : TypeInfo) (z : Value) (size bytes : Nat) (ht : P.underlying t = some (.slice e)) (hi : P.info? e = some i) (hz : i.zero = some z)
    (hsize : i.size = size) (hby : i.bytes = bytes) (hzs : z.cells.size = size) (hsz : 0 < size)
    (v : Value) (n : Nat) (xs : List Value) (hown : RowA w0 base e size v n xs) (hb : Below w0.heap.size w0 w ∧ base ≤ w0.heap.size)
    (a : Addr) (m c : Nat) (news : List Value) (hl : news.length = m * size) (hnews : ∀ j u, news[j]? = some u → w.cell? (a.add j) = some u) (h1 : ∀ u ∈ news, u.oneCell' = true)
    (hm : 0 < m) (h63 : n + m ≤ maxLen) (hbytes : (n + m) * bytes ≤ 140737488355328) :
    ∃ v' w', (Builtin.append_ #[t, t] ty #[v, .slice (some a) m c]).run P w = .ok v' w' ∧ w'.ownsRow base e size v' (n + m) (xs ++ news) ∧ Upd (fun k => base ≤ k ∧ k < w0.heap.size) w w' := by
  have hbase : base ≤ w.heap.size := Nat.le_trans hb.2 hb.1.size
  rcases hown with hown | ⟨rfl, rfl, ao, rfl⟩
  · have hown' := owns_keep hown hb.1
    obtain ⟨v', w', hrun, r1, r2, _⟩ := run_append_own (P := P) w base t ty e i z size bytes ht hi hz hsize hby hzs hsz v n xs hown' a m c news hl hnews h1 h63 hbytes hbase
    refine ⟨v', w', hrun, r1, r2.os, r2.tape, r2.output, r2.size, fun k hk hT => r2.block k hk (fun e => hT ?_)⟩
    rcases hown.2 with ⟨rfl, _⟩ | ⟨g, cap, cur, rfl, hg, hh, _⟩
    · simp [Value.ownBlock] at e
    · simp only [Value.ownBlock, Option.some.injEq] at e
      subst e
      exact ⟨hg, heap_lt hh⟩
  · cases ao with
    | none =>
      obtain ⟨v', w', hrun, r1, r2, _⟩ := run_append_own (P := P) w base t ty e i z size bytes ht hi hz hsize hby hzs hsz _ 0 [] (World.ownsRow_nil w base e size) a m c news hl hnews h1 h63 hbytes hbase
      exact ⟨v', w', hrun, r1, r2.os, r2.tape, r2.output, r2.size, fun k hk hT => r2.block k hk (fun e => by simp [Value.ownBlock] at e)⟩
    | some b =>
      obtain ⟨v', w', hrun, r1, r2⟩ := run_append_arg_grows (P := P) w t ty e i z size bytes ht hi hz hsize hby hzs hsz b 0 0 [] (by simp) (fun j u h => by simp at h) a m c news hl hnews (by omega) h63 hbytes
      exact ⟨v', w', hrun, owns_mono r1 hbase, r2.os, r2.tape, r2.output, r2.size, fun k hk hT => r2.block k hk (fun e => by cases e)⟩

theorem wpList_appendW {P : Program} (w0 : World) (w : World) {ops : Array Oper} {rest : List Oper} {o : Oper} {a : Act} {Q : Exit → Act → World → Prop} (hgd : o.guard = none) (s x : Operand) (t : TypeId)
    (ho : o.op = .call { callee := .builtin .append, args := #[s, x], argTypes := #[t, t] })
    (base : Nat) (e : TypeId) (i : TypeInfo) (z : Value) (size bytes : Nat) (ht : P.underlying t = some (.slice e)) (hi : P.info? e = some i) (hz : i.zero = some z)
    (hsize : i.size = size) (hby : i.bytes = bytes) (hzs : z.cells.size = size) (hsz : 0 < size)
    (v : Value) (n : Nat) (xs : List Value) (hs : a.eval s = v) (hown : RowA w0 base e size v n xs) (hb : Below w0.heap.size w0 w ∧ base ≤ w0.heap.size)
    (ad : Addr) (m c : Nat) (news : List Value) (hx : a.eval x = .slice (some ad) m c) (hl : news.length = m * size) (hnews : ∀ j u, news[j]? = some u → w.cell? (ad.add j) = some u) (h1 : ∀ u ∈ news, u.oneCell' = true)
    (hm : 0 < m) (h63 : n + m ≤ maxLen) (hbytes : (n + m) * bytes ≤ 140737488355328)
    (h : ∀ v' w', w'.ownsRow base e size v' (n + m) (xs ++ news) → Upd (fun k => base ≤ k ∧ k < w0.heap.size) w w' → wpList P ops Q rest (a.put o.dst v') w') : wpList P ops Q (o :: rest) a w := by
  obtain ⟨v', w', hrun, r1, r2⟩ := run_appendW (P := P) w0 (w := w) base t o.type e i z size bytes ht hi hz hsize hby hzs hsz v n xs hown hb ad m c news hl hnews h1 hm h63 hbytes
  refine wpList_plain hgd fun K hK => ?_
  unfold Oper.wp
  simp [execOp, ho, resolve, invoke, builtin, hs, hx, hrun, Result.andThen]
  exact hK _ _ (h v' w' r1 r2)

theorem put_done {x y : Pc} {ys out : List Pc} (hs : Asc ordP (ys ++ [y])) (h : PutAt x ys out true) : 0 < ordP y x := by
  cases h with
  | behind h e =>
    obtain ⟨z, hz, hz0⟩ := h
    exact ordOkP.above hz0 ((List.pairwise_append.1 hs).2.2 z hz y (by simp))
theorem put_lo {x y : Pc} {ys out : List Pc} (hs : Asc ordP (ys ++ [y])) (h : PutAt x ys out false) (hy : ordP y x < 0) : PutAt x (ys ++ [y]) (out ++ [y]) false := by
  have := put_step hs h
  rwa [if_neg (by simp [hy]), if_neg (by omega), show (false || decide (¬ ordP y x < 0)) = false by simp [hy]] at this
theorem put_eq {x y : Pc} {ys out : List Pc} (hs : Asc ordP (ys ++ [y])) (h : PutAt x ys out false) (hy : ordP y x = 0) : PutAt x (ys ++ [y]) (out ++ [x]) true := by
  have := put_step hs h
  rwa [if_pos ⟨rfl, by omega⟩, if_pos hy, List.append_nil, show (false || decide (¬ ordP y x < 0)) = true by simp; omega] at this
theorem put_hi {x y : Pc} {ys out : List Pc} (hs : Asc ordP (ys ++ [y])) (h : PutAt x ys out false) (hy : 0 < ordP y x) : PutAt x (ys ++ [y]) (out ++ [x] ++ [y]) true := by
  have := put_step hs h
  rwa [if_pos ⟨rfl, by omega⟩, if_neg (by omega), show (false || decide (¬ ordP y x < 0)) = true by simp; omega] at this
theorem put_on {x y : Pc} {ys out : List Pc} (hs : Asc ordP (ys ++ [y])) (h : PutAt x ys out true) : PutAt x (ys ++ [y]) (out ++ [y]) true := by
  have h0 := put_done hs h
  have := put_step hs h
  rwa [if_neg (by simp), if_neg (by omega), Bool.true_or] at this

/-- How two pieces differ in their places. -/
theorem ord_ne {x y : Pc} (h : ordP y x ≠ 0) : y.1 ≠ x.1 ∨ (y.1 = x.1 ∧ y.2.1 ≠ x.2.1) ∨ (y.1 = x.1 ∧ y.2.1 = x.2.1 ∧ y.2.2.1 ≠ x.2.2.1) := by
  have := @ordP_zero y x
  omega

set_option maxRecDepth 100000 in
set_option maxHeartbeats 4000000 in
theorem specBlkPut_any (ao : Option Addr) (ca : Nat) (xs : List Pc) (d b p t : Int) (w : World) (hr : RowR w 4 (.slice ao xs.length ca) xs.length (pcells xs)) :
    Calls Try.prog 142 #[.slice ao xs.length ca, .int .i64 d, .int .i64 b, .int .i64 p, .int .i64 t] w fun e w' => ∃ v', e = .returned (.tuple #[v', .bool (putR xs (d, b, p, t)).2]) ∧ RowA w' w.heap.size 152 4 v' (putR xs (d, b, p, t)).1.length (pcells (putR xs (d, b, p, t)).1) ∧ Below w.heap.size w w' := by
  obtain ⟨i1, gi, gz0, gz1, gz2⟩ := info_parts infoPc
  have al0 : Below w.heap.size w ((w.alloc (.cells #[] 152)).alloc (.cells #[.int .i64 d, .int .i64 b, .int .i64 p, .int .i64 t] 152)) := ((Below.refl _ _).alloc (Nat.le_refl _) _).alloc (by simp) _
  obtain ⟨W, hW⟩ : ∃ W, W = (w.alloc (.cells #[] 152)).alloc (.cells #[.int .i64 d, .int .i64 b, .int .i64 p, .int .i64 t] 152) := ⟨_, rfl⟩
  have B0 : Hid (W.heap[w.heap.size + 1]? = some (.cells #[.int .i64 d, .int .i64 b, .int .i64 p, .int .i64 t] 152 (0, 0))) := by show _ = _; rw [hW]; exact al2_1 w _ _
  rw [← hW] at al0
  have hWz : Hid (W.heap.size = w.heap.size + 2) := by show _ = _; rw [hW]; simp
  have Hr0 := hide hr
  have cK := specBlkOk_any _ xs W (hr.keep al0)
  cases hok : okP xs
  · have HR : Hid (putR xs (d, b, p, t) = ([], false)) := by show _ = _; simp [putR, hok]
    rw [hok] at cK
    go_enter Try.func142, Try.ntmps142
    go_wp2_with fail
    rw [← hW]
    refine cK.mono ?_
    rintro e w1 ⟨rfl, b1⟩
    clear hW
    go_wp2
    rw [HR.out]
    exact bodyPost_ret (v := .tuple #[.slice (some ⟨w.heap.size, 0, none⟩) 0 0, .bool false]) (by simp [results, Try.results142, go_sem]) rfl ⟨_, rfl, .inr ⟨rfl, rfl, _, rfl⟩, bAll al0 b1⟩
  · obtain ⟨X, hX⟩ : ∃ X, insL ordP xs (d, b, p, t) = X := ⟨_, rfl⟩
    have HR : Hid (putR xs (d, b, p, t) = if okP X = true then (X, true) else (xs, false)) := by show _ = _; simp [putR, hok, hX]
    have HX := hide hX
    clear hX
    have hl := ok_len hok
    have HA := hide (ok_asc ordOkP hok)
    rw [hok] at cK
    obtain ⟨_, _, e0, hn, -, hr⟩ := hr
    injection e0 with e1 e2 e3
    subst e1 e3
    obtain ⟨n, hnn⟩ : ∃ n, xs.length = n := ⟨_, rfl⟩
    have Hl := hide hnn
    rw [hnn] at hn hl hr cK Hr0 ⊢
    clear hnn hok e2
    go_enter Try.func142, Try.ntmps142
    go_wp2_with fail
    rw [← hW]
    clear hW
    refine cK.mono ?_
    rintro e w1 ⟨rfl, b1⟩
    clear cK
    go_wp2
    go_loopw [12, 14, 15] (fun o dn i wr => ∃ (k : Nat) (out : List Pc) (done : Bool), k ≤ n ∧ i = .int .i64 k ∧ dn = .bool done ∧ PutAt (d, b, p, t) (xs.take k) out done ∧ RowA wr W.heap.size 152 4 o out.length (pcells out) ∧ Below W.heap.size W wr) (fun _ _ i _ => n - (intOf i).toNat)
    case atStart => exact ⟨0, [], false, Nat.zero_le _, rfl, rfl, put_start _, .inr ⟨rfl, rfl, _, rfl⟩, b1⟩
    case round =>
      obtain ⟨k, out, done, hk, rfl, rfl, hput, hrow, hbel⟩ := hrel
      have hol : Hid (out.length ≤ 61) := by
        show _ ≤ _
        have := put_len hput
        rw [List.length_take] at this
        omega
      have HP := hide hput
      have HW := hide hrow
      clear hput hrow
      have hWw := hbel.size
      by_cases hlt : k < n
      · obtain ⟨bb, oo, rfl, hc⟩ := hr (by omega)
        obtain ⟨y, hy⟩ := getAt xs k (by have := Hl.out; omega)
        have ht : Hid (xs.take (k + 1) = xs.take k ++ [y]) := by
          show _ = _
          have hm := (List.getElem?_eq_some_iff.1 hy).1
          rw [List.take_succ_eq_append_getElem hm]
          rw [List.getElem?_eq_getElem hm] at hy
          rw [Option.some.inj hy]
        have HS : Hid (Asc ordP (xs.take k ++ [y])) := by show Asc _ _; rw [← ht.out]; exact HA.out.sublist (List.take_sublist _ _)
        obtain ⟨f0, f1, f2, f3, l1⟩ := pc_cells hc hy (bAll al0 hbel)
        obtain ⟨d', b', p', t'⟩ := y
        have hmi : (k : Int) < (n : Int) := by omega
        clear hr hc hy
        have aly : Below wr.heap.size wr (wr.alloc (.cells #[.int .i64 d', .int .i64 b', .int .i64 p', .int .i64 t'] 152)) := (Below.refl _ _).alloc (Nat.le_refl _) _
        have BY := hide (al1_0 wr (.cells #[.int .i64 d', .int .i64 b', .int .i64 p', .int .i64 t'] 152))
        obtain ⟨o, ho⟩ : ∃ o, decide (ordP (d', b', p', t') (d, b, p, 0) < 0) = o := ⟨_, rfl⟩
        have cO := fun w => l3Before_any (d', b', p', t') d b p w
        rw [ho] at cO
        have hord0 : ordP (d', b', p', t') (d, b, p, 0) = ordP (d', b', p', t') (d, b, p, t) := rfl
        rw [hord0] at ho
        clear hord0
        cases done
        · rcases (by omega : ordP (d', b', p', t') (d, b, p, t) < 0 ∨ ordP (d', b', p', t') (d, b, p, t) = 0 ∨ 0 < ordP (d', b', p', t') (d, b, p, t)) with hlo | heq | hhi
          · obtain rfl : o = true := by rw [← ho]; simpa using hlo
            have HN := hide (put_lo HS.out HP.out hlo)
            rw [← ht.out] at HN
            have hne := ord_ne (x := (d, b, p, t)) (y := (d', b', p', t')) (by omega)
            simp only at hne
            clear hlo ho
            rcases hne with h1 | ⟨h1, h2⟩ | ⟨h1, h2, h3⟩
            all_goals
              try (have e1 : (d' == d) = false := by simpa using h1)
              try (have e2 : (b' == b) = false := by simpa using h2)
              try (have e3 : (p' == p) = false := by simpa using h3)
              try subst h1
              try subst h2
              go_wp2_with fail
              refine (cO _).mono ?_
              rintro e w2 ⟨rfl, b2⟩
              have b2' := bAll aly b2
              obtain ⟨y0, y1, y2, y3⟩ := box4 (bKeeps b2 BY.out)
              have hwz := b2'.size
              go_wp2_with (at_builtin; refine wpList_appendW wr _ rfl _ _ 44 rfl W.heap.size 152 i1 (.agg #[.int .i64 0, .int .i64 0, .int .i64 0, .int .i64 0]) 4 32 Try.underlying44 gi gz0 gz1 gz2 rfl (by decide) _ (out.length) (pcells out) rfl HW.out ?qb ⟨w2.heap.size, 0, none⟩ 1 1 (pcell (d', b', p', t')) rfl rfl ?qn (pcell_one _) (by decide) ?q63 ?qby ?_)
              case qb => first | exact ⟨bAll b2' (bAlloc (Below.refl _ _) _), hWw⟩ | exact bAll b2' (bAlloc (Below.refl _ _) _)
              case qn => first | exact fun _ _ h => h | exact newP_cells _ _ _
              case q63 => have := hol.out; unfold maxLen; omega
              case qby => have := hol.out; omega
              intro v4 w4 hown u4
              have b4 : Below W.heap.size W w4 := (bAll hbel (bAll b2' (bAlloc (Below.refl _ _) _))).trans (u4.below (by simp; omega) (fun _ h => h.1))
              go_wp2
              go_roundw
              case rel => exact ⟨k + 1, _, _, by omega, by go_num, rfl, HN.out, by rw [pcells_snoc, List.length_append]; exact .inl hown, b4⟩
              case measure => simp [intOf]; omega
          · obtain rfl : o = false := by rw [← ho]; simp; omega
            have HN := hide (put_eq HS.out HP.out heq)
            rw [← ht.out] at HN
            rw [ordP_zero] at heq
            simp only at heq
            obtain ⟨h1, h2, h3⟩ := heq
            subst h1
            subst h2
            subst h3
            clear ho
            go_wp2_with fail
            refine (cO _).mono ?_
            rintro e w2 ⟨rfl, b2⟩
            have b2' := bAll aly b2
            obtain ⟨x0, x1, x2, x3⟩ := box4 (bKeeps (bAll hbel b2') B0.out)
            have hwz := b2'.size
            go_wp2_with (at_builtin; refine wpList_appendW wr _ rfl _ _ 44 rfl W.heap.size 152 i1 (.agg #[.int .i64 0, .int .i64 0, .int .i64 0, .int .i64 0]) 4 32 Try.underlying44 gi gz0 gz1 gz2 rfl (by decide) _ (out.length) (pcells out) rfl HW.out ?qb ⟨w2.heap.size, 0, none⟩ 1 1 (pcell (d', b', p', t)) rfl rfl ?qn (pcell_one _) (by decide) ?q63 ?qby ?_)
            case qb => first | exact ⟨bAll b2' (bAlloc (Below.refl _ _) _), hWw⟩ | exact bAll b2' (bAlloc (Below.refl _ _) _)
            case qn => first | exact fun _ _ h => h | exact newP_cells _ _ _
            case q63 => have := hol.out; unfold maxLen; omega
            case qby => have := hol.out; omega
            intro v4 w4 hown u4
            have b4 : Below W.heap.size W w4 := (bAll hbel (bAll b2' (bAlloc (Below.refl _ _) _))).trans (u4.below (by simp; omega) (fun _ h => h.1))
            go_wp2
            go_roundw
            case rel => exact ⟨k + 1, _, _, by omega, by go_num, rfl, HN.out, by rw [pcells_snoc, List.length_append]; exact .inl hown, b4⟩
            case measure => simp [intOf]; omega
          · obtain rfl : o = false := by rw [← ho]; simp; omega
            have HN := hide (put_hi HS.out HP.out hhi)
            rw [← ht.out] at HN
            have hne := ord_ne (x := (d, b, p, t)) (y := (d', b', p', t')) (by omega)
            simp only at hne
            clear hhi ho
            rcases hne with h1 | ⟨h1, h2⟩ | ⟨h1, h2, h3⟩
            · have e1 : (d' == d) = false := by simpa using h1
              go_wp2_with fail
              refine (cO _).mono ?_
              rintro e w2 ⟨rfl, b2⟩
              have b2' := bAll aly b2
              obtain ⟨x0, x1, x2, x3⟩ := box4 (bKeeps (bAll hbel b2') B0.out)
              have hwz := b2'.size
              go_wp2_with (at_builtin; refine wpList_appendW wr _ rfl _ _ 44 rfl W.heap.size 152 i1 (.agg #[.int .i64 0, .int .i64 0, .int .i64 0, .int .i64 0]) 4 32 Try.underlying44 gi gz0 gz1 gz2 rfl (by decide) _ (out.length) (pcells out) rfl HW.out ?qb ⟨w2.heap.size, 0, none⟩ 1 1 (pcell (d, b, p, t)) rfl rfl ?qn (pcell_one _) (by decide) ?q63 ?qby ?_)
              case qb => first | exact ⟨bAll b2' (bAlloc (Below.refl _ _) _), hWw⟩ | exact bAll b2' (bAlloc (Below.refl _ _) _)
              case qn => first | exact fun _ _ h => h | exact newP_cells _ _ _
              case q63 => have := hol.out; unfold maxLen; omega
              case qby => have := hol.out; omega
              intro v4 w4 hown u4
              have c4 := bAll b2' (bAlloc (Below.refl w2.heap.size w2) (.cells #[.int .i64 d, .int .i64 b, .int .i64 p, .int .i64 t] 152))
              have b4 : Below W.heap.size W w4 := (bAll hbel c4).trans (u4.below (by simp; omega) (fun _ h => h.1))
              obtain ⟨y0, y1, y2, y3⟩ := box4 (u4.keeps (bKeeps (bAll b2 (bAlloc (Below.refl _ _) _)) BY.out) (by omega))
              have hw4 := u4.size
              simp only [World.size_alloc] at hw4
              go_wp2_with (at_builtin; refine wpList_appendW w4 _ rfl _ _ 44 rfl W.heap.size 152 i1 (.agg #[.int .i64 0, .int .i64 0, .int .i64 0, .int .i64 0]) 4 32 Try.underlying44 gi gz0 gz1 gz2 rfl (by decide) _ (out.length + 1) (pcells out ++ pcell (d, b, p, t)) rfl (.inl hown) ?qb2 ⟨w4.heap.size, 0, none⟩ 1 1 (pcell (d', b', p', t')) rfl rfl ?qn2 (pcell_one _) (by decide) ?q632 ?qby2 ?_)
              case qb2 => first | exact ⟨bAlloc (Below.refl _ _) _, b4.size⟩ | exact bAlloc (Below.refl _ _) _
              case qn2 => first | exact fun _ _ h => h | exact newP_cells _ _ _
              case q632 => have := hol.out; unfold maxLen; omega
              case qby2 => have := hol.out; omega
              intro v5 w5 hown5 u5
              have b5 : Below W.heap.size W w5 := (bAll b4 (bAlloc (Below.refl _ _) _)).trans (u5.below (by simp; omega) (fun _ h => h.1))
              go_wp2
              go_roundw
              case rel => exact ⟨k + 1, _, _, by omega, by go_num, rfl, HN.out, by rw [pcells_snoc, pcells_snoc, List.append_assoc, List.length_append, List.length_append]; exact .inl (by simpa using hown5), b5⟩
              case measure => simp [intOf]; omega
            · have e2 : (b' == b) = false := by simpa using h2
              subst h1
              go_wp2_with fail
              refine (cO _).mono ?_
              rintro e w2 ⟨rfl, b2⟩
              have b2' := bAll aly b2
              obtain ⟨x0, x1, x2, x3⟩ := box4 (bKeeps (bAll hbel b2') B0.out)
              have hwz := b2'.size
              go_wp2_with (at_builtin; refine wpList_appendW wr _ rfl _ _ 44 rfl W.heap.size 152 i1 (.agg #[.int .i64 0, .int .i64 0, .int .i64 0, .int .i64 0]) 4 32 Try.underlying44 gi gz0 gz1 gz2 rfl (by decide) _ (out.length) (pcells out) rfl HW.out ?qb ⟨w2.heap.size, 0, none⟩ 1 1 (pcell (d', b, p, t)) rfl rfl ?qn (pcell_one _) (by decide) ?q63 ?qby ?_)
              case qb => first | exact ⟨bAll b2' (bAlloc (Below.refl _ _) _), hWw⟩ | exact bAll b2' (bAlloc (Below.refl _ _) _)
              case qn => first | exact fun _ _ h => h | exact newP_cells _ _ _
              case q63 => have := hol.out; unfold maxLen; omega
              case qby => have := hol.out; omega
              intro v4 w4 hown u4
              have c4 := bAll b2' (bAlloc (Below.refl w2.heap.size w2) (.cells #[.int .i64 d', .int .i64 b, .int .i64 p, .int .i64 t] 152))
              have b4 : Below W.heap.size W w4 := (bAll hbel c4).trans (u4.below (by simp; omega) (fun _ h => h.1))
              obtain ⟨y0, y1, y2, y3⟩ := box4 (u4.keeps (bKeeps (bAll b2 (bAlloc (Below.refl _ _) _)) BY.out) (by omega))
              have hw4 := u4.size
              simp only [World.size_alloc] at hw4
              go_wp2_with (at_builtin; refine wpList_appendW w4 _ rfl _ _ 44 rfl W.heap.size 152 i1 (.agg #[.int .i64 0, .int .i64 0, .int .i64 0, .int .i64 0]) 4 32 Try.underlying44 gi gz0 gz1 gz2 rfl (by decide) _ (out.length + 1) (pcells out ++ pcell (d', b, p, t)) rfl (.inl hown) ?qb2 ⟨w4.heap.size, 0, none⟩ 1 1 (pcell (d', b', p', t')) rfl rfl ?qn2 (pcell_one _) (by decide) ?q632 ?qby2 ?_)
              case qb2 => first | exact ⟨bAlloc (Below.refl _ _) _, b4.size⟩ | exact bAlloc (Below.refl _ _) _
              case qn2 => first | exact fun _ _ h => h | exact newP_cells _ _ _
              case q632 => have := hol.out; unfold maxLen; omega
              case qby2 => have := hol.out; omega
              intro v5 w5 hown5 u5
              have b5 : Below W.heap.size W w5 := (bAll b4 (bAlloc (Below.refl _ _) _)).trans (u5.below (by simp; omega) (fun _ h => h.1))
              go_wp2
              go_roundw
              case rel => exact ⟨k + 1, _, _, by omega, by go_num, rfl, HN.out, by rw [pcells_snoc, pcells_snoc, List.append_assoc, List.length_append, List.length_append]; exact .inl (by simpa using hown5), b5⟩
              case measure => simp [intOf]; omega
            · have e3 : (p' == p) = false := by simpa using h3
              subst h1
              subst h2
              go_wp2_with fail
              refine (cO _).mono ?_
              rintro e w2 ⟨rfl, b2⟩
              have b2' := bAll aly b2
              obtain ⟨x0, x1, x2, x3⟩ := box4 (bKeeps (bAll hbel b2') B0.out)
              have hwz := b2'.size
              go_wp2_with (at_builtin; refine wpList_appendW wr _ rfl _ _ 44 rfl W.heap.size 152 i1 (.agg #[.int .i64 0, .int .i64 0, .int .i64 0, .int .i64 0]) 4 32 Try.underlying44 gi gz0 gz1 gz2 rfl (by decide) _ (out.length) (pcells out) rfl HW.out ?qb ⟨w2.heap.size, 0, none⟩ 1 1 (pcell (d', b', p, t)) rfl rfl ?qn (pcell_one _) (by decide) ?q63 ?qby ?_)
              case qb => first | exact ⟨bAll b2' (bAlloc (Below.refl _ _) _), hWw⟩ | exact bAll b2' (bAlloc (Below.refl _ _) _)
              case qn => first | exact fun _ _ h => h | exact newP_cells _ _ _
              case q63 => have := hol.out; unfold maxLen; omega
              case qby => have := hol.out; omega
              intro v4 w4 hown u4
              have c4 := bAll b2' (bAlloc (Below.refl w2.heap.size w2) (.cells #[.int .i64 d', .int .i64 b', .int .i64 p, .int .i64 t] 152))
              have b4 : Below W.heap.size W w4 := (bAll hbel c4).trans (u4.below (by simp; omega) (fun _ h => h.1))
              obtain ⟨y0, y1, y2, y3⟩ := box4 (u4.keeps (bKeeps (bAll b2 (bAlloc (Below.refl _ _) _)) BY.out) (by omega))
              have hw4 := u4.size
              simp only [World.size_alloc] at hw4
              go_wp2_with (at_builtin; refine wpList_appendW w4 _ rfl _ _ 44 rfl W.heap.size 152 i1 (.agg #[.int .i64 0, .int .i64 0, .int .i64 0, .int .i64 0]) 4 32 Try.underlying44 gi gz0 gz1 gz2 rfl (by decide) _ (out.length + 1) (pcells out ++ pcell (d', b', p, t)) rfl (.inl hown) ?qb2 ⟨w4.heap.size, 0, none⟩ 1 1 (pcell (d', b', p', t')) rfl rfl ?qn2 (pcell_one _) (by decide) ?q632 ?qby2 ?_)
              case qb2 => first | exact ⟨bAlloc (Below.refl _ _) _, b4.size⟩ | exact bAlloc (Below.refl _ _) _
              case qn2 => first | exact fun _ _ h => h | exact newP_cells _ _ _
              case q632 => have := hol.out; unfold maxLen; omega
              case qby2 => have := hol.out; omega
              intro v5 w5 hown5 u5
              have b5 : Below W.heap.size W w5 := (bAll b4 (bAlloc (Below.refl _ _) _)).trans (u5.below (by simp; omega) (fun _ h => h.1))
              go_wp2
              go_roundw
              case rel => exact ⟨k + 1, _, _, by omega, by go_num, rfl, HN.out, by rw [pcells_snoc, pcells_snoc, List.append_assoc, List.length_append, List.length_append]; exact .inl (by simpa using hown5), b5⟩
              case measure => simp [intOf]; omega
        · have hhi := put_done HS.out HP.out
          have HN := hide (put_on HS.out HP.out)
          rw [← ht.out] at HN
          have hne := ord_ne (x := (d, b, p, t)) (y := (d', b', p', t')) (by omega)
          simp only at hne
          clear hhi ho cO
          rcases hne with h1 | ⟨h1, h2⟩ | ⟨h1, h2, h3⟩
          all_goals
            try (have e1 : (d' == d) = false := by simpa using h1)
            try (have e2 : (b' == b) = false := by simpa using h2)
            try (have e3 : (p' == p) = false := by simpa using h3)
            try subst h1
            try subst h2
            go_wp2_with (at_builtin; refine wpList_appendW wr _ rfl _ _ 44 rfl W.heap.size 152 i1 (.agg #[.int .i64 0, .int .i64 0, .int .i64 0, .int .i64 0]) 4 32 Try.underlying44 gi gz0 gz1 gz2 rfl (by decide) _ (out.length) (pcells out) rfl HW.out ?qb ⟨wr.heap.size + 1, 0, none⟩ 1 1 (pcell (d', b', p', t')) rfl rfl ?qn (pcell_one _) (by decide) ?q63 ?qby ?_)
            case qb => first | exact ⟨bAll aly (bAlloc (Below.refl _ _) _), hWw⟩ | exact bAll aly (bAlloc (Below.refl _ _) _)
            case qn => first | exact fun _ _ h => h | exact newP_cells _ _ _
            case q63 => have := hol.out; unfold maxLen; omega
            case qby => have := hol.out; omega
            intro v4 w4 hown u4
            have b4 : Below W.heap.size W w4 := (bAll hbel (bAll aly (bAlloc (Below.refl _ _) _))).trans (u4.below (by simp; omega) (fun _ h => h.1))
            go_wp2
            go_roundw
            case rel => exact ⟨k + 1, _, _, by omega, by go_num, rfl, HN.out, by rw [pcells_snoc, List.length_append]; exact .inl hown, b4⟩
            case measure => simp [intOf]; omega
      · obtain rfl : k = n := by omega
        have hP := HP.out
        rw [List.take_of_length_le (by rw [Hl.out]; exact Nat.le_refl _)] at hP
        have hend := put_end hP
        rw [HX.out] at hend
        have hXl : X.length ≤ 62 := by have := hol.out; rw [← hend]; split <;> simp <;> omega
        obtain ⟨x0, x1, x2, x3⟩ := box4 (bKeeps hbel B0.out)
        cases done
        · rw [if_pos rfl] at hend
          replace hend := hide hend
          go_wp2_with (at_builtin; refine wpList_appendW wr _ rfl _ _ 44 rfl W.heap.size 152 i1 (.agg #[.int .i64 0, .int .i64 0, .int .i64 0, .int .i64 0]) 4 32 Try.underlying44 gi gz0 gz1 gz2 rfl (by decide) _ out.length (pcells out) rfl HW.out ?qb ⟨wr.heap.size, 0, none⟩ 1 1 (pcell (d, b, p, t)) rfl rfl ?qn (pcell_one _) (by decide) ?q63 ?qby ?_)
          case qb => first | exact ⟨bAlloc (Below.refl _ _) _, hWw⟩ | exact bAlloc (Below.refl _ _) _
          case qn => first | exact fun _ _ h => h | exact newP_cells _ _ _
          case q63 => have := hol.out; unfold maxLen; omega
          case qby => have := hol.out; omega
          intro v4 w4 hown u4
          have b4 : Below W.heap.size W w4 := (bAlloc hbel _).trans (u4.below (by simp; omega) (fun _ h => h.1))
          have row4 : RowA w4 W.heap.size 152 4 v4 X.length (pcells X) := by
            rw [← hend.out, pcells_snoc, List.length_append]
            exact .inl hown
          obtain ⟨so, sc, rfl⟩ := row4.shape
          clear hown
          go_wp2_with fail
          refine (specBlkOk_any _ X _ (RowA.row (row4) (by omega)).reads).mono ?_
          rintro e w5 ⟨rfl, b5⟩
          have c5 := bAll al0 (bAll (b4) b5)
          cases hokX : okP X
          · rw [hokX, if_neg (by simp)] at HR
            go_wp2_with (at_builtin; refine wpList_copyA0 _ rfl _ _ 44 rfl w.heap.size 152 i1 (.agg #[.int .i64 0, .int .i64 0, .int .i64 0, .int .i64 0]) 4 32 Try.underlying44 gi gz0 gz1 gz2 rfl (by decide) (some ⟨w5.heap.size, 0, none⟩) rfl _ k (pcells xs) rfl ?qrow (pcells_one _) (by omega) (by omega) ?qbase ?_)
            case qrow => exact Hr0.out.keep (bAlloc c5 _)
            case qbase => have := c5.size; first | omega | (simp; omega)
            intro v6 w6 r6 u6
            have b6 : Below w.heap.size w w6 := bAll3 (bAlloc c5 _) u6
            go_wp2
            rw [HR.out]
            exact bodyPost_ret (v := .tuple #[v6, .bool false]) (by simp [results, Try.results142, go_sem]) rfl ⟨_, rfl, by rw [Hl.out]; exact r6, b6⟩
          · rw [hokX, if_pos rfl] at HR
            go_wp2
            rw [HR.out]
            exact bodyPost_ret (v := .tuple #[.slice so X.length sc, .bool true]) (by simp [results, Try.results142, go_sem]) rfl ⟨_, rfl, (RowA.keepB (row4) b5).mono al0.size, c5⟩
        · rw [if_neg (by simp)] at hend
          have row4 := HW.out
          rw [hend] at row4
          obtain ⟨so, sc, rfl⟩ := row4.shape
          go_wp2_with fail
          refine (specBlkOk_any _ X _ (RowA.row (row4) (by omega)).reads).mono ?_
          rintro e w5 ⟨rfl, b5⟩
          have c5 := bAll al0 (bAll (hbel) b5)
          cases hokX : okP X
          · rw [hokX, if_neg (by simp)] at HR
            go_wp2_with (at_builtin; refine wpList_copyA0 _ rfl _ _ 44 rfl w.heap.size 152 i1 (.agg #[.int .i64 0, .int .i64 0, .int .i64 0, .int .i64 0]) 4 32 Try.underlying44 gi gz0 gz1 gz2 rfl (by decide) (some ⟨w5.heap.size, 0, none⟩) rfl _ k (pcells xs) rfl ?qrow (pcells_one _) (by omega) (by omega) ?qbase ?_)
            case qrow => exact Hr0.out.keep (bAlloc c5 _)
            case qbase => have := c5.size; first | omega | (simp; omega)
            intro v6 w6 r6 u6
            have b6 : Below w.heap.size w w6 := bAll3 (bAlloc c5 _) u6
            go_wp2
            rw [HR.out]
            exact bodyPost_ret (v := .tuple #[v6, .bool false]) (by simp [results, Try.results142, go_sem]) rfl ⟨_, rfl, by rw [Hl.out]; exact r6, b6⟩
          · rw [hokX, if_pos rfl] at HR
            go_wp2
            rw [HR.out]
            exact bodyPost_ret (v := .tuple #[.slice so X.length sc, .bool true]) (by simp [results, Try.results142, go_sem]) rfl ⟨_, rfl, (RowA.keepB (row4) b5).mono al0.size, c5⟩

end Go.Proofs.Yteddhdbglciahaa
