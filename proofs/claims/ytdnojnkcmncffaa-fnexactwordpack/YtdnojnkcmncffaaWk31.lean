/- Contracts and plain facts that this claim leans on (texts XLPack, XUM); no statement of the seat is proved here. -/
import Derived.Test.YtdnojnkcmncffaaWk24
import Derived.Test.YtdnojnkcmncffaaWk30
import Derived.Test.YtdnojnkcmncffaaWk5

/- What the law FnExactWordPack does: its walk; the statement itself is proved elsewhere. -/
namespace Go.Proofs.Ytdnojnkcmncffaa
open Go.RowKit

theorem Row.inside {w : World} {e : TypeId} {size : Nat} {S : Nat → Prop} {v : Value} {n : Nat} {cs : List Value} (h : Row w e size S v n cs) : Row w e size (fun k => S k ∧ k < w.heap.size) v n cs := by
  obtain ⟨ao, cap, rfl, hn, hl, h⟩ := h
  refine ⟨ao, cap, rfl, hn, hl, fun hp => ?_⟩
  obtain ⟨g, cur, e, hS, hg, ht⟩ := h hp
  exact ⟨g, cur, e, ⟨hS, heap_lt hg⟩, hg, ht⟩
theorem WdO.inside {w : World} {S : Nat → Prop} {v : Value} {x : Wd} (h : WdO w S v x) : WdO w (fun k => S k ∧ k < w.heap.size) v x := by
  obtain ⟨po, pc, lo, lc, e, h1, h2⟩ := h
  exact ⟨po, pc, lo, lc, e, h1.inside, h2.inside⟩

set_option maxRecDepth 100000 in
set_option maxHeartbeats 8000000 in
theorem wordPack_walk (v : Value) (x : Wd) (w : World) (h : WdR w v x) :
    Calls Try.prog 4 #[v] w fun e w' => e = .returned (.bool true) ∧ Below w.heap.size w w' := by
  obtain ⟨pk, hpk⟩ : ∃ pk, packW x = pk := ⟨_, rfl⟩
  have hpl : pk.length ≤ 822 := by rw [← hpk]; exact (packW_len x).2
  have HPK := hide hpk
  clear hpk
  obtain ⟨cs, rfl, hs, h1⟩ := h.agg
  have HX := hide h
  have HI := hide (infoAt infoLw hs)
  clear h hs h1
  have hb0 := bal (Below.refl w.heap.size w) (.cells cs 27)
  have B0 := hide (heap_alloc_new w (.cells cs 27))
  go_enter Try.func4, Try.ntmps4
  go_wp2_with (refine wpList_load_row rfl 27 (.tmp 1) rfl w.heap.size rfl _ cs (0, 0) _ B0.out Try.underlying27 rfl HI.out ?_)
  refine (szWord_at _ x _ _ HX.out).mono ?_
  rintro e w1 ⟨r, rfl, hz, b1⟩
  rcases hz with hneg | ⟨hr, hp, hl⟩
  · go_wp2
    go_ret
    exact ⟨rfl, bAll hb0 b1⟩
  have c1 := bAll hb0 b1
  have B1 := hide (bKeeps b1 B0.out)
  clear hb0 b1 B0
  go_wp2_with (refine wpList_load_row rfl 27 (.tmp 1) rfl w.heap.size rfl _ cs (0, 0) _ B1.out Try.underlying27 rfl HI.out ?_)
  refine (toWord_any _ x _ (HX.out.keep c1) hp hl).mono ?_
  rintro e w2 ⟨v2, rfl, r2, b2⟩
  have c2 := bAll c1 b2
  have B2 := hide (bKeeps b2 B1.out)
  have SC := hide (specWordPack_any v2 x w2 r2.reads)
  rw [HPK.out] at SC
  clear r2 b2 B1 c1
  go_wp2_with fail
  refine SC.out.mono ?_
  rintro e w3 ⟨vo3, co3, rfl, r3, b3⟩
  have c3 := bAll c2 b3
  have B3 := hide (bKeeps b3 B2.out)
  have R3 := hide (r3.row (by omega)).inside
  have z2 := c2.size
  have z3 := b3.size
  have l0 : w.heap.size < w2.heap.size := heap_lt B2.out
  clear SC b3 B2 r3 c2
  go_wp2_with (refine wpList_load_row rfl 27 (.tmp 1) rfl w.heap.size rfl _ cs (0, 0) _ B3.out Try.underlying27 rfl HI.out ?_)
  refine (toWord_any _ x _ (HX.out.keep c3) hp hl).mono ?_
  rintro e w4 ⟨v4, rfl, r4, b4⟩
  have c4 := bAll c3 b4
  obtain ⟨ds, rfl, hds, hd1⟩ := r4.reads.agg
  have al5 := bal (Below.refl w4.heap.size w4) (.cells ds 34)
  have K5 := hide (r4.inside.keepB al5)
  have HI2 := hide (infoAt infoWd hds)
  have HZ2 := hide (zero26.trans hds.symm)
  have H12 := hide hd1
  have c5 := bal c4 (.cells ds 34)
  have E0 := hide (heap_up (.cells ds 34) (bKeeps b4 B3.out))
  have E1 := hide (heap_alloc_new w4 (.cells ds 34))
  have IC := hide (implWordPack_any _ x _ K5.out.reads)
  rw [HPK.out] at IC
  have R5 := hide (R3.out.keepB (bAll b4 al5))
  have z4 := b4.size
  clear r4 b4 B3 hds hd1 c4 R3 c3 al5
  go_wp2_with (first
    | (refine wpList_store_row rfl 34 (.tmp 5) (.tmp 20) rfl w4.heap.size ds rfl rfl _ _ (heap_alloc_new w4 _) HI2.out HZ2.out H12.out ?_; rw [World.setRow_alloc_new])
    | (refine wpList_load_row rfl 34 (.tmp 5) rfl w4.heap.size rfl _ ds (0, 0) _ E1.out Try.underlying34 rfl HI2.out ?_))
  refine IC.out.mono ?_
  rintro e w6 ⟨vo6, co6, rfl, r6, b6⟩
  have c6 := bAll c5 b6
  have F0 := hide (bKeeps b6 E0.out)
  have F1 := hide (bKeeps b6 E1.out)
  have K6 := hide (K5.out.keepB b6)
  have R6 := hide (R5.out.keepB b6)
  have G6 := hide (r6.row (by omega)).inside
  have z6 := b6.size
  simp only [World.size_alloc] at z6
  clear IC E0 E1 K5 R5 c5 b6 r6
  go_wp2_with fail
  refine (eqByteS_true _ _ pk.length pk _ G6.out.reads R6.out.reads).mono ?_
  rintro e w7 ⟨rfl, b7⟩
  have c7 := bAll c6 b7
  have F07 := hide (bKeeps b7 F0.out)
  have F17 := hide (bKeeps b7 F1.out)
  have K7 := hide (K6.out.keepB b7)
  have R7 := hide (R6.out.keepB b7)
  have G7 := hide (G6.out.keepB b7)
  have z7 := b7.size
  clear F0 F1 K6 R6 G6 b7 c6
  go_wp2_with fail
  refine wp_region_noPanic ?_
  refine wp_region_held_drew (S := (fun w' => w'.heap[w.heap.size]? = some (.cells cs 27 (0, 0)) ∧ w'.heap[w4.heap.size]? = some (.cells ds 34 (0, 0)))) (by kernel_rfl) ?_ (fun hHeld => ?_)
  · exact ⟨F07.out, F17.out⟩
  refine wpAnyH_take (i := 0) (v := .agg ds) rfl (by kernel_rfl) (by kernel_rfl) (by kernel_rfl) (fun _ _ _ h => h) (yields_row rfl 34 (.tmp 5) rfl (w4.heap.size) rfl _ ds _ (fun _ h => h.2) Try.underlying34 rfl HI2.out) (by assumption) ?_
  simp only [Act.put, List.getElem_toArray, List.getElem_cons_zero, List.setIfInBounds_toArray, List.set_cons_zero, List.set_cons_succ]
  refine wpAnyH_take (i := 1) (v := .agg cs) rfl (by kernel_rfl) (by kernel_rfl) (by kernel_rfl) (fun _ _ _ h => h) (yields_row rfl 27 (.tmp 1) rfl (w.heap.size) rfl _ cs _ (fun _ h => h.1) Try.underlying27 rfl HI.out) (by assumption) ?_
  simp only [Act.put, List.getElem_toArray, List.getElem_cons_zero, List.getElem_cons_succ, List.setIfInBounds_toArray, List.set_cons_zero, List.set_cons_succ]
  refine wpAnyH_ready (rs := [2]) (by kernel_rfl) (by simp) ?_
  refine AllReadyH.cons rfl (fun K hK => ?_) AllReadyH.nil
  go_simp
  (go_at_call 11; refine (toWord_any _ x _ (HX.out.keep (bDrewB c7)) hp hl).mono ?_; rintro e w8 ⟨v8, rfl, r8, b8⟩; have b8' : Below w7.heap.size w7 w8 := bUndrew b8)
  refine hK.out _ _ ?_ (fun hHeld => ?_)
  · exact ⟨bKeeps b8 F07.out, bKeeps b8 F17.out⟩
  clear hK K
  refine wpAnyH_ready (rs := [3]) (by kernel_rfl) (by simp) ?_
  refine AllReadyH.cons rfl (fun K hK => ?_) AllReadyH.nil
  go_simp
  (go_at_call 13; refine (eqWord_true _ _ x _ (K7.out.reads.keep b8') r8.reads).mono ?_; rintro e w9 ⟨rfl, b9⟩)
  refine hK.out _ _ ?_ (fun hHeld => ?_)
  · exact ⟨bKeeps b9 (bKeeps b8 F07.out), bKeeps b9 (bKeeps b8 F17.out)⟩
  clear hK K
  refine wpAnyH_take (i := 4) (v := ?v1) rfl (by kernel_rfl) (by kernel_rfl) (by kernel_rfl) (fun _ _ _ h => h) (Or.inl ⟨by rfl, ?hy1⟩) (by assumption) ?rest1
  case hy1 => ((intro w hSw; (try dsimp only at hSw); (try simp only [List.getElem_toArray, List.getElem_cons_zero, List.getElem_cons_succ]); go_simp; first | done | (with_reducible rfl)))
  simp only [Act.put, List.getElem_toArray, List.getElem_cons_zero, List.getElem_cons_succ, List.setIfInBounds_toArray, List.set_cons_zero, List.set_cons_succ]
  refine wpAnyH_done (by kernel_rfl) ?_ _
  refine NoPanic.normal ?_
  clear hHeld
  have b79 := bAll b8' b9
  have c9 := bAll c7 b79
  have F09 := hide (bKeeps b79 F07.out)
  have F19 := hide (bKeeps b79 F17.out)
  have K9 := hide (K7.out.keepB b79)
  have R9 := hide (R7.out.keepB b79)
  have G9 := hide (G7.out.keepB b79)
  have z9 := b79.size
  clear F07 F17 K7 R7 G7 b8 b8' b9 r8 c7 b79
  go_wp2_with (refine wpList_load_row rfl 34 (.tmp 5) rfl w4.heap.size rfl _ ds (0, 0) _ F19.out Try.underlying34 rfl HI2.out ?_)
  refine (markWord_any _ _ x 1 _ K9.out (by omega) (by omega)).mono ?_
  rintro e w10 ⟨rfl, k10, u10⟩
  have c10 := c9.trans (u10.below c9.size (fun k h => by have := h.1; omega))
  have F10 := hide (u10.keeps F09.out (fun h => by have := h.1; omega))
  have R10 := hide (R9.out.keep u10 (fun k h1 h2 => by have := h1.2; have := h2.1; omega))
  have G10 := hide (G9.out.keep u10 (fun k h1 h2 => by have h3 := h1.1; have h4 := h2.2; simp only [World.size_alloc] at h3; omega))
  have z10 := u10.size
  obtain ⟨M, hM⟩ : ∃ M : Nat, M = 1 + x.ps.length * 4 + x.ls.length * 2 := ⟨_, rfl⟩
  rw [← hM]
  have hMn : ¬ (M : Int) < 0 := by omega
  clear F09 F19 K9 R9 G9 k10 u10 c9 hM
  go_wp2_with fail
  refine (eqByteS_true _ _ pk.length pk _ G10.out.reads R10.out.reads).mono ?_
  rintro e w11 ⟨rfl, b11⟩
  have c11 := bAll c10 b11
  have F11 := hide (bKeeps b11 F10.out)
  have R11 := hide (R10.out.keepB b11)
  have G11 := hide (G10.out.keepB b11)
  have z11 := b11.size
  obtain ⟨Q, hQ⟩ : ∃ Q : Nat, Q = 1 + pk.length := ⟨_, rfl⟩
  have HQ := hide hQ
  clear hQ
  have CM := hide (markByteS_any _ _ pk.length _ 1 w11 G11.out (by omega) (by omega))
  rw [← HQ.out] at CM
  clear F10 R10 b11 c10 G10
  go_wp2_with fail
  refine CM.out.mono ?_
  rintro e w12 ⟨rfl, g12, u12⟩
  have c12 := c11.trans (u12.below c11.size (fun k h => by have h3 := h.1; simp only [World.size_alloc] at h3; omega))
  have F12 := hide (u12.keeps F11.out (fun h => by have h3 := h.1; simp only [World.size_alloc] at h3; omega))
  have R12 := hide (R11.out.keep u12 (fun k h1 h2 => by have h3 := h1.2; have h4 := h2.1; simp only [World.size_alloc] at h4; omega))
  have G12 := hide g12
  have CH := hide (heldByteS_ok _ pk.length 1 w12 G12.out.reads (by omega) (by omega))
  rw [← HQ.out] at CH
  have hQn : ¬ (Q : Int) < 0 := by omega
  clear CM F11 R11 G11 u12 g12 c11
  go_wp2_with fail
  refine CH.out.mono ?_
  rintro e w13 ⟨rfl, b13⟩
  have c13 := bAll c12 b13
  have F13 := hide (bKeeps b13 F12.out)
  have R13 := hide (R12.out.keepB b13)
  have G13 := hide (G12.out.keepB b13)
  clear CH F12 R12 G12 b13 c12
  go_wp2_with (refine wpList_load_row rfl 27 (.tmp 1) rfl w.heap.size rfl _ cs (0, 0) _ F13.out Try.underlying27 rfl HI.out ?_)
  refine (toWord_any _ x _ (HX.out.keep c13) hp hl).mono ?_
  rintro e w14 ⟨v14, rfl, r14, b14⟩
  have c14 := bAll c13 b14
  have IC := hide (implWordPack_any v14 x w14 r14.reads)
  rw [HPK.out] at IC
  have R14 := hide (R13.out.keepB b14)
  have G14 := hide (G13.out.keepB b14)
  clear R13 G13 b14 r14 c13 F13
  go_wp2_with fail
  refine IC.out.mono ?_
  rintro e w15 ⟨vo15, co15, rfl, r15, b15⟩
  have c15 := bAll c14 b15
  have R15 := hide (R14.out.keepB b15)
  have G15 := hide (G14.out.keepB b15)
  have H15 := hide (r15.row (by omega))
  clear R14 G14 b15 r15 c14 IC
  go_wp2_with fail
  refine (eqByteS_true _ _ pk.length pk _ H15.out.reads R15.out.reads).mono ?_
  rintro e w16 ⟨rfl, b16⟩
  have c16 := bAll c15 b16
  have CH := hide (heldByteS_ok _ pk.length 1 w16 (G15.out.keepB b16).reads (by omega) (by omega))
  rw [← HQ.out] at CH
  clear R15 G15 H15 b16 c15 HQ
  go_wp2_with fail
  refine CH.out.mono ?_
  rintro e w17 ⟨rfl, b17⟩
  have c17 := bAll c16 b17
  clear CH c16 b17
  go_wp2
  go_ret
  exact ⟨rfl, c17⟩

end Go.Proofs.Ytdnojnkcmncffaa

/- Words as plain values: reading numbers off bytes; no statement of the seat is proved here. -/
namespace Go.Proofs.Ytdnojnkcmncffaa

/-- What stays to be read of a number m, when n was read of it, by sevens of bits up to pl. -/
def Lft (bs : List Nat) (n pl : Nat) (m : Nat) (rest : List Nat) : Prop :=
  ∃ m', m = n + m' * pl ∧ bs = encN m' ++ rest ∧ (pl = 1 ∨ 1 ≤ m')

theorem Lft.start {bs rest : List Nat} {m : Nat} (h : bs = encN m ++ rest) : Lft bs 0 1 m rest := ⟨m, by omega, h, .inl rfl⟩

theorem Lft.ne {bs rest : List Nat} {n pl m : Nat} (h : Lft bs n pl m rest) : bs ≠ [] := by
  obtain ⟨m', _, rfl, _⟩ := h
  intro e
  by_cases h1 : m' < 128
  · rw [encN_lt h1] at e; simp at e
  · rw [encN_ge (by omega)] at e; simp at e

theorem Lft.last {b : Nat} {bs rest : List Nat} {n pl m : Nat} (hb : b < 128) (h : Lft (b :: bs) n pl m rest) : m = n + b % 128 * pl ∧ bs = rest := by
  obtain ⟨m', e, e1, _⟩ := h
  by_cases h1 : m' < 128
  · rw [encN_lt h1] at e1
    injection e1 with e2 e3
    subst e2
    refine ⟨?_, e3⟩
    rw [Nat.mod_eq_of_lt hb, e]
  · rw [encN_ge (by omega)] at e1
    injection e1 with e2 e3
    omega

theorem Lft.more {b : Nat} {bs rest : List Nat} {n pl m : Nat} (hb : 128 ≤ b) (h : Lft (b :: bs) n pl m rest) : Lft bs (n + b % 128 * pl) (pl * 128) m rest := by
  obtain ⟨m', e, e1, _⟩ := h
  by_cases h1 : m' < 128
  · rw [encN_lt h1] at e1
    injection e1 with e2 e3
    omega
  · rw [encN_ge (by omega)] at e1
    injection e1 with e2 e3
    refine ⟨m' / 128, ?_, e3, .inr (by omega)⟩
    have e4 : b % 128 = m' % 128 := by omega
    rw [e4, e, Nat.add_assoc, Nat.mul_comm pl 128, ← Nat.mul_assoc, ← Nat.add_mul]
    congr 2
    omega

theorem Lft.big {bs rest : List Nat} {n pl m : Nat} (h : Lft bs n pl m rest) (hp : 100000 < pl) : 100000 < m := by
  obtain ⟨m', e, _, h3⟩ := h
  rcases h3 with h3 | h3
  · omega
  · have : 1 * pl ≤ m' * pl := Nat.mul_le_mul_right _ h3
    omega

/-- What was read of bytes: if they begin with the bytes of these numbers, just these, and what is left is what is left. -/
def Rdn (bs : List Nat) (xs : List Int) (bs' : List Nat) : Prop :=
  ∀ (ys : List Int) (rest : List Nat), ys.length = xs.length → (∀ a ∈ ys, -1 ≤ a ∧ a ≤ 99999) → bs = enc ys ++ rest → xs = ys ∧ bs' = rest

theorem Rdn.nil (bs : List Nat) : Rdn bs [] bs := by
  intro ys rest h _ e
  obtain rfl : ys = [] := by simpa using h
  exact ⟨rfl, e⟩

theorem Rdn.append {bs bs' bs'' : List Nat} {xs ys : List Int} (h1 : Rdn bs xs bs') (h2 : Rdn bs' ys bs'') : Rdn bs (xs ++ ys) bs'' := by
  intro zs rest hl hz e
  have e1 : zs = zs.take xs.length ++ zs.drop xs.length := (List.take_append_drop _ _).symm
  rw [List.length_append] at hl
  rw [e1, enc_append, List.append_assoc] at e
  obtain ⟨g1, g2⟩ := h1 _ _ (by rw [List.length_take]; omega) (fun a ha => hz a (List.mem_of_mem_take ha)) e
  obtain ⟨g3, g4⟩ := h2 _ _ (by rw [List.length_drop]; omega) (fun a ha => hz a (List.mem_of_mem_drop ha)) g2
  rw [e1]
  exact ⟨by rw [← g1, ← g3], g4⟩

theorem Rdn.one {bs bs' : List Nat} {a : Int} (h : ∀ (m : Nat) rest, m ≤ 100000 → bs = encN m ++ rest → a = (m : Int) - 1 ∧ bs' = rest) : Rdn bs [a] bs' := by
  intro ys rest hl hy e
  match ys, hl with
  | [y], _ =>
    have hy := hy y (by simp)
    have e' : bs = encN (y + 1).toNat ++ rest := by rw [e, enc_cons]; simp [enc, encI]
    obtain ⟨g1, g2⟩ := h (y + 1).toNat rest (by omega) e'
    exact ⟨by rw [g1]; congr 1; omega, g2⟩

/-- What was read of bytes as a list of so many numbers each. -/
def Rdl {α : Type} (most : Nat) (num : α → List Int) (bs : List Nat) (xs : List α) (bs' : List Nat) : Prop :=
  ∀ (ys : List α) (rest : List Nat), ys.length ≤ most → (∀ y ∈ ys, ∀ a ∈ num y, -1 ≤ a ∧ a ≤ 99999) → bs = enc ((ys.length : Int) :: ys.flatMap num) ++ rest → xs = ys ∧ bs' = rest

/-- What was read of a list, when k of it are still to come. -/
def Lpt {α : Type} (num : α → List Int) (bs : List Nat) (xs : List α) (k : Int) (bs' : List Nat) : Prop :=
  ∀ (ys : List α) (rest : List Nat), ys.length ≤ 99999 → (∀ y ∈ ys, ∀ a ∈ num y, -1 ≤ a ∧ a ≤ 99999) → bs = enc ((ys.length : Int) :: ys.flatMap num) ++ rest → ∃ zs, ys = xs ++ zs ∧ k = (zs.length : Int) ∧ bs' = enc (zs.flatMap num) ++ rest

theorem Lpt.start {α : Type} {num : α → List Int} {bs bs' : List Nat} {a : Int} (h : Rdn bs [a] bs') : Lpt num bs ([] : List α) a bs' := by
  intro ys rest hl hy e
  rw [enc_cons, List.append_assoc] at e
  obtain ⟨g1, g2⟩ := h [(ys.length : Int)] _ rfl (fun b hb => by rw [List.mem_singleton] at hb; omega) (by rw [e, enc_cons]; exact congrArg (· ++ _) (List.append_nil _).symm)
  injection g1 with g1 _
  exact ⟨ys, rfl, g1, g2⟩

theorem Lpt.step {α : Type} {num : α → List Int} {bs b1 b2 : List Nat} {xs : List α} {x : α} {k : Int} (h : Lpt num bs xs k b1) (hk : 0 < k) (h1 : Rdn b1 (num x) b2) (hl : ∀ y, (num y).length = (num x).length) (hi : ∀ y, num x = num y → x = y) : Lpt num bs (xs ++ [x]) (k - 1) b2 := by
  intro ys rest hl' hy e
  obtain ⟨zs, e1, e2, e3⟩ := h ys rest hl' hy e
  match zs, e1, e2, e3 with
  | [], e1, e2, e3 => simp at e2; omega
  | z :: zs, e1, e2, e3 =>
    rw [List.flatMap_cons, enc_append, List.append_assoc] at e3
    obtain ⟨g1, g2⟩ := h1 (num z) _ (hl z) (hy z (by rw [e1]; simp)) e3
    obtain rfl := hi z g1
    exact ⟨zs, by rw [e1]; simp, by rw [e2]; simp, g2⟩

theorem Lpt.done {α : Type} {num : α → List Int} {most : Nat} {bs b1 : List Nat} {xs : List α} {k : Int} (h : Lpt num bs xs k b1) (hm : most ≤ 99999) (hk : k ≤ 0 ∨ (most : Int) < xs.length + k) : Rdl most num bs xs b1 := by
  intro ys rest hl hy e
  obtain ⟨zs, e1, e2, e3⟩ := h ys rest (by omega) hy e
  have hl2 := congrArg List.length e1
  rw [List.length_append] at hl2
  have hz : zs = [] := List.length_eq_zero_iff.1 (by omega)
  subst hz
  rw [List.append_nil] at e1
  exact ⟨e1.symm, by rw [e3]; simp [enc]⟩

theorem Lpt.bad {α : Type} {num : α → List Int} {most : Nat} {bs b2 : List Nat} {xs : List α} {k : Int} (h : Lpt num bs xs k [256]) (hm : most ≤ 99999) (hk : 0 < k) (hp : ∀ y, num y ≠ []) : Rdl most num bs xs b2 := by
  intro ys rest hl hy e
  exfalso
  obtain ⟨zs, e1, e2, e3⟩ := h ys rest (by omega) hy e
  match zs, e2, e3 with
  | [], e2, e3 => simp at e2; omega
  | z :: zs, e2, e3 =>
    match hz : num z, hp z with
    | a :: t, _ =>
      rw [List.flatMap_cons, hz, List.cons_append, enc_cons, List.append_assoc] at e3
      unfold encI at e3
      by_cases h1 : (a + 1).toNat < 128
      · rw [encN_lt h1] at e3
        injection e3 with h2 h3
        omega
      · rw [encN_ge (by omega)] at e3
        injection e3 with h2 h3
        omega

/-- The bytes are those of just one word that is ok, and it is x; or of none. -/
def UnP (bs : List Nat) (x : Wd) (ok : Bool) : Prop :=
  (ok = true ∧ okW x = true ∧ packW x = bs ∧ ∀ y, okW y = true → packW y = bs → y = x) ∨ (ok = false ∧ x = zeroW ∧ ∀ y, okW y = true → packW y ≠ bs)

theorem UnP.same {bs : List Nat} {x y : Wd} {ok ok' : Bool} (h : UnP bs x ok) (h' : UnP bs y ok') : x = y ∧ ok = ok' := by
  rcases h with ⟨rfl, h1, h2, h3⟩ | ⟨rfl, h1, h2⟩ <;> rcases h' with ⟨rfl, g1, g2, g3⟩ | ⟨rfl, g1, g2⟩
  · exact ⟨g3 _ h1 h2, rfl⟩
  · exact absurd h2 (g2 _ h1)
  · exact absurd g2 (h2 _ g1)
  · exact ⟨h1.trans g1.symm, rfl⟩

/-- What was read as a whole word: at the bytes of a word that is ok, that word, and nothing is left. -/
def Rdw (bs : List Nat) (x : Wd) (bs' : List Nat) : Prop := ∀ y, okW y = true → packW y = bs → x = y ∧ bs' = []

theorem Rdw.mk {bs b1 b2 b3 : List Nat} {x : Wd} (h1 : Rdn bs x.nums b1) (h2 : Rdl 60 pnum b1 x.ps b2) (h3 : Rdl 4 lnum b2 x.ls b3) : Rdw bs x b3 := by
  intro y hy e
  have hn := allW_num hy
  obtain ⟨l1, f1⟩ := okL_mem (okW_ps hy)
  obtain ⟨l2, f2⟩ := okL_mem (okW_ls hy)
  unfold packW at e
  rw [if_pos hy] at e
  unfold allW at e
  rw [enc_append, enc_append] at e
  obtain ⟨g1, g2⟩ := h1 y.nums _ rfl (okW_nums hy) e.symm
  obtain ⟨g3, g4⟩ := h2 y.ps _ (by omega) (fun p hp a ha => hn a (List.mem_append.2 (.inr (List.mem_append.2 (.inl (List.mem_cons.2 (.inr (List.mem_flatMap.2 ⟨p, hp, ha⟩)))))))) (by rw [g2]; rfl)
  obtain ⟨g5, g6⟩ := h3 y.ls [] (by omega) (fun p hp a ha => hn a (List.mem_append.2 (.inr (List.mem_append.2 (.inr (List.mem_cons.2 (.inr (List.mem_flatMap.2 ⟨p, hp, ha⟩)))))))) (by rw [g4, List.append_nil]; rfl)
  refine ⟨?_, g6⟩
  cases x
  cases y
  simp only [Wd.nums, List.cons.injEq, and_true] at g1
  simp only at g3 g5
  simp [g1, g3, g5]

theorem UnP.yes {bs b' : List Nat} {x : Wd} (h : Rdw bs x b') (h1 : packW x = bs) (h0 : bs ≠ []) : UnP bs x true := by
  have hk : okW x = true := by
    cases hk : okW x
    · exfalso
      unfold packW at h1
      rw [hk] at h1
      exact h0 (by simpa using h1.symm)
    · rfl
  exact .inl ⟨rfl, hk, h1, fun y hy e => (h y hy e).1.symm⟩

theorem UnP.no {bs b' : List Nat} {x : Wd} (h : Rdw bs x b') (h1 : packW x ≠ bs ∨ b' ≠ [] ∨ bs = []) : UnP bs zeroW false := by
  refine .inr ⟨rfl, rfl, fun y hy e => ?_⟩
  obtain ⟨g1, g2⟩ := h y hy e
  subst g1
  rcases h1 with h1 | h1 | h1
  · exact h1 e
  · exact h1 g2
  · have := packW_pos hy
    rw [e, h1] at this
    simp at this

end Go.Proofs.Ytdnojnkcmncffaa
