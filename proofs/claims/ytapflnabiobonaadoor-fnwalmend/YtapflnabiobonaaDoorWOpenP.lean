/- How the program reads a disk with transactions: contracts; no statement of the seat is proved here. -/
import Derived.Test.YtapflnabiobonaaDoorWLog
import Derived.Test.YtapflnabiobonaaDoorOwnC
import Derived.Test.YtapflnabiobonaaDoorAs3
import Derived.Test.YtapflnabiobonaaDoorCut
namespace Go.Proofs.YtapflnabiobonaaDoor
open Go.RowKit Go.Shelf

attribute [local go_sem] Oper.semAt_some

/-- What the library's variable holds in every started world. -/
abbrev ErrVar (w : World) : Prop := w.cell? ⟨0, 0, none⟩ = some (.iface 154 (.agg #[.pointer (some ⟨1, 111, none⟩)]))

theorem errVar_lt {w : World} (h : ErrVar w) : 0 < w.heap.size := World.block_lt_of_cell? w _ h
theorem errVar_keep {w w' : World} (h : ErrVar w) (hb : Below w.heap.size w w') : ErrVar w' := (hb.cell (p := ⟨0, 0, none⟩) (errVar_lt h)).trans h

theorem as_hitU (n : Int) (B : Nat) (old : Value) (w : World) (hg : ErrVar w) (ht0 : w.cell? ⟨B, 0, none⟩ = some old) (hf0 : w.frozen? ⟨B, 0, none⟩ = false) :
    Calls Tryd.prog 71 #[.iface 104 (.agg #[.int .i64 n]), .iface 113 (.pointer (some ⟨B, 0, none⟩))] w fun ev w' => ev = .returned (.bool true) ∧ Upd (fun k => k = B) w w' := by
  refine (as_hit n ⟨B, 0, none⟩ old w hg ht0 hf0).mono ?_
  rintro e w' ⟨rfl, rfl⟩
  refine ⟨rfl, Upd.trans (Upd.ofBelow ?_) (Upd.setCell _ _ _ _ rfl)⟩
  exact ((((Below.refl _ _).alloc (Nat.le_refl _) _).alloc (by simp) _).alloc (by simp; omega) _).alloc (by simp; omega) _

set_option maxHeartbeats 1000000 in
theorem log_in (n : Nat) (x y : Value) (w : World) :
    CallsIn Fence.wide n Tryd.prog 70 #[.agg #[x, y]] w fun e w' => e = .returned (.func (.func 88) #[] #[.pointer (some ⟨w.heap.size, 0, none⟩)]) ∧ w' = w.alloc (.cells #[x, y] 69) := by
  refine callsIn_of_wp Tryd.func70 rfl trivial ?_ rfl
  simp only [ Tryd.ntmps70, List.size_toArray, List.length_cons, List.length_nil, Nat.reduceAdd, Nat.reduceSub, Array.replicate_succ, Array.replicate_zero, List.push_toArray, List.append_toArray, List.nil_append, List.cons_append]
  gi_wp2
  go_ret
  exact ⟨rfl, rfl⟩

theorem log_stops (n : Nat) (hn : 1 ≤ n) (Bs g sc : Nat) (no : Option Addr) (m nc : Nat) (ss : List ByteArray) (s : ByteArray) (w : World)
    (hBs : w.heap[Bs]? = some (.cells #[.slice (some ⟨g, 0, none⟩) ss.length sc, .slice no m nc] 69 (0, 0)))
    (hr : RowR w 1 (.slice (some ⟨g, 0, none⟩) ss.length sc) ss.length (ss.map Value.string)) (hgl : g < w.heap.size) (h0 : ss[0]? = some s) (hz : ∀ t ∈ ss, t.size ≤ 16) (hlen : 251 ≤ ss.length) :
    SeqStopsK Fence.wide n Tryd.prog 88 #[.pointer (some ⟨Bs, 0, none⟩)] iEnc (KpS (fun k => k = Bs ∨ k = g)) (logAll s ss) (logPre s ss) 251 w :=
  fun l J Jx W hW hJ _ hY hJ0 => log1_in n hn l Bs g sc no m nc ss s J Jx W hJ hY (bKeeps hW hBs) (hr.keep hW) (Nat.lt_of_lt_of_le hgl hW.size) h0 hz hlen hJ0

theorem own_note {β : Type} (B Bw base : Nat) (x : Value) (t e : TypeId) (n : β → Nat) (cs : β → List Value) : OwnFrom B (fun (s : β) W => ∃ nv, W.heap[Bw]? = some (.cells #[x, nv] t (0, 0)) ∧ W.ownsRow base e 2 nv (n s) (cs s)) := by
  rintro s W W' row ⟨nv, h1, hl, h2⟩ hg hr
  refine ⟨nv, own_cells B Bw (fun _ : β => #[x, nv]) t s W W' row h1 hg hr, hl, ?_⟩
  rcases h2 with h | ⟨g, cap, cur, rfl, hgb, hh, h3⟩
  · exact .inl h
  · exact .inr ⟨g, cap, cur, rfl, hgb, own_cells B g (fun _ : β => cur) e s W W' row hh hg hr, h3⟩

theorem owns_keep {w w' : World} {base : Nat} {e : TypeId} {size : Nat} {T : Nat → Prop} {v : Value} {n : Nat} {cs : List Value} (h : w.ownsRow base e size v n cs) (hb : Upd T w w') (hT : ∀ k, base ≤ k → ¬ T k) : w'.ownsRow base e size v n cs := by
  obtain ⟨hl, h⟩ := h
  refine ⟨hl, ?_⟩
  rcases h with h | ⟨g, cap, cur, rfl, hg, hh, h1⟩
  · exact .inl h
  · exact .inr ⟨g, cap, cur, rfl, hg, hb.keeps hh (hT g hg), h1⟩

theorem keepsFrom_upd {S : Nat → Prop} {B : Nat} {W W' : World} (h : Upd S W W') (hS : ∀ k, S k → k < B) : KeepsFrom B W W' :=
  ⟨h.size, fun k o hk ho _ => h.keeps ho (fun hs => by have := hS k hs; omega)⟩

theorem keepsFrom_grown {base B : Nat} {e : TypeId} {size n : Nat} {v : Value} {cs : List Value} {o : Obj} {W W' : World} (hown : W.ownsRow base e size v n cs) (hgr : (W.alloc o).grownBy W' v.ownBlock) : KeepsFrom B W W' := by
  refine ⟨Nat.le_trans (by simp) hgr.size, fun k x hk hx hc => ?_⟩
  have hlt := heap_lt hx
  refine (hgr.block k (by simp; omega) (fun e1 => ?_)).trans ((Below.heap_alloc W o k hlt).trans hx)
  rcases hown.2 with ⟨rfl, _⟩ | ⟨g, cap, cur, rfl, hg, hh, _⟩
  · simp [Value.ownBlock] at e1
  · simp only [Value.ownBlock, Option.some.injEq] at e1
    subst e1
    rw [hh] at hx
    obtain rfl := Option.some.inj hx
    simp [Obj.isCells] at hc

/-- The frame of a round of walOpen. -/
def openTmps (x : Itm) (Bx : Nat) (t : Array Value) : Array Value :=
  (((t.setIfInBounds 27 (.agg #[.int .i64 (x.1 : Nat), .string x.2.1])).setIfInBounds 28 (errV x.2.2)).setIfInBounds 7 (.pointer (some ⟨Bx, 0, none⟩))).setIfInBounds 8 (errV x.2.2)

theorem infoNote : (Tryd.prog.info? 109).map (fun i => (i.zero, i.size, i.bytes)) = some (some (.agg #[.int .i64 0, .string ⟨#[]⟩]), 2, 24) := by kernel_rfl

set_option maxRecDepth 100000 in
set_option maxHeartbeats 4000000 in
theorem walOpen_in (v : Value) (kept : List ByteArray) (wait : List (Int × ByteArray)) (F : List ByteArray) (s : ByteArray) (L : List (Int × ByteArray)) (w : World) (hg : ErrVar w) (hr : DiskR w v kept wait) (hf : formB kept wait = true) (hF : flushK kept wait = F) (h0 : F[0]? = some s) (hL : logL s F = L) :
    CallsIn Fence.wide 9 Tryd.prog 38 #[v] w fun e w' =>
      ((logB s F = true ∧ ∃ g gc no nc, e = .returned (.tuple #[.agg #[.slice (some ⟨g, 0, none⟩) F.length gc, .slice no L.length nc], .bool true]) ∧ F.length ≤ gc ∧ RowR w' 1 (.slice (some ⟨g, 0, none⟩) F.length gc) F.length (F.map Value.string) ∧ RowR w' 2 (.slice no L.length nc) L.length (wcells L)) ∨
       (logB s F = false ∧ e = .returned (.tuple #[.agg #[.slice none 0 0, .slice none 0 0], .bool false]))) ∧ Below w.heap.size w w' := by
  have hok : okB kept wait = true := by simp only [formB, Bool.and_eq_true] at hf; exact hf.1
  have h5 : kept.length = 501 := by simp only [formB, Bool.and_eq_true, decide_eq_true_eq] at hf; exact hf.2
  obtain ⟨hp1, hp2, hp3, hp4⟩ := okB_parts hok
  have P3 := hide hp3
  have P4 := hide hp4
  have Hr := hide hr
  have Hok := hide hok
  have Hg := hide hg
  obtain ⟨ak, aw, rfl, ⟨ao, ca, rfl, -⟩, ⟨bo, cb, rfl, -⟩⟩ := hr
  have hflK : flushK kept wait = flushL kept wait := by simp [flushK, hok]
  rw [hF] at hflK
  have hFl : F.length = 501 := by rw [hflK, flushL_len, h5]
  have hFz : ∀ t ∈ F, t.size ≤ 16 := by rw [hflK]; exact flushL_all hp3 (fun x hx => (hp4 x hx).2.2)
  have HFl := hide hFl
  have HFK := hide hflK
  have HFz := hide hFz
  have HL := hide hL
  have hkl : ((kept.length : Int) != 501) = false := by simp; omega
  have hk1 : 501 ≤ kept.length := by omega
  have hk2 : kept.length ≤ 501 := by omega
  have hF1 : 501 ≤ F.length := by omega
  have hF2 : F.length ≤ 501 := by omega
  have H0 := hide h0
  clear hp3 hp4 hF hf hok hg h0 hflK hFz hL h5 hFl hp1
  obtain ⟨i1, gi, gz0, gz1, gz2⟩ := info_parts infoNote
  refine callsIn_of_wp_marks Tryd.func38 rfl trivial ?_ rfl
  simp only [ Tryd.ntmps38, List.size_toArray, List.length_cons, List.length_nil, Nat.reduceAdd, Nat.reduceSub, Array.replicate_succ, Array.replicate_zero, List.push_toArray, List.append_toArray, List.nil_append, List.cons_append]
  obtain ⟨Wa, hWa⟩ : ∃ Wa, Wa = ((w.alloc (.cells #[.slice ao kept.length ca, .slice bo wait.length cb] 31)).alloc (.cells #[.slice none 0 0, .slice none 0 0] 69)).alloc (.cells #[.bool false] 4) := ⟨_, rfl⟩
  have hal : Below w.heap.size w Wa := by rw [hWa]; exact (((Below.refl _ _).alloc (Nat.le_refl _) _).alloc (by simp) _).alloc (by simp; omega) _
  have X0 := hide (show Wa.heap[w.heap.size]? = some (.cells #[.slice ao kept.length ca, .slice bo wait.length cb] 31 (0, 0)) by rw [hWa]; exact al3_0 w _ _ _)
  have X1 := hide (show Wa.heap[w.heap.size + 1]? = some (.cells #[.slice none 0 0, .slice none 0 0] 69 (0, 0)) by rw [hWa]; exact al3_1 w _ _ _)
  have X2 := hide (show Wa.heap[w.heap.size + 1 + 1]? = some (.cells #[.bool false] 4 (0, 0)) by rw [hWa]; exact al3_2 w _ _ _)
  have hza : Wa.heap.size = w.heap.size + 3 := by rw [hWa]; simp
  gi_wp2_with fail
  rw [← hWa]
  clear hWa
  refine ⟨trivial, ?_⟩
  refine (callsIn_wide.2 (implSecOk_any kept wait _ _ (Hr.out.keep hal) (fun s hs => by have := P3.out s hs; omega) (fun s hs => by have := (P4.out s hs).2.2; omega))).mono ?_
  rintro e w1 ⟨rfl, b1⟩
  rw [Hok.out]
  have c1 := bAll hal b1
  replace X0 := hide (bKeeps b1 X0.out)
  replace X1 := hide (bKeeps b1 X1.out)
  replace X2 := hide (bKeeps b1 X2.out)
  obtain ⟨p0, p1, pl⟩ := box2 X0.out
  have z1 := b1.size
  gi_wp2_with fail
  refine ⟨trivial, ?_⟩
  refine (callsIn_wide.2 (secOwnC_any kept wait _ _ (Hr.out.keep c1) (by omega) (by omega))).mono ?_
  rintro e w2 ⟨no, cn, vw, rfl, hcn, r2, s2, b2⟩
  obtain ⟨mo, cm, rfl⟩ := s2.shape
  have s2' := s2.row (by omega)
  have c2 := bAll c1 b2
  replace X1 := hide (bKeeps b2 X1.out)
  replace X2 := hide (bKeeps b2 X2.out)
  have z2 := b2.size
  clear p0 p1 pl s2
  gi_wp2_with fail
  have al3 : Below w2.heap.size w2 (w2.alloc (.cells #[.slice no kept.length cn, .slice mo wait.length cm] 94)) := (Below.refl _ _).alloc (Nat.le_refl _) _
  have r3 := ((r2.mono (T := fun k => w1.heap.size ≤ k ∧ k < w2.heap.size) (fun k hk h => ⟨h, hk⟩)).keepB al3).typed
  have s3 := ((s2'.mono (T := fun k => w1.heap.size ≤ k ∧ k < w2.heap.size) (fun k hk h => ⟨h, hk⟩)).keepB al3).typed
  refine ⟨trivial, ?_⟩
  refine (callsIn_wide.2 (callsIn_wide.1 (flush_in kept wait _ _ w2.heap.size no mo cn cm _ (al1_0 w2 _) r3 s3 (fun k => typed_apart (by decide) k) (fun h => by have := h.1; omega) (fun k h => by have := h.1.2; simp; omega) Hok.out))).mono ?_
  rintro e w4 ⟨rfl, hbx, r4, u4⟩
  have u4' : Upd (fun k => w1.heap.size ≤ k) (w2.alloc (.cells #[.slice no kept.length cn, .slice mo wait.length cm] 94)) w4 := u4.mono (fun k h => by rcases h with h | h; exact h.1.1; omega)
  have c4 : Below w.heap.size w w4 := (bAll c2 al3).trans (u4'.below (by simp; omega) (fun k h => by omega))
  replace X1 := hide (u4'.keeps (bKeeps al3 X1.out) (by omega))
  replace X2 := hide (u4'.keeps (bKeeps al3 X2.out) (by omega))
  have z4 := u4.size
  simp only [World.size_alloc] at z4
  rw [← HFK.out, show kept.length = F.length by omega] at r4
  rw [show kept.length = F.length by omega] at hbx hcn
  have kF := r4.reads
  obtain ⟨g, rfl, hgS, hgg⟩ : ∃ g, no = some ⟨g, 0, none⟩ ∧ g < w4.heap.size ∧ w1.heap.size ≤ g := by
    obtain ⟨_, _, ev, _, _, h3⟩ := r4
    obtain ⟨g, cur, rfl, hS, hh, _⟩ := h3 (by omega)
    simp only [Value.slice.injEq, true_and] at ev
    exact ⟨g, ev.1, heap_lt hh, hS.1.1⟩
  have KF := hide kF
  obtain ⟨p0, p1, pl⟩ := box2 hbx
  clear hbx r2 r3 s2' s3 kF r4
  gi_wp2_with fail
  obtain ⟨Wb, hWb⟩ : ∃ Wb, Wb = (w4.alloc (.cells #[.slice (some ⟨g, 0, none⟩) F.length cn, .slice none 0 0] 69)).alloc (.cells #[.int .i64 0] 104) := ⟨_, rfl⟩
  refine ⟨trivial, ?_⟩
  refine (log_in _ _ _ _).mono ?_
  rintro e w5 ⟨rfl, rfl⟩
  rw [← hWb]
  have alb : Below w4.heap.size w4 Wb := by rw [hWb]; exact ((Below.refl _ _).alloc (Nat.le_refl _) _).alloc (by simp) _
  have hzb : Wb.heap.size = w4.heap.size + 2 := by rw [hWb]; simp
  have Y0 := hide (show Wb.heap[w4.heap.size]? = some (.cells #[.slice (some ⟨g, 0, none⟩) F.length cn, .slice none 0 0] 69 (0, 0)) by rw [hWb]; exact al2_0 w4 _ _)
  have Y1 := hide (show Wb.heap[w4.heap.size + 1]? = some (.cells #[.int .i64 0] 104 (0, 0)) by rw [hWb]; exact al2_1 w4 _ _)
  clear hWb p0 p1 pl
  obtain ⟨W0, hW0⟩ : ∃ W0, W0 = Wb.alloc (.cells #[.slice (some ⟨g, 0, none⟩) F.length cn, .slice none 0 0] 69) := ⟨_, rfl⟩
  have alw : Below Wb.heap.size Wb W0 := by rw [hW0]; exact (Below.refl _ _).alloc (Nat.le_refl _) _
  have hz0 : W0.heap.size = w4.heap.size + 3 := by rw [hW0]; simp [hzb]
  have hBs : W0.heap[w4.heap.size + 2]? = some (.cells #[.slice (some ⟨g, 0, none⟩) F.length cn, .slice none 0 0] 69 (0, 0)) := by rw [hW0, ← hzb]; exact al1_0 Wb _
  have hszb : Wb.heap.size = w4.heap.size + 2 := hzb
  rw [← hW0, hszb]
  clear hW0
  have cb0 := bAll alb alw
  have c0 := bAll c4 cb0
  replace X1 := hide (bKeeps cb0 X1.out)
  replace X2 := hide (bKeeps cb0 X2.out)
  replace Y0 := hide (bKeeps alw Y0.out)
  replace Y1 := hide (bKeeps alw Y1.out)
  have KF0 := hide (KF.out.keep cb0)
  have zz4 := c4.size
  have HBs := hide hBs
  clear hBs
  have hd : 1 ≤ 9 - 1 - 1 := by omega
  gi_wp2_with fail
  refine range_boxed2 rfl (by omega) (gf := 88) (lb := #[.pointer (some ⟨w4.heap.size + 2, 0, none⟩)]) rfl trivial (enters_of Tryd.func88 (by kernel_rfl) rfl)
    (log_stops (9 - 1) (by omega) (w4.heap.size + 2) g cn none 0 0 F s W0 HBs.out KF0.out (by omega) H0.out HFz.out (by omega)) kpS_t (kpS_b (fun k h => by rcases h with rfl | rfl <;> omega)) (Below.refl _ _) (fun _ => rfl)
    (fun pre W => ((∀ x ∈ pre, x.2.2 = none) ∧ ∃ nv, W.heap[w4.heap.size]? = some (.cells #[.slice (some ⟨g, 0, none⟩) F.length cn, nv] 69 (0, 0)) ∧ W.ownsRow W0.heap.size 109 2 nv pre.length (wcells (pre.map iW))) ∧ Upd (fun k => k = w4.heap.size) W0 W)
    (fun c pre W => (c = .ret ∧ (∃ x ∈ pre, x.2.2 ≠ none) ∧ (W.heap[w.heap.size + 1]? = some (.cells #[.slice none 0 0, .slice none 0 0] 69 (0, 0)) ∧ W.heap[w.heap.size + 1 + 1]? = some (.cells #[.bool false] 4 (0, 0)))) ∧ Below w.heap.size w W)
    ?hI ?hIx ?h0 ?hIs ?hKa openTmps 109 (fun x => #[.int .i64 (x.1 : Nat), .string x.2.1]) ?assign ?body ?done ?stop
  case hI => exact OwnFrom.and (OwnFrom.and (own_pure _ _) (own_note _ _ _ _ _ _ _ _)) (own_upd (Nat.le_refl _))
  case hIx => exact fun c => OwnFrom.and (OwnFrom.and (own_pure _ _) (OwnFrom.and (own_pure _ _) (OwnFrom.and (own_cells _ _ (fun _ => _) _) (own_cells _ _ (fun _ => _) _)))) (ownFrom_below (Nat.le_refl _) (by omega))
  case h0 => exact ⟨⟨by simp, _, Y0.out, World.ownsRow_nil _ _ _ _⟩, Upd.refl _ _⟩
  case hIs => exact fun pre W h => h.2.size
  case hKa => exact fun pre W o h => kpS_of ((Below.refl _ _).alloc (Nat.le_refl _) _) (fun k hk => by have := h.2.size; rcases hk with rfl | rfl <;> omega)
  case assign =>
    rintro l pre ⟨hh, tt, oo⟩ W K hi hK
    simp only [openTmps] at hK
    clear hi
    simp only [iEnc]
    gi_wp2
    exact hK
  case body =>
    rintro l pre ⟨hh, tt, oo⟩ Bx W hl hBx hxb ⟨⟨hall, nv, hbw, hown⟩, hup⟩ hN
    have zW := hup.size
    simp only at hxb
    obtain ⟨x0, x1, xl⟩ := box2 hxb
    have HALL := hide hall
    have Hbw := hide hbw
    have Hup := hide hup
    have Hown := hide hown
    have Y1' := hide (hup.keeps Y1.out (by omega))
    have X1' := hide (hup.keeps X1.out (by omega))
    have X2' := hide (hup.keeps X2.out (by omega))
    have hE : Hid (ErrVar W) := (World.cell?_of_block (a := ⟨0, 0, none⟩) (hup.block 0 (by omega) (by have := errVar_lt Hg.out; omega))).trans (errVar_keep Hg.out c0)
    cases oo with
    | none =>
      obtain ⟨q0, q1, ql⟩ := box2 hbw
      clear hxb hbw hall hup
      simp only [openTmps, errV]
      gi_wp2_with fail
      refine ⟨trivial, ?_⟩
      refine (CallsIn.inRound l (callsIn_wide.2 (as_nil _ W))).mono ?_
      rintro e W1 ⟨rfl, e1⟩
      rw [e1]
      clear e1 W1
      gi_wp2_with (gi_at_builtin; (refine wpListIn_append_own _ rfl _ _ 67 rfl W0.heap.size 109 i1 (.agg #[.int .i64 0, .string ⟨#[]⟩]) 2 24 Tryd.underlying67 gi gz0 gz1 gz2 rfl (by decide) _ _ _ rfl (hown.alloc _) ⟨W.heap.size, 0, none⟩ 1 1 [.int .i64 (hh : Nat), .string tt] rfl rfl ?c1 ?c2 ?c3 ?c4 ?c5 ?_))
      case c1 => exact new_cells _ _ _ _
      case c2 => exact new_one _ _
      case c3 => unfold maxLen; omega
      case c4 => omega
      case c5 => simp; omega
      intro v' w' hown' hgr hv'
      obtain ⟨mo', cm', rfl⟩ := (Row.ofOwns hown' (by omega)).shape
      have bA : Below W0.heap.size W w' := ((Below.refl W0.heap.size W).alloc (by omega) _).grown hgr (by simp; omega) (fun k e => (Hown.out.lt k e).1)
      have bw' : w'.heap[w4.heap.size]? = some (.cells #[.slice (some ⟨g, 0, none⟩) F.length cn, nv] 69 (0, 0)) := (bA.block _ (by omega)).trans Hbw.out
      have hkf := hide (keepsFrom_grown (B := W0.heap.size) Hown.out hgr)
      obtain ⟨r0, r1, rl⟩ := box2 bw'
      obtain ⟨r2, r3⟩ := box2f bw'
      have Hbw' := hide bw'
      have Hown' := hide hown'
      clear q0 q1 ql hgr hown' hown bw' hv'
      gi_wp2
      have us := Upd.setCell (S := fun k => k = w4.heap.size) w' w4.heap.size 1 (.slice mo' (pre.length + 1) cm') rfl
      refine ⟨hkf.out.trans ((KeepsOthers.setCell _ _ _).from _), ?_, ⟨?_, _, row_set _ Hbw'.out, ?_⟩, ?_⟩
      · intro k hk
        refine (us.block k ?_ ?_).trans (bA.block k ?_)
        · have := bA.size; rcases hk with rfl | rfl <;> omega
        · rcases hk with rfl | rfl <;> omega
        · rcases hk with rfl | rfl <;> omega
      · intro x hx
        rcases List.mem_append.1 hx with h | h
        · exact HALL.out x h
        · obtain rfl : x = (hh, tt, none) := by simpa using h
          rfl
      · have h1 := owns_keep Hown'.out us (fun k hk => by omega)
        rw [List.length_append, List.map_append, List.map_cons, List.map_nil]
        have e1 : wcells (pre.map iW ++ [iW (hh, tt, none)]) = wcells (pre.map iW) ++ [.int .i64 (hh : Nat), .string tt] := wcells_snoc _ _ _
        rw [e1, hz0]
        exact h1
      · have u1 : Upd (fun k => k = w4.heap.size) W0 w' := ⟨bA.os.trans Hup.out.os, bA.tape.trans Hup.out.tape, bA.output.trans Hup.out.output, Nat.le_trans Hup.out.size bA.size, fun k hk hS => (bA.block k hk).trans (Hup.out.block k hk hS)⟩
        exact u1.trans us
    | some n =>
      have f0 : W.cell? ⟨w4.heap.size + 1, 0, none⟩ = some (.int .i64 0) := (cell_of_row W _ 0 _ _ (0, 0) Y1'.out).trans rfl
      have f1 : W.frozen? ⟨w4.heap.size + 1, 0, none⟩ = false := frozen_of_row W _ 0 _ _ Y1'.out
      clear hxb hbw hall hup hown
      simp only [openTmps, errV]
      gi_wp2_with fail
      refine ⟨trivial, ?_⟩
      refine (CallsIn.inRound l (callsIn_wide.2 (as_hitU _ (w4.heap.size + 1) _ W hE.out f0 f1))).mono ?_
      rintro e W1 ⟨rfl, u1⟩
      have x1' := u1.keeps X1'.out (by omega)
      have x2' := u1.keeps X2'.out (by omega)
      obtain ⟨q0, q1, ql⟩ := box2 x1'
      obtain ⟨q2, q3⟩ := box2f x1'
      have r0 : W1.cell? ⟨w.heap.size + 1 + 1, 0, none⟩ = some (.bool false) := (cell_of_row W1 _ 0 _ _ (0, 0) x2').trans rfl
      have r1 : W1.frozen? ⟨w.heap.size + 1 + 1, 0, none⟩ = false := frozen_of_row W1 _ 0 _ _ x2'
      have G1 := hide x1'
      have G2 := hide x2'
      clear f0 f1 x1' x2'
      gi_wp2
      have ua := upd_set2 W1 (w.heap.size + 1) 0 1 (.slice none 0 0) (.slice none 0 0)
      have ub := Upd.setCell (S := fun k => k = w.heap.size + 1 + 1) ((W1.setCell ⟨w.heap.size + 1, 0, none⟩ (.slice none 0 0)).setCell ⟨w.heap.size + 1, 1, none⟩ (.slice none 0 0)) (w.heap.size + 1 + 1) 0 (.bool false) rfl
      have hx1 := ub.keeps (row_set (j := 1) (.slice none 0 0) (row_set (j := 0) (.slice none 0 0) G1.out)) (by omega)
      have hx2 := row_set (j := 0) (.bool false) (ua.keeps G2.out (by omega))
      refine ⟨(keepsFrom_upd u1 (fun k h => by omega)).trans ((keepsFrom_upd ua (fun k h => by omega)).trans (keepsFrom_upd ub (fun k h => by omega))), ⟨rfl, ⟨(hh, tt, some n), by simp, by simp⟩, hx1, hx2⟩, ?_⟩
      have cW : Below w.heap.size w W := c0.trans (Hup.out.below (by omega) (fun k h => by omega))
      exact (cW.trans (u1.below (by omega) (fun k h => by omega))).trans ((ua.below (by have := u1.size; omega) (fun k h => by omega)).trans (ub.below (by have := u1.size; have := ua.size; omega) (fun k h => by omega)))
  case done =>
    rintro D ys W hD hys ⟨⟨hall, nv, hbw, hown⟩, hup⟩ hK
    obtain ⟨hlb, hmap⟩ := hys hall
    have zW := hup.size
    have hlen : ys.length = L.length := by rw [← HL.out, ← hmap]; simp
    have hLl : L.length ≤ 512 := by rw [← HL.out]; have := logL_len s F; omega
    rw [hmap, HL.out, hlen] at hown
    have rn := (Row.ofOwns hown (by omega)).typed
    obtain ⟨nno, nnc, rfl⟩ := rn.shape
    have RN := hide rn
    have HLB := hide hlb
    have Hup := hide hup
    have HKD := hide hK
    obtain ⟨q0, q1, ql⟩ := box2 hbw
    have x1' := hup.keeps X1.out (by omega)
    have x2' := hup.keeps X2.out (by omega)
    obtain ⟨p0, p1, pl⟩ := box2 x1'
    obtain ⟨p2, p3⟩ := box2f x1'
    have r0 : W.cell? ⟨w.heap.size + 1 + 1, 0, none⟩ = some (.bool false) := (cell_of_row W _ 0 _ _ (0, 0) x2').trans rfl
    have r1 : W.frozen? ⟨w.heap.size + 1 + 1, 0, none⟩ = false := frozen_of_row W _ 0 _ _ x2'
    have G1 := hide x1'
    have G2 := hide x2'
    have RF := hide (RowR.keepG KF0.out (hup.block g (by omega) (by omega)))
    clear hys hmap hown rn hlb hup hK hbw x1' x2' hall
    gi_wp2
    have ua := upd_set2 W (w.heap.size + 1) 0 1 (.slice (some ⟨g, 0, none⟩) F.length cn) (.slice nno L.length nnc)
    have ub := Upd.setCell (S := fun k => k = w.heap.size + 1 + 1) ((W.setCell ⟨w.heap.size + 1, 0, none⟩ (.slice (some ⟨g, 0, none⟩) F.length cn)).setCell ⟨w.heap.size + 1, 1, none⟩ (.slice nno L.length nnc)) (w.heap.size + 1 + 1) 0 (.bool true) rfl
    have hx1 := ub.keeps (row_set (j := 1) (.slice nno L.length nnc) (row_set (j := 0) (.slice (some ⟨g, 0, none⟩) F.length cn) G1.out)) (by omega)
    have hx2 := row_set (j := 0) (.bool true) (ua.keeps G2.out (by omega))
    have hK' := ub.keeps (ua.keeps HKD.out (by omega)) (by omega)
    refine ⟨by simp, .inl ⟨_, _, rfl, run_takeDeferred hK', ?_⟩⟩
    obtain ⟨Wf, hWf⟩ : ∃ Wf, Wf = ((W.setCell ⟨w.heap.size + 1, 0, none⟩ (.slice (some ⟨g, 0, none⟩) F.length cn)).setCell ⟨w.heap.size + 1, 1, none⟩ (.slice nno L.length nnc)).setCell ⟨w.heap.size + 1 + 1, 0, none⟩ (.bool true) := ⟨_, rfl⟩
    rw [← hWf] at hx1 hx2 hK' ub ⊢
    have uc := upd_putObj' Wf D (.deferred none)
    have hx3 := uc.keeps hx1 (by omega)
    have hx4 := uc.keeps hx2 (by omega)
    obtain ⟨t0, t1, tl⟩ := box2 (x := .slice (some ⟨g, 0, none⟩) F.length cn) (y := .slice nno L.length nnc) hx3
    have t2 : (Wf.putObj D (.deferred none)).cell? ⟨w.heap.size + 1 + 1, 0, none⟩ = some (.bool true) := (cell_of_row _ _ 0 _ _ (0, 0) hx4).trans rfl
    have hg1 : (Wf.putObj D (.deferred none)).heap[g]? = W.heap[g]? := (uc.block g (by have := ua.size; have := ub.size; omega) (by omega)).trans ((ub.block g (by have := ua.size; omega) (by omega)).trans (ua.block g (by omega) (by omega)))
    refine ⟨.tuple #[.agg #[.slice (some ⟨g, 0, none⟩) F.length cn, .slice nno L.length nnc], .bool true], by simp [results, Tryd.results38, go_sem, t0, t1, t2], .inl ⟨HLB.out, g, cn, nno, nnc, rfl, hcn, RowR.keepG RF.out hg1, ?_⟩, ?_⟩
    · refine (((RN.out.keep ua (fun k h e => by have := h.1; omega)).keep ub (fun k h e => by have := h.1; omega)).keep uc (fun k h e => ?_)).reads
      obtain ⟨-, cu, hcu⟩ := h
      rw [e, HKD.out] at hcu
      cases hcu
    · have cW : Below w.heap.size w W := c0.trans (Hup.out.below (by omega) (fun k h => by omega))
      have d1 := cW.trans (ua.below (by omega) (fun k h => by omega))
      have d2 := d1.trans (ub.below (by have := ua.size; omega) (fun k h => by omega))
      exact d2.trans (uc.below (by have := ua.size; have := ub.size; omega) (fun k h => by omega))
  case stop =>
    rintro D c pre W hD hpre ⟨⟨rfl, hbad, hx1, hx2⟩, hbel⟩ hK
    have HLB := hide (hpre hbad)
    have HKD := hide hK
    have G1 := hide hx1
    have G2 := hide hx2
    clear hpre hbad hx1 hx2 hK
    gi_wp2
    refine ⟨by simp, .inl ⟨_, _, rfl, run_takeDeferred HKD.out, ?_⟩⟩
    have uc := upd_putObj' W D (.deferred none)
    have hx3 := uc.keeps G1.out (by omega)
    have hx4 := uc.keeps G2.out (by omega)
    obtain ⟨t0, t1, tl⟩ := box2 hx3
    have t2 : (W.putObj D (.deferred none)).cell? ⟨w.heap.size + 1 + 1, 0, none⟩ = some (.bool false) := (cell_of_row _ _ 0 _ _ (0, 0) hx4).trans rfl
    refine ⟨.tuple #[.agg #[.slice none 0 0, .slice none 0 0], .bool false], by simp [results, Tryd.results38, go_sem, t0, t1, t2], .inr ⟨HLB.out, rfl⟩, ?_⟩
    exact hbel.trans (uc.below (by have := hbel.size; omega) (fun k h => by omega))

end Go.Proofs.YtapflnabiobonaaDoor
