/- The iterator over what is committed: its contract; no statement of the seat is proved here. -/
import Derived.Test.YtapflnabiobonaaDoorSRead2
import Derived.Test.YtapflnabiobonaaDoorTold
import Derived.Test.YtapflnabiobonaaDoorR
namespace Go.Proofs.YtapflnabiobonaaDoor
open Go.RowKit Go.Shelf

attribute [local go_sem] Oper.semAt_some

/-- The error that is told: none, or the fault of a sector. -/
def errV : Option Nat → Value
  | none => .nilIface
  | some n => .iface 104 (.agg #[.int .i64 (n : Nat)])
/-- What is told: a home, its text, and the fault. -/
abbrev Itm := Nat × ByteArray × Option Nat
def iEnc (x : Itm) : Array Value := #[.agg #[.int .i64 (x.1 : Nat), .string x.2.1], errV x.2.2]
def iW (x : Itm) : Int × ByteArray := (((x.1 : Nat) : Int), x.2.1)
/-- What is told to the end. -/
def logAll (s : ByteArray) (ss : List ByteArray) (ys : List Itm) : Prop := (∀ x ∈ ys, x.2.2 = none) → logB s ss = true ∧ ys.map iW = logL s ss
def logPre (s : ByteArray) (ss : List ByteArray) (pre : List Itm) : Prop := (∃ x ∈ pre, x.2.2 ≠ none) → logB s ss = false
/-- A round keeps these blocks. -/
def KpS (S : Nat → Prop) (W W' : World) : Prop := ∀ k, S k → W'.heap[k]? = W.heap[k]?
theorem kpS_t {S : Nat → Prop} {A B C : World} (h : KpS S A B) (k : KpS S B C) : KpS S A C := fun j hj => (k j hj).trans (h j hj)
theorem kpS_of {S : Nat → Prop} {W W' : World} (h : Below W.heap.size W W') (hS : ∀ k, S k → k < W.heap.size) : KpS S W W' := fun k hk => h.block k (hS k hk)
theorem kpS_b {S : Nat → Prop} {w : World} (hS : ∀ k, S k → k < w.heap.size) (W : World) (l : Nat) (o o' : Obj) (hl : w.heap.size ≤ l) (_ : W.heap[l]? = some o) (_ : o.isCells = false) (_ : o.isWalk = false) : KpS S W (W.putObj l o') :=
  fun k hk => World.putObj_heap_other (by have := hS k hk; omega)

theorem RowR.keepG {w w' : World} {size n cap g off : Nat} {cs : List Value} (h : RowR w size (.slice (some ⟨g, off, none⟩) n cap) n cs) (hg : w'.heap[g]? = w.heap[g]?) : RowR w' size (.slice (some ⟨g, off, none⟩) n cap) n cs := by
  obtain ⟨ao, ca, e, h1, h2, h3⟩ := h
  refine ⟨ao, ca, e, h1, h2, fun h0 => ?_⟩
  obtain ⟨b, o, rfl, hc⟩ := h3 h0
  simp only [Value.slice.injEq, Option.some.injEq] at e
  obtain ⟨e, -, -⟩ := e
  cases e
  exact ⟨g, off, rfl, fun j u hj => (World.cell?_of_block (a := ⟨g, off + j, none⟩) hg).trans (hc j u hj)⟩

theorem grown_of {w w' : World} (h : Below w.heap.size w w') : w.grownBy w' none := by
  constructor
  all_goals first | exact h.os | exact h.tape | exact h.output | exact h.size | (intro k hk _; exact h.block k hk) | skip

def okI (t : ByteArray) : Itm := (byte0 t, rest1 t, none)
theorem okI_enc {t : ByteArray} (i : Nat) (h : noteB t = true) : iEnc (okI t) = #[.agg #[.int .i64 (noteH t : Nat), .string (noteT t)], noteE i t] := by
  simp [iEnc, okI, errV, noteH, noteT, noteE, h]
theorem badI_enc {t : ByteArray} (i : Nat) (h : noteB t = false) : iEnc (0, ⟨#[]⟩, some i) = #[.agg #[.int .i64 (noteH t : Nat), .string (noteT t)], noteE i t] := by
  simp [iEnc, errV, noteH, noteT, noteE, h]
theorem okI_all {ts : List ByteArray} : ∀ x ∈ ts.map okI, x.2.2 = none := by
  intro x hx
  obtain ⟨t, _, rfl⟩ := List.mem_map.1 hx
  rfl
theorem okI_w (ts : List ByteArray) : (ts.map okI).map iW = ts.map noteW := by
  rw [List.map_map]; rfl
theorem comE_yes {s : ByteArray} (h : signB s = true) : comE s = .nilIface := by
  simp only [signB, decide_eq_true_eq] at h
  exact if_pos h
theorem comE_no {s : ByteArray} (h : signB s = false) : comE s = .iface 104 (.agg #[.int .i64 0]) := by
  simp only [signB, decide_eq_false_iff_not] at h
  exact if_neg h
theorem comN_le (s : ByteArray) : comN s ≤ 250 := by unfold comN; split <;> omega

set_option maxRecDepth 100000 in
set_option maxHeartbeats 4000000 in
theorem log1_in (n : Nat) (hn : 1 ≤ n) (l Bs g sc : Nat) (no : Option Addr) (m nc : Nat) (ss : List ByteArray) (s : ByteArray) (J Jx : List Itm → World → Prop) (W : World) (hJ : AbidesFrom W.heap.size J)
    (hY : ∀ pre x W1, J pre W1 → pre.length < 251 → YieldAt Fence.wide (n - 1) Tryd.prog l (iEnc x) W1 fun e W' =>
      (e = .returned (.bool true) ∧ J (pre ++ [x]) W' ∧ KpS (fun k => k = Bs ∨ k = g) W1 W') ∨ (e = .returned (.bool false) ∧ Jx (pre ++ [x]) W'))
    (hBs : W.heap[Bs]? = some (.cells #[.slice (some ⟨g, 0, none⟩) ss.length sc, .slice no m nc] 69 (0, 0)))
    (hr : RowR W 1 (.slice (some ⟨g, 0, none⟩) ss.length sc) ss.length (ss.map Value.string)) (hgl : g < W.heap.size) (h0 : ss[0]? = some s) (hz : ∀ t ∈ ss, t.size ≤ 16) (hlen : 251 ≤ ss.length) (hJ0 : J [] W) :
    CallsIn Fence.wide n Tryd.prog 88 #[.func (.yield l) #[] #[], .pointer (some ⟨Bs, 0, none⟩)] W fun e W' => (∃ v, e = .returned v) ∧
      ((∃ ys, logAll s ss ys ∧ J ys W') ∨ (∃ pre, logPre s ss pre ∧ Jx pre W')) := by
  have HZ := hide hz
  have HY := hide hY
  have HJ := hide hJ
  have HR := hide hr
  have HBs := hide hBs
  have hsz : s.size ≤ 16 := hz s (List.mem_of_getElem? h0)
  have H0 := hide h0
  have hBl := heap_lt hBs
  obtain ⟨q0, q1, ql⟩ := box2 hBs
  clear hz hY hJ hr hBs h0
  refine callsIn_of_wp Tryd.func88 rfl trivial ?_ rfl
  simp only [ Tryd.ntmps88, List.size_toArray, List.length_cons, List.length_nil, Nat.reduceAdd, Nat.reduceSub, Array.replicate_succ, Array.replicate_zero, List.push_toArray, List.append_toArray, List.nil_append, List.cons_append]
  gi_wp2_with fail
  refine ⟨trivial, ?_⟩
  refine (callsIn_wide.2 (committed_any _ no sc m nc ss s W HR.out H0.out (by omega))).mono ?_
  rintro e W1 ⟨rfl, b1⟩
  have hJ1 : J [] W1 := HJ.out _ W W1 none hJ0 (grown_of b1) (fun r e => by cases e)
  have k1 : KpS (fun k => k = Bs ∨ k = g) W W1 := kpS_of b1 (fun k h => by rcases h with rfl | rfl <;> assumption)
  have z1 := b1.size
  clear q0 q1 ql
  cases hsg : signB s
  · rw [comE_no hsg]
    obtain ⟨fn, tmps, assign, body, hy, hR⟩ := HY.out [] (0, ⟨#[]⟩, some 0) W1 hJ1 (by simp)
    have hw : iEnc (0, ⟨#[]⟩, some 0) = #[.agg #[.int .i64 0, .string ⟨#[]⟩], .iface 104 (.agg #[.int .i64 0])] := rfl
    rw [hw] at hy
    have HSG := hide hsg
    clear hw hsg
    gi_wp2
    refine hR.mono ?_
    rintro e W3 (⟨rfl, hJ3, -⟩ | ⟨rfl, hJx3⟩)
    · gi_wp2
      refine bodyPost_ret (results_none rfl _ _ _) rfl ?_
      exact ⟨⟨_, rfl⟩, .inl ⟨_, fun h => by simpa using h (0, ⟨#[]⟩, some 0) (by simp), hJ3⟩⟩
    · gi_wp2
      refine bodyPost_ret (results_none rfl _ _ _) rfl ?_
      exact ⟨⟨_, rfl⟩, .inr ⟨_, fun _ => by simp [logB, HSG.out], hJx3⟩⟩
  · rw [comE_yes hsg]
    have HSG := hide hsg
    clear hsg
    obtain ⟨c, hc⟩ : ∃ c, comN s = c := ⟨_, rfl⟩
    have hc2 : c ≤ 250 := by rw [← hc]; exact comN_le s
    rw [hc]
    have HC : Hid (logS s ss = (ss.drop 1).take c) := by show _ = _; rw [logS, hc]
    clear hc
    gi_wp2
    gi_loopw [5] (fun i wr => ∃ k : Nat, k ≤ c ∧ i = .int .i64 (1 + k : Nat) ∧ (∀ t ∈ (ss.drop 1).take k, noteB t = true) ∧ J (((ss.drop 1).take k).map okI) wr ∧ KpS (fun k => k = Bs ∨ k = g) W wr)
      (fun i _ => 1 + c - (intOf i).toNat)
    case atStart => exact ⟨0, Nat.zero_le _, rfl, by simp, by simpa using hJ1, k1⟩
    case round =>
      obtain ⟨k, hk, rfl, hall, hJs, hkp⟩ := hrel
      have HALL := hide hall
      clear hall
      by_cases hlt : k < c
      · obtain ⟨t, ht⟩ := getAt ss (1 + k) (by omega)
        have htk : (ss.drop 1).take (k + 1) = (ss.drop 1).take k ++ [t] := by
          rw [List.take_add_one, List.getElem?_drop, ht]; rfl
        have htz : t.size ≤ 9223372036854775807 := by have := HZ.out t (List.mem_of_getElem? ht); omega
        have HT := hide ht
        have HTK := hide htk
        have hbx : wr.heap[Bs]? = some (.cells #[.slice (some ⟨g, 0, none⟩) ss.length sc, .slice no m nc] 69 (0, 0)) := (hkp Bs (.inl rfl)).trans HBs.out
        obtain ⟨q0, q1, ql⟩ := box2 hbx
        have hgl2 : Bs < wr.heap.size ∧ g < wr.heap.size := ⟨heap_lt hbx, heap_lt ((hkp g (.inr rfl)).trans (Array.getElem?_eq_getElem hgl))⟩
        have hrr := hide (RowR.keepG HR.out (hkp g (.inr rfl)))
        have hi : ((1 + k : Nat) : Int) < 1 + (c : Int) := by omega
        clear ht htk hbx
        gi_wp2_with fail
        refine ⟨trivial, ?_⟩
        refine (callsIn_wide.2 (note_any _ no sc m nc (1 + k) ss t wr hrr.out HT.out htz)).mono ?_
        rintro e W2 ⟨rfl, b2⟩
        have k2 : KpS (fun k => k = Bs ∨ k = g) wr (W2.alloc (.cells #[.int .i64 (noteH t : Nat), .string (noteT t)] 109)) := kpS_of (bAll b2 ((Below.refl _ _).alloc (Nat.le_refl _) _)) (fun k h => by rcases h with rfl | rfl; exact hgl2.1; exact hgl2.2)
        have hJ2 : J (((ss.drop 1).take k).map okI) (W2.alloc (.cells #[.int .i64 (noteH t : Nat), .string (noteT t)] 109)) := HJ.out _ wr _ none hJs (grown_of (bAll b2 ((Below.refl _ _).alloc (Nat.le_refl _) _))) (fun r e => by cases e)
        have hpl : (((ss.drop 1).take k).map okI).length < 251 := by simp; omega
        clear q0 q1 ql
        have z2 := b2.size
        cases hnb : noteB t
        · obtain ⟨fn, tmps, assign, body, hy, hR⟩ := HY.out _ (0, ⟨#[]⟩, some (1 + k)) _ hJ2 hpl
          rw [badI_enc (1 + k) hnb] at hy
          have hE : noteE (1 + k) t = .iface 104 (.agg #[.int .i64 (1 + k : Nat)]) := by simp [noteE, hnb]
          rw [hE] at hy ⊢
          rw [show ((1 + k : Nat) : Int) = 1 + (k : Int) by omega] at hy
          have HNB := hide hnb
          clear hnb hE
          gi_wp2
          refine hR.mono ?_
          rintro e W3 (⟨rfl, hJ3, -⟩ | ⟨rfl, hJx3⟩)
          · gi_wp2
            refine bodyPost_ret (results_none rfl _ _ _) rfl ?_
            exact ⟨⟨_, rfl⟩, .inl ⟨_, fun h => by simpa using h (0, ⟨#[]⟩, some (1 + k)) (by simp), hJ3⟩⟩
          · gi_wp2
            refine bodyPost_ret (results_none rfl _ _ _) rfl ?_
            exact ⟨⟨_, rfl⟩, .inr ⟨_, fun _ => log_no HSG.out HC.out hlt HTK.out HNB.out, hJx3⟩⟩
        · obtain ⟨fn, tmps, assign, body, hy, hR⟩ := HY.out _ (okI t) _ hJ2 hpl
          rw [okI_enc (1 + k) hnb] at hy
          have hE : noteE (1 + k) t = .nilIface := by simp [noteE, hnb]
          rw [hE] at hy ⊢
          have HNB := hide hnb
          clear hnb hE
          gi_wp2
          refine hR.mono ?_
          rintro e W3 (⟨rfl, hJ3, hk3⟩ | ⟨rfl, hJx3⟩)
          · gi_wp2
            go_roundw
            case rel =>
              refine ⟨k + 1, by omega, by go_num, ?_, ?_, kpS_t hkp (kpS_t k2 hk3)⟩
              · rw [HTK.out]
                intro u hu
                rcases List.mem_append.1 hu with h | h
                · exact HALL.out u h
                · obtain rfl : u = t := by simpa using h
                  exact HNB.out
              · rw [HTK.out, List.map_append]; exact hJ3
            case measure => simp [intOf]; omega
          · gi_wp2
            refine bodyPost_ret (results_none rfl _ _ _) rfl ?_
            refine ⟨⟨_, rfl⟩, .inr ⟨_, fun ⟨x, hx, hn⟩ => ?_, hJx3⟩⟩
            rcases List.mem_append.1 hx with h | h
            · exact absurd (okI_all x h) hn
            · obtain rfl : x = okI t := by simpa using h
              exact absurd rfl hn
      · obtain rfl : k = c := by omega
        have hi : ¬ ((1 + k : Nat) : Int) < 1 + (k : Int) := by omega
        gi_wp2
        go_end0
        refine ⟨⟨_, rfl⟩, .inl ⟨_, fun _ => ⟨?_, ?_⟩, hJs⟩⟩
        · simp only [logB, HSG.out, Bool.true_and, List.all_eq_true]
          rw [HC.out]
          exact HALL.out
        · rw [okI_w, logL, HC.out]

end Go.Proofs.YtapflnabiobonaaDoor
