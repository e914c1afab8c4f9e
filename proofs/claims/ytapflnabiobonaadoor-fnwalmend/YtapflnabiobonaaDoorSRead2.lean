/- What WalRead of the specification does: a contract; no statement of the seat is proved here. -/
import Derived.Test.YtapflnabiobonaaDoorSRead
import Derived.Test.YtapflnabiobonaaDoorSpecA
import Derived.Test.YtapflnabiobonaaDoorSM
namespace Go.Proofs.YtapflnabiobonaaDoor
open Go.RowKit

theorem RowA.cap {w : World} {base : Nat} {e : TypeId} {v : Value} {n : Nat} {cs : List Value} (h : RowA w base e 1 v n cs) (hn : 0 < n) : ∃ g cap, v = .slice (some ⟨g, 0, none⟩) n cap ∧ n ≤ cap ∧ base ≤ g ∧ g < w.heap.size := by
  rcases h with ⟨hl, ⟨rfl, rfl⟩ | ⟨g, cap, cur, rfl, hg, hh, h1, h2, h3, h4⟩⟩ | ⟨rfl, _⟩
  · omega
  · exact ⟨g, cap, rfl, by omega, hg, heap_lt hh⟩
  · omega

theorem RowR.drop251 {w : World} {g cap : Nat} {F : List ByteArray} (h : RowR w 1 (.slice (some ⟨g, 0, none⟩) F.length cap) F.length (F.map Value.string)) (hF : 501 ≤ F.length) : RowR w 1 (.slice (some ⟨g, 251, none⟩) (F.length - 251) (cap - 251)) (F.length - 251) ((F.drop 251).map Value.string) := by
  obtain ⟨_, _, ev, h1, h2, h3⟩ := h
  simp only [Value.slice.injEq, true_and] at ev
  obtain ⟨rfl, rfl⟩ := ev
  refine ⟨_, _, rfl, by omega, by simp, fun _ => ?_⟩
  obtain ⟨b, off, e, hc⟩ := h3 (by omega)
  simp only [Option.some.injEq, Addr.mk.injEq, and_true] at e
  obtain ⟨rfl, rfl⟩ := e
  refine ⟨g, 251, rfl, fun j u hj => ?_⟩
  have := hc (251 + j) u (by rw [List.getElem?_map, List.getElem?_drop] at hj; rw [List.getElem?_map]; exact hj)
  rwa [Nat.zero_add] at this

theorem logL_len (s : ByteArray) (F : List ByteArray) : (logL s F).length ≤ F.length := by
  simp only [logL, logS, List.length_map, List.length_take, List.length_drop]
  omega
theorem logL_bound {s : ByteArray} {F : List ByteArray} (h : logB s F = true) : ∀ x ∈ logL s F, 0 ≤ x.1 ∧ x.1 < 250 := by
  intro x hx
  simp only [logL, List.mem_map] at hx
  obtain ⟨t, ht, rfl⟩ := hx
  simp only [logB, Bool.and_eq_true, List.all_eq_true] at h
  have := h.2 t ht
  simp only [noteB, decide_eq_true_eq] at this
  simp only [noteW]
  omega

/-- The sign of a disk, whether it is readable, and what its homes say. -/
def sign0 (F : List ByteArray) : ByteArray := F[0]?.getD ⟨#[]⟩
def readB (kept : List ByteArray) (wait : List (Int × ByteArray)) : Bool := formB kept wait && logB (sign0 (flushK kept wait)) (flushK kept wait)
def homesL (F : List ByteArray) : List ByteArray := flushL (F.drop 251) (logL (sign0 F) F)
def readH (kept : List ByteArray) (wait : List (Int × ByteArray)) : List ByteArray := if readB kept wait = true then homesL (flushK kept wait) else []

theorem Row.none0 (w : World) (e : TypeId) (size : Nat) (S : Nat → Prop) (ao : Option Addr) (c : Nat) : Row w e size S (.slice ao 0 c) 0 [] := ⟨ao, c, rfl, by omega, by simp, fun h => by omega⟩

set_option maxRecDepth 100000 in
set_option maxHeartbeats 4000000 in
theorem specWalRead_yes (v : Value) (kept : List ByteArray) (wait : List (Int × ByteArray)) (w : World) (hr : DiskR w v kept wait) (hf : formB kept wait = true) :
    Calls Tryd.prog 10 #[v] w fun e w' => ∃ v', e = .returned (.tuple #[v', .bool (readB kept wait)]) ∧ Row w' 9 1 (fun k => w.heap.size ≤ k) v' (readH kept wait).length ((readH kept wait).map Value.string) ∧ Below w.heap.size w w' := by
  have hok : okB kept wait = true := by simp only [formB, Bool.and_eq_true] at hf; exact hf.1
  have h5 : kept.length = 501 := by simp only [formB, Bool.and_eq_true, decide_eq_true_eq] at hf; exact hf.2
  obtain ⟨hp1, hp2, hp3, hp4⟩ := okB_parts hok
  have P3 := hide hp3
  have P4 := hide hp4
  have Hr := hide hr
  obtain ⟨ak, aw, rfl, ⟨ao, ca, rfl, -⟩, ⟨bo, cb, rfl, -⟩⟩ := hr
  have hal : Below w.heap.size w (w.alloc (.cells #[.slice ao kept.length ca, .slice bo wait.length cb] 31)) := (Below.refl _ _).alloc (Nat.le_refl _) _
  have H0 := hide (al1_0 w (.cells #[.slice ao kept.length ca, .slice bo wait.length cb] 31))
  have hflK : flushK kept wait = flushL kept wait := by simp [flushK, hok]
  have hFl : (flushK kept wait).length = 501 := by rw [hflK, flushL_len, h5]
  have hFz : ∀ t ∈ flushK kept wait, t.size ≤ 16 := by rw [hflK]; exact flushL_all hp3 (fun x hx => (hp4 x hx).2.2)
  clear hp3 hp4 h5 hflK
  go_enter Tryd.func10, Tryd.ntmps10
  go_wp2_with fail
  refine (l2Form_any _ kept wait _ (Hr.out.keep hal) (fun s hs => by have := P3.out s hs; omega) (fun s hs => by have := (P4.out s hs).2.2; omega)).mono ?_
  rintro e w1 ⟨rfl, b1⟩
  rw [hf]
  have c1 := bAll hal b1
  obtain ⟨p0, p1, pl⟩ := box2 (bKeeps b1 H0.out)
  go_wp2_with fail
  refine (specSecFlushA_any _ kept wait _ (Hr.out.keep c1) (fun s hs => by have := P3.out s hs; omega) (fun s hs => by have := (P4.out s hs).2.2; omega)).mono ?_
  rintro e w2 ⟨v2, rfl, ⟨vk, vw, rfl, rk, rw2⟩, b2⟩
  obtain ⟨F, hF⟩ : ∃ F, flushK kept wait = F := ⟨_, rfl⟩
  have HRB : Hid (readB kept wait = logB (sign0 F) F ∧ (logB (sign0 F) F = true → readH kept wait = homesL F)) := by
    have h1 : readB kept wait = logB (sign0 F) F := by simp only [readB, hf, hF, Bool.true_and]
    exact ⟨h1, fun h => by simp only [readH, h1, h, hF, if_true]⟩
  rw [hF] at rk hFl hFz
  clear hF
  have hF1 : 501 ≤ F.length := by omega
  have hF2 : F.length ≤ 501 := by omega
  have HFl := hide hFl
  clear hFl
  obtain ⟨g, gc, rfl, hgc, hgb, hgl⟩ := rk.cap (by omega)
  obtain ⟨wo, wc, rfl⟩ := rw2.shape
  have hfk := fun w => field_kept (some ⟨g, 0, none⟩) wo F.length gc 0 wc w
  obtain ⟨s, hs0⟩ := getAt F 0 (by omega)
  have hsg : sign0 F = s := by simp [sign0, hs0]
  rw [hsg] at HRB
  have HSG := hide hsg
  clear hsg
  have c2 := bAll c1 b2
  clear p0 p1 pl
  go_wp2_with fail
  refine (specL2Logged_any _ _ F s w2 (rk.row (by omega)).reads hs0 (by omega) (by omega) hFz).mono ?_
  rintro e w3 ⟨v3, rfl, ⟨lo, ln, lc, rfl⟩, hlog, b3⟩
  have c3 := bAll c2 b3
  cases hlb : logB s F
  · have HNO : Hid (readB kept wait = false ∧ readH kept wait = []) := by
      have h1 : readB kept wait = false := HRB.out.1.trans hlb
      exact ⟨h1, by simp [readH, h1]⟩
    go_wp2
    go_ret2
    rw [HNO.out.1, HNO.out.2]
    exact ⟨_, rfl, Row.none0 _ _ _ _ _ _, c3.alloc c3.size _⟩
  · have hi5 : (251 : Int) ≤ (F.length : Int) := by omega
    have hgc' : (F.length : Int) ≤ (gc : Int) := by omega
    obtain ⟨i0, hi, hz0, hz1, hz2⟩ := info_parts infoStr
    have hL := hlog hlb
    obtain ⟨L, eL⟩ : ∃ L, logL s F = L := ⟨_, rfl⟩
    have hLb : ∀ x ∈ logL s F, 0 ≤ x.1 ∧ x.1 < 250 := logL_bound hlb
    rw [eL] at hL hLb
    have HLb := hide hLb
    have EL := hide eL
    have HLB := hide hlb
    obtain ⟨lo', lc', e3⟩ := hL.shape
    simp only [Value.slice.injEq] at e3
    obtain ⟨rfl, rfl, rfl⟩ := e3
    have hLr := hide (hL.row (by have := logL_len s F; rw [eL] at this; omega)).reads
    have hLlen : L.length ≤ 512 := by have := logL_len s F; rw [eL] at this; omega
    have kF := ((rk.row (by omega)).reads.keep b3)
    have kF2 := hide (RowR.drop251 kF hF1)
    clear hLb eL hlb hlog hL kF
    go_wp2_with (first | (go_at_call 36; refine (l2Home_any _ _ (by omega) (by omega)).mono ?_; rintro e w4 ⟨rfl, rfl⟩) | (at_builtin; refine wpList_append_row _ rfl _ _ 22 rfl w3.heap.size 9 i0 (.string ⟨#[]⟩) 1 16 Tryd.underlying22 hi hz0 hz1 hz2 rfl (by decide) _ 0 [] rfl ?qown _ (F.length - 251) ((F.drop 251).map Value.string) rfl ?qrow (strs_one _) ?q63 ?qby ?qbase ?_))
    case qown => exact World.ownsRow_lit w3 #[] 0 (Nat.le_refl _) (by unfold maxLen; omega) rfl
    case qrow => exact kF2.out.keep ((Below.refl _ _).alloc (Nat.le_refl _) _)
    case q63 => unfold maxLen; omega
    case qby => omega
    case qbase => simp
    intro v' w4 hown hgr
    try simp only [Nat.zero_add, List.nil_append] at hown
    have r4 := (Row.ofOwns hown (by omega)).mono (T := fun k => w3.heap.size ≤ k ∧ k < w4.heap.size) (fun k hk h => ⟨h, hk⟩)
    have b4 : Below w3.heap.size w3 w4 := ((Below.refl _ _).alloc (Nat.le_refl _) (.cells #[] 9)).grown hgr (by simp) (fun k e => by simp [Value.ownBlock] at e; omega)
    obtain ⟨ho, hc, rfl⟩ := r4.shape
    have c4 := bAll c3 b4
    have z3 := c3.size
    have z4 := b4.size
    obtain ⟨m, hm⟩ : ∃ m, F.length - 251 = m := ⟨_, rfl⟩
    have hm1 : m = 250 := by omega
    rw [hm] at r4 ⊢
    have HM := hide hm1
    clear hown hgr hm hm1
    go_wp2
    go_loopw [8] (fun iv wr => ∃ k : Nat, k ≤ L.length ∧ iv = .int .i64 k ∧ Row wr 9 1 (fun k => w3.heap.size ≤ k ∧ k < w4.heap.size) (.slice ho m hc) m ((flushL (F.drop 251) (L.take k)).map Value.string) ∧ Upd (fun k => w3.heap.size ≤ k ∧ k < w4.heap.size) w4 wr) (fun iv _ => L.length - (intOf iv).toNat)
    case atStart => exact ⟨0, Nat.zero_le _, rfl, by simpa [flushL] using r4, Upd.refl _ _⟩
    case round =>
      clear r4
      obtain ⟨k, hk, rfl, hrow, hup⟩ := hrel
      by_cases hlt : k < L.length
      · obtain ⟨⟨a, t⟩, hx⟩ := getAt L k hlt
        obtain ⟨ha0, ha1⟩ := HLb.out (a, t) (List.mem_of_getElem? hx)
        simp only at ha0 ha1
        obtain ⟨n, rfl⟩ := Int.eq_ofNat_of_zero_le ha0
        have hnm : n < m := by have := HM.out; omega
        have Hx := hide hx
        obtain ⟨_, _, ev, _, _, hc0⟩ := hLr.out
        simp only [Value.slice.injEq, true_and] at ev
        obtain ⟨rfl, rfl⟩ := ev
        obtain ⟨b, off, rfl, hcl⟩ := hc0 (by omega)
        obtain ⟨e0, e1⟩ := wcells_at L k _ hx
        have g1 := hcl _ _ e0
        have g2 := hcl _ _ e1
        have l1 : b < w3.heap.size := World.block_lt_of_cell? w3 _ g1
        have keep : ∀ j, wr.cell? ⟨b, j, none⟩ = w3.cell? ⟨b, j, none⟩ := fun j => (World.cell?_of_block (a := ⟨b, j, none⟩) (hup.block b (by omega) (by omega))).trans (b4.cell (p := ⟨b, j, none⟩) l1)
        have f1 : wr.cell? ⟨b, off + k * 2, none⟩ = some (.int .i64 (n : Int)) := by rw [Nat.mul_comm k 2, keep]; exact g1
        have f2 : wr.cell? ⟨b, off + k * 2 + 1, none⟩ = some (.string t) := by rw [Nat.mul_comm k 2, keep]; exact g2
        have hi' : (k : Int) < (L.length : Int) := by omega
        have hn' : (n : Int) < (m : Int) := by omega
        obtain ⟨gh, caph, u, ev, hS, hgl', hcu, -, hfu, hset⟩ := hrow.at n hnm
        simp only [Value.slice.injEq, true_and] at ev
        obtain ⟨rfl, rfl⟩ := ev
        have Hset := hide hset
        clear hset hcl g1 g2 e0 e1 hx hc0 keep
        go_wp2
        go_region
        all_goals
          go_wp2
          go_roundw
          case rel =>
            have hup2 : Upd (fun k => w3.heap.size ≤ k ∧ k < w4.heap.size) wr (wr.setCell ⟨gh, n, none⟩ (.string t)).drew := ⟨rfl, rfl, rfl, by simp, (Upd.setCell (S := fun k => w3.heap.size ≤ k ∧ k < w4.heap.size) wr gh n (.string t) hS).block⟩
            refine ⟨k + 1, by omega, by go_num, ?_, hup.trans hup2⟩
            have h1 := (Hset.out (.string t)).keepB ((Below.refl _ _).drew)
            have h2 : flushL (F.drop 251) (L.take (k + 1)) = (flushL (F.drop 251) (L.take k)).set n t := by
              rw [List.take_add_one, Hx.out, Option.toList_some, flushL_snoc]
              simp
            rw [h2, List.map_set]
            exact h1
          case measure => simp [intOf]; omega
      · obtain rfl : k = L.length := by omega
        rw [List.take_of_length_le (Nat.le_refl _)] at hrow
        go_wp2
        go_ret2
        have hh : readH kept wait = flushL (F.drop 251) L := by rw [HRB.out.2 HLB.out, homesL, HSG.out, EL.out]
        have hlen : (flushL (F.drop 251) L).length = m := by rw [flushL_len, List.length_drop]; have := HM.out; omega
        rw [HRB.out.1, HLB.out, hh, hlen]
        exact ⟨_, rfl, hrow.mono (fun j _ h => by omega), c4.trans (hup.below c4.size (fun j h => by omega))⟩

set_option maxRecDepth 100000 in
set_option maxHeartbeats 1000000 in
theorem specWalRead_any (v : Value) (kept : List ByteArray) (wait : List (Int × ByteArray)) (w : World) (hr : DiskR w v kept wait) (hs : ∀ s ∈ kept, s.size ≤ 9223372036854775807) (hs' : ∀ s ∈ wait, s.2.size ≤ 9223372036854775807) :
    Calls Tryd.prog 10 #[v] w fun e w' => ∃ v', e = .returned (.tuple #[v', .bool (readB kept wait)]) ∧ Row w' 9 1 (fun k => w.heap.size ≤ k) v' (readH kept wait).length ((readH kept wait).map Value.string) ∧ Below w.heap.size w w' := by
  cases hf : formB kept wait
  · have HNO : Hid (readB kept wait = false ∧ readH kept wait = []) := by
      have h1 : readB kept wait = false := by simp [readB, hf]
      exact ⟨h1, by simp [readH, h1]⟩
    have Hr := hide hr
    obtain ⟨ak, aw, rfl, ⟨ao, ca, rfl, -⟩, ⟨bo, cb, rfl, -⟩⟩ := hr
    have hal : Below w.heap.size w (w.alloc (.cells #[.slice ao kept.length ca, .slice bo wait.length cb] 31)) := (Below.refl _ _).alloc (Nat.le_refl _) _
    go_enter Tryd.func10, Tryd.ntmps10
    go_wp2_with fail
    refine (l2Form_any _ kept wait _ (Hr.out.keep hal) hs hs').mono ?_
    rintro e w1 ⟨rfl, b1⟩
    rw [hf]
    have c1 := bAll hal b1
    go_wp2
    go_ret2
    rw [HNO.out.1, HNO.out.2]
    exact ⟨_, rfl, Row.none0 _ _ _ _ _ _, c1.alloc c1.size _⟩
  · exact specWalRead_yes v kept wait w hr hf

end Go.Proofs.YtapflnabiobonaaDoor
