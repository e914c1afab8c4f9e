/- What the program's homes say: a contract; no statement of the seat is proved here. -/
import Derived.Test.YtapflnabiobonaaDoorSRead2
namespace Go.Proofs.YtapflnabiobonaaDoor
open Go.RowKit

set_option maxRecDepth 100000 in
set_option maxHeartbeats 4000000 in
theorem said_any (g gc : Nat) (no : Option Addr) (nc : Nat) (F : List ByteArray) (L : List (Int × ByteArray)) (w : World) (hF : RowR w 1 (.slice (some ⟨g, 0, none⟩) F.length gc) F.length (F.map Value.string)) (hgc : F.length ≤ gc) (hl5 : F.length = 501)
    (hL : RowR w 2 (.slice no L.length nc) L.length (wcells L)) (hLb : ∀ x ∈ L, 0 ≤ x.1 ∧ x.1 < 250) :
    Calls Tryd.prog 39 #[.agg #[.slice (some ⟨g, 0, none⟩) F.length gc, .slice no L.length nc]] w fun e w' => ∃ v', e = .returned v' ∧ Row w' 9 1 (fun k => w.heap.size ≤ k) v' (flushL (F.drop 251) L).length ((flushL (F.drop 251) L).map Value.string) ∧ Below w.heap.size w w' := by
  have hF1 : 501 ≤ F.length := by omega
  have hF2 : F.length ≤ 501 := by omega
  have hLn : L.length ≤ 9223372036854775807 := by obtain ⟨_, _, _, h, _⟩ := hL; exact h
  obtain ⟨i0, hi, hz0, hz1, hz2⟩ := info_parts infoStr
  have HLb := hide hLb
  have hLr := hide hL
  have hi5 : (251 : Int) ≤ (F.length : Int) := by omega
  have hgc' : (F.length : Int) ≤ (gc : Int) := by omega
  have al : Below w.heap.size w (w.alloc (.cells #[.slice (some ⟨g, 0, none⟩) F.length gc, .slice no L.length nc] 69)) := (Below.refl _ _).alloc (Nat.le_refl _) _
  have H0 := hide (al1_0 w (.cells #[.slice (some ⟨g, 0, none⟩) F.length gc, .slice no L.length nc] 69))
  have kF2 := hide (RowR.drop251 hF hF1)
  clear hLb hL hF hl5
  go_enter Tryd.func39, Tryd.ntmps39
  go_wp2_with (at_builtin; refine wpList_append_row _ rfl _ _ 22 rfl (w.heap.size + 1) 9 i0 (.string ⟨#[]⟩) 1 16 Tryd.underlying22 hi hz0 hz1 hz2 rfl (by decide) _ 0 [] rfl ?qown _ (F.length - 251) ((F.drop 251).map Value.string) rfl ?qrow (strs_one _) ?q63 ?qby ?qbase ?_)
  case qown => exact World.ownsRow_nil _ _ _ _
  case qrow => exact kF2.out.keep al
  case q63 => unfold maxLen; omega
  case qby => omega
  case qbase => simp
  intro v' w4 hown hgr
  try simp only [Nat.zero_add, List.nil_append] at hown
  have r4 := (Row.ofOwns hown (by omega)).mono (T := fun k => w.heap.size + 1 ≤ k ∧ k < w4.heap.size) (fun k hk h => ⟨h, hk⟩)
  have b4 : Below (w.heap.size + 1) (w.alloc (.cells #[.slice (some ⟨g, 0, none⟩) F.length gc, .slice no L.length nc] 69)) w4 := (Below.refl _ _).grown hgr (by simp) (fun k e => by simp [Value.ownBlock] at e)
  obtain ⟨ho, hc, rfl⟩ := r4.shape
  have c4 : Below w.heap.size w w4 := al.trans (b4.mono (by omega))
  have z4 := b4.size
  simp only [World.size_alloc] at z4
  have B0 := (b4.block w.heap.size (by omega)).trans H0.out
  obtain ⟨m, hm⟩ : ∃ m, F.length - 251 = m := ⟨_, rfl⟩
  have hm1 : m = 250 := by omega
  rw [hm] at r4 ⊢
  have HM := hide hm1
  clear hown hgr hm hm1
  obtain ⟨p0, p1, pl⟩ := box2 B0
  clear B0
  go_wp2
  clear p0 p1 pl
  go_loopw [14] (fun iv wr => ∃ k : Nat, k ≤ L.length ∧ iv = .int .i64 k ∧ Row wr 9 1 (fun k => w.heap.size + 1 ≤ k ∧ k < w4.heap.size) (.slice ho m hc) m ((flushL (F.drop 251) (L.take k)).map Value.string) ∧ Upd (fun k => w.heap.size + 1 ≤ k ∧ k < w4.heap.size) w4 wr) (fun iv _ => L.length - (intOf iv).toNat)
  case atStart => exact ⟨0, Nat.zero_le _, rfl, by simpa [flushL] using r4, Upd.refl _ _⟩
  case round =>
    clear r4
    obtain ⟨k, hk, rfl, hrow, hup⟩ := hrel
    by_cases hlt : k < L.length
    · obtain ⟨⟨a, t⟩, hx⟩ := getAt L k hlt
      obtain ⟨ha0, ha1⟩ := HLb.out (a, t) (List.mem_of_getElem? hx)
      simp only at ha0 ha1
      obtain ⟨n, rfl⟩ := Int.eq_ofNat_of_zero_le ha0
      have hnm : n < m := by have := HM.out; omega
      have Hx := hide hx
      obtain ⟨_, _, ev, _, _, hc0⟩ := hLr.out
      simp only [Value.slice.injEq, true_and] at ev
      obtain ⟨rfl, rfl⟩ := ev
      obtain ⟨b, off, rfl, hcl⟩ := hc0 (by omega)
      obtain ⟨e0, e1⟩ := wcells_at L k _ hx
      have g1 := hcl _ _ e0
      have g2 := hcl _ _ e1
      have l1 : b < w.heap.size := World.block_lt_of_cell? w _ g1
      have keep : ∀ j, wr.cell? ⟨b, j, none⟩ = w.cell? ⟨b, j, none⟩ := fun j => (World.cell?_of_block (a := ⟨b, j, none⟩) (hup.block b (by omega) (by omega))).trans (c4.cell (p := ⟨b, j, none⟩) l1)
      have f1 : wr.cell? ⟨b, off + k * 2, none⟩ = some (.int .i64 (n : Int)) := by rw [Nat.mul_comm k 2, keep]; exact g1
      have f2 : wr.cell? ⟨b, off + k * 2 + 1, none⟩ = some (.string t) := by rw [Nat.mul_comm k 2, keep]; exact g2
      have hi' : (k : Int) < (L.length : Int) := by omega
      have hn' : (n : Int) < (m : Int) := by omega
      have zu := hup.size
      obtain ⟨W, hW⟩ : ∃ W, W = wr.alloc (.cells #[.int .i64 (n : Int), .string t] 109) := ⟨_, rfl⟩
      have alW : Below wr.heap.size wr (wr.alloc (.cells #[.int .i64 (n : Int), .string t] 109)) := (Below.refl _ _).alloc (Nat.le_refl _) _
      obtain ⟨gh, caph, u, ev, hS, hgl', hcu, -, hfu, hset⟩ := (hrow.keepB alW).at n hnm
      simp only [Value.slice.injEq, true_and] at ev
      obtain ⟨rfl, rfl⟩ := ev
      have hne : ¬ gh = wr.heap.size := by omega
      have Hset := hide hset
      clear hset hcl g1 g2 e0 e1 hx hc0 keep hW
      go_wp2
      go_roundw
      case rel =>
        have hup2 : Upd (fun k => w.heap.size + 1 ≤ k ∧ k < w4.heap.size) wr ((wr.alloc (.cells #[.int .i64 (n : Int), .string t] 109)).setCell ⟨gh, n, none⟩ (.string t)) := (Upd.ofBelow alW).trans (Upd.setCell _ _ _ _ hS)
        refine ⟨k + 1, by omega, by go_num, ?_, hup.trans hup2⟩
        have h2 : flushL (F.drop 251) (L.take (k + 1)) = (flushL (F.drop 251) (L.take k)).set n t := by
          rw [List.take_add_one, Hx.out, Option.toList_some, flushL_snoc]
          simp
        rw [h2, List.map_set]
        exact Hset.out (.string t)
      case measure => simp [intOf]; omega
    · obtain rfl : k = L.length := by omega
      rw [List.take_of_length_le (Nat.le_refl _)] at hrow
      have hlen : (flushL (F.drop 251) L).length = m := by rw [flushL_len, List.length_drop]; have := HM.out; omega
      have HLEN := hide hlen
      clear hlen
      go_wp2
      go_ret
      rw [HLEN.out]
      exact ⟨_, rfl, hrow.mono (fun j _ h => by omega), c4.trans (hup.below c4.size (fun j h => by omega))⟩

end Go.Proofs.YtapflnabiobonaaDoor
