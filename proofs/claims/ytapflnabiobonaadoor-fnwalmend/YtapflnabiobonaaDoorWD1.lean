/- Drawn homes: a contract; no statement of the seat is proved here. -/
import Derived.Test.YtapflnabiobonaaDoorWF2
import Derived.Test.YtapflnabiobonaaDoorDraw4
import Derived.Test.YtapflnabiobonaaDoorDraw5
import Derived.Test.YtapflnabiobonaaDoorOwnC
namespace Go.Proofs.YtapflnabiobonaaDoor
open Go.RowKit

theorem mul_small (a b : Nat) (ha : a < 5) (hb : b < 51) : IntKind.i64.wrap ((a : Int) * (b : Int)) = ((a * b : Nat) : Int) := by
  have h1 : a * b ≤ 4 * 50 := Nat.mul_le_mul (by omega) (by omega)
  have h2 : ((a : Int) * (b : Int)) = ((a * b : Nat) : Int) := by simp
  rw [h2]
  simp only [IntKind.wrap, IntKind.bits, IntKind.signed]
  simp
  omega

theorem mod_small (a b : Nat) : ∃ j : Nat, j < 250 ∧ ((a : Int) * (b : Int)).tmod 250 = (j : Int) := by
  refine ⟨(a * b) % 250, Nat.mod_lt _ (by omega), ?_⟩
  have h2 : ((a : Int) * (b : Int)) = ((a * b : Nat) : Int) := by simp
  rw [h2, Int.tmod_eq_emod_of_nonneg (by omega)]
  rfl

set_option maxRecDepth 100000 in
set_option maxHeartbeats 4000000 in
theorem l72Homes_any (w0 w : World) (R p : Nat) (no : Option Addr) (nc : Nat) (now : List ByteArray) (hr : Rd w0 w R p) (hp : p ≤ 900000) (hn : RowR w 1 (.slice no now.length nc) now.length (now.map Value.string)) (h250 : now.length = 250) (hz : ∀ s ∈ now, s.size ≤ 9223372036854775807) :
    Calls Tryd.prog 54 #[.pointer (some ⟨R, 0, none⟩), .slice no now.length nc] w fun e w' => ∃ (ho : Option Addr) (hc : Nat) (out : List ByteArray) (p' : Nat), e = .returned (.slice ho 250 hc) ∧ out.length = 250 ∧ 250 ≤ hc ∧ (∀ s ∈ out, s.size ≤ 9223372036854775807) ∧
      Row w' 9 1 (fun k => w.heap.size ≤ k) (.slice ho 250 hc) 250 (out.map Value.string) ∧ Rd w0 w' R p' ∧ p' ≤ p + 40 ∧ Upd (fun j => j = R) w w' := by
  obtain ⟨hRl, hR0, hw0⟩ := hr.lt
  obtain ⟨i0, hi, hz0, hz1, hz2⟩ := info_parts infoStr
  rw [h250] at hn ⊢
  have HZ := hide hz
  have H250 := hide h250
  clear hz h250
  go_enter Tryd.func54, Tryd.ntmps54
  go_wp2_with (at_builtin; refine wpList_append_row _ rfl _ _ 22 rfl w.heap.size 9 i0 (.string ⟨#[]⟩) 1 16 Tryd.underlying22 hi hz0 hz1 hz2 rfl (by decide) _ 0 [] rfl ?qown _ 250 (now.map Value.string) rfl ?qrow (strs_one _) ?q63 ?qby ?qbase ?_)
  case qown => exact World.ownsRow_lit w #[] 0 (Nat.le_refl _) (by unfold maxLen; omega) rfl
  case qrow => exact hn.keep ((Below.refl _ _).alloc (Nat.le_refl _) _)
  case q63 => unfold maxLen; omega
  case qby => omega
  case qbase => simp
  intro v1 w1 hown hgr
  try simp only [Nat.zero_add, List.nil_append] at hown
  have r1 := (Row.ofOwns hown (by omega)).mono (T := fun k => w.heap.size ≤ k) (fun k hk h => h)
  have b1 : Below w.heap.size w w1 := ((Below.refl _ _).alloc (Nat.le_refl _) (.cells #[] 9)).grown hgr (by simp) (fun k e => by simp [Value.ownBlock] at e; omega)
  obtain ⟨ho, hc, rfl⟩ := r1.shape
  have hcap : 250 ≤ hc := RowA.capLe (.inl hown)
  have rd1 := hr.keepB b1
  clear hown hgr hn
  go_wp2_with fail
  refine (pick_any w0 w1 R p 6 rd1 (by omega) (by omega) (by omega)).mono ?_
  rintro e w2 ⟨q2, rfl, hq2, rd2, u2⟩
  have U2 : Upd (fun j => j = R) w w2 := (Upd.ofBelow b1).trans u2
  have r2 := r1.keep u2 (fun k h e => by omega)
  obtain ⟨gh, ch, u0, ev, -, hgh, -⟩ := r2.at 0 (by omega)
  simp only [Value.slice.injEq, true_and] at ev
  obtain ⟨rfl, rfl⟩ := ev
  clear r1 rd1 hr
  go_wp2
  go_loopw [6] (fun kv wr => ∃ (i : Nat) (out : List ByteArray) (p' : Nat), kv = .int .i64 i ∧ i ≤ 5 ∧ p' + 5 * i ≤ p + 30 ∧ out.length = 250 ∧ (∀ s ∈ out, s.size ≤ 9223372036854775807) ∧ Row wr 9 1 (fun k => w.heap.size ≤ k) (.slice (some ⟨gh, 0, none⟩) 250 hc) 250 (out.map Value.string) ∧ Rd w0 wr R p' ∧ Upd (fun j => j = R) w wr) (fun kv _ => (intOf kv).toNat)
  case atStart => exact ⟨q2, now, p + 1, rfl, by omega, by omega, H250.out, HZ.out, r2, rd2, U2⟩
  case round =>
    clear r2 rd2 U2
    obtain ⟨i, out, p', rfl, hi5, hpi, hol, hoz, hrow, hrd, hU⟩ := hrel
    by_cases hlt : 0 < i
    · have hlt' : (0 : Int) < (i : Int) := by omega
      have hrdd : Rd w0 wr.drew R p' := hrd.keepB ((Below.refl _ _).drew)
      have Hp := hide (pick_any w0 wr.drew R p' 5 hrdd (by omega) (by omega) (by omega))
      have HOZ := hide hoz
      have HOL := hide hol
      have Hrow := hide hrow
      clear hoz hol hrow
      go_wp2
      go_region_with (first
        | (go_at_call 82; refine (l72Text_any w0 w5 R (p' + 2) 15 hr5 (by omega) (by omega)).mono ?_; rintro e w6 ⟨s6, rfl, hs6, hr6, hu6⟩; obtain ⟨j, hj, hje⟩ := mod_small a4 a5; have u46 : Upd (fun j => j = R) wr w6 := ⟨((hu4.trans hu5).trans hu6).os, ((hu4.trans hu5).trans hu6).tape, ((hu4.trans hu5).trans hu6).output, ((hu4.trans hu5).trans hu6).size, ((hu4.trans hu5).trans hu6).block⟩; have hrow6 := (unhide Hrow).keep u46 (fun k h e => by omega); obtain ⟨gh', caph, u, ev, hS, hgl', hcu, hbl, hfu, hset⟩ := hrow6.at j hj; simp only [Value.slice.injEq, Option.some.injEq, Addr.mk.injEq, and_true, true_and] at ev; obtain ⟨rfl, rfl⟩ := ev; have Hset := hide hset; have hjl : (j : Int) < 250 := by omega)
        | (go_at_call 55; refine (pick_at w0 w4 R (p' + 1) 51 _ (by first | rfl | omega | decide) hr4 (by omega) (by omega) (by omega)).mono ?_; rintro e w5 ⟨a5, rfl, ha5, hr5, hu5⟩; have hmul := mul_small a4 a5 ha4 ha5)
        | (go_at_call 55; refine (unhide Hp).mono ?_; rintro e w4 ⟨a4, rfl, ha4, hr4, hu4⟩))
      all_goals
        go_wp2
        have us := Upd.setCell (S := fun k => k = gh) w6 gh j (.string s6) rfl
        go_roundw
        case rel =>
          refine ⟨i - 1, out.set j s6, p' + 2 + 3, by go_num, by omega, by omega, by rw [List.length_set]; exact HOL.out, ?_, ?_, hr6.keep us (by omega) (fun k h => by omega), (hU.trans u46).transN us (fun k h => by omega)⟩
          · intro t ht
            rcases List.mem_or_eq_of_mem_set ht with h | rfl
            · exact HOZ.out t h
            · omega
          · rw [List.map_set]; exact Hset.out (.string s6)
        case measure => simp [intOf]; omega
    · have HOZ := hide hoz
      have HOL := hide hol
      go_wp2
      go_ret
      exact ⟨_, _, out, p', rfl, HOL.out, hcap, HOZ.out, hrow, hrd, by omega, hU⟩

end Go.Proofs.YtapflnabiobonaaDoor
