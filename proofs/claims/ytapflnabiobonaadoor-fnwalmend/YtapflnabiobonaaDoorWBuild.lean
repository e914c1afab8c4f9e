/- Parts of a transaction's steps in the program: contracts; no statement of the seat is proved here. -/
import Derived.Test.YtapflnabiobonaaDoorSaid
namespace Go.Proofs.YtapflnabiobonaaDoor
open Go.RowKit

/-- Whether homes can be made to say these texts. -/
def fitB (hs : List ByteArray) : Bool := decide (hs.length = 250) && hs.all (fun s => decide (s.size ≤ 15))

set_option maxHeartbeats 1000000 in
theorem walFit_any (so : Option Addr) (sc : Nat) (hs : List ByteArray) (w : World) (hr : RowR w 1 (.slice so hs.length sc) hs.length (hs.map Value.string)) (hz : ∀ s ∈ hs, s.size ≤ 9223372036854775807) :
    Calls Tryd.prog 49 #[.slice so hs.length sc] w fun e w' => e = .returned (.bool (fitB hs)) ∧ w' = w := by
  obtain ⟨_, _, ev, hn, hl, hr⟩ := hr
  simp only [Value.slice.injEq, true_and] at ev
  obtain ⟨rfl, rfl⟩ := ev
  have HZ := hide hz
  clear hz hl
  by_cases h5 : hs.length = 250
  · have h5' : ((hs.length : Int) != 250) = false := by simp [h5]
    have H5 := hide h5
    clear h5
    go_enter Tryd.func49, Tryd.ntmps49
    go_wp2
    go_loopw [10] (fun iv wr => ∃ k : Nat, k ≤ hs.length ∧ iv = .int .i64 k ∧ (∀ j t, j < k → hs[j]? = some t → t.size ≤ 15) ∧ wr = w) (fun iv _ => hs.length - (intOf iv).toNat)
    case atStart => exact ⟨0, Nat.zero_le _, rfl, fun j t hj => by omega, rfl⟩
    case round =>
      obtain ⟨k, hk, rfl, hall, rfl⟩ := hrel
      have HA := hide hall
      clear hall
      by_cases hlt : k < hs.length
      · obtain ⟨b, off, rfl, hc⟩ := hr (by omega)
        obtain ⟨t, ht⟩ := getAt hs k hlt
        have f1 : wr.cell? ⟨b, off + k, none⟩ = some (.string t) := hc k _ (by simp [ht])
        have htz := HZ.out t (List.mem_of_getElem? ht)
        have hi : (k : Int) < (hs.length : Int) := by omega
        have Ht := hide ht
        clear hc ht hr
        by_cases h15 : (t.size : Int) > 15
        · have HF : Hid (fitB hs = false) := by
            show _ = _
            have : hs.all (fun s => decide (s.size ≤ 15)) = false := by
              rw [List.all_eq_false]
              exact ⟨t, List.mem_of_getElem? Ht.out, by simp; omega⟩
            simp [fitB, this]
          go_wp2
          go_ret
          rw [HF.out]
          exact ⟨rfl, rfl⟩
        · go_wp2
          go_roundw
          case rel =>
            refine ⟨k + 1, by omega, by go_num, fun j x hj hx => ?_, by first | rfl | trivial⟩
            by_cases hjk : j = k
            · subst hjk
              rw [Ht.out] at hx
              rw [← Option.some.inj hx]
              omega
            · exact HA.out j x (by omega) hx
          case measure => simp [intOf]; omega
      · have HF : Hid (fitB hs = true) := by
          show _ = _
          have : hs.all (fun s => decide (s.size ≤ 15)) = true := by
            rw [List.all_eq_true]
            intro x hx
            obtain ⟨j, hj⟩ := List.getElem?_of_mem hx
            have := (List.getElem?_eq_some_iff.1 hj).1
            simp only [decide_eq_true_eq]
            exact HA.out j x (by omega) hj
          simp [fitB, this, H5.out]
        go_wp2
        go_ret
        rw [HF.out]
        exact ⟨rfl, rfl⟩
  · have HF : Hid (fitB hs = false) := by show _ = _; simp [fitB, h5]
    have h5' : ((hs.length : Int) != 250) = true := by simp only [bne_iff_ne, ne_eq]; omega
    go_enter Tryd.func49, Tryd.ntmps49
    go_wp2
    go_ret
    rw [HF.out]
    exact ⟨rfl, rfl⟩

/-- Notes as their homes are to say them. -/
def appW (x : Int × ByteArray) : Int × ByteArray := (251 + x.1, x.2)

set_option maxRecDepth 100000 in
set_option maxHeartbeats 2000000 in
theorem walApplied_any (no : Option Addr) (nc : Nat) (L : List (Int × ByteArray)) (w : World) (hL : RowR w 2 (.slice no L.length nc) L.length (wcells L)) (hLb : ∀ x ∈ L, 0 ≤ x.1 ∧ x.1 < 250) (hLn : L.length ≤ 1000) :
    Calls Tryd.prog 74 #[.slice no L.length nc] w fun e w' => ∃ ao ca, e = .returned (.slice ao L.length ca) ∧ RowA w' w.heap.size 63 2 (.slice ao L.length ca) L.length (wcells (L.map appW)) ∧ Below w.heap.size w w' := by
  obtain ⟨_, _, ev, hn, hl, hr⟩ := hL
  simp only [Value.slice.injEq, true_and] at ev
  obtain ⟨rfl, rfl⟩ := ev
  have HLb := hide hLb
  have Hr := hide hr
  obtain ⟨i1, gi, gz0, gz1, gz2⟩ := info_parts infoWr
  clear hLb hl hr
  go_enter Tryd.func74, Tryd.ntmps74
  go_wp2
  go_loopw [3, 8] (fun ov iv wr => ∃ (k : Nat) (ao : Option Addr) (ca : Nat), k ≤ L.length ∧ iv = .int .i64 k ∧ ov = .slice ao k ca ∧ RowA wr w.heap.size 63 2 (.slice ao k ca) k (wcells ((L.take k).map appW)) ∧ Below w.heap.size w wr) (fun _ iv _ => L.length - (intOf iv).toNat)
  case atStart => exact ⟨0, none, 0, Nat.zero_le _, rfl, rfl, .inl (World.ownsRow_nil _ _ _ _), Below.refl _ _⟩
  case round =>
    obtain ⟨k, ao, ca, hk, rfl, rfl, hrow, hbel⟩ := hrel
    by_cases hlt : k < L.length
    · obtain ⟨⟨a, t⟩, hx⟩ := getAt L k hlt
      obtain ⟨ha0, ha1⟩ := HLb.out (a, t) (List.mem_of_getElem? hx)
      simp only at ha0 ha1
      obtain ⟨b, off, rfl, hcl⟩ := Hr.out (by omega)
      obtain ⟨e0, e1⟩ := wcells_at L k _ hx
      have g1 := hcl _ _ e0
      have g2 := hcl _ _ e1
      have l1 : b < w.heap.size := World.block_lt_of_cell? w _ g1
      have f1 : wr.cell? ⟨b, off + k * 2, none⟩ = some (.int .i64 a) := by rw [Nat.mul_comm k 2]; exact (hbel.cell (p := ⟨b, off + 2 * k, none⟩) l1).trans g1
      have f2 : wr.cell? ⟨b, off + k * 2 + 1, none⟩ = some (.string t) := by rw [Nat.mul_comm k 2]; exact (hbel.cell (p := ⟨b, off + (2 * k + 1), none⟩) l1).trans g2
      have hi' : (k : Int) < (L.length : Int) := by omega
      have Hx := hide hx
      have zz := hbel.size
      have al1 : Below wr.heap.size wr (wr.alloc (.cells #[.int .i64 a, .string t] 109)) := (Below.refl _ _).alloc (Nat.le_refl _) _
      have al2 := al1.alloc (o := .cells #[.int .i64 (251 + a), .string t] 63) (by simp)
      have s3 := hrow.keepB al2
      have N3 := hide (new_cells (wr.alloc (.cells #[.int .i64 a, .string t] 109)) (251 + a) t 63)
      clear hcl g1 g2 e0 e1 hx
      go_wp2_with (at_builtin; refine wpList_appendA _ rfl _ _ 29 rfl w.heap.size 63 i1 (.agg #[.int .i64 0, .string ⟨#[]⟩]) 2 24 Tryd.underlying29 gi gz0 gz1 gz2 rfl (by decide) _ k _ rfl s3 ⟨wr.heap.size + 1, 0, none⟩ 1 1 [.int .i64 (251 + a), .string t] rfl rfl ?qn (new_one _ _) (by decide) ?q63 ?qby ?qbase ?_)
      case qn => simpa using N3.out
      case q63 => unfold maxLen; omega
      case qby => omega
      case qbase => simp; omega
      intro v4 w4 hown u4
      obtain ⟨mo, cm, rfl⟩ := (Row.ofOwns hown (by omega)).shape
      go_wp2
      go_roundw
      case rel =>
        refine ⟨k + 1, mo, cm, by omega, by go_num, rfl, ?_, hbel.trans ((al2.mono zz).trans (u4.below (by simp; omega) (fun j h => h.1)))⟩
        rw [List.take_add_one, Hx.out, Option.toList_some, List.map_append, List.map_cons, List.map_nil, appW, wcells_snoc]
        rw [← List.map_take] at hown
        exact .inl hown
      case measure => simp [intOf]; omega
    · obtain rfl : k = L.length := by omega
      rw [List.take_length] at hrow
      go_wp2
      go_ret
      exact ⟨_, _, rfl, hrow, hbel⟩

end Go.Proofs.YtapflnabiobonaaDoor
