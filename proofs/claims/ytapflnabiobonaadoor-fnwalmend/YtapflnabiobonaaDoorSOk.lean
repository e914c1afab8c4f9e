/- What SecOk of the specification does: a contract; no statement of the seat is proved here. -/
import Derived.Test.YtapflnabiobonaaDoorH5
namespace Go.Proofs.YtapflnabiobonaaDoor
open Go.RowKit

/-- Whether a write is ok on n sectors. -/
def writeOkB (n : Nat) (x : Int × ByteArray) : Bool := inB x.1 0 ((n : Int) - 1) && decide (x.2.size ≤ 16)
/-- Whether a disk is ok. -/
def okB (kept : List ByteArray) (wait : List (Int × ByteArray)) : Bool :=
  decide (kept.length ≤ 512) && decide (wait.length ≤ 600) && kept.all (fun s => decide (s.size ≤ 16)) && wait.all (writeOkB kept.length)

theorem l1WriteOk_any (n : Nat) (a : Int) (s : ByteArray) (w : World) (hn : n ≤ 9223372036854775807) (hs : s.size ≤ 9223372036854775807) :
    Calls Tryd.prog 87 #[.int .i64 n, .int .i64 a, .string s] w fun e w' => e = .returned (.bool (writeOkB n (a, s))) ∧ w' = w := by
  by_cases h1 : inB a 0 ((n : Int) - 1) = true
  · by_cases h2 : (s.size : Int) ≤ 16
    · go_enter Tryd.func87, Tryd.ntmps87
      go_wp2_with (go_at_call 76; refine (l6In_any _ _ _ _).mono ?_; rintro e w' ⟨rfl, rfl⟩)
      go_ret
      exact ⟨by simp [writeOkB, h1]; omega, rfl⟩
    · go_enter Tryd.func87, Tryd.ntmps87
      go_wp2_with (go_at_call 76; refine (l6In_any _ _ _ _).mono ?_; rintro e w' ⟨rfl, rfl⟩)
      go_ret
      exact ⟨by simp [writeOkB, h1]; omega, rfl⟩
  · have h1' : inB a 0 ((n : Int) - 1) = false := by simpa using h1
    clear h1
    go_enter Tryd.func87, Tryd.ntmps87
    go_wp2_with (go_at_call 76; refine (l6In_any _ _ _ _).mono ?_; rintro e w' ⟨rfl, rfl⟩)
    go_ret
    exact ⟨by simp [writeOkB, h1'], rfl⟩

set_option maxHeartbeats 1000000 in
theorem specSecOk_any (v : Value) (kept : List ByteArray) (wait : List (Int × ByteArray)) (w : World) (hr : DiskR w v kept wait) (hs : ∀ s ∈ kept, s.size ≤ 9223372036854775807) (hs' : ∀ s ∈ wait, s.2.size ≤ 9223372036854775807) :
    Calls Tryd.prog 67 #[v] w fun e w' => e = .returned (.bool (okB kept wait)) ∧ Below w.heap.size w w' := by
  obtain ⟨ak, aw, rfl, a1, a2⟩ := hr
  have hal : Below w.heap.size w (w.alloc (.cells #[ak, aw] 31)) := (Below.refl _ _).alloc (Nat.le_refl _) _
  obtain ⟨ao, ca, rfl, hn1, hl1, a1⟩ := a1
  obtain ⟨ao2, ca2, rfl, hn2, hl2, a2⟩ := a2
  clear hl1 hl2
  by_cases h1 : kept.length ≤ 512
  · by_cases h2 : wait.length ≤ 600
    · have Hs := hide hs
      have Hs' := hide hs'
      have HB := hide (al1_0 w (.cells #[.slice ao kept.length ca, .slice ao2 wait.length ca2] 31))
      clear hs hs'
      go_enter Tryd.func67, Tryd.ntmps67
      go_wp2
      go_loopw [3] (fun i wr => ∃ k : Nat, k ≤ kept.length ∧ i = .int .i64 k ∧ (∀ j s, j < k → kept[j]? = some s → s.size ≤ 16) ∧ wr.heap[w.heap.size]? = some (.cells #[.slice ao kept.length ca, .slice ao2 wait.length ca2] 31 (0, 0)) ∧ Below w.heap.size w wr) (fun i _ => kept.length - (intOf i).toNat)
      case atStart => exact ⟨0, Nat.zero_le _, rfl, fun j s hj => by omega, HB.out, hal⟩
      case round =>
        obtain ⟨k, hk, rfl, hok, hbox, hbel⟩ := hrel
        have Hok := hide hok
        obtain ⟨c0, c1, cl⟩ := box2 hbox
        have Hbox := hide hbox
        clear hok hbox
        by_cases hlt : k < kept.length
        · obtain ⟨b1, o1, rfl, hc1⟩ := a1 (by omega)
          obtain ⟨s, hsk⟩ := getAt kept k hlt
          have Hsk := hide hsk
          have g1 := hc1 k (.string s) (by simp [hsk])
          have hsz : s.size ≤ 9223372036854775807 := Hs.out s (List.mem_of_getElem? hsk)
          have f1 : wr.cell? ⟨b1, o1 + k, none⟩ = some (.string s) := (hbel.cell (p := ⟨b1, o1 + k, none⟩) (World.block_lt_of_cell? w _ g1)).trans g1
          have hi : (k : Int) < (kept.length : Int) := by omega
          clear a1 hc1 hsk g1
          by_cases h16 : s.size ≤ 16
          · go_wp2
            go_roundw
            case rel =>
              refine ⟨k + 1, by omega, by go_num, fun j t hj ht => ?_, Hbox.out, hbel⟩
              by_cases hjk : j = k
              · subst hjk
                rw [Hsk.out] at ht
                rw [← Option.some.inj ht]
                exact h16
              · exact Hok.out j t (by omega) ht
            case measure => simp [intOf]; omega
          · go_wp2
            go_ret
            refine ⟨?_, hbel⟩
            have : okB kept wait = false := by
              have : kept.all (fun s => decide (s.size ≤ 16)) = false := by
                rw [List.all_eq_false]
                exact ⟨s, List.mem_of_getElem? Hsk.out, by simpa using h16⟩
              simp [okB, this]
            rw [this]
            rfl
        · obtain rfl : k = kept.length := by omega
          have HK : Hid (kept.all (fun s => decide (s.size ≤ 16)) = true) := by
            show _ = true
            rw [List.all_eq_true]
            intro s hs
            obtain ⟨j, hj, rfl⟩ := List.getElem_of_mem hs
            simpa using Hok.out j _ hj (by simp [hj])
          clear Hok a1 hk hlt
          obtain ⟨wo, rfl⟩ : ∃ wo : World, wo = wr := ⟨_, rfl⟩
          go_wp2
          go_loopw [4] (fun i wr => ∃ k : Nat, k ≤ wait.length ∧ i = .int .i64 k ∧ (∀ j s, j < k → wait[j]? = some s → writeOkB kept.length s = true) ∧ wr.heap[w.heap.size]? = some (.cells #[.slice ao kept.length ca, .slice ao2 wait.length ca2] 31 (0, 0)) ∧ Below w.heap.size w wr) (fun i _ => wait.length - (intOf i).toNat)
          case atStart => exact ⟨0, Nat.zero_le _, rfl, fun j s hj => by omega, Hbox.out, hbel⟩
          case round =>
            clear c0 c1 cl Hbox hbel
            obtain ⟨k, hk, rfl, hok, hbox, hbel⟩ := hrel
            have Hok := hide hok
            obtain ⟨c0, c1, cl⟩ := box2 hbox
            have Hbox := hide hbox
            clear hok hbox
            by_cases hlt : k < wait.length
            · obtain ⟨b1, o1, rfl, hc1⟩ := a2 (by omega)
              obtain ⟨⟨a, s⟩, hsk⟩ := getAt wait k hlt
              have Hsk := hide hsk
              obtain ⟨e0, e1⟩ := wcells_at wait k (a, s) hsk
              have g1 := hc1 _ _ e0
              have g2 := hc1 _ _ e1
              have l1 : b1 < w.heap.size := World.block_lt_of_cell? w _ g1
              have hsz : s.size ≤ 9223372036854775807 := Hs'.out (a, s) (List.mem_of_getElem? hsk)
              have f1 : wr.cell? ⟨b1, o1 + k * 2, none⟩ = some (.int .i64 a) := by rw [Nat.mul_comm k 2]; exact (hbel.cell (p := ⟨b1, o1 + 2 * k, none⟩) l1).trans g1
              have f2 : wr.cell? ⟨b1, o1 + k * 2 + 1, none⟩ = some (.string s) := by rw [Nat.mul_comm k 2]; exact (hbel.cell (p := ⟨b1, o1 + (2 * k + 1), none⟩) l1).trans g2
              have hi : (k : Int) < (wait.length : Int) := by omega
              clear a2 hc1 hsk g1 g2 e0 e1
              go_wp2
              go_quiet ((go_at_call 87; exact Calls.quiet_of_same (l1WriteOk_any _ _ _ _ hn1 hsz)))
              cases hwo : writeOkB kept.length (a, s)
              · go_wp2
                go_ret
                refine ⟨?_, below_drewN hbel _⟩
                have : okB kept wait = false := by
                  have : wait.all (writeOkB kept.length) = false := by
                    rw [List.all_eq_false]
                    exact ⟨(a, s), List.mem_of_getElem? Hsk.out, by simpa using hwo⟩
                  simp [okB, this]
                rw [this]
                rfl
              · go_wp2
                go_roundw
                case rel =>
                  refine ⟨k + 1, by omega, by go_num, fun j t hj ht => ?_, Hbox.out, below_drewN hbel _⟩
                  by_cases hjk : j = k
                  · subst hjk
                    rw [Hsk.out] at ht
                    rw [← Option.some.inj ht]
                    exact hwo
                  · exact Hok.out j t (by omega) ht
                case measure => simp [intOf]; omega
            · go_wp2
              go_ret
              refine ⟨?_, hbel⟩
              obtain rfl : k = wait.length := by omega
              have : okB kept wait = true := by
                have : wait.all (writeOkB kept.length) = true := by
                  rw [List.all_eq_true]
                  intro s hs
                  obtain ⟨j, hj, rfl⟩ := List.getElem_of_mem hs
                  exact Hok.out j _ hj (by simp [hj])
                simp only [okB, this, HK.out, h1, h2, decide_true, Bool.and_self]
              rw [this]
              rfl
    · have : okB kept wait = false := by simp [okB, h2]
      rw [this]
      clear this
      go_enter Tryd.func67, Tryd.ntmps67
      go_wp2
      go_ret
      exact ⟨rfl, hal⟩
  · have : okB kept wait = false := by simp [okB, h1]
    rw [this]
    clear this
    go_enter Tryd.func67, Tryd.ntmps67
    go_wp2
    go_ret
    exact ⟨rfl, hal⟩

end Go.Proofs.YtapflnabiobonaaDoor
