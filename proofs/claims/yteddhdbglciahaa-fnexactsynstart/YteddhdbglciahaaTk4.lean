/- Contracts and plain facts that this claim leans on (texts FW2, MC, VS2); no statement of the seat is proved here. -/
import Derived.Test.YteddhdbglciahaaTk3
import Derived.Test.YteddhdbglciahaaTk2
import Derived.Test.YteddhdbglciahaaMKSP
import Derived.Test.YteddhdbglciahaaTk1

/- Rows of words that bear no lists: held: a contract; no statement of the seat is proved here. (Written by wip/tools/mkfw.py.) -/
namespace Go.Proofs.Yteddhdbglciahaa
open Go.RowKit

set_option maxRecDepth 100000 in
set_option maxHeartbeats 32000000 in
theorem heldWordS_ok (v : Value) (n k0 : Nat) (w : World) (hr : RowR w 26 v n (fwcells (mkF k0 n))) (_h1 : 1 ≤ k0) (h2 : k0 + n * 24 ≤ 1099511627776) :
    Calls Try.prog 20 #[v, .int .i64 k0] w fun e w' => e = .returned (.int .i64 (k0 + n * 24 : Nat)) ∧ Below w.heap.size w w' := by
  obtain ⟨ao, cap, rfl, hn, hl, hr⟩ := hr
  clear hl
  go_enter Try.func20, Try.ntmps20
  go_wp2
  go_loopw [1, 5] (fun kv i wr => ∃ k m : Nat, k ≤ n ∧ m = k0 + k * 24 ∧ i = .int .i64 k ∧ kv = .int .i64 (m : Nat) ∧ Below w.heap.size w wr) (fun _ i _ => n - (intOf i).toNat)
  case atStart => exact ⟨0, k0, Nat.zero_le _, rfl, rfl, rfl, Below.refl _ _⟩
  case round =>
    obtain ⟨k, m, hk, hm, rfl, rfl, hbel⟩ := hrel
    have Hm : Hid (m = k0 + k * 24) := hm
    have hm2 : (m : Int) ≤ 1099511627776 := by omega
    by_cases hlt : k < n
    · obtain ⟨b1, o1, rfl, hc1⟩ := hr (by omega)
      have hm3 : ((m + 24 : Nat) : Int) ≤ 1099511627776 := by omega
      clear hm
      have F := hide (fun V (hV : Below w.heap.size w V) => fw_at hc1 (mkF_get k0 n k hlt) hV)
      have hi : (k : Int) < (n : Int) := by omega
      have Hm0 : Hid (m = m + 0) := rfl
      have HLT : Hid (k + 1 ≤ n) := hlt
      clear hr hc1
      have c1 : wr.cell? ⟨b1, o1 + k * 26, none⟩ = some (.int .i64 (m : Int)) := by
        have q := F.out _ hbel 0 _ (mkFw_at (k0 + k * 24) 0 (by omega))
        rw [← Hm.out] at q
        rw [Hm0.out]
        exact q
      go_upto_region 7 with fail
      obtain ⟨m1, hm⟩ : ∃ q : Nat, q = m + 1 := ⟨_, rfl⟩
      have Hm1 := hide hm
      have hb1 : (m1 : Int) ≤ 1099511627776 := by omega
      rw [show (m : Int) + 1 = (m1 : Int) by have := Hm0.out; omega]
      clear c1 hm
      have c1 : wr.cell? ⟨b1, o1 + k * 26 + 1, none⟩ = some (.int .i64 (m1 : Int)) := by
        have q := F.out _ hbel 1 _ (mkFw_at (k0 + k * 24) 1 (by omega))
        rw [← Hm.out] at q
        rw [Hm1.out]
        exact q
      go_upto_region 10 with fail
      obtain ⟨m2, hm⟩ : ∃ q : Nat, q = m + 2 := ⟨_, rfl⟩
      have Hm2 := hide hm
      have hb2 : (m2 : Int) ≤ 1099511627776 := by omega
      rw [show (m1 : Int) + 1 = (m2 : Int) by have := Hm1.out; omega]
      clear c1 hm
      clear hb1 Hm1
      have c1 : wr.cell? ⟨b1, o1 + k * 26 + 2, none⟩ = some (.int .i64 (m2 : Int)) := by
        have q := F.out _ hbel 2 _ (mkFw_at (k0 + k * 24) 2 (by omega))
        rw [← Hm.out] at q
        rw [Hm2.out]
        exact q
      go_upto_region 13 with fail
      obtain ⟨m3, hm⟩ : ∃ q : Nat, q = m + 3 := ⟨_, rfl⟩
      have Hm3 := hide hm
      have hb3 : (m3 : Int) ≤ 1099511627776 := by omega
      rw [show (m2 : Int) + 1 = (m3 : Int) by have := Hm2.out; omega]
      clear c1 hm
      clear hb2 Hm2
      have c1 : wr.cell? ⟨b1, o1 + k * 26 + 3, none⟩ = some (.int .i64 (m3 : Int)) := by
        have q := F.out _ hbel 3 _ (mkFw_at (k0 + k * 24) 3 (by omega))
        rw [← Hm.out] at q
        rw [Hm3.out]
        exact q
      go_upto_region 16 with fail
      obtain ⟨m4, hm⟩ : ∃ q : Nat, q = m + 4 := ⟨_, rfl⟩
      have Hm4 := hide hm
      have hb4 : (m4 : Int) ≤ 1099511627776 := by omega
      rw [show (m3 : Int) + 1 = (m4 : Int) by have := Hm3.out; omega]
      clear c1 hm
      clear hb3 Hm3
      have c1 : wr.cell? ⟨b1, o1 + k * 26 + 4, none⟩ = some (.int .i64 (m4 : Int)) := by
        have q := F.out _ hbel 4 _ (mkFw_at (k0 + k * 24) 4 (by omega))
        rw [← Hm.out] at q
        rw [Hm4.out]
        exact q
      go_upto_region 19 with fail
      obtain ⟨m5, hm⟩ : ∃ q : Nat, q = m + 5 := ⟨_, rfl⟩
      have Hm5 := hide hm
      have hb5 : (m5 : Int) ≤ 1099511627776 := by omega
      rw [show (m4 : Int) + 1 = (m5 : Int) by have := Hm4.out; omega]
      clear c1 hm
      clear hb4 Hm4
      have c1 : wr.cell? ⟨b1, o1 + k * 26 + 5, none⟩ = some (.int .i64 (m5 : Int)) := by
        have q := F.out _ hbel 5 _ (mkFw_at (k0 + k * 24) 5 (by omega))
        rw [← Hm.out] at q
        rw [Hm5.out]
        exact q
      go_upto_region 22 with fail
      obtain ⟨m6, hm⟩ : ∃ q : Nat, q = m + 6 := ⟨_, rfl⟩
      have Hm6 := hide hm
      have hb6 : (m6 : Int) ≤ 1099511627776 := by omega
      rw [show (m5 : Int) + 1 = (m6 : Int) by have := Hm5.out; omega]
      clear c1 hm
      clear hb5 Hm5
      have c1 : wr.cell? ⟨b1, o1 + k * 26 + 6, none⟩ = some (.int .i64 (m6 : Int)) := by
        have q := F.out _ hbel 6 _ (mkFw_at (k0 + k * 24) 6 (by omega))
        rw [← Hm.out] at q
        rw [Hm6.out]
        exact q
      go_upto_region 25 with fail
      obtain ⟨m7, hm⟩ : ∃ q : Nat, q = m + 7 := ⟨_, rfl⟩
      have Hm7 := hide hm
      have hb7 : (m7 : Int) ≤ 1099511627776 := by omega
      rw [show (m6 : Int) + 1 = (m7 : Int) by have := Hm6.out; omega]
      clear c1 hm
      clear hb6 Hm6
      have c1 : wr.cell? ⟨b1, o1 + k * 26 + 7, none⟩ = some (.int .i64 (m7 : Int)) := by
        have q := F.out _ hbel 7 _ (mkFw_at (k0 + k * 24) 7 (by omega))
        rw [← Hm.out] at q
        rw [Hm7.out]
        exact q
      go_upto_region 28 with fail
      obtain ⟨m8, hm⟩ : ∃ q : Nat, q = m + 8 := ⟨_, rfl⟩
      have Hm8 := hide hm
      have hb8 : (m8 : Int) ≤ 1099511627776 := by omega
      rw [show (m7 : Int) + 1 = (m8 : Int) by have := Hm7.out; omega]
      clear c1 hm
      clear hb7 Hm7
      have c1 : wr.cell? ⟨b1, o1 + k * 26 + 8, none⟩ = some (.int .i64 (m8 : Int)) := by
        have q := F.out _ hbel 8 _ (mkFw_at (k0 + k * 24) 8 (by omega))
        rw [← Hm.out] at q
        rw [Hm8.out]
        exact q
      go_upto_region 31 with fail
      obtain ⟨m9, hm⟩ : ∃ q : Nat, q = m + 9 := ⟨_, rfl⟩
      have Hm9 := hide hm
      have hb9 : (m9 : Int) ≤ 1099511627776 := by omega
      rw [show (m8 : Int) + 1 = (m9 : Int) by have := Hm8.out; omega]
      clear c1 hm
      clear hb8 Hm8
      have c1 : wr.cell? ⟨b1, o1 + k * 26 + 9, none⟩ = some (.int .i64 (m9 : Int)) := by
        have q := F.out _ hbel 9 _ (mkFw_at (k0 + k * 24) 9 (by omega))
        rw [← Hm.out] at q
        rw [Hm9.out]
        exact q
      go_upto_region 34 with fail
      obtain ⟨m10, hm⟩ : ∃ q : Nat, q = m + 10 := ⟨_, rfl⟩
      have Hm10 := hide hm
      have hb10 : (m10 : Int) ≤ 1099511627776 := by omega
      rw [show (m9 : Int) + 1 = (m10 : Int) by have := Hm9.out; omega]
      clear c1 hm
      clear hb9 Hm9
      have c1 : wr.cell? ⟨b1, o1 + k * 26 + 10, none⟩ = some (.int .i64 (m10 : Int)) := by
        have q := F.out _ hbel 10 _ (mkFw_at (k0 + k * 24) 10 (by omega))
        rw [← Hm.out] at q
        rw [Hm10.out]
        exact q
      go_upto_region 37 with fail
      obtain ⟨m11, hm⟩ : ∃ q : Nat, q = m + 11 := ⟨_, rfl⟩
      have Hm11 := hide hm
      have hb11 : (m11 : Int) ≤ 1099511627776 := by omega
      rw [show (m10 : Int) + 1 = (m11 : Int) by have := Hm10.out; omega]
      clear c1 hm
      clear hb10 Hm10
      have c1 : wr.cell? ⟨b1, o1 + k * 26 + 11, none⟩ = some (.int .i64 (m11 : Int)) := by
        have q := F.out _ hbel 11 _ (mkFw_at (k0 + k * 24) 11 (by omega))
        rw [← Hm.out] at q
        rw [Hm11.out]
        exact q
      go_upto_region 40 with fail
      obtain ⟨m12, hm⟩ : ∃ q : Nat, q = m + 12 := ⟨_, rfl⟩
      have Hm12 := hide hm
      have hb12 : (m12 : Int) ≤ 1099511627776 := by omega
      rw [show (m11 : Int) + 1 = (m12 : Int) by have := Hm11.out; omega]
      clear c1 hm
      clear hb11 Hm11
      have c1 : wr.cell? ⟨b1, o1 + k * 26 + 12, none⟩ = some (.int .i64 (m12 : Int)) := by
        have q := F.out _ hbel 12 _ (mkFw_at (k0 + k * 24) 12 (by omega))
        rw [← Hm.out] at q
        rw [Hm12.out]
        exact q
      go_upto_region 43 with fail
      obtain ⟨m13, hm⟩ : ∃ q : Nat, q = m + 13 := ⟨_, rfl⟩
      have Hm13 := hide hm
      have hb13 : (m13 : Int) ≤ 1099511627776 := by omega
      rw [show (m12 : Int) + 1 = (m13 : Int) by have := Hm12.out; omega]
      clear c1 hm
      clear hb12 Hm12
      have c1 : wr.cell? ⟨b1, o1 + k * 26 + 13, none⟩ = some (.int .i64 (m13 : Int)) := by
        have q := F.out _ hbel 13 _ (mkFw_at (k0 + k * 24) 13 (by omega))
        rw [← Hm.out] at q
        rw [Hm13.out]
        exact q
      go_upto_region 46 with fail
      obtain ⟨m14, hm⟩ : ∃ q : Nat, q = m + 14 := ⟨_, rfl⟩
      have Hm14 := hide hm
      have hb14 : (m14 : Int) ≤ 1099511627776 := by omega
      rw [show (m13 : Int) + 1 = (m14 : Int) by have := Hm13.out; omega]
      clear c1 hm
      clear hb13 Hm13
      have c1 : wr.cell? ⟨b1, o1 + k * 26 + 14, none⟩ = some (.int .i64 (m14 : Int)) := by
        have q := F.out _ hbel 14 _ (mkFw_at (k0 + k * 24) 14 (by omega))
        rw [← Hm.out] at q
        rw [Hm14.out]
        exact q
      go_upto_region 49 with fail
      obtain ⟨m15, hm⟩ : ∃ q : Nat, q = m + 15 := ⟨_, rfl⟩
      have Hm15 := hide hm
      have hb15 : (m15 : Int) ≤ 1099511627776 := by omega
      rw [show (m14 : Int) + 1 = (m15 : Int) by have := Hm14.out; omega]
      clear c1 hm
      clear hb14 Hm14
      have c1 : wr.cell? ⟨b1, o1 + k * 26 + 15, none⟩ = some (.int .i64 (m15 : Int)) := by
        have q := F.out _ hbel 15 _ (mkFw_at (k0 + k * 24) 15 (by omega))
        rw [← Hm.out] at q
        rw [Hm15.out]
        exact q
      go_upto_region 52 with fail
      obtain ⟨m16, hm⟩ : ∃ q : Nat, q = m + 16 := ⟨_, rfl⟩
      have Hm16 := hide hm
      have hb16 : (m16 : Int) ≤ 1099511627776 := by omega
      rw [show (m15 : Int) + 1 = (m16 : Int) by have := Hm15.out; omega]
      clear c1 hm
      clear hb15 Hm15
      have c1 : wr.cell? ⟨b1, o1 + k * 26 + 16, none⟩ = some (.int .i64 (m16 : Int)) := by
        have q := F.out _ hbel 16 _ (mkFw_at (k0 + k * 24) 16 (by omega))
        rw [← Hm.out] at q
        rw [Hm16.out]
        exact q
      go_upto_region 55 with fail
      obtain ⟨m17, hm⟩ : ∃ q : Nat, q = m + 17 := ⟨_, rfl⟩
      have Hm17 := hide hm
      have hb17 : (m17 : Int) ≤ 1099511627776 := by omega
      rw [show (m16 : Int) + 1 = (m17 : Int) by have := Hm16.out; omega]
      clear c1 hm
      clear hb16 Hm16
      have c1 : wr.cell? ⟨b1, o1 + k * 26 + 17, none⟩ = some (.int .i64 (m17 : Int)) := by
        have q := F.out _ hbel 17 _ (mkFw_at (k0 + k * 24) 17 (by omega))
        rw [← Hm.out] at q
        rw [Hm17.out]
        exact q
      go_upto_region 58 with fail
      obtain ⟨m18, hm⟩ : ∃ q : Nat, q = m + 18 := ⟨_, rfl⟩
      have Hm18 := hide hm
      have hb18 : (m18 : Int) ≤ 1099511627776 := by omega
      rw [show (m17 : Int) + 1 = (m18 : Int) by have := Hm17.out; omega]
      clear c1 hm
      clear hb17 Hm17
      have c1 : wr.cell? ⟨b1, o1 + k * 26 + 18, none⟩ = some (.int .i64 (m18 : Int)) := by
        have q := F.out _ hbel 18 _ (mkFw_at (k0 + k * 24) 18 (by omega))
        rw [← Hm.out] at q
        rw [Hm18.out]
        exact q
      go_upto_region 61 with fail
      obtain ⟨m19, hm⟩ : ∃ q : Nat, q = m + 19 := ⟨_, rfl⟩
      have Hm19 := hide hm
      have hb19 : (m19 : Int) ≤ 1099511627776 := by omega
      rw [show (m18 : Int) + 1 = (m19 : Int) by have := Hm18.out; omega]
      clear c1 hm
      clear hb18 Hm18
      have c1 : wr.cell? ⟨b1, o1 + k * 26 + 19, none⟩ = some (.int .i64 (m19 : Int)) := by
        have q := F.out _ hbel 19 _ (mkFw_at (k0 + k * 24) 19 (by omega))
        rw [← Hm.out] at q
        rw [Hm19.out]
        exact q
      go_upto_region 64 with fail
      obtain ⟨m20, hm⟩ : ∃ q : Nat, q = m + 20 := ⟨_, rfl⟩
      have Hm20 := hide hm
      have hb20 : (m20 : Int) ≤ 1099511627776 := by omega
      rw [show (m19 : Int) + 1 = (m20 : Int) by have := Hm19.out; omega]
      clear c1 hm
      clear hb19 Hm19
      have c1 : wr.cell? ⟨b1, o1 + k * 26 + 20, none⟩ = some (.int .i64 (m20 : Int)) := by
        have q := F.out _ hbel 20 _ (mkFw_at (k0 + k * 24) 20 (by omega))
        rw [← Hm.out] at q
        rw [Hm20.out]
        exact q
      go_upto_region 67 with fail
      obtain ⟨m21, hm⟩ : ∃ q : Nat, q = m + 21 := ⟨_, rfl⟩
      have Hm21 := hide hm
      have hb21 : (m21 : Int) ≤ 1099511627776 := by omega
      rw [show (m20 : Int) + 1 = (m21 : Int) by have := Hm20.out; omega]
      clear c1 hm
      clear hb20 Hm20
      have c1 : wr.cell? ⟨b1, o1 + k * 26 + 21, none⟩ = some (.int .i64 (m21 : Int)) := by
        have q := F.out _ hbel 21 _ (mkFw_at (k0 + k * 24) 21 (by omega))
        rw [← Hm.out] at q
        rw [Hm21.out]
        exact q
      go_upto_region 70 with fail
      obtain ⟨m22, hm⟩ : ∃ q : Nat, q = m + 22 := ⟨_, rfl⟩
      have Hm22 := hide hm
      have hb22 : (m22 : Int) ≤ 1099511627776 := by omega
      rw [show (m21 : Int) + 1 = (m22 : Int) by have := Hm21.out; omega]
      clear c1 hm
      clear hb21 Hm21
      have c1 : wr.cell? ⟨b1, o1 + k * 26 + 22, none⟩ = some (.int .i64 (m22 : Int)) := by
        have q := F.out _ hbel 22 _ (mkFw_at (k0 + k * 24) 22 (by omega))
        rw [← Hm.out] at q
        rw [Hm22.out]
        exact q
      go_upto_region 73 with fail
      obtain ⟨m23, hm⟩ : ∃ q : Nat, q = m + 23 := ⟨_, rfl⟩
      have Hm23 := hide hm
      have hb23 : (m23 : Int) ≤ 1099511627776 := by omega
      rw [show (m22 : Int) + 1 = (m23 : Int) by have := Hm22.out; omega]
      clear c1 hm
      clear hb22 Hm22
      have c1 : wr.cell? ⟨b1, o1 + k * 26 + 23, none⟩ = some (.int .i64 (m23 : Int)) := by
        have q := F.out _ hbel 23 _ (mkFw_at (k0 + k * 24) 23 (by omega))
        rw [← Hm.out] at q
        rw [Hm23.out]
        exact q
      go_upto_region 76 with fail
      obtain ⟨m24, hm⟩ : ∃ q : Nat, q = m + 24 := ⟨_, rfl⟩
      have Hm24 := hide hm
      have hb24 : (m24 : Int) ≤ 1099511627776 := by omega
      rw [show (m23 : Int) + 1 = (m24 : Int) by have := Hm23.out; omega]
      clear c1 hm
      clear hb23 Hm23
      have hneg : decide ((m24 : Int) < 0) = false := decide_eq_false (by omega)
      clear hm2 hm3 hk hlt
      have s24 : wr.cell? ⟨b1, o1 + k * 26 + 24, none⟩ = some (.slice none 0 0) := F.out _ hbel 24 _ rfl
      go_wp2_with fail
      have cP := heldBlkPieceS_ok (.slice none 0 0) 0 m24 wr (RowR.nil _ _) (by have := Hm24.out; omega) (by omega)
      rw [Nat.zero_mul, Nat.add_zero] at cP
      refine cP.mono ?_
      rintro e V25 ⟨rfl, b25⟩
      have b25' := bAll hbel b25
      have s25 : V25.cell? ⟨b1, o1 + k * 26 + 25, none⟩ = some (.slice none 0 0) := F.out _ b25' 25 _ rfl
      clear s24 cP
      go_wp2_with fail
      have cL := heldBlkLastS_ok (.slice none 0 0) 0 m24 V25 (RowR.nil _ _) (by have := Hm24.out; omega) (by omega)
      rw [Nat.zero_mul, Nat.add_zero] at cL
      refine cL.mono ?_
      rintro e V26 ⟨rfl, b26⟩
      have b26' := bAll b25' b26
      clear s25 cL
      go_wp2
      go_roundw
      case rel => exact ⟨k + 1, m24, HLT.out, by rw [Hm24.out, Hm.out]; omega, by go_num, rfl, b26'⟩
      case measure => (have := HLT.out; simp [intOf]; omega)
    · go_wp2
      go_ret
      obtain rfl : k = n := by omega
      exact ⟨by rw [hm]; rfl, hbel⟩

end Go.Proofs.Yteddhdbglciahaa

/- Marks in councils: contracts; no statement of the seat is proved here. -/
namespace Go.Proofs.Yteddhdbglciahaa
open Go.RowKit

/-- A council of one's own: the blocks of its five parts are apart. -/
def CnD (w : World) (base : Nat) (D : Nat → Nat → Prop) (v0 v1 v2 v3 v4 : Value) (c : Cn) : Prop :=
  (∀ i b, D i b → base ≤ b ∧ b < w.heap.size) ∧ (∀ i j b, D i b → D j b → i = j) ∧
    RowO w 120 2 (D 0) VxO v0 c.vs ∧ Row w 3 1 (D 1) v1 c.rs.length (ints c.rs) ∧ RowO w 39 26 (D 2) SkO v2 c.ks ∧
    RowO w 47 26 (D 3) WdO v3 c.ws ∧ Row w 37 12 (D 4) v4 c.ts.length (ppcells c.ts)
theorem CnD.reads {w : World} {base : Nat} {D : Nat → Nat → Prop} {v0 v1 v2 v3 v4 : Value} {c : Cn} (h : CnD w base D v0 v1 v2 v3 v4 c) : CnP w v0 v1 v2 v3 v4 c := by
  obtain ⟨-, -, h0, h1, h2, h3, h4⟩ := h
  exact ⟨h0.reads (fun _ _ _ h => h.reads), h1.reads, h2.reads (fun _ _ _ h => h.reads), h3.reads (fun _ _ _ h => h.reads), h4.reads⟩
theorem CnD.keepB {w w' : World} {base : Nat} {D : Nat → Nat → Prop} {v0 v1 v2 v3 v4 : Value} {c : Cn} (h : CnD w base D v0 v1 v2 v3 v4 c) (b' : Below w.heap.size w w') : CnD w' base D v0 v1 v2 v3 v4 c := by
  obtain ⟨p, q, h0, h1, h2, h3, h4⟩ := h
  have u : Upd (fun _ => False) w w' := Upd.ofBelow b'
  exact ⟨fun i b hb => ⟨(p i b hb).1, Nat.lt_of_lt_of_le (p i b hb).2 b'.size⟩, q, h0.keep (fun T v x _ h => h.keepB b') u (fun _ _ h => h), h1.keepB b', h2.keep (fun T v x _ h => h.keepB b') u (fun _ _ h => h), h3.keep (fun T v x _ h => h.keepB b') u (fun _ _ h => h), h4.keepB b'⟩
/-- Where the marks of a council without words under way begin and end, part by part. -/
def eC1 (k : Nat) (c : Cn) : Nat := offL fVx k c.vs c.vs.length
def eC2 (k : Nat) (c : Cn) : Nat := eC1 k c + c.rs.length
def eC3 (k : Nat) (c : Cn) : Nat := offL fSk (eC2 k c) c.ks c.ks.length
def eC5 (k : Nat) (c : Cn) : Nat := eC3 k c + c.ts.length * 12
def mkC (k : Nat) (c : Cn) : Cn := { vs := mkU fVx mkVx k c.vs.length c.vs, rs := mkN (eC1 k c) c.rs.length, ks := mkU fSk mkSk (eC2 k c) c.ks.length c.ks, ws := [], ts := mkV (eC3 k c) c.ts.length }
theorem noWords {w : World} {S T : Nat → Prop} {v : Value} {c : Cn} (hw : c.ws = []) (h : RowO w 47 26 S WdO v c.ws) : Row w 47 26 T v 0 (fwcells []) := by
  rw [hw] at h
  obtain ⟨ao, cap, rfl, hn, -⟩ := h
  exact ⟨ao, cap, rfl, hn, rfl, fun h => by omega⟩

set_option maxRecDepth 100000 in
set_option maxHeartbeats 8000000 in
theorem markSynCouncil_own (base : Nat) (D : Nat → Nat → Prop) (v0 v1 v2 v3 v4 : Value) (c : Cn) (w : World) (h : CnD w base D v0 v1 v2 v3 v4 c) (hw : c.ws = []) (h2 : eC5 1 c ≤ 1099511627776) :
    Calls Try.prog 29 #[.agg #[v0, v1, v2, v3, v4], .int .i64 1] w fun e w' => e = .returned (.int .i64 (eC5 1 c : Nat)) ∧ CnD w' base D v0 v1 v2 v3 v4 (mkC 1 c) ∧ Upd (fun b => ∃ i, D i b) w w' := by
  obtain ⟨⟨a0, k0, rfl⟩, ⟨a1, k1, rfl⟩, ⟨a2, k2, rfl⟩, ⟨a3, k3, rfl⟩, ⟨a4, k4, rfl⟩⟩ := h.reads.shapes
  have e3 : eC3 1 c ≤ eC5 1 c := by rw [eC5]; omega
  have e2 : eC2 1 c ≤ eC3 1 c := by rw [eC3, offL]; omega
  have e1 : eC1 1 c ≤ eC2 1 c := by rw [eC2]; omega
  have e0 : 1 ≤ eC1 1 c := by rw [eC1, offL]; omega
  obtain ⟨E1, hE1⟩ : ∃ E, E = eC1 1 c := ⟨_, rfl⟩
  obtain ⟨E2, hE2⟩ : ∃ E, E = eC2 1 c := ⟨_, rfl⟩
  obtain ⟨E3, hE3⟩ : ∃ E, E = eC3 1 c := ⟨_, rfl⟩
  obtain ⟨E5, hE5⟩ : ∃ E, E = eC5 1 c := ⟨_, rfl⟩
  have al := bal (Below.refl w.heap.size w) (.cells #[.slice a0 c.vs.length k0, .slice a1 c.rs.length k1, .slice a2 c.ks.length k2, .slice a3 c.ws.length k3, .slice a4 c.ts.length k4] 65)
  have A0 := hide (al1_0 w (.cells #[.slice a0 c.vs.length k0, .slice a1 c.rs.length k1, .slice a2 c.ks.length k2, .slice a3 c.ws.length k3, .slice a4 c.ts.length k4] 65))
  obtain ⟨p, q, r0, r1, r2, r3, r4⟩ := h.keepB al
  have c0 := fun V (h : RowO V 120 2 (D 0) VxO (.slice a0 c.vs.length k0) c.vs) => markSynVoterS_own _ _ c.vs 1 V h (Nat.le_refl _) (show eC1 1 c ≤ _ by omega)
  have c1 := fun V (h : Row V 3 1 (D 1) (.slice a1 c.rs.length k1) c.rs.length (ints c.rs)) => markIntS_row _ _ _ _ (eC1 1 c) V h (show eC2 1 c ≤ _ by omega)
  have c2 := fun V (h : RowO V 39 26 (D 2) SkO (.slice a2 c.ks.length k2) c.ks) => markSynSeekerS_own _ _ c.ks (eC2 1 c) V h (by omega) (show eC3 1 c ≤ _ by omega)
  have c3 := fun V (h : Row V 47 26 (fun _ => False) (.slice a3 c.ws.length k3) 0 (fwcells [])) => markWordS_any _ _ 0 [] (eC3 1 c) V h rfl (by omega) (by omega)
  have c4 := fun V (h : Row V 37 12 (D 4) (.slice a4 c.ts.length k4) c.ts.length (ppcells c.ts)) => markSynPaperS_any _ _ _ _ (eC3 1 c) V h (by omega) (show eC5 1 c ≤ _ by omega)
  rw [show offL fVx 1 c.vs c.vs.length = E1 from hE1.symm] at c0
  rw [show eC1 1 c + c.rs.length = E2 from hE2.symm] at c1
  rw [show offL fSk (eC2 1 c) c.ks c.ks.length = E3 from hE3.symm] at c2
  rw [Nat.zero_mul, Nat.add_zero] at c3
  rw [show eC3 1 c + c.ts.length * 12 = E5 from hE5.symm] at c4
  have C : Hid ((mkC 1 c).vs = mkU fVx mkVx 1 c.vs.length c.vs ∧ (mkC 1 c).rs = mkN E1 c.rs.length ∧ (mkC 1 c).ks = mkU fSk mkSk E2 c.ks.length c.ks ∧ (mkC 1 c).ws = [] ∧ (mkC 1 c).ts = mkV E3 c.ts.length) := by
    rw [hE1, hE2, hE3]
    exact ⟨rfl, rfl, rfl, rfl, rfl⟩
  rw [← hE1] at c1
  rw [← hE2] at c2
  rw [← hE3] at c3 c4
  rw [← hE5]
  have P := hide p
  have Q := hide q
  have R := hide (And.intro r0 (And.intro r1 (And.intro r2 (And.intro r3 r4))))
  have B := hide h.1
  have HW := hide hw
  clear p q r0 r1 r2 r3 r4 h h2 e0 e1 e2 e3 hE1 hE2 hE3 hE5 hw
  go_enter Try.func29, Try.ntmps29
  go_upto_region 1 with fail
  generalize World.alloc _ _ = W at al A0 P R ⊢
  have nb : ∀ i, ¬ D i w.heap.size := fun i h => by have := (B.out i _ h).2; omega
  have NB := hide nb
  clear nb
  have x0 : W.cell? ⟨w.heap.size, 0, none⟩ = some (.slice a0 c.vs.length k0) := boxAt A0.out 0
  go_wp2_with fail
  refine (c0 W R.out.1).mono ?_
  rintro e W1 ⟨rfl, s0, u0⟩
  have S0 := hide s0
  have B1 := hide (u0.keeps A0.out (NB.out 0))
  have R1 := hide (And.intro (R.out.2.1.keep u0 (fun b h1 h2 => by have := Q.out _ _ _ h1 h2; omega)) (And.intro (R.out.2.2.1.keep (fun T v x hT h => h.keep u0 hT) u0 (fun b h1 h2 => by have := Q.out _ _ _ h1 h2; omega)) (And.intro (R.out.2.2.2.1.keep (fun T v x hT h => h.keep u0 hT) u0 (fun b h1 h2 => by have := Q.out _ _ _ h1 h2; omega)) (R.out.2.2.2.2.keep u0 (fun b h1 h2 => by have := Q.out _ _ _ h1 h2; omega)))))
  have t0 := u0.mono (T := fun b => ∃ i, D i b) (fun b h => ⟨0, h⟩)
  clear x0 c0 s0 u0 A0 R
  have x1 : W1.cell? ⟨w.heap.size, 1, none⟩ = some (.slice a1 c.rs.length k1) := boxAt B1.out 1
  go_wp2_with fail
  refine (c1 W1 R1.out.1).mono ?_
  rintro e W2 ⟨rfl, s1, u1⟩
  have S1 := hide s1
  have B2 := hide (u1.keeps B1.out (NB.out 1))
  have S0 := hide (S0.out.keep (fun T v x hT h => h.keep u1 hT) u1 (fun b h1 h2 => by have := Q.out _ _ _ h1 h2; omega))
  have R2 := hide (And.intro (R1.out.2.1.keep (fun T v x hT h => h.keep u1 hT) u1 (fun b h1 h2 => by have := Q.out _ _ _ h1 h2; omega)) (And.intro (R1.out.2.2.1.keep (fun T v x hT h => h.keep u1 hT) u1 (fun b h1 h2 => by have := Q.out _ _ _ h1 h2; omega)) (R1.out.2.2.2.keep u1 (fun b h1 h2 => by have := Q.out _ _ _ h1 h2; omega))))
  have t1 := t0.trans (u1.mono (fun b h => ⟨1, h⟩))
  clear x1 c1 s1 u1 B1 R1 t0
  have x2 : W2.cell? ⟨w.heap.size, 2, none⟩ = some (.slice a2 c.ks.length k2) := boxAt B2.out 2
  go_wp2_with fail
  refine (c2 W2 R2.out.1).mono ?_
  rintro e W3 ⟨rfl, s2, u2⟩
  have S2 := hide s2
  have B3 := hide (u2.keeps B2.out (NB.out 2))
  have S0 := hide (S0.out.keep (fun T v x hT h => h.keep u2 hT) u2 (fun b h1 h2 => by have := Q.out _ _ _ h1 h2; omega))
  have S1 := hide (S1.out.keep u2 (fun b h1 h2 => by have := Q.out _ _ _ h1 h2; omega))
  have R3 := hide (And.intro (R2.out.2.1.keep (fun T v x hT h => h.keep u2 hT) u2 (fun b h1 h2 => by have := Q.out _ _ _ h1 h2; omega)) (R2.out.2.2.keep u2 (fun b h1 h2 => by have := Q.out _ _ _ h1 h2; omega)))
  have t2 := t1.trans (u2.mono (fun b h => ⟨2, h⟩))
  clear x2 c2 s2 u2 B2 R2 t1
  have x3 : W3.cell? ⟨w.heap.size, 3, none⟩ = some (.slice a3 c.ws.length k3) := boxAt B3.out 3
  go_wp2_with fail
  refine (c3 W3 (noWords HW.out R3.out.1)).mono ?_
  rintro e W4 ⟨rfl, -, u3⟩
  have B4 := hide (u3.keeps B3.out (fun h => h))
  have S0 := hide (S0.out.keep (fun T v x hT h => h.keep u3 (fun _ _ h => h)) u3 (fun _ _ h => h))
  have S1 := hide (S1.out.keep u3 (fun _ _ h => h))
  have S2 := hide (S2.out.keep (fun T v x hT h => h.keep u3 (fun _ _ h => h)) u3 (fun _ _ h => h))
  have R4 := hide (And.intro (R3.out.1.keep (fun T v x hT h => h.keep u3 (fun _ _ h => h)) u3 (fun _ _ h => h)) (R3.out.2.keep u3 (fun _ _ h => h)))
  have t3 := t2.trans (u3.mono (fun b h => h.elim))
  clear x3 c3 u3 B3 R3 t2
  have x4 : W4.cell? ⟨w.heap.size, 4, none⟩ = some (.slice a4 c.ts.length k4) := boxAt B4.out 4
  go_wp2_with fail
  refine (c4 W4 R4.out.2).mono ?_
  rintro e W5 ⟨rfl, s4, u4⟩
  have S0 := hide (S0.out.keep (fun T v x hT h => h.keep u4 hT) u4 (fun b h1 h2 => by have := Q.out _ _ _ h1 h2; omega))
  have S1 := hide (S1.out.keep u4 (fun b h1 h2 => by have := Q.out _ _ _ h1 h2; omega))
  have S2 := hide (S2.out.keep (fun T v x hT h => h.keep u4 hT) u4 (fun b h1 h2 => by have := Q.out _ _ _ h1 h2; omega))
  have S3 := hide (R4.out.1.keep (fun T v x hT h => h.keep u4 hT) u4 (fun b h1 h2 => by have := Q.out _ _ _ h1 h2; omega))
  have t4 := t3.trans (u4.mono (fun b h => ⟨4, h⟩))
  have S4 := hide s4
  clear x4 c4 s4 u4 B4 R4 t3
  go_wp2
  go_ret
  refine ⟨rfl, ⟨fun i b h => ⟨(P.out i b h).1, Nat.lt_of_lt_of_le (P.out i b h).2 t4.size⟩, Q.out, ?_⟩, (Upd.ofBelow al).trans t4⟩
  obtain ⟨m0, m1, m2, m3, m4⟩ := C.out
  rw [m0, m1, m2, m3, m4, mkN_len, mkV_len]
  have S3 := S3.out
  rw [HW.out] at S3 ⊢
  exact ⟨S0.out, S1.out, S2.out, S3, S4.out⟩

set_option maxRecDepth 100000 in
set_option maxHeartbeats 8000000 in
theorem heldSynCouncil_own (v0 v1 v2 v3 v4 : Value) (c : Cn) (w : World) (h : CnP w v0 v1 v2 v3 v4 (mkC 1 c)) (h2 : eC5 1 c ≤ 1099511627776) :
    Calls Try.prog 30 #[.agg #[v0, v1, v2, v3, v4], .int .i64 1] w fun e w' => e = .returned (.int .i64 (eC5 1 c : Nat)) ∧ Below w.heap.size w w' := by
  obtain ⟨⟨a0, k0, rfl⟩, ⟨a1, k1, rfl⟩, ⟨a2, k2, rfl⟩, ⟨a3, k3, rfl⟩, ⟨a4, k4, rfl⟩⟩ := h.shapes
  have e3 : eC3 1 c ≤ eC5 1 c := by rw [eC5]; omega
  have e2 : eC2 1 c ≤ eC3 1 c := by rw [eC3, offL]; omega
  have e1 : eC1 1 c ≤ eC2 1 c := by rw [eC2]; omega
  have e0 : 1 ≤ eC1 1 c := by rw [eC1, offL]; omega
  have l0 : (mkC 1 c).vs.length = c.vs.length := mkU_len _ _ _
  have l1 : (mkC 1 c).rs.length = c.rs.length := mkN_len _ _
  have l2 : (mkC 1 c).ks.length = c.ks.length := mkU_len _ _ _
  have l3 : (mkC 1 c).ws.length = 0 := rfl
  have l4 : (mkC 1 c).ts.length = c.ts.length := mkV_len _ _
  have hv := h.vs
  have hr := h.rs
  have hk := h.ks
  have hw := h.ws
  have ht := h.ts
  rw [l0] at hv
  rw [l1] at hr
  rw [l2] at hk
  rw [l3] at hw
  rw [l4] at ht
  rw [l0, l1, l2, l3, l4]
  obtain ⟨E1, hE1⟩ : ∃ E, E = eC1 1 c := ⟨_, rfl⟩
  obtain ⟨E2, hE2⟩ : ∃ E, E = eC2 1 c := ⟨_, rfl⟩
  obtain ⟨E3, hE3⟩ : ∃ E, E = eC3 1 c := ⟨_, rfl⟩
  obtain ⟨E5, hE5⟩ : ∃ E, E = eC5 1 c := ⟨_, rfl⟩
  have al := bal (Below.refl w.heap.size w) (.cells #[.slice a0 c.vs.length k0, .slice a1 c.rs.length k1, .slice a2 c.ks.length k2, .slice a3 0 k3, .slice a4 c.ts.length k4] 65)
  have A0 := hide (al1_0 w (.cells #[.slice a0 c.vs.length k0, .slice a1 c.rs.length k1, .slice a2 c.ks.length k2, .slice a3 0 k3, .slice a4 c.ts.length k4] 65))
  have c0 := fun V (b : Below w.heap.size w V) => heldSynVoterS_own _ c.vs 1 V (hv.keep (fun v x h => VxR.keep h b) b) (Nat.le_refl _) (show eC1 1 c ≤ _ by omega)
  have c1 := fun V (b : Below w.heap.size w V) => heldIntS_ok _ c.rs.length (eC1 1 c) V (RowR.keep hr b) (show eC2 1 c ≤ _ by omega)
  have c2 := fun V (b : Below w.heap.size w V) => heldSynSeekerS_own _ c.ks (eC2 1 c) V (hk.keep (fun v x h => SkR.keep h b) b) (by omega) (show eC3 1 c ≤ _ by omega)
  have hw0 : RowR w 26 (.slice a3 0 k3) 0 (fwcells (mkF (eC3 1 c) 0)) := by
    obtain ⟨ao, cap, e, hn, -⟩ := hw
    exact ⟨a3, k3, rfl, by omega, rfl, fun h => by omega⟩
  have c3 := fun V (b : Below w.heap.size w V) => heldWordS_ok _ 0 (eC3 1 c) V (hw0.keep b) (by omega) (by omega)
  have c4 := fun V (b : Below w.heap.size w V) => heldSynPaperS_ok _ c.ts.length (eC3 1 c) V (RowR.keep ht b) (by omega) (show eC5 1 c ≤ _ by omega)
  rw [show offL fVx 1 c.vs c.vs.length = E1 from hE1.symm] at c0
  rw [show eC1 1 c + c.rs.length = E2 from hE2.symm, ← hE1] at c1
  rw [show offL fSk (eC2 1 c) c.ks c.ks.length = E3 from hE3.symm, ← hE2] at c2
  rw [Nat.zero_mul, Nat.add_zero, ← hE3] at c3
  rw [show eC3 1 c + c.ts.length * 12 = E5 from hE5.symm, ← hE3] at c4
  rw [← hE5]
  have g1 : decide ((E1 : Int) < 0) = false := decide_eq_false (by omega)
  have g2 : decide ((E2 : Int) < 0) = false := decide_eq_false (by omega)
  have g3 : decide ((E3 : Int) < 0) = false := decide_eq_false (by omega)
  have g5 : decide ((E5 : Int) < 0) = false := decide_eq_false (by omega)
  clear h h2 e0 e1 e2 e3 hE1 hE2 hE3 hE5 hv hr hk hw ht l0 l1 l2 l3 l4 hw0
  go_enter Try.func30, Try.ntmps30
  go_upto_region 1 with fail
  generalize World.alloc _ _ = W at al A0 ⊢
  have x0 : W.cell? ⟨w.heap.size, 0, none⟩ = some (.slice a0 c.vs.length k0) := boxAt A0.out 0
  go_wp2_with fail
  refine (c0 W al).mono ?_
  rintro e W1 ⟨rfl, b1⟩
  have al1 := bAll al b1
  have A1 := hide (bKeeps b1 A0.out)
  clear x0 c0 b1 A0
  have x1 : W1.cell? ⟨w.heap.size, 1, none⟩ = some (.slice a1 c.rs.length k1) := boxAt A1.out 1
  go_wp2_with fail
  refine (c1 W1 al1).mono ?_
  rintro e W2 ⟨rfl, b2⟩
  have al2 := bAll al1 b2
  have A2 := hide (bKeeps b2 A1.out)
  clear x1 c1 b2 A1
  have x2 : W2.cell? ⟨w.heap.size, 2, none⟩ = some (.slice a2 c.ks.length k2) := boxAt A2.out 2
  go_wp2_with fail
  refine (c2 W2 al2).mono ?_
  rintro e W3 ⟨rfl, b3⟩
  have al3 := bAll al2 b3
  have A3 := hide (bKeeps b3 A2.out)
  clear x2 c2 b3 A2
  have x3 : W3.cell? ⟨w.heap.size, 3, none⟩ = some (.slice a3 0 k3) := boxAt A3.out 3
  go_wp2_with fail
  refine (c3 W3 al3).mono ?_
  rintro e W4 ⟨rfl, b4⟩
  have al4 := bAll al3 b4
  have A4 := hide (bKeeps b4 A3.out)
  clear x3 c3 b4 A3
  have x4 : W4.cell? ⟨w.heap.size, 4, none⟩ = some (.slice a4 c.ts.length k4) := boxAt A4.out 4
  go_wp2_with fail
  refine (c4 W4 al4).mono ?_
  rintro e W5 ⟨rfl, b5⟩
  have al5 := bAll al4 b5
  clear x4 c4 b5 A4
  go_wp2
  go_ret
  exact ⟨rfl, al5⟩

end Go.Proofs.Yteddhdbglciahaa

/- What a voter does with a word, by the specification, with the room of its papers: contracts; no statement of the seat is proved here. -/
namespace Go.Proofs.Yteddhdbglciahaa
open Go.RowKit

theorem rowA_keep_box {w w' : World} {base : Nat} {e f : TypeId} {g size n : Nat} {c : Array Value} {v : Value} {cs : List Value} (hne : e ≠ f) (h : RowA w base e size v n cs) (hg : w.heap[g]? = some (.cells c f (0, 0))) (hu : Upd (fun j => j = g) w w') : RowA w' base e size v n cs := by
  rcases h with ⟨hl, h⟩ | h
  · refine .inl ⟨hl, ?_⟩
    rcases h with h | ⟨q, cap, cur, rfl, hq, hh, h1, h2, h3, h4⟩
    · exact .inl h
    · refine .inr ⟨q, cap, cur, rfl, hq, ?_, h1, h2, h3, h4⟩
      exact hu.keeps hh (fun e => by rw [e, hg] at hh; simp at hh; exact hne hh.2.symm)
  · exact .inr h

end Go.Proofs.Yteddhdbglciahaa
