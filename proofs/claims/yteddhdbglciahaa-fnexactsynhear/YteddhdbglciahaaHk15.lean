/- Contracts and plain facts that this claim leans on (texts FW2); no statement of the seat is proved here. -/
import Derived.Test.YteddhdbglciahaaHk9

/- Rows of words that bear no lists: held: a contract; no statement of the seat is proved here. (Written by wip/tools/mkfw.py.) -/
namespace Go.Proofs.Yteddhdbglciahaa
open Go.RowKit

set_option maxRecDepth 100000 in
set_option maxHeartbeats 32000000 in
theorem heldWordS_ok (v : Value) (n k0 : Nat) (w : World) (hr : RowR w 26 v n (fwcells (mkF k0 n))) (_h1 : 1 ≤ k0) (h2 : k0 + n * 24 ≤ 1099511627776) :
    Calls Try.prog 20 #[v, .int .i64 k0] w fun e w' => e = .returned (.int .i64 (k0 + n * 24 : Nat)) ∧ Below w.heap.size w w' := by
  obtain ⟨ao, cap, rfl, hn, hl, hr⟩ := hr
  clear hl
  go_enter Try.func20, Try.ntmps20
  go_wp2
  go_loopw [1, 5] (fun kv i wr => ∃ k m : Nat, k ≤ n ∧ m = k0 + k * 24 ∧ i = .int .i64 k ∧ kv = .int .i64 (m : Nat) ∧ Below w.heap.size w wr) (fun _ i _ => n - (intOf i).toNat)
  case atStart => exact ⟨0, k0, Nat.zero_le _, rfl, rfl, rfl, Below.refl _ _⟩
  case round =>
    obtain ⟨k, m, hk, hm, rfl, rfl, hbel⟩ := hrel
    have Hm : Hid (m = k0 + k * 24) := hm
    have hm2 : (m : Int) ≤ 1099511627776 := by omega
    by_cases hlt : k < n
    · obtain ⟨b1, o1, rfl, hc1⟩ := hr (by omega)
      have hm3 : ((m + 24 : Nat) : Int) ≤ 1099511627776 := by omega
      clear hm
      have F := hide (fun V (hV : Below w.heap.size w V) => fw_at hc1 (mkF_get k0 n k hlt) hV)
      have hi : (k : Int) < (n : Int) := by omega
      have Hm0 : Hid (m = m + 0) := rfl
      have HLT : Hid (k + 1 ≤ n) := hlt
      clear hr hc1
      have c1 : wr.cell? ⟨b1, o1 + k * 26, none⟩ = some (.int .i64 (m : Int)) := by
        have q := F.out _ hbel 0 _ (mkFw_at (k0 + k * 24) 0 (by omega))
        rw [← Hm.out] at q
        rw [Hm0.out]
        exact q
      go_upto_region 7 with fail
      obtain ⟨m1, hm⟩ : ∃ q : Nat, q = m + 1 := ⟨_, rfl⟩
      have Hm1 := hide hm
      have hb1 : (m1 : Int) ≤ 1099511627776 := by omega
      rw [show (m : Int) + 1 = (m1 : Int) by have := Hm0.out; omega]
      clear c1 hm
      have c1 : wr.cell? ⟨b1, o1 + k * 26 + 1, none⟩ = some (.int .i64 (m1 : Int)) := by
        have q := F.out _ hbel 1 _ (mkFw_at (k0 + k * 24) 1 (by omega))
        rw [← Hm.out] at q
        rw [Hm1.out]
        exact q
      go_upto_region 10 with fail
      obtain ⟨m2, hm⟩ : ∃ q : Nat, q = m + 2 := ⟨_, rfl⟩
      have Hm2 := hide hm
      have hb2 : (m2 : Int) ≤ 1099511627776 := by omega
      rw [show (m1 : Int) + 1 = (m2 : Int) by have := Hm1.out; omega]
      clear c1 hm
      clear hb1 Hm1
      have c1 : wr.cell? ⟨b1, o1 + k * 26 + 2, none⟩ = some (.int .i64 (m2 : Int)) := by
        have q := F.out _ hbel 2 _ (mkFw_at (k0 + k * 24) 2 (by omega))
        rw [← Hm.out] at q
        rw [Hm2.out]
        exact q
      go_upto_region 13 with fail
      obtain ⟨m3, hm⟩ : ∃ q : Nat, q = m + 3 := ⟨_, rfl⟩
      have Hm3 := hide hm
      have hb3 : (m3 : Int) ≤ 1099511627776 := by omega
      rw [show (m2 : Int) + 1 = (m3 : Int) by have := Hm2.out; omega]
      clear c1 hm
      clear hb2 Hm2
      have c1 : wr.cell? ⟨b1, o1 + k * 26 + 3, none⟩ = some (.int .i64 (m3 : Int)) := by
        have q := F.out _ hbel 3 _ (mkFw_at (k0 + k * 24) 3 (by omega))
        rw [← Hm.out] at q
        rw [Hm3.out]
        exact q
      go_upto_region 16 with fail
      obtain ⟨m4, hm⟩ : ∃ q : Nat, q = m + 4 := ⟨_, rfl⟩
      have Hm4 := hide hm
      have hb4 : (m4 : Int) ≤ 1099511627776 := by omega
      rw [show (m3 : Int) + 1 = (m4 : Int) by have := Hm3.out; omega]
      clear c1 hm
      clear hb3 Hm3
      have c1 : wr.cell? ⟨b1, o1 + k * 26 + 4, none⟩ = some (.int .i64 (m4 : Int)) := by
        have q := F.out _ hbel 4 _ (mkFw_at (k0 + k * 24) 4 (by omega))
        rw [← Hm.out] at q
        rw [Hm4.out]
        exact q
      go_upto_region 19 with fail
      obtain ⟨m5, hm⟩ : ∃ q : Nat, q = m + 5 := ⟨_, rfl⟩
      have Hm5 := hide hm
      have hb5 : (m5 : Int) ≤ 1099511627776 := by omega
      rw [show (m4 : Int) + 1 = (m5 : Int) by have := Hm4.out; omega]
      clear c1 hm
      clear hb4 Hm4
      have c1 : wr.cell? ⟨b1, o1 + k * 26 + 5, none⟩ = some (.int .i64 (m5 : Int)) := by
        have q := F.out _ hbel 5 _ (mkFw_at (k0 + k * 24) 5 (by omega))
        rw [← Hm.out] at q
        rw [Hm5.out]
        exact q
      go_upto_region 22 with fail
      obtain ⟨m6, hm⟩ : ∃ q : Nat, q = m + 6 := ⟨_, rfl⟩
      have Hm6 := hide hm
      have hb6 : (m6 : Int) ≤ 1099511627776 := by omega
      rw [show (m5 : Int) + 1 = (m6 : Int) by have := Hm5.out; omega]
      clear c1 hm
      clear hb5 Hm5
      have c1 : wr.cell? ⟨b1, o1 + k * 26 + 6, none⟩ = some (.int .i64 (m6 : Int)) := by
        have q := F.out _ hbel 6 _ (mkFw_at (k0 + k * 24) 6 (by omega))
        rw [← Hm.out] at q
        rw [Hm6.out]
        exact q
      go_upto_region 25 with fail
      obtain ⟨m7, hm⟩ : ∃ q : Nat, q = m + 7 := ⟨_, rfl⟩
      have Hm7 := hide hm
      have hb7 : (m7 : Int) ≤ 1099511627776 := by omega
      rw [show (m6 : Int) + 1 = (m7 : Int) by have := Hm6.out; omega]
      clear c1 hm
      clear hb6 Hm6
      have c1 : wr.cell? ⟨b1, o1 + k * 26 + 7, none⟩ = some (.int .i64 (m7 : Int)) := by
        have q := F.out _ hbel 7 _ (mkFw_at (k0 + k * 24) 7 (by omega))
        rw [← Hm.out] at q
        rw [Hm7.out]
        exact q
      go_upto_region 28 with fail
      obtain ⟨m8, hm⟩ : ∃ q : Nat, q = m + 8 := ⟨_, rfl⟩
      have Hm8 := hide hm
      have hb8 : (m8 : Int) ≤ 1099511627776 := by omega
      rw [show (m7 : Int) + 1 = (m8 : Int) by have := Hm7.out; omega]
      clear c1 hm
      clear hb7 Hm7
      have c1 : wr.cell? ⟨b1, o1 + k * 26 + 8, none⟩ = some (.int .i64 (m8 : Int)) := by
        have q := F.out _ hbel 8 _ (mkFw_at (k0 + k * 24) 8 (by omega))
        rw [← Hm.out] at q
        rw [Hm8.out]
        exact q
      go_upto_region 31 with fail
      obtain ⟨m9, hm⟩ : ∃ q : Nat, q = m + 9 := ⟨_, rfl⟩
      have Hm9 := hide hm
      have hb9 : (m9 : Int) ≤ 1099511627776 := by omega
      rw [show (m8 : Int) + 1 = (m9 : Int) by have := Hm8.out; omega]
      clear c1 hm
      clear hb8 Hm8
      have c1 : wr.cell? ⟨b1, o1 + k * 26 + 9, none⟩ = some (.int .i64 (m9 : Int)) := by
        have q := F.out _ hbel 9 _ (mkFw_at (k0 + k * 24) 9 (by omega))
        rw [← Hm.out] at q
        rw [Hm9.out]
        exact q
      go_upto_region 34 with fail
      obtain ⟨m10, hm⟩ : ∃ q : Nat, q = m + 10 := ⟨_, rfl⟩
      have Hm10 := hide hm
      have hb10 : (m10 : Int) ≤ 1099511627776 := by omega
      rw [show (m9 : Int) + 1 = (m10 : Int) by have := Hm9.out; omega]
      clear c1 hm
      clear hb9 Hm9
      have c1 : wr.cell? ⟨b1, o1 + k * 26 + 10, none⟩ = some (.int .i64 (m10 : Int)) := by
        have q := F.out _ hbel 10 _ (mkFw_at (k0 + k * 24) 10 (by omega))
        rw [← Hm.out] at q
        rw [Hm10.out]
        exact q
      go_upto_region 37 with fail
      obtain ⟨m11, hm⟩ : ∃ q : Nat, q = m + 11 := ⟨_, rfl⟩
      have Hm11 := hide hm
      have hb11 : (m11 : Int) ≤ 1099511627776 := by omega
      rw [show (m10 : Int) + 1 = (m11 : Int) by have := Hm10.out; omega]
      clear c1 hm
      clear hb10 Hm10
      have c1 : wr.cell? ⟨b1, o1 + k * 26 + 11, none⟩ = some (.int .i64 (m11 : Int)) := by
        have q := F.out _ hbel 11 _ (mkFw_at (k0 + k * 24) 11 (by omega))
        rw [← Hm.out] at q
        rw [Hm11.out]
        exact q
      go_upto_region 40 with fail
      obtain ⟨m12, hm⟩ : ∃ q : Nat, q = m + 12 := ⟨_, rfl⟩
      have Hm12 := hide hm
      have hb12 : (m12 : Int) ≤ 1099511627776 := by omega
      rw [show (m11 : Int) + 1 = (m12 : Int) by have := Hm11.out; omega]
      clear c1 hm
      clear hb11 Hm11
      have c1 : wr.cell? ⟨b1, o1 + k * 26 + 12, none⟩ = some (.int .i64 (m12 : Int)) := by
        have q := F.out _ hbel 12 _ (mkFw_at (k0 + k * 24) 12 (by omega))
        rw [← Hm.out] at q
        rw [Hm12.out]
        exact q
      go_upto_region 43 with fail
      obtain ⟨m13, hm⟩ : ∃ q : Nat, q = m + 13 := ⟨_, rfl⟩
      have Hm13 := hide hm
      have hb13 : (m13 : Int) ≤ 1099511627776 := by omega
      rw [show (m12 : Int) + 1 = (m13 : Int) by have := Hm12.out; omega]
      clear c1 hm
      clear hb12 Hm12
      have c1 : wr.cell? ⟨b1, o1 + k * 26 + 13, none⟩ = some (.int .i64 (m13 : Int)) := by
        have q := F.out _ hbel 13 _ (mkFw_at (k0 + k * 24) 13 (by omega))
        rw [← Hm.out] at q
        rw [Hm13.out]
        exact q
      go_upto_region 46 with fail
      obtain ⟨m14, hm⟩ : ∃ q : Nat, q = m + 14 := ⟨_, rfl⟩
      have Hm14 := hide hm
      have hb14 : (m14 : Int) ≤ 1099511627776 := by omega
      rw [show (m13 : Int) + 1 = (m14 : Int) by have := Hm13.out; omega]
      clear c1 hm
      clear hb13 Hm13
      have c1 : wr.cell? ⟨b1, o1 + k * 26 + 14, none⟩ = some (.int .i64 (m14 : Int)) := by
        have q := F.out _ hbel 14 _ (mkFw_at (k0 + k * 24) 14 (by omega))
        rw [← Hm.out] at q
        rw [Hm14.out]
        exact q
      go_upto_region 49 with fail
      obtain ⟨m15, hm⟩ : ∃ q : Nat, q = m + 15 := ⟨_, rfl⟩
      have Hm15 := hide hm
      have hb15 : (m15 : Int) ≤ 1099511627776 := by omega
      rw [show (m14 : Int) + 1 = (m15 : Int) by have := Hm14.out; omega]
      clear c1 hm
      clear hb14 Hm14
      have c1 : wr.cell? ⟨b1, o1 + k * 26 + 15, none⟩ = some (.int .i64 (m15 : Int)) := by
        have q := F.out _ hbel 15 _ (mkFw_at (k0 + k * 24) 15 (by omega))
        rw [← Hm.out] at q
        rw [Hm15.out]
        exact q
      go_upto_region 52 with fail
      obtain ⟨m16, hm⟩ : ∃ q : Nat, q = m + 16 := ⟨_, rfl⟩
      have Hm16 := hide hm
      have hb16 : (m16 : Int) ≤ 1099511627776 := by omega
      rw [show (m15 : Int) + 1 = (m16 : Int) by have := Hm15.out; omega]
      clear c1 hm
      clear hb15 Hm15
      have c1 : wr.cell? ⟨b1, o1 + k * 26 + 16, none⟩ = some (.int .i64 (m16 : Int)) := by
        have q := F.out _ hbel 16 _ (mkFw_at (k0 + k * 24) 16 (by omega))
        rw [← Hm.out] at q
        rw [Hm16.out]
        exact q
      go_upto_region 55 with fail
      obtain ⟨m17, hm⟩ : ∃ q : Nat, q = m + 17 := ⟨_, rfl⟩
      have Hm17 := hide hm
      have hb17 : (m17 : Int) ≤ 1099511627776 := by omega
      rw [show (m16 : Int) + 1 = (m17 : Int) by have := Hm16.out; omega]
      clear c1 hm
      clear hb16 Hm16
      have c1 : wr.cell? ⟨b1, o1 + k * 26 + 17, none⟩ = some (.int .i64 (m17 : Int)) := by
        have q := F.out _ hbel 17 _ (mkFw_at (k0 + k * 24) 17 (by omega))
        rw [← Hm.out] at q
        rw [Hm17.out]
        exact q
      go_upto_region 58 with fail
      obtain ⟨m18, hm⟩ : ∃ q : Nat, q = m + 18 := ⟨_, rfl⟩
      have Hm18 := hide hm
      have hb18 : (m18 : Int) ≤ 1099511627776 := by omega
      rw [show (m17 : Int) + 1 = (m18 : Int) by have := Hm17.out; omega]
      clear c1 hm
      clear hb17 Hm17
      have c1 : wr.cell? ⟨b1, o1 + k * 26 + 18, none⟩ = some (.int .i64 (m18 : Int)) := by
        have q := F.out _ hbel 18 _ (mkFw_at (k0 + k * 24) 18 (by omega))
        rw [← Hm.out] at q
        rw [Hm18.out]
        exact q
      go_upto_region 61 with fail
      obtain ⟨m19, hm⟩ : ∃ q : Nat, q = m + 19 := ⟨_, rfl⟩
      have Hm19 := hide hm
      have hb19 : (m19 : Int) ≤ 1099511627776 := by omega
      rw [show (m18 : Int) + 1 = (m19 : Int) by have := Hm18.out; omega]
      clear c1 hm
      clear hb18 Hm18
      have c1 : wr.cell? ⟨b1, o1 + k * 26 + 19, none⟩ = some (.int .i64 (m19 : Int)) := by
        have q := F.out _ hbel 19 _ (mkFw_at (k0 + k * 24) 19 (by omega))
        rw [← Hm.out] at q
        rw [Hm19.out]
        exact q
      go_upto_region 64 with fail
      obtain ⟨m20, hm⟩ : ∃ q : Nat, q = m + 20 := ⟨_, rfl⟩
      have Hm20 := hide hm
      have hb20 : (m20 : Int) ≤ 1099511627776 := by omega
      rw [show (m19 : Int) + 1 = (m20 : Int) by have := Hm19.out; omega]
      clear c1 hm
      clear hb19 Hm19
      have c1 : wr.cell? ⟨b1, o1 + k * 26 + 20, none⟩ = some (.int .i64 (m20 : Int)) := by
        have q := F.out _ hbel 20 _ (mkFw_at (k0 + k * 24) 20 (by omega))
        rw [← Hm.out] at q
        rw [Hm20.out]
        exact q
      go_upto_region 67 with fail
      obtain ⟨m21, hm⟩ : ∃ q : Nat, q = m + 21 := ⟨_, rfl⟩
      have Hm21 := hide hm
      have hb21 : (m21 : Int) ≤ 1099511627776 := by omega
      rw [show (m20 : Int) + 1 = (m21 : Int) by have := Hm20.out; omega]
      clear c1 hm
      clear hb20 Hm20
      have c1 : wr.cell? ⟨b1, o1 + k * 26 + 21, none⟩ = some (.int .i64 (m21 : Int)) := by
        have q := F.out _ hbel 21 _ (mkFw_at (k0 + k * 24) 21 (by omega))
        rw [← Hm.out] at q
        rw [Hm21.out]
        exact q
      go_upto_region 70 with fail
      obtain ⟨m22, hm⟩ : ∃ q : Nat, q = m + 22 := ⟨_, rfl⟩
      have Hm22 := hide hm
      have hb22 : (m22 : Int) ≤ 1099511627776 := by omega
      rw [show (m21 : Int) + 1 = (m22 : Int) by have := Hm21.out; omega]
      clear c1 hm
      clear hb21 Hm21
      have c1 : wr.cell? ⟨b1, o1 + k * 26 + 22, none⟩ = some (.int .i64 (m22 : Int)) := by
        have q := F.out _ hbel 22 _ (mkFw_at (k0 + k * 24) 22 (by omega))
        rw [← Hm.out] at q
        rw [Hm22.out]
        exact q
      go_upto_region 73 with fail
      obtain ⟨m23, hm⟩ : ∃ q : Nat, q = m + 23 := ⟨_, rfl⟩
      have Hm23 := hide hm
      have hb23 : (m23 : Int) ≤ 1099511627776 := by omega
      rw [show (m22 : Int) + 1 = (m23 : Int) by have := Hm22.out; omega]
      clear c1 hm
      clear hb22 Hm22
      have c1 : wr.cell? ⟨b1, o1 + k * 26 + 23, none⟩ = some (.int .i64 (m23 : Int)) := by
        have q := F.out _ hbel 23 _ (mkFw_at (k0 + k * 24) 23 (by omega))
        rw [← Hm.out] at q
        rw [Hm23.out]
        exact q
      go_upto_region 76 with fail
      obtain ⟨m24, hm⟩ : ∃ q : Nat, q = m + 24 := ⟨_, rfl⟩
      have Hm24 := hide hm
      have hb24 : (m24 : Int) ≤ 1099511627776 := by omega
      rw [show (m23 : Int) + 1 = (m24 : Int) by have := Hm23.out; omega]
      clear c1 hm
      clear hb23 Hm23
      have hneg : decide ((m24 : Int) < 0) = false := decide_eq_false (by omega)
      clear hm2 hm3 hk hlt
      have s24 : wr.cell? ⟨b1, o1 + k * 26 + 24, none⟩ = some (.slice none 0 0) := F.out _ hbel 24 _ rfl
      go_wp2_with fail
      have cP := heldBlkPieceS_ok (.slice none 0 0) 0 m24 wr (RowR.nil _ _) (by have := Hm24.out; omega) (by omega)
      rw [Nat.zero_mul, Nat.add_zero] at cP
      refine cP.mono ?_
      rintro e V25 ⟨rfl, b25⟩
      have b25' := bAll hbel b25
      have s25 : V25.cell? ⟨b1, o1 + k * 26 + 25, none⟩ = some (.slice none 0 0) := F.out _ b25' 25 _ rfl
      clear s24 cP
      go_wp2_with fail
      have cL := heldBlkLastS_ok (.slice none 0 0) 0 m24 V25 (RowR.nil _ _) (by have := Hm24.out; omega) (by omega)
      rw [Nat.zero_mul, Nat.add_zero] at cL
      refine cL.mono ?_
      rintro e V26 ⟨rfl, b26⟩
      have b26' := bAll b25' b26
      clear s25 cL
      go_wp2
      go_roundw
      case rel => exact ⟨k + 1, m24, HLT.out, by rw [Hm24.out, Hm.out]; omega, by go_num, rfl, b26'⟩
      case measure => (have := HLT.out; simp [intOf]; omega)
    · go_wp2
      go_ret
      obtain rfl : k = n := by omega
      exact ⟨by rw [hm]; rfl, hbel⟩

end Go.Proofs.Yteddhdbglciahaa
