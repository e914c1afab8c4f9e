/- Contracts and plain facts that this claim leans on (texts FW2, VP3, XA, VU, VR, VPa); no statement of the seat is proved here. -/
import Derived.Test.YtiigcokbmggdkaaTk3
import Derived.Test.YtiigcokbmggdkaaTk2
import Derived.Test.YtiigcokbmggdkaaTk1
import Derived.Laws.ResultCell
import Derived.Deep.DeepCutAuto

/- Rows of words that bear no lists: held: a contract; no statement of the seat is proved here. (Written by wip/tools/mkfw.py.) -/
namespace Go.Proofs.Ytiigcokbmggdkaa
open Go.RowKit

set_option maxRecDepth 100000 in
set_option maxHeartbeats 32000000 in
theorem heldWordS_ok (v : Value) (n k0 : Nat) (w : World) (hr : RowR w 26 v n (fwcells (mkF k0 n))) (_h1 : 1 ≤ k0) (h2 : k0 + n * 24 ≤ 1099511627776) :
    Calls Try.prog 38 #[v, .int .i64 k0] w fun e w' => e = .returned (.int .i64 (k0 + n * 24 : Nat)) ∧ Below w.heap.size w w' := by
  obtain ⟨ao, cap, rfl, hn, hl, hr⟩ := hr
  clear hl
  go_enter Try.func38, Try.ntmps38
  go_wp2
  go_loopw [1, 5] (fun kv i wr => ∃ k m : Nat, k ≤ n ∧ m = k0 + k * 24 ∧ i = .int .i64 k ∧ kv = .int .i64 (m : Nat) ∧ Below w.heap.size w wr) (fun _ i _ => n - (intOf i).toNat)
  case atStart => exact ⟨0, k0, Nat.zero_le _, rfl, rfl, rfl, Below.refl _ _⟩
  case round =>
    obtain ⟨k, m, hk, hm, rfl, rfl, hbel⟩ := hrel
    have Hm : Hid (m = k0 + k * 24) := hm
    have hm2 : (m : Int) ≤ 1099511627776 := by omega
    by_cases hlt : k < n
    · obtain ⟨b1, o1, rfl, hc1⟩ := hr (by omega)
      have hm3 : ((m + 24 : Nat) : Int) ≤ 1099511627776 := by omega
      clear hm
      have F := hide (fun V (hV : Below w.heap.size w V) => fw_at hc1 (mkF_get k0 n k hlt) hV)
      have hi : (k : Int) < (n : Int) := by omega
      have Hm0 : Hid (m = m + 0) := rfl
      have HLT : Hid (k + 1 ≤ n) := hlt
      clear hr hc1
      have c1 : wr.cell? ⟨b1, o1 + k * 26, none⟩ = some (.int .i64 (m : Int)) := by
        have q := F.out _ hbel 0 _ (mkFw_at (k0 + k * 24) 0 (by omega))
        rw [← Hm.out] at q
        rw [Hm0.out]
        exact q
      go_upto_region 7 with fail
      obtain ⟨m1, hm⟩ : ∃ q : Nat, q = m + 1 := ⟨_, rfl⟩
      have Hm1 := hide hm
      have hb1 : (m1 : Int) ≤ 1099511627776 := by omega
      rw [show (m : Int) + 1 = (m1 : Int) by have := Hm0.out; omega]
      clear c1 hm
      have c1 : wr.cell? ⟨b1, o1 + k * 26 + 1, none⟩ = some (.int .i64 (m1 : Int)) := by
        have q := F.out _ hbel 1 _ (mkFw_at (k0 + k * 24) 1 (by omega))
        rw [← Hm.out] at q
        rw [Hm1.out]
        exact q
      go_upto_region 10 with fail
      obtain ⟨m2, hm⟩ : ∃ q : Nat, q = m + 2 := ⟨_, rfl⟩
      have Hm2 := hide hm
      have hb2 : (m2 : Int) ≤ 1099511627776 := by omega
      rw [show (m1 : Int) + 1 = (m2 : Int) by have := Hm1.out; omega]
      clear c1 hm
      clear hb1 Hm1
      have c1 : wr.cell? ⟨b1, o1 + k * 26 + 2, none⟩ = some (.int .i64 (m2 : Int)) := by
        have q := F.out _ hbel 2 _ (mkFw_at (k0 + k * 24) 2 (by omega))
        rw [← Hm.out] at q
        rw [Hm2.out]
        exact q
      go_upto_region 13 with fail
      obtain ⟨m3, hm⟩ : ∃ q : Nat, q = m + 3 := ⟨_, rfl⟩
      have Hm3 := hide hm
      have hb3 : (m3 : Int) ≤ 1099511627776 := by omega
      rw [show (m2 : Int) + 1 = (m3 : Int) by have := Hm2.out; omega]
      clear c1 hm
      clear hb2 Hm2
      have c1 : wr.cell? ⟨b1, o1 + k * 26 + 3, none⟩ = some (.int .i64 (m3 : Int)) := by
        have q := F.out _ hbel 3 _ (mkFw_at (k0 + k * 24) 3 (by omega))
        rw [← Hm.out] at q
        rw [Hm3.out]
        exact q
      go_upto_region 16 with fail
      obtain ⟨m4, hm⟩ : ∃ q : Nat, q = m + 4 := ⟨_, rfl⟩
      have Hm4 := hide hm
      have hb4 : (m4 : Int) ≤ 1099511627776 := by omega
      rw [show (m3 : Int) + 1 = (m4 : Int) by have := Hm3.out; omega]
      clear c1 hm
      clear hb3 Hm3
      have c1 : wr.cell? ⟨b1, o1 + k * 26 + 4, none⟩ = some (.int .i64 (m4 : Int)) := by
        have q := F.out _ hbel 4 _ (mkFw_at (k0 + k * 24) 4 (by omega))
        rw [← Hm.out] at q
        rw [Hm4.out]
        exact q
      go_upto_region 19 with fail
      obtain ⟨m5, hm⟩ : ∃ q : Nat, q = m + 5 := ⟨_, rfl⟩
      have Hm5 := hide hm
      have hb5 : (m5 : Int) ≤ 1099511627776 := by omega
      rw [show (m4 : Int) + 1 = (m5 : Int) by have := Hm4.out; omega]
      clear c1 hm
      clear hb4 Hm4
      have c1 : wr.cell? ⟨b1, o1 + k * 26 + 5, none⟩ = some (.int .i64 (m5 : Int)) := by
        have q := F.out _ hbel 5 _ (mkFw_at (k0 + k * 24) 5 (by omega))
        rw [← Hm.out] at q
        rw [Hm5.out]
        exact q
      go_upto_region 22 with fail
      obtain ⟨m6, hm⟩ : ∃ q : Nat, q = m + 6 := ⟨_, rfl⟩
      have Hm6 := hide hm
      have hb6 : (m6 : Int) ≤ 1099511627776 := by omega
      rw [show (m5 : Int) + 1 = (m6 : Int) by have := Hm5.out; omega]
      clear c1 hm
      clear hb5 Hm5
      have c1 : wr.cell? ⟨b1, o1 + k * 26 + 6, none⟩ = some (.int .i64 (m6 : Int)) := by
        have q := F.out _ hbel 6 _ (mkFw_at (k0 + k * 24) 6 (by omega))
        rw [← Hm.out] at q
        rw [Hm6.out]
        exact q
      go_upto_region 25 with fail
      obtain ⟨m7, hm⟩ : ∃ q : Nat, q = m + 7 := ⟨_, rfl⟩
      have Hm7 := hide hm
      have hb7 : (m7 : Int) ≤ 1099511627776 := by omega
      rw [show (m6 : Int) + 1 = (m7 : Int) by have := Hm6.out; omega]
      clear c1 hm
      clear hb6 Hm6
      have c1 : wr.cell? ⟨b1, o1 + k * 26 + 7, none⟩ = some (.int .i64 (m7 : Int)) := by
        have q := F.out _ hbel 7 _ (mkFw_at (k0 + k * 24) 7 (by omega))
        rw [← Hm.out] at q
        rw [Hm7.out]
        exact q
      go_upto_region 28 with fail
      obtain ⟨m8, hm⟩ : ∃ q : Nat, q = m + 8 := ⟨_, rfl⟩
      have Hm8 := hide hm
      have hb8 : (m8 : Int) ≤ 1099511627776 := by omega
      rw [show (m7 : Int) + 1 = (m8 : Int) by have := Hm7.out; omega]
      clear c1 hm
      clear hb7 Hm7
      have c1 : wr.cell? ⟨b1, o1 + k * 26 + 8, none⟩ = some (.int .i64 (m8 : Int)) := by
        have q := F.out _ hbel 8 _ (mkFw_at (k0 + k * 24) 8 (by omega))
        rw [← Hm.out] at q
        rw [Hm8.out]
        exact q
      go_upto_region 31 with fail
      obtain ⟨m9, hm⟩ : ∃ q : Nat, q = m + 9 := ⟨_, rfl⟩
      have Hm9 := hide hm
      have hb9 : (m9 : Int) ≤ 1099511627776 := by omega
      rw [show (m8 : Int) + 1 = (m9 : Int) by have := Hm8.out; omega]
      clear c1 hm
      clear hb8 Hm8
      have c1 : wr.cell? ⟨b1, o1 + k * 26 + 9, none⟩ = some (.int .i64 (m9 : Int)) := by
        have q := F.out _ hbel 9 _ (mkFw_at (k0 + k * 24) 9 (by omega))
        rw [← Hm.out] at q
        rw [Hm9.out]
        exact q
      go_upto_region 34 with fail
      obtain ⟨m10, hm⟩ : ∃ q : Nat, q = m + 10 := ⟨_, rfl⟩
      have Hm10 := hide hm
      have hb10 : (m10 : Int) ≤ 1099511627776 := by omega
      rw [show (m9 : Int) + 1 = (m10 : Int) by have := Hm9.out; omega]
      clear c1 hm
      clear hb9 Hm9
      have c1 : wr.cell? ⟨b1, o1 + k * 26 + 10, none⟩ = some (.int .i64 (m10 : Int)) := by
        have q := F.out _ hbel 10 _ (mkFw_at (k0 + k * 24) 10 (by omega))
        rw [← Hm.out] at q
        rw [Hm10.out]
        exact q
      go_upto_region 37 with fail
      obtain ⟨m11, hm⟩ : ∃ q : Nat, q = m + 11 := ⟨_, rfl⟩
      have Hm11 := hide hm
      have hb11 : (m11 : Int) ≤ 1099511627776 := by omega
      rw [show (m10 : Int) + 1 = (m11 : Int) by have := Hm10.out; omega]
      clear c1 hm
      clear hb10 Hm10
      have c1 : wr.cell? ⟨b1, o1 + k * 26 + 11, none⟩ = some (.int .i64 (m11 : Int)) := by
        have q := F.out _ hbel 11 _ (mkFw_at (k0 + k * 24) 11 (by omega))
        rw [← Hm.out] at q
        rw [Hm11.out]
        exact q
      go_upto_region 40 with fail
      obtain ⟨m12, hm⟩ : ∃ q : Nat, q = m + 12 := ⟨_, rfl⟩
      have Hm12 := hide hm
      have hb12 : (m12 : Int) ≤ 1099511627776 := by omega
      rw [show (m11 : Int) + 1 = (m12 : Int) by have := Hm11.out; omega]
      clear c1 hm
      clear hb11 Hm11
      have c1 : wr.cell? ⟨b1, o1 + k * 26 + 12, none⟩ = some (.int .i64 (m12 : Int)) := by
        have q := F.out _ hbel 12 _ (mkFw_at (k0 + k * 24) 12 (by omega))
        rw [← Hm.out] at q
        rw [Hm12.out]
        exact q
      go_upto_region 43 with fail
      obtain ⟨m13, hm⟩ : ∃ q : Nat, q = m + 13 := ⟨_, rfl⟩
      have Hm13 := hide hm
      have hb13 : (m13 : Int) ≤ 1099511627776 := by omega
      rw [show (m12 : Int) + 1 = (m13 : Int) by have := Hm12.out; omega]
      clear c1 hm
      clear hb12 Hm12
      have c1 : wr.cell? ⟨b1, o1 + k * 26 + 13, none⟩ = some (.int .i64 (m13 : Int)) := by
        have q := F.out _ hbel 13 _ (mkFw_at (k0 + k * 24) 13 (by omega))
        rw [← Hm.out] at q
        rw [Hm13.out]
        exact q
      go_upto_region 46 with fail
      obtain ⟨m14, hm⟩ : ∃ q : Nat, q = m + 14 := ⟨_, rfl⟩
      have Hm14 := hide hm
      have hb14 : (m14 : Int) ≤ 1099511627776 := by omega
      rw [show (m13 : Int) + 1 = (m14 : Int) by have := Hm13.out; omega]
      clear c1 hm
      clear hb13 Hm13
      have c1 : wr.cell? ⟨b1, o1 + k * 26 + 14, none⟩ = some (.int .i64 (m14 : Int)) := by
        have q := F.out _ hbel 14 _ (mkFw_at (k0 + k * 24) 14 (by omega))
        rw [← Hm.out] at q
        rw [Hm14.out]
        exact q
      go_upto_region 49 with fail
      obtain ⟨m15, hm⟩ : ∃ q : Nat, q = m + 15 := ⟨_, rfl⟩
      have Hm15 := hide hm
      have hb15 : (m15 : Int) ≤ 1099511627776 := by omega
      rw [show (m14 : Int) + 1 = (m15 : Int) by have := Hm14.out; omega]
      clear c1 hm
      clear hb14 Hm14
      have c1 : wr.cell? ⟨b1, o1 + k * 26 + 15, none⟩ = some (.int .i64 (m15 : Int)) := by
        have q := F.out _ hbel 15 _ (mkFw_at (k0 + k * 24) 15 (by omega))
        rw [← Hm.out] at q
        rw [Hm15.out]
        exact q
      go_upto_region 52 with fail
      obtain ⟨m16, hm⟩ : ∃ q : Nat, q = m + 16 := ⟨_, rfl⟩
      have Hm16 := hide hm
      have hb16 : (m16 : Int) ≤ 1099511627776 := by omega
      rw [show (m15 : Int) + 1 = (m16 : Int) by have := Hm15.out; omega]
      clear c1 hm
      clear hb15 Hm15
      have c1 : wr.cell? ⟨b1, o1 + k * 26 + 16, none⟩ = some (.int .i64 (m16 : Int)) := by
        have q := F.out _ hbel 16 _ (mkFw_at (k0 + k * 24) 16 (by omega))
        rw [← Hm.out] at q
        rw [Hm16.out]
        exact q
      go_upto_region 55 with fail
      obtain ⟨m17, hm⟩ : ∃ q : Nat, q = m + 17 := ⟨_, rfl⟩
      have Hm17 := hide hm
      have hb17 : (m17 : Int) ≤ 1099511627776 := by omega
      rw [show (m16 : Int) + 1 = (m17 : Int) by have := Hm16.out; omega]
      clear c1 hm
      clear hb16 Hm16
      have c1 : wr.cell? ⟨b1, o1 + k * 26 + 17, none⟩ = some (.int .i64 (m17 : Int)) := by
        have q := F.out _ hbel 17 _ (mkFw_at (k0 + k * 24) 17 (by omega))
        rw [← Hm.out] at q
        rw [Hm17.out]
        exact q
      go_upto_region 58 with fail
      obtain ⟨m18, hm⟩ : ∃ q : Nat, q = m + 18 := ⟨_, rfl⟩
      have Hm18 := hide hm
      have hb18 : (m18 : Int) ≤ 1099511627776 := by omega
      rw [show (m17 : Int) + 1 = (m18 : Int) by have := Hm17.out; omega]
      clear c1 hm
      clear hb17 Hm17
      have c1 : wr.cell? ⟨b1, o1 + k * 26 + 18, none⟩ = some (.int .i64 (m18 : Int)) := by
        have q := F.out _ hbel 18 _ (mkFw_at (k0 + k * 24) 18 (by omega))
        rw [← Hm.out] at q
        rw [Hm18.out]
        exact q
      go_upto_region 61 with fail
      obtain ⟨m19, hm⟩ : ∃ q : Nat, q = m + 19 := ⟨_, rfl⟩
      have Hm19 := hide hm
      have hb19 : (m19 : Int) ≤ 1099511627776 := by omega
      rw [show (m18 : Int) + 1 = (m19 : Int) by have := Hm18.out; omega]
      clear c1 hm
      clear hb18 Hm18
      have c1 : wr.cell? ⟨b1, o1 + k * 26 + 19, none⟩ = some (.int .i64 (m19 : Int)) := by
        have q := F.out _ hbel 19 _ (mkFw_at (k0 + k * 24) 19 (by omega))
        rw [← Hm.out] at q
        rw [Hm19.out]
        exact q
      go_upto_region 64 with fail
      obtain ⟨m20, hm⟩ : ∃ q : Nat, q = m + 20 := ⟨_, rfl⟩
      have Hm20 := hide hm
      have hb20 : (m20 : Int) ≤ 1099511627776 := by omega
      rw [show (m19 : Int) + 1 = (m20 : Int) by have := Hm19.out; omega]
      clear c1 hm
      clear hb19 Hm19
      have c1 : wr.cell? ⟨b1, o1 + k * 26 + 20, none⟩ = some (.int .i64 (m20 : Int)) := by
        have q := F.out _ hbel 20 _ (mkFw_at (k0 + k * 24) 20 (by omega))
        rw [← Hm.out] at q
        rw [Hm20.out]
        exact q
      go_upto_region 67 with fail
      obtain ⟨m21, hm⟩ : ∃ q : Nat, q = m + 21 := ⟨_, rfl⟩
      have Hm21 := hide hm
      have hb21 : (m21 : Int) ≤ 1099511627776 := by omega
      rw [show (m20 : Int) + 1 = (m21 : Int) by have := Hm20.out; omega]
      clear c1 hm
      clear hb20 Hm20
      have c1 : wr.cell? ⟨b1, o1 + k * 26 + 21, none⟩ = some (.int .i64 (m21 : Int)) := by
        have q := F.out _ hbel 21 _ (mkFw_at (k0 + k * 24) 21 (by omega))
        rw [← Hm.out] at q
        rw [Hm21.out]
        exact q
      go_upto_region 70 with fail
      obtain ⟨m22, hm⟩ : ∃ q : Nat, q = m + 22 := ⟨_, rfl⟩
      have Hm22 := hide hm
      have hb22 : (m22 : Int) ≤ 1099511627776 := by omega
      rw [show (m21 : Int) + 1 = (m22 : Int) by have := Hm21.out; omega]
      clear c1 hm
      clear hb21 Hm21
      have c1 : wr.cell? ⟨b1, o1 + k * 26 + 22, none⟩ = some (.int .i64 (m22 : Int)) := by
        have q := F.out _ hbel 22 _ (mkFw_at (k0 + k * 24) 22 (by omega))
        rw [← Hm.out] at q
        rw [Hm22.out]
        exact q
      go_upto_region 73 with fail
      obtain ⟨m23, hm⟩ : ∃ q : Nat, q = m + 23 := ⟨_, rfl⟩
      have Hm23 := hide hm
      have hb23 : (m23 : Int) ≤ 1099511627776 := by omega
      rw [show (m22 : Int) + 1 = (m23 : Int) by have := Hm22.out; omega]
      clear c1 hm
      clear hb22 Hm22
      have c1 : wr.cell? ⟨b1, o1 + k * 26 + 23, none⟩ = some (.int .i64 (m23 : Int)) := by
        have q := F.out _ hbel 23 _ (mkFw_at (k0 + k * 24) 23 (by omega))
        rw [← Hm.out] at q
        rw [Hm23.out]
        exact q
      go_upto_region 76 with fail
      obtain ⟨m24, hm⟩ : ∃ q : Nat, q = m + 24 := ⟨_, rfl⟩
      have Hm24 := hide hm
      have hb24 : (m24 : Int) ≤ 1099511627776 := by omega
      rw [show (m23 : Int) + 1 = (m24 : Int) by have := Hm23.out; omega]
      clear c1 hm
      clear hb23 Hm23
      have hneg : decide ((m24 : Int) < 0) = false := decide_eq_false (by omega)
      clear hm2 hm3 hk hlt
      have s24 : wr.cell? ⟨b1, o1 + k * 26 + 24, none⟩ = some (.slice none 0 0) := F.out _ hbel 24 _ rfl
      go_wp2_with fail
      have cP := heldBlkPieceS_ok (.slice none 0 0) 0 m24 wr (RowR.nil _ _) (by have := Hm24.out; omega) (by omega)
      rw [Nat.zero_mul, Nat.add_zero] at cP
      refine cP.mono ?_
      rintro e V25 ⟨rfl, b25⟩
      have b25' := bAll hbel b25
      have s25 : V25.cell? ⟨b1, o1 + k * 26 + 25, none⟩ = some (.slice none 0 0) := F.out _ b25' 25 _ rfl
      clear s24 cP
      go_wp2_with fail
      have cL := heldBlkLastS_ok (.slice none 0 0) 0 m24 V25 (RowR.nil _ _) (by have := Hm24.out; omega) (by omega)
      rw [Nat.zero_mul, Nat.add_zero] at cL
      refine cL.mono ?_
      rintro e V26 ⟨rfl, b26⟩
      have b26' := bAll b25' b26
      clear s25 cL
      go_wp2
      go_roundw
      case rel => exact ⟨k + 1, m24, HLT.out, by rw [Hm24.out, Hm.out]; omega, by go_num, rfl, b26'⟩
      case measure => (have := HLT.out; simp [intOf]; omega)
    · go_wp2
      go_ret
      obtain rfl : k = n := by omega
      exact ⟨by rw [hm]; rfl, hbel⟩

end Go.Proofs.Ytiigcokbmggdkaa

/- Papers, by the specification and by the program: contracts; no statement of the seat is proved here. -/
namespace Go.Proofs.Ytiigcokbmggdkaa
open Go.RowKit

def ppI (p : Pp) : Bool := inI p.1 1 60 && (inI p.2.1 1 99999 && cmdI p.2.2)
set_option maxRecDepth 100000 in
set_option maxHeartbeats 4000000 in
theorem synInForm_any (s b : Int) (x : Wd) (w : World) :
    Calls Try.prog 119 #[.agg (#[.int .i64 s, .int .i64 b, .int .i64 x.c0, .int .i64 x.c1, .int .i64 x.c2, .int .i64 x.c3, .int .i64 x.c4, .int .i64 x.c5, .int .i64 x.c6, .int .i64 x.c7, .int .i64 x.c8, .int .i64 x.c9] : Array Value) ] w fun e w' => e = .returned (.bool (ppI (s, b, x))) ∧ Below w.heap.size w w' := by
  have al := bal (Below.refl w.heap.size w) (.cells (#[.int .i64 s, .int .i64 b, .int .i64 x.c0, .int .i64 x.c1, .int .i64 x.c2, .int .i64 x.c3, .int .i64 x.c4, .int .i64 x.c5, .int .i64 x.c6, .int .i64 x.c7, .int .i64 x.c8, .int .i64 x.c9] : Array Value) 56)
  obtain ⟨i1, h1⟩ : ∃ i, inI s 1 60 = i := ⟨_, rfl⟩
  obtain ⟨i2, h2⟩ : ∃ i, inI b 1 99999 = i := ⟨_, rfl⟩
  obtain ⟨i3, h3⟩ : ∃ i, cmdI x = i := ⟨_, rfl⟩
  have hf : ppI (s, b, x) = (i1 && (i2 && i3)) := by simp only [ppI, h1, h2, h3]
  rw [hf]
  have c1 := fun w => blkWithin_any s 1 60 w
  have c2 := fun w => blkWithin_any b 1 99999 w
  have c3 := fun w => cmdInForm_any x w
  rw [h1] at c1
  rw [h2] at c2
  rw [h3] at c3
  clear h1 h2 h3 hf
  go_enter Try.func119, Try.ntmps119
  go_wp2_with fail
  refine (c1 _).mono ?_
  rintro e w' ⟨rfl, rfl⟩
  cases i1
  · go_wp2
    go_ret
    exact ⟨rfl, al⟩
  go_wp2_with fail
  refine (c2 _).mono ?_
  rintro e w' ⟨rfl, rfl⟩
  cases i2
  · go_wp2
    go_ret
    exact ⟨rfl, al⟩
  go_wp2_with fail
  refine (c3 _).mono ?_
  rintro e w' ⟨rfl, b3⟩
  go_wp2
  go_ret
  exact ⟨rfl, bAll al b3⟩

end Go.Proofs.Ytiigcokbmggdkaa

/- All numbers of a word, as the specification lists them: a contract; no statement of the seat is proved here. -/
namespace Go.Proofs.Ytiigcokbmggdkaa
open Go.RowKit

theorem RowA.base {w : World} {b b' : Nat} {e : TypeId} {size : Nat} {v : Value} {n : Nat} {cs : List Value} (h : RowA w b e size v n cs) (hb : b' ≤ b) : RowA w b' e size v n cs := by
  rcases h with h | h
  · exact .inl ⟨h.1, h.2.imp id (fun ⟨g, cap, cur, e, hg, rest⟩ => ⟨g, cap, cur, e, Nat.le_trans hb hg, rest⟩)⟩
  · exact .inr h
end Go.Proofs.Ytiigcokbmggdkaa

/- Words that are nothing, copies, results: laws; no statement of the seat is proved here. -/
namespace Go.Proofs.Ytiigcokbmggdkaa
open Go.RowKit

theorem results_row_tmp {P : Program} {fn : Func} {p u : Tmp} {ty : TypeId} (h : fn.results = #[.cell p ty, .tmp u]) (tmps : Array Value) (w : World) (g : Nat) (t : TypeId) (cs : Array Value) (fr : Nat × Nat) (d : TypeDesc) (b : Value)
    (hp : tmps.getD p undef = .pointer (some ⟨g, 0, none⟩)) (hb : tmps.getD u undef = b) (hg : w.heap[g]? = some (.cells cs t fr))
    (hu : P.underlying ty = some d) (hd : (match d with | .struct _ | .array _ _ => true | _ => false) = true) (hi : (P.info? ty).map (·.size) = some cs.size) :
    (results fn tmps).run P w = .ok (.tuple #[.agg cs, b]) w := by
  rw [results_cell_tmp h, hp, hb]
  simp [asAddr, Result.andThen, run_loadVar_row w g t ty cs fr d hg hu hd hi]
theorem wpList_load_rowG {P : Program} {ops : Array Oper} {rest : List Oper} {o : Oper} {a : Act} {w : World} {Q : Exit → Act → World → Prop} (hgd : Region.wanted o (yielded ops a.tmps) = true) (ty : TypeId) (x : Operand) (ho : o.op = .load ty x)
    (g : Nat) (hx : a.eval x = .pointer (some ⟨g, 0, none⟩)) (t : TypeId) (cs : Array Value) (fr : Nat × Nat) (d : TypeDesc) (hg : w.heap[g]? = some (.cells cs t fr))
    (hu : P.underlying ty = some d) (hd : (match d with | .struct _ | .array _ _ => true | _ => false) = true) (hi : (P.info? ty).map (·.size) = some cs.size)
    (h : wpList P ops Q rest (a.put o.dst (.agg cs)) w) : wpList P ops Q (o :: rest) a w :=
  wpList_step fun _ hK => by rw [if_pos hgd]; exact wp_load_row ty x ho g hx t cs fr d hg hu hd hi (hK _ _ h)
end Go.Proofs.Ytiigcokbmggdkaa

/- Laws for functions that give two structs and a truth; what a voter's answer is; no statement of the seat is proved here. -/
namespace Go.Proofs.Ytiigcokbmggdkaa
open Go.RowKit

theorem yields_build {P : Program} {ops : Array Oper} {S : World → Prop} {op : Oper} {a : Act} (hw : Region.wanted op (yielded ops a.tmps) = true) (ty : TypeId) (parts : Array (Nat × Operand)) (ho : op.op = .build ty parts)
    (ps : List (Nat × Value)) (cells : Array Value) (hp : (parts.map fun (i, x) => (i, a.eval x)).toList = ps) (hb : P.built ty ps = some cells) : YieldsIf P ops S op (.agg cells) a :=
  .inl ⟨hw, fun w _ => by
    unfold execOp
    simp only [ho, Sem.run_bind, run_build w ty _ cells (by rw [hp]; exact hb), Result.andThen_ok]
    rfl⟩

theorem updRow (w : World) (g : Nat) (cs : Array Value) : Upd (fun j => j = g) w (w.setRow g cs) := ⟨rfl, rfl, rfl, by simp, fun _ _ h => setRow_other _ _ _ _ h⟩

/-- What is read of a word, of its numbers and its command. -/
theorem WdR.cells {w : World} {cs : Array Value} {x : Wd} (h : WdR w (.agg cs) x) : cs[0]? = some (.int .i64 x.a0) ∧ cs[1]? = some (.int .i64 x.a1) ∧ cs[3]? = some (.int .i64 x.a3) ∧ cs[4]? = some (.int .i64 x.a4) ∧ cs[5]? = some (.int .i64 x.a5) ∧ ∀ j z, (#[.int .i64 x.c0, .int .i64 x.c1, .int .i64 x.c2, .int .i64 x.c3, .int .i64 x.c4, .int .i64 x.c5, .int .i64 x.c6, .int .i64 x.c7, .int .i64 x.c8, .int .i64 x.c9] : Array Value)[j]? = some z → cs[6 + j]? = some z := by
  obtain ⟨po, pc, lo, lc, e, -, -⟩ := h
  injection e with e
  subst e
  refine ⟨rfl, rfl, rfl, rfl, rfl, fun j z hj => ?_⟩
  have hj' : j < 10 := (Array.getElem?_eq_some_iff.1 hj).1
  rcases (by omega : j = 0 ∨ j = 1 ∨ j = 2 ∨ j = 3 ∨ j = 4 ∨ j = 5 ∨ j = 6 ∨ j = 7 ∨ j = 8 ∨ j = 9) with rfl | rfl | rfl | rfl | rfl | rfl | rfl | rfl | rfl | rfl <;> exact hj

theorem builtPaper (s b : Int) (x : Wd) : Try.prog.built 56 [(0, .int .i64 s), (1, .int .i64 b), (2, .agg #[.int .i64 x.c0, .int .i64 x.c1, .int .i64 x.c2, .int .i64 x.c3, .int .i64 x.c4, .int .i64 x.c5, .int .i64 x.c6, .int .i64 x.c7, .int .i64 x.c8, .int .i64 x.c9])] = some (#[.int .i64 s, .int .i64 b, .int .i64 x.c0, .int .i64 x.c1, .int .i64 x.c2, .int .i64 x.c3, .int .i64 x.c4, .int .i64 x.c5, .int .i64 x.c6, .int .i64 x.c7, .int .i64 x.c8, .int .i64 x.c9] : Array Value) := by kernel_rfl
end Go.Proofs.Ytiigcokbmggdkaa

/- The paper of a slot, by the program: a contract; no statement of the seat is proved here. -/
namespace Go.Proofs.Ytiigcokbmggdkaa
open Go.RowKit

/-- What turned later, in blocks that are new, is no change of the old ones. -/
theorem upd_late {S T : Nat → Prop} {a b c : World} (h : Upd S a b) (k : Upd T b c) (hT : ∀ j, T j → a.heap.size ≤ j) : Upd S a c :=
  ⟨k.os.trans h.os, k.tape.trans h.tape, k.output.trans h.output, Nat.le_trans h.size k.size,
    fun i hi hS => (k.block i (Nat.lt_of_lt_of_le hi h.size) (fun ht => by have := hT i ht; omega)).trans (h.block i hi hS)⟩

end Go.Proofs.Ytiigcokbmggdkaa
