/- Contracts and plain facts that this claim leans on (texts CN3, CN4, PQ, CH1); no statement of the seat is proved here. -/
import Derived.Test.YteddhdbglciahaaGreatZk14
import Derived.Test.YteddhdbglciahaaGreatSK5P
import Derived.Test.YteddhdbglciahaaGreatZk10
import Derived.Laws.StructEq
import Derived.Test.YteddhdbglciahaaGreatZk11
import Derived.Test.YteddhdbglciahaaGreatZk13

/- SynCouncilOk of both sides: contracts; no statement of the seat is proved here. (Written by wip/tools/mkcok.py.) -/
namespace Go.Proofs.YteddhdbglciahaaGreat
open Go.RowKit

/-- Is a council ok? -/
def okCn (c : Cn) : Bool := decide (c.vs.length = 3) && (decide (c.rs.length = 3) && (decide (c.ks.length = 3) && (decide (c.ws.length ≤ 60) && (decide (c.ts.length ≤ 240) && (c.vs.all vok && ((c.rs.all fun r => inI r 0 12498) && (c.ks.all okS && (c.ws.all okW && c.ts.all ppI))))))))

set_option maxRecDepth 100000 in
set_option maxHeartbeats 8000000 in
theorem implSynCouncilOk_any (v : Value) (c : Cn) (w : World) (h : CnR w v c) :
    Calls Tryz.prog 28 #[v] w fun e w' => e = .returned (.bool (okCn c)) ∧ Below w.heap.size w w' := by
  obtain ⟨v0, v1, v2, v3, v4, rfl, h⟩ := h
  obtain ⟨⟨a0, k0, rfl⟩, ⟨a1, k1, rfl⟩, ⟨a2, k2, rfl⟩, ⟨a3, k3, rfl⟩, ⟨a4, k4, rfl⟩⟩ := h.shapes
  have HA := hide h
  clear h
  obtain ⟨Q, HQ⟩ : ∃ Q, Hid (okCn c = Q) := ⟨_, rfl⟩
  rw [HQ.out]
  have al := bal (Below.refl w.heap.size w) (.cells #[.slice a0 c.vs.length k0, .slice a1 c.rs.length k1, .slice a2 c.ks.length k2, .slice a3 c.ws.length k3, .slice a4 c.ts.length k4] 39)
  have A0 := hide (al1_0 w (.cells #[.slice a0 c.vs.length k0, .slice a1 c.rs.length k1, .slice a2 c.ks.length k2, .slice a3 c.ws.length k3, .slice a4 c.ts.length k4] 39))
  go_enter Tryz.func28, Tryz.ntmps28
  go_upto_region 1 with fail
  generalize World.alloc _ _ = W0 at al A0 ⊢
  have HA := hide (HA.out.keep al)
  have c0 := Below.refl W0.heap.size W0
  have x0 : W0.cell? ⟨w.heap.size, 0, none⟩ = some (.slice a0 c.vs.length k0) := boxAt (bKeeps c0 A0.out) 0
  have x1 : W0.cell? ⟨w.heap.size, 1, none⟩ = some (.slice a1 c.rs.length k1) := boxAt (bKeeps c0 A0.out) 1
  have x2 : W0.cell? ⟨w.heap.size, 2, none⟩ = some (.slice a2 c.ks.length k2) := boxAt (bKeeps c0 A0.out) 2
  have x3 : W0.cell? ⟨w.heap.size, 3, none⟩ = some (.slice a3 c.ws.length k3) := boxAt (bKeeps c0 A0.out) 3
  have x4 : W0.cell? ⟨w.heap.size, 4, none⟩ = some (.slice a4 c.ts.length k4) := boxAt (bKeeps c0 A0.out) 4
  by_cases h0 : c.vs.length = 3
  case neg =>
    have e0 : ((c.vs.length : Int) == 3) = false := by simp; omega
    have hno : Q = false := by rw [← HQ.out]; simp [okCn, h0]
    go_wp2
    go_ret
    exact ⟨by rw [hno]; rfl, al⟩
  have e0 : ((c.vs.length : Int) == 3) = true := by simp; omega
  have H0 := hide h0
  clear h0
  by_cases h1 : c.rs.length = 3
  case neg =>
    have e1 : ((c.rs.length : Int) == 3) = false := by simp; omega
    have hno : Q = false := by rw [← HQ.out]; simp [okCn, h1]
    go_wp2
    go_ret
    exact ⟨by rw [hno]; rfl, al⟩
  have e1 : ((c.rs.length : Int) == 3) = true := by simp; omega
  have H1 := hide h1
  clear h1
  by_cases h2 : c.ks.length = 3
  case neg =>
    have e2 : ((c.ks.length : Int) == 3) = false := by simp; omega
    have hno : Q = false := by rw [← HQ.out]; simp [okCn, h2]
    go_wp2
    go_ret
    exact ⟨by rw [hno]; rfl, al⟩
  have e2 : ((c.ks.length : Int) == 3) = true := by simp; omega
  have H2 := hide h2
  clear h2
  by_cases h3 : c.ws.length ≤ 60
  case neg =>
    have e3 : decide ((c.ws.length : Int) ≤ 60) = false := by simp; omega
    have hno : Q = false := by rw [← HQ.out]; simp [okCn, h3]
    go_wp2
    go_ret
    exact ⟨by rw [hno]; rfl, al⟩
  have e3 : decide ((c.ws.length : Int) ≤ 60) = true := by simp; omega
  have H3 := hide h3
  clear h3
  by_cases h4 : c.ts.length ≤ 240
  case neg =>
    have e4 : decide ((c.ts.length : Int) ≤ 240) = false := by simp; omega
    have hno : Q = false := by rw [← HQ.out]; simp [okCn, h4]
    go_wp2
    go_ret
    exact ⟨by rw [hno]; rfl, al⟩
  have e4 : decide ((c.ts.length : Int) ≤ 240) = true := by simp; omega
  have H4 := hide h4
  clear h4
  have cF := synAllV_any _ c.vs W0 (HA.out.keep c0).vs
  obtain ⟨q0, hq0⟩ : ∃ q, (c.vs.all vok) = q := ⟨_, rfl⟩
  have Hq0 := hide hq0
  rw [hq0] at cF
  clear hq0
  go_wp2_with fail
  refine cF.mono ?_
  rintro e W1 ⟨rfl, b0⟩
  have c1 := bAll c0 b0
  clear cF b0 x0
  cases q0 with
  | false =>
    have hno : Q = false := by have hq := Hq0.out; rw [← HQ.out]; simp only [okCn, hq, Bool.false_and, Bool.and_false]
    go_wp2
    go_ret
    exact ⟨by rw [hno]; rfl, bAll al c1⟩
  | true =>
  have x1 : W1.cell? ⟨w.heap.size, 1, none⟩ = some (.slice a1 c.rs.length k1) := boxAt (bKeeps c1 A0.out) 1
  have cF := synAllI_any _ c.rs W1 (HA.out.keep c1).rs
  obtain ⟨q1, hq1⟩ : ∃ q, (c.rs.all fun r => inI r 0 12498) = q := ⟨_, rfl⟩
  have Hq1 := hide hq1
  rw [hq1] at cF
  clear hq1
  go_wp2_with fail
  refine cF.mono ?_
  rintro e W2 ⟨rfl, b1⟩
  have c2 := bAll c1 b1
  clear cF b1 x1
  cases q1 with
  | false =>
    have hno : Q = false := by have hq := Hq1.out; rw [← HQ.out]; simp only [okCn, hq, Bool.false_and, Bool.and_false]
    go_wp2
    go_ret
    exact ⟨by rw [hno]; rfl, bAll al c2⟩
  | true =>
  have x2 : W2.cell? ⟨w.heap.size, 2, none⟩ = some (.slice a2 c.ks.length k2) := boxAt (bKeeps c2 A0.out) 2
  have cF := synAllK_any _ c.ks W2 (HA.out.keep c2).ks
  obtain ⟨q2, hq2⟩ : ∃ q, (c.ks.all okS) = q := ⟨_, rfl⟩
  have Hq2 := hide hq2
  rw [hq2] at cF
  clear hq2
  go_wp2_with fail
  refine cF.mono ?_
  rintro e W3 ⟨rfl, b2⟩
  have c3 := bAll c2 b2
  clear cF b2 x2
  cases q2 with
  | false =>
    have hno : Q = false := by have hq := Hq2.out; rw [← HQ.out]; simp only [okCn, hq, Bool.false_and, Bool.and_false]
    go_wp2
    go_ret
    exact ⟨by rw [hno]; rfl, bAll al c3⟩
  | true =>
  have x3 : W3.cell? ⟨w.heap.size, 3, none⟩ = some (.slice a3 c.ws.length k3) := boxAt (bKeeps c3 A0.out) 3
  have cF := synAllW_any _ c.ws W3 (HA.out.keep c3).ws
  obtain ⟨q3, hq3⟩ : ∃ q, (c.ws.all okW) = q := ⟨_, rfl⟩
  have Hq3 := hide hq3
  rw [hq3] at cF
  clear hq3
  go_wp2_with fail
  refine cF.mono ?_
  rintro e W4 ⟨rfl, b3⟩
  have c4 := bAll c3 b3
  clear cF b3 x3
  cases q3 with
  | false =>
    have hno : Q = false := by have hq := Hq3.out; rw [← HQ.out]; simp only [okCn, hq, Bool.false_and, Bool.and_false]
    go_wp2
    go_ret
    exact ⟨by rw [hno]; rfl, bAll al c4⟩
  | true =>
  have x4 : W4.cell? ⟨w.heap.size, 4, none⟩ = some (.slice a4 c.ts.length k4) := boxAt (bKeeps c4 A0.out) 4
  have cF := synAllP_any _ c.ts W4 (rowPp (HA.out.keep c4).ts)
  obtain ⟨q4, hq4⟩ : ∃ q, (c.ts.all ppI) = q := ⟨_, rfl⟩
  have Hq4 := hide hq4
  rw [hq4] at cF
  clear hq4
  go_wp2_with fail
  refine cF.mono ?_
  rintro e W5 ⟨rfl, b4⟩
  have c5 := bAll c4 b4
  clear cF b4 x4
  cases q4 with
  | false =>
    have hno : Q = false := by have hq := Hq4.out; rw [← HQ.out]; simp only [okCn, hq, Bool.and_false]
    go_wp2
    go_ret
    exact ⟨by rw [hno]; rfl, bAll al c5⟩
  | true =>
  have hyes : Q = true := by
    have g0 := Hq0.out
    have g1 := Hq1.out
    have g2 := Hq2.out
    have g3 := Hq3.out
    have g4 := Hq4.out
    have h0 := H0.out
    have h1 := H1.out
    have h2 := H2.out
    have h3 := H3.out
    have h4 := H4.out
    rw [← HQ.out]
    simp only [okCn, h0, h1, h2, h3, h4, g0, g1, g2, g3, g4, decide_true, Bool.and_self]
  go_wp2
  go_ret
  exact ⟨by rw [hyes]; rfl, bAll al c5⟩

end Go.Proofs.YteddhdbglciahaaGreat

/- SynCouncilOk of the specification: a contract; no statement of the seat is proved here. (Written by wip/tools/mkcok.py.) -/
namespace Go.Proofs.YteddhdbglciahaaGreat
open Go.RowKit

set_option maxRecDepth 100000 in
set_option maxHeartbeats 8000000 in
theorem specSynCouncilOk_any (v : Value) (c : Cn) (w : World) (h : CnR w v c) :
    Calls Tryz.prog 21 #[v] w fun e w' => e = .returned (.bool (okCn c)) ∧ Below w.heap.size w w' := by
  obtain ⟨v0, v1, v2, v3, v4, rfl, h⟩ := h
  obtain ⟨⟨a0, k0, rfl⟩, ⟨a1, k1, rfl⟩, ⟨a2, k2, rfl⟩, ⟨a3, k3, rfl⟩, ⟨a4, k4, rfl⟩⟩ := h.shapes
  have HA := hide h
  clear h
  obtain ⟨Q, HQ⟩ : ∃ Q, Hid (okCn c = Q) := ⟨_, rfl⟩
  rw [HQ.out]
  have al := bal (Below.refl w.heap.size w) (.cells #[.slice a0 c.vs.length k0, .slice a1 c.rs.length k1, .slice a2 c.ks.length k2, .slice a3 c.ws.length k3, .slice a4 c.ts.length k4] 39)
  have A0 := hide (al1_0 w (.cells #[.slice a0 c.vs.length k0, .slice a1 c.rs.length k1, .slice a2 c.ks.length k2, .slice a3 c.ws.length k3, .slice a4 c.ts.length k4] 39))
  go_enter Tryz.func21, Tryz.ntmps21
  go_upto_region 1 with fail
  generalize World.alloc _ _ = W0 at al A0 ⊢
  have HA := hide (HA.out.keep al)
  have c0 := Below.refl W0.heap.size W0
  have x0 : W0.cell? ⟨w.heap.size, 0, none⟩ = some (.slice a0 c.vs.length k0) := boxAt (bKeeps c0 A0.out) 0
  have x1 : W0.cell? ⟨w.heap.size, 1, none⟩ = some (.slice a1 c.rs.length k1) := boxAt (bKeeps c0 A0.out) 1
  have x2 : W0.cell? ⟨w.heap.size, 2, none⟩ = some (.slice a2 c.ks.length k2) := boxAt (bKeeps c0 A0.out) 2
  have x3 : W0.cell? ⟨w.heap.size, 3, none⟩ = some (.slice a3 c.ws.length k3) := boxAt (bKeeps c0 A0.out) 3
  have x4 : W0.cell? ⟨w.heap.size, 4, none⟩ = some (.slice a4 c.ts.length k4) := boxAt (bKeeps c0 A0.out) 4
  by_cases h0 : c.vs.length = 3
  case neg =>
    have e0 : ((c.vs.length : Int) != 3) = true := by simp; omega
    have hno : Q = false := by rw [← HQ.out]; simp [okCn, h0]
    go_wp2
    go_ret
    exact ⟨by rw [hno]; rfl, al⟩
  have e0 : ((c.vs.length : Int) != 3) = false := by simp; omega
  have H0 := hide h0
  clear h0
  by_cases h1 : c.rs.length = 3
  case neg =>
    have e1 : ((c.rs.length : Int) != 3) = true := by simp; omega
    have hno : Q = false := by rw [← HQ.out]; simp [okCn, h1]
    go_wp2
    go_ret
    exact ⟨by rw [hno]; rfl, al⟩
  have e1 : ((c.rs.length : Int) != 3) = false := by simp; omega
  have H1 := hide h1
  clear h1
  by_cases h2 : c.ks.length = 3
  case neg =>
    have e2 : ((c.ks.length : Int) != 3) = true := by simp; omega
    have hno : Q = false := by rw [← HQ.out]; simp [okCn, h2]
    go_wp2
    go_ret
    exact ⟨by rw [hno]; rfl, al⟩
  have e2 : ((c.ks.length : Int) != 3) = false := by simp; omega
  have H2 := hide h2
  clear h2
  by_cases h3 : c.ws.length ≤ 60
  case neg =>
    have e3 : decide ((c.ws.length : Int) > 60) = true := by simp; omega
    have hno : Q = false := by rw [← HQ.out]; simp [okCn, h3]
    go_wp2
    go_ret
    exact ⟨by rw [hno]; rfl, al⟩
  have e3 : decide ((c.ws.length : Int) > 60) = false := by simp; omega
  have H3 := hide h3
  clear h3
  by_cases h4 : c.ts.length ≤ 240
  case neg =>
    have e4 : decide ((c.ts.length : Int) > 240) = true := by simp; omega
    have hno : Q = false := by rw [← HQ.out]; simp [okCn, h4]
    go_wp2
    go_ret
    exact ⟨by rw [hno]; rfl, al⟩
  have e4 : decide ((c.ts.length : Int) > 240) = false := by simp; omega
  have H4 := hide h4
  clear h4
  go_wp2
  clear x0 x1 x2 x3 x4 e0 e1 e2 e3 e4
  go_loopw [3] (fun i wr => ∃ k : Nat, k ≤ 3 ∧ i = .int .i64 k ∧ (∀ j, j < k → (∀ x, c.vs[j]? = some x → vok x = true) ∧ (∀ x, c.rs[j]? = some x → inI x 0 12498 = true) ∧ (∀ x, c.ks[j]? = some x → okS x = true)) ∧ Below W0.heap.size W0 wr) (fun i _ => 3 - (intOf i).toNat)
  case atStart => exact ⟨0, Nat.zero_le _, rfl, fun j hj => by omega, Below.refl _ _⟩
  case round =>
    obtain ⟨k, hk, rfl, hgood, hbel⟩ := hrel
    have HG := hide hgood
    clear hgood
    have y0 : wr.cell? ⟨w.heap.size, 0, none⟩ = some (.slice a0 c.vs.length k0) := boxAt (bKeeps hbel A0.out) 0
    have y1 : wr.cell? ⟨w.heap.size, 1, none⟩ = some (.slice a1 c.rs.length k1) := boxAt (bKeeps hbel A0.out) 1
    have y2 : wr.cell? ⟨w.heap.size, 2, none⟩ = some (.slice a2 c.ks.length k2) := boxAt (bKeeps hbel A0.out) 2
    by_cases hlt : k < 3
    · have hi : (k : Int) < 3 := by omega
      have P := HA.out.keep hbel
      obtain ⟨x, hx⟩ := getAt c.vs k (by have := H0.out; omega)
      obtain ⟨r, hr⟩ := getAt c.rs k (by have := H1.out; omega)
      obtain ⟨s, hs⟩ := getAt c.ks k (by have := H2.out; omega)
      have HX := hide hx
      have HRR := hide hr
      have HS := hide hs
      obtain ⟨-, b0, o0, rfl, cs0, hcs0, -, hc0, he0⟩ := P.vs.elem hx
      obtain ⟨-, b2, o2, rfl, cs2, hcs2, -, hc2, he2⟩ := P.ks.elem hs
      obtain ⟨_, _, e1', -, -, hrr⟩ := P.rs
      obtain ⟨b1, o1, e1'', hc1⟩ := hrr (by have := H1.out; omega)
      obtain ⟨rfl, -⟩ : a1 = some ⟨b1, o1, none⟩ ∧ True := by injection e1' with e1'; exact ⟨e1'.trans e1'', trivial⟩
      have g1 := hc1 k _ (show (ints c.rs)[k]? = some (.int .i64 r) by simp [ints, hr])
      have F0 := hide hc0
      have F2 := hide hc2
      have G0 := hide (infoAt infoSv2 hcs0)
      have G2 := hide (infoAt infoSk hcs2)
      have j0 : (k : Int) < (c.vs.length : Int) := by have := H0.out; omega
      have j1 : (k : Int) < (c.rs.length : Int) := by have := H1.out; omega
      have j2 : (k : Int) < (c.ks.length : Int) := by have := H2.out; omega
      have cF := specSynVoterOk_any _ x.1 x.2 wr he0
      have HE2 := hide he2
      clear hx hr hs hc0 hc2 hcs0 hcs2 hrr hc1 e1' e1'' P he0 he2
      obtain ⟨q, hq⟩ : ∃ q, okV x.1 x.2 = q := ⟨_, rfl⟩
      have Hq := hide hq
      rw [hq] at cF
      clear hq
      go_wp2_with (refine wpList_load_at (by rfl) 62 (.tmp 41) rfl b0 (o0 + k * 2) rfl cs0 _ F0.out Tryz.underlying62 rfl G0.out ?_)
      refine cF.mono ?_
      rintro e V1 ⟨rfl, d1⟩
      have f1 := bAll hbel d1
      have y1 : V1.cell? ⟨w.heap.size, 1, none⟩ = some (.slice (some ⟨b1, o1, none⟩) c.rs.length k1) := boxAt (bKeeps f1 A0.out) 1
      have g1 : V1.cell? ⟨b1, o1 + k, none⟩ = some (.int .i64 r) := (d1.cell (p := ⟨b1, o1 + k, none⟩) (World.block_lt_of_cell? wr _ g1)).trans g1
      clear cF F0 G0 y0
      cases q with
      | false =>
        have hno : Q = false := by rw [← HQ.out]; have := all_no (p := vok) HX.out Hq.out; simp only [okCn, this, Bool.false_and, Bool.and_false]
        go_wp2
        go_ret
        exact ⟨by (first | rfl | (rw [hno]; rfl)), bAll al f1⟩
      | true =>
        have cL := l6In_inI r 0 12498 V1
        obtain ⟨q1, hq1⟩ : ∃ q, inI r 0 12498 = q := ⟨_, rfl⟩
        have Hq1 := hide hq1
        rw [hq1] at cL
        clear hq1
        go_wp2_with fail
        refine cL.mono ?_
        rintro e V2 ⟨rfl, rfl⟩
        clear cL y1 g1
        have y2 : V2.cell? ⟨w.heap.size, 2, none⟩ = some (.slice (some ⟨b2, o2, none⟩) c.ks.length k2) := boxAt (bKeeps f1 A0.out) 2
        have F2' := hide (cellsKeep F2.out d1)
        cases q1 with
        | false =>
          have hno : Q = false := by rw [← HQ.out]; have := all_no (p := fun r => inI r 0 12498) HRR.out Hq1.out; simp only [okCn, this, Bool.false_and, Bool.and_false]
          go_wp2
          go_ret
          exact ⟨by (first | rfl | (rw [hno]; rfl)), bAll al f1⟩
        | true =>
          have cK := specSynSeekerOk_any _ s V2 (HE2.out.keep d1)
          obtain ⟨q2, hq2⟩ : ∃ q, okS s = q := ⟨_, rfl⟩
          have Hq2 := hide hq2
          rw [hq2] at cK
          clear hq2
          go_wp2_with (refine wpList_load_at (by rfl) 80 (.tmp 58) rfl b2 (o2 + k * 26) rfl cs2 _ F2'.out Tryz.underlying80 rfl G2.out ?_)
          refine cK.mono ?_
          rintro e V3 ⟨rfl, d3⟩
          have f3 := bAll f1 d3
          clear cK F2 F2' G2 y2 d1 d3 HE2
          cases q2 with
          | false =>
            have hno : Q = false := by rw [← HQ.out]; have := all_no (p := okS) HS.out Hq2.out; simp only [okCn, this, Bool.false_and, Bool.and_false]
            go_wp2
            go_ret
            exact ⟨by (first | rfl | (rw [hno]; rfl)), bAll al f3⟩
          | true =>
            go_wp2
            go_roundw
            case rel =>
              refine ⟨k + 1, by omega, by go_num, fun j hj => ?_, f3⟩
              by_cases hjk : j = k
              · subst hjk
                refine ⟨fun y hy => ?_, fun y hy => ?_, fun y hy => ?_⟩
                · rw [HX.out] at hy
                  obtain rfl := Option.some.inj hy
                  exact Hq.out
                · rw [HRR.out] at hy
                  obtain rfl := Option.some.inj hy
                  exact Hq1.out
                · rw [HS.out] at hy
                  obtain rfl := Option.some.inj hy
                  exact Hq2.out
              · exact HG.out j (by omega)
            case measure => simp [intOf]; omega
    · have hi3 : ¬ (k : Int) < 3 := by omega
      have g0 : c.vs.all vok = true := all_yes (fun j x hj hx => (HG.out j (by have := H0.out; omega)).1 x hx)
      have g1 : (c.rs.all fun r => inI r 0 12498) = true := all_yes (fun j x hj hx => (HG.out j (by have := H1.out; omega)).2.1 x hx)
      have g2 : c.ks.all okS = true := all_yes (fun j x hj hx => (HG.out j (by have := H2.out; omega)).2.2 x hx)
      clear HG y0 y1 y2 hlt hk
      generalize hX1 : wr = X1 at hbel ⊢
      clear hX1
      go_wp2
      go_loopw [4] (fun i wr => ∃ k : Nat, k ≤ c.ws.length ∧ i = .int .i64 k ∧ (∀ j x, j < k → c.ws[j]? = some x → okW x = true) ∧ Below W0.heap.size W0 wr) (fun i _ => c.ws.length - (intOf i).toNat)
      case atStart => exact ⟨0, Nat.zero_le _, rfl, fun j x hj => by omega, hbel⟩
      case round =>
        obtain ⟨k, hk, rfl, hgood, hbel⟩ := hrel
        have HG := hide hgood
        clear hgood
        have y3 : wr.cell? ⟨w.heap.size, 3, none⟩ = some (.slice a3 c.ws.length k3) := boxAt (bKeeps hbel A0.out) 3
        have hb3 := H3.out
        by_cases hlt : k < c.ws.length
        · have hi : (k : Int) < (c.ws.length : Int) := by omega
          obtain ⟨x, hx⟩ := getAt c.ws k hlt
          have HX := hide hx
          obtain ⟨-, b0, o0, rfl, cs0, hcs0, -, hc0, he0⟩ := (HA.out.keep hbel).ws.elem hx
          have F0 := hide hc0
          have G0 := hide (infoAt infoWd hcs0)
          have cF := specWordOk_any _ x wr he0
          clear hx hc0 hcs0 he0
          obtain ⟨q, hq⟩ : ∃ q, okW x = q := ⟨_, rfl⟩
          have Hq := hide hq
          rw [hq] at cF
          clear hq
          go_wp2_with (refine wpList_load_at (by rfl) 87 (.tmp 73) rfl b0 (o0 + k * 26) rfl cs0 _ F0.out Tryz.underlying87 rfl G0.out ?_)
          refine cF.mono ?_
          rintro e V1 ⟨rfl, d1⟩
          have f1 := bAll hbel d1
          clear cF F0 G0 y3
          cases q with
          | false =>
            have hno : Q = false := by rw [← HQ.out]; have := all_no (p := okW) HX.out Hq.out; simp only [okCn, this, Bool.false_and, Bool.and_false]
            go_wp2
            go_ret
            exact ⟨by (first | rfl | (rw [hno]; rfl)), bAll al f1⟩
          | true =>
            go_wp2
            go_roundw
            case rel =>
              refine ⟨k + 1, by omega, by go_num, fun j y hj hy => ?_, f1⟩
              by_cases hjk : j = k
              · subst hjk
                rw [HX.out] at hy
                obtain rfl := Option.some.inj hy
                exact Hq.out
              · exact HG.out j y (by omega) hy
            case measure => simp [intOf]; omega
        · have hi : ¬ (k : Int) < (c.ws.length : Int) := by omega
          have g3 : c.ws.all okW = true := all_yes (fun j x hj hx => HG.out j x (by omega) hx)
          clear HG
          go_wp2
          go_loopw [5] (fun i wr => ∃ k : Nat, k ≤ c.ts.length ∧ i = .int .i64 k ∧ (∀ j x, j < k → c.ts[j]? = some x → ppI x = true) ∧ Below W0.heap.size W0 wr) (fun i _ => c.ts.length - (intOf i).toNat)
          case atStart => exact ⟨0, Nat.zero_le _, rfl, fun j x hj => by omega, hbel⟩
          case round =>
            obtain ⟨k, hk, rfl, hgood, hbel⟩ := hrel
            have HG := hide hgood
            clear hgood
            have y4 : wr.cell? ⟨w.heap.size, 4, none⟩ = some (.slice a4 c.ts.length k4) := boxAt (bKeeps hbel A0.out) 4
            have hb4 := H4.out
            by_cases hlt : k < c.ts.length
            · have hi : (k : Int) < (c.ts.length : Int) := by omega
              obtain ⟨x, hx⟩ := getAt c.ts k hlt
              have HX := hide hx
              obtain ⟨-, b0, o0, rfl, cs0, hcs0, -, hc0, he0⟩ := (rowPp (HA.out.keep hbel).ts).elem hx
              have F0 := hide hc0
              have G0 := hide (infoAt infoPpS hcs0)
              have cF := l21PaperOk_E _ x wr he0
              clear hx hc0 hcs0 he0
              obtain ⟨q, hq⟩ : ∃ q, ppI x = q := ⟨_, rfl⟩
              have Hq := hide hq
              rw [hq] at cF
              clear hq
              go_wp2_with (refine wpList_load_at (by rfl) 64 (.tmp 87) rfl b0 (o0 + k * 12) rfl cs0 _ F0.out Tryz.underlying64 rfl G0.out ?_)
              refine cF.mono ?_
              rintro e V1 ⟨rfl, d1⟩
              have f1 := bAll hbel d1
              clear cF F0 G0 y4
              cases q with
              | false =>
                have hno : Q = false := by rw [← HQ.out]; have := all_no (p := ppI) HX.out Hq.out; simp only [okCn, this, Bool.and_false]
                go_wp2
                go_ret
                exact ⟨by (first | rfl | (rw [hno]; rfl)), bAll al f1⟩
              | true =>
                go_wp2
                go_roundw
                case rel =>
                  refine ⟨k + 1, by omega, by go_num, fun j y hj hy => ?_, f1⟩
                  by_cases hjk : j = k
                  · subst hjk
                    rw [HX.out] at hy
                    obtain rfl := Option.some.inj hy
                    exact Hq.out
                  · exact HG.out j y (by omega) hy
                case measure => simp [intOf]; omega
            · have hi : ¬ (k : Int) < (c.ts.length : Int) := by omega
              have g4 : c.ts.all ppI = true := all_yes (fun j x hj hx => HG.out j x (by omega) hx)
              have hyes : Q = true := by
                have h0 := H0.out
                have h1 := H1.out
                have h2 := H2.out
                have h3 := H3.out
                have h4 := H4.out
                rw [← HQ.out]
                simp only [okCn, h0, h1, h2, h3, h4, g0, g1, g2, g3, g4, decide_true, Bool.and_self]
              go_wp2
              go_ret
              exact ⟨by (first | rfl | (rw [hyes]; rfl)), bAll al hbel⟩

end Go.Proofs.YteddhdbglciahaaGreat

/- Papers held against each other: laws of one program; no statement of the seat is proved here. -/
namespace Go.Proofs.YteddhdbglciahaaGreat
open Go.RowKit

/-- Are two commands, two papers the same? -/
def eqC (x y : Wd) : Bool := x.c0 == y.c0 && (x.c1 == y.c1 && (x.c2 == y.c2 && (x.c3 == y.c3 && (x.c4 == y.c4 && (x.c5 == y.c5 && (x.c6 == y.c6 && (x.c7 == y.c7 && (x.c8 == y.c8 && x.c9 == y.c9))))))))
def eqP (p q : Pp) : Bool := p.1 == q.1 && (p.2.1 == q.2.1 && eqC p.2.2 q.2.2)
theorem ifB2 {a b : Int} {c : Bool} (w : World) (R : Result Value) (h : R = .ok (.bool c) w) : (if a = b then R else .ok (.bool false) w) = .ok (.bool (a == b && c)) w := by
  by_cases ha : a = b
  · rw [if_pos ha, h, ha]
    simp
  · rw [if_neg ha, show (a == b) = false by simpa using ha]
    rfl

set_option maxRecDepth 10000 in
theorem eqlPaper (s b s' b' : Int) (x x' : Wd) (w : World) : (binOp .eql 64 (.agg (#[.int .i64 s, .int .i64 b, .int .i64 x.c0, .int .i64 x.c1, .int .i64 x.c2, .int .i64 x.c3, .int .i64 x.c4, .int .i64 x.c5, .int .i64 x.c6, .int .i64 x.c7, .int .i64 x.c8, .int .i64 x.c9] : Array Value)) (.agg (#[.int .i64 s', .int .i64 b', .int .i64 x'.c0, .int .i64 x'.c1, .int .i64 x'.c2, .int .i64 x'.c3, .int .i64 x'.c4, .int .i64 x'.c5, .int .i64 x'.c6, .int .i64 x'.c7, .int .i64 x'.c8, .int .i64 x'.c9] : Array Value))).run Tryz.prog w = .ok (.bool (eqP (s, b, x) (s', b', x'))) w := by
  have u3 := Tryz.underlying3
  have a3 := Tryz.isAgg3
  have z3 := Tryz.sizeOf3
  have hS : Tryz.prog.underlying 64 = some (.struct (Tryz.prog.fieldsOf 64)) := by kernel_rfl
  rw [run_eql_struct, show (10000 : Nat) = 9999 + 1 from rfl, run_equalIn_agg w 9999 64 _ _ hS (by kernel_rfl)]
  simp only [Program.fieldsOf, Tryz.underlying64 ]
  go_simp
  unfold eqP eqC
  clear u3 a3 z3 hS
  iterate 11 refine ifB2 w _ ?_
  by_cases h : x.c9 = x'.c9 <;> simp [h]
theorem guardPaperN (w : World) (x y : Operand) (xs ys : Array Value) : (eqGuard .neq 64 x y (.agg xs) (.agg ys)).run Tryz.prog w = .ok () w := run_eqGuard_agg w _ _ _ _ _ _ (by kernel_rfl)
theorem yields_eqlPp {ops : Array Oper} {S : World → Prop} {op : Oper} {a : Act} (hw : Region.wanted op (yielded ops a.tmps) = true) (yt : TypeId) (x y : Operand) (ho : op.op = .binOp .eql 64 x y yt)
    (p q : Pp) (hx : a.eval x = .agg (pparr p)) (hy : a.eval y = .agg (pparr q)) (j : Bool) (hj : eqP p q = j) : YieldsIf Tryz.prog ops S op (.bool j) a :=
  .inl ⟨hw, fun w _ => by
    have hx' : a.eval x = .agg (#[.int .i64 p.1, .int .i64 p.2.1, .int .i64 p.2.2.c0, .int .i64 p.2.2.c1, .int .i64 p.2.2.c2, .int .i64 p.2.2.c3, .int .i64 p.2.2.c4, .int .i64 p.2.2.c5, .int .i64 p.2.2.c6, .int .i64 p.2.2.c7, .int .i64 p.2.2.c8, .int .i64 p.2.2.c9] : Array Value) := hx
    have hy' : a.eval y = .agg (#[.int .i64 q.1, .int .i64 q.2.1, .int .i64 q.2.2.c0, .int .i64 q.2.2.c1, .int .i64 q.2.2.c2, .int .i64 q.2.2.c3, .int .i64 q.2.2.c4, .int .i64 q.2.2.c5, .int .i64 q.2.2.c6, .int .i64 q.2.2.c7, .int .i64 q.2.2.c8, .int .i64 q.2.2.c9] : Array Value) := hy
    subst hj
    unfold execOp
    simp only [ho, hx', hy', Sem.run_bind, guardPaper, Result.andThen_ok, eqlPaper]
    rfl⟩
theorem neqPaperG (s b s' b' : Int) (x x' : Wd) (w : World) : (binOp .neq 64 (.agg (#[.int .i64 s, .int .i64 b, .int .i64 x.c0, .int .i64 x.c1, .int .i64 x.c2, .int .i64 x.c3, .int .i64 x.c4, .int .i64 x.c5, .int .i64 x.c6, .int .i64 x.c7, .int .i64 x.c8, .int .i64 x.c9] : Array Value)) (.agg (#[.int .i64 s', .int .i64 b', .int .i64 x'.c0, .int .i64 x'.c1, .int .i64 x'.c2, .int .i64 x'.c3, .int .i64 x'.c4, .int .i64 x'.c5, .int .i64 x'.c6, .int .i64 x'.c7, .int .i64 x'.c8, .int .i64 x'.c9] : Array Value))).run Tryz.prog w = .ok (.bool (!eqP (s, b, x) (s', b', x'))) w := by
  have e := eqlPaper s b s' b' x x' w
  rw [run_eql_struct] at e
  rw [run_neq_struct]
  cases h : (Op.equalIn 10000 64 (.agg (#[.int .i64 s, .int .i64 b, .int .i64 x.c0, .int .i64 x.c1, .int .i64 x.c2, .int .i64 x.c3, .int .i64 x.c4, .int .i64 x.c5, .int .i64 x.c6, .int .i64 x.c7, .int .i64 x.c8, .int .i64 x.c9] : Array Value)) (.agg (#[.int .i64 s', .int .i64 b', .int .i64 x'.c0, .int .i64 x'.c1, .int .i64 x'.c2, .int .i64 x'.c3, .int .i64 x'.c4, .int .i64 x'.c5, .int .i64 x'.c6, .int .i64 x'.c7, .int .i64 x'.c8, .int .i64 x'.c9] : Array Value))).run Tryz.prog w with
  | ok a w1 =>
    rw [h] at e
    simp only [Result.andThen, Result.ok.injEq, Value.bool.injEq] at e ⊢
    rw [e.1]
    exact ⟨rfl, e.2⟩
  | halt a w1 => rw [h] at e; simp [Result.andThen] at e
theorem yields_neqPpG {ops : Array Oper} {S : World → Prop} {op : Oper} {a : Act} (hw : Region.wanted op (yielded ops a.tmps) = true) (yt : TypeId) (x y : Operand) (ho : op.op = .binOp .neq 64 x y yt)
    (p q : Pp) (hx : a.eval x = .agg (pparr p)) (hy : a.eval y = .agg (pparr q)) (j : Bool) (hj : (!eqP p q) = j) : YieldsIf Tryz.prog ops S op (.bool j) a :=
  .inl ⟨hw, fun w _ => by
    have hx' : a.eval x = .agg (#[.int .i64 p.1, .int .i64 p.2.1, .int .i64 p.2.2.c0, .int .i64 p.2.2.c1, .int .i64 p.2.2.c2, .int .i64 p.2.2.c3, .int .i64 p.2.2.c4, .int .i64 p.2.2.c5, .int .i64 p.2.2.c6, .int .i64 p.2.2.c7, .int .i64 p.2.2.c8, .int .i64 p.2.2.c9] : Array Value) := hx
    have hy' : a.eval y = .agg (#[.int .i64 q.1, .int .i64 q.2.1, .int .i64 q.2.2.c0, .int .i64 q.2.2.c1, .int .i64 q.2.2.c2, .int .i64 q.2.2.c3, .int .i64 q.2.2.c4, .int .i64 q.2.2.c5, .int .i64 q.2.2.c6, .int .i64 q.2.2.c7, .int .i64 q.2.2.c8, .int .i64 q.2.2.c9] : Array Value) := hy
    subst hj
    unfold execOp
    simp only [ho, hx', hy', Sem.run_bind, guardPaperN, Result.andThen_ok, neqPaperG]
    rfl⟩
theorem eqP_zero (p : Pp) : eqP p (0, 0, zeroW) = isZP p := rfl

end Go.Proofs.YteddhdbglciahaaGreat

/- What two voters have alike, plainly: plain facts; no statement of the seat is proved here. (Written by wip/tools/mkch.py.) -/
namespace Go.Proofs.YteddhdbglciahaaGreat
open Go.RowKit

/-- A command's cells. -/
def cmdv (x : Wd) : Array Value := #[.int .i64 x.c0, .int .i64 x.c1, .int .i64 x.c2, .int .i64 x.c3, .int .i64 x.c4, .int .i64 x.c5, .int .i64 x.c6, .int .i64 x.c7, .int .i64 x.c8, .int .i64 x.c9]
/-- The paper of a slot that a voter has. -/
def papC (s : Int) (c : Cn) (i : Nat) : Pp := match c.vs[i]? with | some x => paperOf s x.2 | none => (0, 0, zeroW)
def good (p q : Pp) : Bool := !isZP p && eqP p q
/-- What is found chosen. -/
def choC (s : Int) (c : Cn) : Wd × Bool :=
  if good (papC s c 1) (papC s c 0) = true then ((papC s c 1).2.2, true)
  else if good (papC s c 2) (papC s c 0) = true then ((papC s c 2).2.2, true)
  else if good (papC s c 2) (papC s c 1) = true then ((papC s c 2).2.2, true)
  else (zeroW, false)
def chosR (s : Int) (c : Cn) : Wd × Bool := if okCn c = true then choC s c else (zeroW, false)
theorem papC_at {s : Int} {c : Cn} {i : Nat} {x : Int × List Pp} (h : c.vs[i]? = some x) : papC s c i = paperOf s x.2 := by rw [papC, h]
theorem choC_hit {s : Int} {c : Cn} {i k : Nat} (hi : i < 3) (hk : k < i) (h1 : ∀ a b, b < a → a < i → good (papC s c a) (papC s c b) = false) (h2 : ∀ b, b < k → good (papC s c i) (papC s c b) = false)
    (h3 : good (papC s c i) (papC s c k) = true) : choC s c = ((papC s c i).2.2, true) := by
  unfold choC
  rcases (by omega : (i = 1 ∧ k = 0) ∨ (i = 2 ∧ k = 0) ∨ (i = 2 ∧ k = 1)) with ⟨rfl, rfl⟩ | ⟨rfl, rfl⟩ | ⟨rfl, rfl⟩
  · rw [if_pos h3]
  · rw [if_neg (by rw [h1 1 0 (by omega) (by omega)]; simp), if_pos h3]
  · rw [if_neg (by rw [h1 1 0 (by omega) (by omega)]; simp), if_neg (by rw [h2 0 (by omega)]; simp), if_pos h3]
theorem choC_none {s : Int} {c : Cn} (h : ∀ a b, b < a → a < 3 → good (papC s c a) (papC s c b) = false) : choC s c = (zeroW, false) := by
  unfold choC
  rw [if_neg (by rw [h 1 0 (by omega) (by omega)]; simp), if_neg (by rw [h 2 0 (by omega) (by omega)]; simp), if_neg (by rw [h 2 1 (by omega) (by omega)]; simp)]
/-- What is known of a voter that is ok. -/
theorem vok_facts {x : Int × List Pp} (h : vok x = true) : Asc ordV x.2 ∧ x.2.length ≤ 60 ∧ ∀ p ∈ x.2, isZP p = false := by
  have h' : okV x.1 x.2 = true := h
  simp only [okV, Bool.and_eq_true] at h'
  obtain ⟨l1, l2, l3⟩ := (ok_iff ordOkV).1 h'.2
  refine ⟨l3, l1, fun p hp => ?_⟩
  have := l2 p hp
  simp only [fitV, ppI, inI, Bool.and_eq_true, decide_eq_true_eq] at this
  have h0 : (p.1 == 0) = false := by
    have h1 := this.1.1.1
    simp
    omega
  simp [isZP, h0]
theorem okCn_facts {c : Cn} (h : okCn c = true) : c.vs.length = 3 ∧ ∀ (i : Nat) (x : Int × List Pp), c.vs[i]? = some x → vok x = true := by
  simp only [okCn, Bool.and_eq_true, decide_eq_true_eq, List.all_eq_true] at h
  exact ⟨h.1, fun i x hx => h.2.2.2.2.2.1 x (List.mem_of_getElem? hx)⟩
/-- The slice of a voter's papers, in the row of voters. -/
theorem vx_cell {w : World} {b off i : Nat} {cs : Array Value} {x : Int × List Pp} (hc : ∀ r u, cs[r]? = some u → w.cell? ⟨b, off + i * 2 + r, none⟩ = some u) (h : VxR w (.agg cs) x) :
    ∃ ao cap, w.cell? ⟨b, off + i * 2 + 1, none⟩ = some (.slice ao x.2.length cap) ∧ RowR w 12 (.slice ao x.2.length cap) x.2.length (ppcells x.2) := by
  obtain ⟨ao, cap, e, hr⟩ := h
  injection e with e
  subst e
  exact ⟨ao, cap, hc 1 _ rfl, hr⟩
theorem infoCm5 : (Tryz.prog.info? 31).map (·.size) = some 10 := by kernel_rfl
theorem builtNoCmd : Tryz.prog.built 31 [] = some #[.int .i64 0, .int .i64 0, .int .i64 0, .int .i64 0, .int .i64 0, .int .i64 0, .int .i64 0, .int .i64 0, .int .i64 0, .int .i64 0] := by kernel_rfl
theorem wpList_builtNoCmd {ops : Array Oper} {rest : List Oper} {o : Oper} {a : Act} {w : World} {Q : Exit → Act → World → Prop} (hg : o.guard = none) (parts : Array (Nat × Operand)) (ho : o.op = .build 31 parts)
    (hp : (parts.map fun (i, x) => (i, a.eval x)).toList = [])
    (h : wpList Tryz.prog ops Q rest (a.put o.dst (.agg #[.int .i64 0, .int .i64 0, .int .i64 0, .int .i64 0, .int .i64 0, .int .i64 0, .int .i64 0, .int .i64 0, .int .i64 0, .int .i64 0])) w) : wpList Tryz.prog ops Q (o :: rest) a w :=
  wpList_build hg 31 parts ho (by rw [hp, builtNoCmd]; rfl) (by rw [hp, builtNoCmd]; exact h)
theorem builtNoPp : Tryz.prog.built 64 [] = some (pparr (0, 0, zeroW)) := by kernel_rfl

end Go.Proofs.YteddhdbglciahaaGreat
