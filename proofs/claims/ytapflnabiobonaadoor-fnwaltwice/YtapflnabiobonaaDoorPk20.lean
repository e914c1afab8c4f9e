/- Contracts and plain facts that the claims of this seat lean on (texts WD6, WPDone, WPTwice); no statement of the seat is proved here. -/
import Derived.Test.YtapflnabiobonaaDoorPk16
import Derived.Test.YtapflnabiobonaaDoorPk17
import Derived.Test.YtapflnabiobonaaDoorPk2

/- What DrawWalSteps draws: a contract; no statement of the seat is proved here. -/
namespace Go.Proofs.YtapflnabiobonaaDoor
open Go.RowKit

theorem RowR.drop1 {w : World} {g cap : Nat} {F : List ByteArray} (h : RowR w 1 (.slice (some ⟨g, 0, none⟩) 250 cap) 250 (F.map Value.string)) (hF : F.length = 250) : RowR w 1 (.slice (some ⟨g, 1, none⟩) (F.drop 1).length (cap - 1)) (F.drop 1).length ((F.drop 1).map Value.string) := by
  obtain ⟨_, _, ev, h1, h2, h3⟩ := h
  simp only [Value.slice.injEq, true_and] at ev
  obtain ⟨rfl, rfl⟩ := ev
  have hl : (F.drop 1).length = 249 := by rw [List.length_drop]; omega
  refine ⟨_, _, rfl, by omega, by simp, fun _ => ?_⟩
  obtain ⟨b, off, e, hc⟩ := h3 (by omega)
  simp only [Option.some.injEq, Addr.mk.injEq, and_true] at e
  obtain ⟨rfl, rfl⟩ := e
  refine ⟨g, 1, rfl, fun j u hj => ?_⟩
  have := hc (1 + j) u (by rw [List.map_drop, List.getElem?_drop] at hj; exact hj)
  simpa using this

theorem made_row (w : World) : RowR (w.alloc (.cells (madeCells #[.string ⟨#[]⟩] 250) 9)) 1 (.slice (some ⟨w.heap.size, 0, none⟩) 250 250) 250 ((List.replicate 250 (⟨#[]⟩ : ByteArray)).map Value.string) := by
  obtain ⟨vk, vw, e, a1, a2⟩ := newDiskA w w.heap.size 250 (Nat.le_refl _) (by omega)
  simp only [Value.agg.injEq, Array.mk.injEq, List.cons.injEq, and_true] at e
  obtain ⟨rfl, rfl⟩ := e
  have := (a1.row (by rw [List.length_replicate]; omega)).reads
  rwa [List.length_replicate] at this

set_option maxRecDepth 100000 in
set_option maxHeartbeats 8000000 in
theorem drawWalSteps_any (w : World) (bo : Option Addr) (n cap : Nat) (bs : List Nat) (h : BytesIn w bo n cap bs) (hn : n ≤ 1048576) :
    Calls Tryd.prog 27 #[.slice bo n cap] w fun e w' => ∃ v kept wait, ∃ (ho : Option Addr) (hc : Nat) (hs : List ByteArray), e = .returned (.tuple #[v, .slice ho hs.length hc]) ∧ DiskO w' (fun k => w.heap.size ≤ k) v kept wait ∧ Drawn kept wait ∧
      RowR w' 1 (.slice ho hs.length hc) hs.length (hs.map Value.string) ∧ (∀ s ∈ hs, s.size ≤ 9223372036854775807) ∧ hs.length ≤ 250 ∧ Below w.heap.size w w' := by
  have al0 : Below w.heap.size w (w.alloc (.cells #[.slice none 0 0, .slice none 0 0] 31)) := (Below.refl _ _).alloc (Nat.le_refl _) _
  have H0 := hide (al1_0 w (.cells #[.slice none 0 0, .slice none 0 0] 31))
  have HB := hide (h.keep al0)
  go_enter Tryd.func27, Tryd.ntmps27
  go_wp2_with fail
  refine (l6Open_any _ bo n cap bs HB.out hn).mono ?_
  rintro e w1 ⟨rfl, hr1, b1⟩
  have c1 := bAll al0 b1
  have z1 := b1.size
  simp only [World.size_alloc] at z1
  replace H0 := hide (bKeeps b1 H0.out)
  rw [World.size_alloc] at hr1
  have hRl := hr1.lt
  obtain ⟨hRl1, hRl2, hRl3⟩ := hRl
  go_wp2_with fail
  refine (l72WalAny_any _ w1 (w.heap.size + 1) 0 hr1 (by omega)).mono ?_
  rintro e w2 ⟨v2, kept, wait, p2, rfl, d2, dr2, rd2, hp2, u2⟩
  obtain ⟨ao, ca, ao', ca', rfl⟩ := d2.shapeO
  replace H0 := hide (u2.keeps H0.out (by omega))
  have z2 := u2.size
  have c2 : Below w.heap.size w w2 := c1.trans (u2.below (by omega) (fun k h => by omega))
  have al2 : Below w2.heap.size w2 (w2.alloc (.cells #[.slice ao kept.length ca, .slice ao' wait.length ca'] 31)) := (Below.refl _ _).alloc (Nat.le_refl _) _
  have H2 := hide (al1_0 w2 (.cells #[.slice ao kept.length ca, .slice ao' wait.length ca'] 31))
  replace H0 := hide (bKeeps al2 H0.out)
  have d3 := (d2.within w2.heap.size rfl).keepB al2
  have rd3 := rd2.keepB al2
  have HRC := hide (specWalRead_any _ kept wait _ d3.reads dr2.ks dr2.ws)
  clear d2 rd2
  go_wp2_with fail
  refine (unhide HRC).mono ?_
  rintro e w3 ⟨v3, rfl, r3, b3⟩
  obtain ⟨no, nc, rfl⟩ := r3.shape
  have c3 := bAll (bAll c2 al2) b3
  have z3 := b3.size
  simp only [World.size_alloc] at z3
  replace H0 := hide (bKeeps b3 H0.out)
  replace H2 := hide (bKeeps b3 H2.out)
  replace d3 := d3.keepB b3
  replace rd3 := rd3.keepB b3
  have DR := hide dr2
  -- homes out of what is read, or empty ones
  have cont : ∀ (W : World) (mo : Option Addr) (mc : Nat) (now : List ByteArray), Below w3.heap.size w3 W → RowR W 1 (.slice mo 250 mc) 250 (now.map Value.string) → now.length = 250 → (∀ s ∈ now, s.size ≤ 9223372036854775807) →
      Calls Tryd.prog 54 #[.pointer (some ⟨w.heap.size + 1, 0, none⟩), .slice mo 250 mc] W fun e w' => ∃ (ho : Option Addr) (hc : Nat) (out : List ByteArray) (p' : Nat), e = .returned (.slice ho 250 hc) ∧ out.length = 250 ∧ 250 ≤ hc ∧ (∀ s ∈ out, s.size ≤ 9223372036854775807) ∧
        Row w' 9 1 (fun k => w3.heap.size ≤ k) (.slice ho 250 hc) 250 (out.map Value.string) ∧ Rd (w.alloc (.cells #[.slice none 0 0, .slice none 0 0] 31)) w' (w.heap.size + 1) p' ∧ p' ≤ 700 ∧ Upd (fun j => j = w.heap.size + 1) w3 w' := by
    intro W mo mc now hbW hrow hl hz
    have := l72Homes_any _ W (w.heap.size + 1) p2 mo mc now (rd3.keepB hbW) (by omega) (by rw [hl]; exact hrow) hl hz
    rw [hl] at this
    refine this.mono ?_
    rintro e w' ⟨ho, hc, out, p', h1, h2, h3, h4, h5, h6, h7, h8⟩
    exact ⟨ho, hc, out, p', h1, h2, h3, h4, h5.mono (fun k _ h => by have := hbW.size; omega), h6, by omega, (Upd.ofBelow hbW).trans h8⟩
  have HC := hide cont
  clear cont
  cases hO : readB kept wait
  case' false =>
    have hal4 : Below w3.heap.size w3 (w3.alloc (.cells (madeCells #[.string ⟨#[]⟩] 250) 9)) := (Below.refl _ _).alloc (Nat.le_refl _) _
    have HH := hide (HC.out _ _ _ _ hal4 (made_row w3) (by rw [List.length_replicate]) (fun s hs => by rw [List.eq_of_mem_replicate hs]; show (0 : Nat) ≤ _; omega))
    have hmk := run_make_row' (P := Tryd.prog) 22 9 (.string ⟨#[]⟩) 16 Tryd.underlying22 infoStr rfl .i64 .i64 250 (by omega) (by omega)
    rw [show ((250 : Nat) : Int) = 250 from rfl] at hmk
    clear r3 hO
    go_wp2_with fail
    refine (unhide HH).mono ?_
    clear HH hmk hal4
  case' true =>
    have hnl := readH_len hO
    have HH := hide (HC.out w3 no nc (readH kept wait) (Below.refl _ _) (by rw [hnl] at r3; exact r3.reads) hnl readH_small)
    rw [hnl]
    clear r3 hO hnl
    go_wp2_with fail
    refine (unhide HH).mono ?_
    clear HH
  all_goals
    rintro e w5 ⟨ho, hc, out, p5, rfl, hol, hcap, hoz, r5, rd5, hp5, u5⟩
    have z5 := u5.size
    have d5 := d3.keep u5 (fun k h e => by omega)
    have G0 := hide (u5.keeps H0.out (by omega))
    have G2 := hide (u5.keeps H2.out (by omega))
    have c5 : Below w.heap.size w w5 := c3.trans (u5.below (by omega) (fun k h => by omega))
    obtain ⟨gh, ch, uu, ev, hgS, hgl, -⟩ := r5.at 0 (by omega)
    simp only [Value.slice.injEq, true_and] at ev
    obtain ⟨rfl, rfl⟩ := ev
    have HOL := hide hol
    have HOZ := hide hoz
    clear hol hoz
    go_wp2_with fail
    refine (pick_any _ w5 (w.heap.size + 1) p5 16 rd5 (by omega) (by omega) (by omega)).mono ?_
    rintro e w6 ⟨q6, rfl, hq6, rd6, u6⟩
    have z6 := u6.size
    have d6 := d5.keep u6 (fun k h e => by omega)
    have r6 := r5.keep u6 (fun k h e => by omega)
    have c6 : Below w.heap.size w w6 := c5.trans (u6.below (by omega) (fun k h => by omega))
    replace G0 := hide (u6.keeps G0.out (by omega))
    replace G2 := hide (u6.keeps G2.out (by omega))
    obtain ⟨t0, t1, tl⟩ := box2 G2.out
    obtain ⟨x0, x1, xl⟩ := box2 G0.out
    obtain ⟨x2, x3⟩ := box2f G0.out
    rcases (by omega : q6 = 0 ∨ q6 = 1 ∨ q6 = 2 ∨ 3 ≤ q6) with rfl | rfl | rfl | hq3
    · go_wp2_with fail
      refine (pick_any _ w6 (w.heap.size + 1) (p5 + 1) 9 rd6 (by omega) (by omega) (by omega)).mono ?_
      rintro e w7 ⟨a7, rfl, ha7, rd7, u7⟩
      go_wp2_with fail
      refine (pick_any _ w7 (w.heap.size + 1) (p5 + 1 + 1) 2 rd7 (by omega) (by omega) (by omega)).mono ?_
      rintro e w8 ⟨a8, rfl, ha8, rd8, u8⟩
      go_wp2_with fail
      refine (l6Many_at ⟨#[120]⟩ _ (15 + a8) 16 w8 (by omega) (by omega) (by show 1 * (15 + a8) ≤ 16; omega) (by omega)).mono ?_
      rintro e w9 ⟨s9, rfl, hs9, e9⟩
      rw [e9]
      clear e9 w9
      have u78 := u7.trans u8
      have z8 := u78.size
      have r8 := r6.keep u78 (fun k h e => by omega)
      have d8 := d6.keep u78 (fun k h e => by omega)
      have k0 := u78.keeps G0.out (by omega)
      have k2 := u78.keeps G2.out (by omega)
      obtain ⟨gh', ch', u9, ev, hgS', hgl', hcu, -, hfu, hset⟩ := r8.at a7 (by omega)
      simp only [Value.slice.injEq, Option.some.injEq, Addr.mk.injEq, and_true, true_and] at ev
      obtain ⟨rfl, rfl⟩ := ev
      have us := Upd.setCell (S := fun k => k = gh) w8 gh a7 (.string s9) rfl
      have Hset := hide (hset (.string s9))
      have K0 := hide (us.keeps k0 (by omega))
      have hja : (a7 : Int) < 250 := by omega
      clear t0 t1 tl x0 x1 xl x2 x3 hset
      obtain ⟨t0, t1, tl⟩ := box2 (us.keeps k2 (by omega))
      obtain ⟨x0, x1, xl⟩ := box2 K0.out
      obtain ⟨x2, x3⟩ := box2f K0.out
      clear k0 k2
      go_wp2
      have hs := upd_set2 (w8.setCell ⟨gh, a7, none⟩ (.string s9)) w.heap.size 0 1 (.slice ao kept.length ca) (.slice ao' wait.length ca')
      have zs := us.size
      refine bodyPost_ret (v := .tuple #[.agg #[.slice ao kept.length ca, .slice ao' wait.length ca'], .slice (some ⟨gh, 0, none⟩) 250 hc]) (by simp [results, Tryd.results27, go_sem, x0, x1]) rfl ?_
      have hl9 : (out.set a7 s9).length = 250 := by rw [List.length_set, HOL.out]
      refine ⟨_, kept, wait, some ⟨gh, 0, none⟩, hc, out.set a7 s9, by rw [hl9], ((d8.keep us (fun k h e => by omega)).keep hs (fun k h e => by omega)).mono (fun k _ h => by omega), DR.out, ?_, fun t ht => ?_, by omega, ((c6.trans (u78.below (by omega) (fun k h => by omega))).trans (us.below (by omega) (fun k h => by omega))).trans (hs.below (by omega) (fun k h => by omega))⟩
      · rw [hl9, List.map_set]
        exact (Hset.out.keep hs (fun k h e => by omega)).reads
      · rcases List.mem_or_eq_of_mem_set ht with h | rfl
        · exact HOZ.out t h
        · omega
    · have hsl : (1 : Int) ≤ 250 := by omega
      have hcap' : (250 : Int) ≤ (hc : Int) := by omega
      go_wp2
      have hs := upd_set2 w6 w.heap.size 0 1 (.slice ao kept.length ca) (.slice ao' wait.length ca')
      refine bodyPost_ret (v := .tuple #[.agg #[.slice ao kept.length ca, .slice ao' wait.length ca'], .slice (some ⟨gh, 1, none⟩) 249 (hc - 1)]) (by simp [results, Tryd.results27, go_sem, x0, x1]) rfl ?_
      have hl9 : (out.drop 1).length = 249 := by rw [List.length_drop, HOL.out]
      refine ⟨_, kept, wait, some ⟨gh, 1, none⟩, hc - 1, out.drop 1, by rw [hl9], (d6.keep hs (fun k h e => by omega)).mono (fun k _ h => by omega), DR.out, RowR.drop1 (r6.keep hs (fun k h e => by omega)).reads HOL.out, fun s hs => HOZ.out s (List.mem_of_mem_drop hs), by omega, c6.trans (hs.below (by omega) (fun k h => by omega))⟩
    · clear t0 t1 tl x0 x1 xl x2 x3
      go_wp2
      go_loopw [9] (fun iv wr => ∃ (k : Nat) (os : List ByteArray), k ≤ 250 ∧ iv = .int .i64 k ∧ os.length = 250 ∧ (∀ s ∈ os, s.size ≤ 9223372036854775807) ∧ Row wr 9 1 (fun k => w3.heap.size ≤ k) (.slice (some ⟨gh, 0, none⟩) 250 hc) 250 (os.map Value.string) ∧ Upd (fun k => k = gh) w6 wr) (fun iv _ => 250 - (intOf iv).toNat)
      case atStart => exact ⟨0, out, Nat.zero_le _, rfl, HOL.out, HOZ.out, r6, Upd.refl _ _⟩
      case round =>
        obtain ⟨k, os, hk, rfl, hosl, hosz, hrow, hup⟩ := hrel
        have OSL := hide hosl
        have OSZ := hide hosz
        have zu := hup.size
        clear hosl hosz
        by_cases hlt : k < 250
        · have hlt' : (k : Int) < 250 := by omega
          obtain ⟨gh', ch', u9, ev, hgS', hgl', hcu, -, hfu, hset⟩ := hrow.at k hlt
          simp only [Value.slice.injEq, Option.some.injEq, Addr.mk.injEq, and_true, true_and] at ev
          obtain ⟨rfl, rfl⟩ := ev
          have Hset := hide (hset (.string ⟨#[97, 108, 108]⟩))
          clear hset
          go_wp2
          go_roundw
          case rel =>
            refine ⟨k + 1, os.set k ⟨#[97, 108, 108]⟩, by omega, by go_num, by rw [List.length_set]; exact OSL.out, fun t ht => ?_, by rw [List.map_set]; exact Hset.out, hup.trans (Upd.setCell _ _ _ _ rfl)⟩
            rcases List.mem_or_eq_of_mem_set ht with h | rfl
            · exact OSZ.out t h
            · show (3 : Nat) ≤ _; omega
          case measure => simp [intOf]; omega
        · have hlt' : ¬ (k : Int) < 250 := by omega
          have K0 := hide (hup.keeps G0.out (by omega))
          obtain ⟨t0, t1, tl⟩ := box2 (hup.keeps G2.out (by omega))
          obtain ⟨x0, x1, xl⟩ := box2 K0.out
          obtain ⟨x2, x3⟩ := box2f K0.out
          have d9 := d6.keep hup (fun k h e => by omega)
          go_wp2
          have hs := upd_set2 wr w.heap.size 0 1 (.slice ao kept.length ca) (.slice ao' wait.length ca')
          refine bodyPost_ret (v := .tuple #[.agg #[.slice ao kept.length ca, .slice ao' wait.length ca'], .slice (some ⟨gh, 0, none⟩) 250 hc]) (by simp [results, Tryd.results27, go_sem, x0, x1]) rfl ?_
          refine ⟨_, kept, wait, some ⟨gh, 0, none⟩, hc, os, by rw [OSL.out], (d9.keep hs (fun k h e => by omega)).mono (fun k _ h => by omega), DR.out, by rw [OSL.out]; exact (hrow.keep hs (fun k h e => by omega)).reads, OSZ.out, by rw [OSL.out]; omega, (c6.trans (hup.below (by omega) (fun k h => by omega))).trans (hs.below (by omega) (fun k h => by omega))⟩
    · have e0 : ((q6 : Int) == 0) = false := by simp only [beq_eq_false_iff_ne, ne_eq]; omega
      have e1 : ((q6 : Int) == 1) = false := by simp only [beq_eq_false_iff_ne, ne_eq]; omega
      have e2 : ((q6 : Int) == 2) = false := by simp only [beq_eq_false_iff_ne, ne_eq]; omega
      go_wp2
      have hs := upd_set2 w6 w.heap.size 0 1 (.slice ao kept.length ca) (.slice ao' wait.length ca')
      refine bodyPost_ret (v := .tuple #[.agg #[.slice ao kept.length ca, .slice ao' wait.length ca'], .slice (some ⟨gh, 0, none⟩) 250 hc]) (by simp [results, Tryd.results27, go_sem, x0, x1]) rfl ?_
      refine ⟨_, kept, wait, some ⟨gh, 0, none⟩, hc, out, by rw [HOL.out], (d6.keep hs (fun k h e => by omega)).mono (fun k _ h => by omega), DR.out, by rw [HOL.out]; exact (r6.keep hs (fun k h e => by omega)).reads, HOZ.out, by rw [HOL.out]; omega, c6.trans (hs.below (by omega) (fun k h => by omega))⟩

end Go.Proofs.YtapflnabiobonaaDoor

/- What the law FnWalDone does: its walk; the statement itself is proved elsewhere. -/
namespace Go.Proofs.YtapflnabiobonaaDoor
open Go.RowKit

theorem bytes_empty {s : ByteArray} (h : s.size = 0) : s = ⟨#[]⟩ := by
  cases s with | mk a =>
  have : a = #[] := Array.eq_empty_of_size_eq_zero h
  rw [this]

set_option maxRecDepth 100000 in
set_option maxHeartbeats 4000000 in
theorem lawWalDone_walk (bo : Option Addr) (n cap : Nat) (bs : List Nat) (w : World) (hg : ErrVar w) (h : BytesIn w bo n cap bs) :
    Calls Tryd.prog 6 #[.slice bo n cap] w fun e w' => e = .returned (.bool true) ∧ Below w.heap.size w w' := by
  by_cases hb1 : (n : Int) > 1048576
  · go_enter Tryd.func6, Tryd.ntmps6
    go_wp2
    go_ret
    exact ⟨rfl, Below.refl _ _⟩
  have HB := hide h
  have Hg := hide hg
  clear h hg
  go_enter Tryd.func6, Tryd.ntmps6
  go_wp2_with fail
  refine (drawWalSteps_any w bo n cap bs HB.out (by omega)).mono ?_
  rintro e w1 ⟨v1, kept, wait, ho, hc, hs, rfl, d1, dr, rh, hhz, hhl, b1⟩
  obtain ⟨ao, ca, ao', ca', rfl⟩ := d1.shapeO
  have al1 : Below w1.heap.size w1 (w1.alloc (.cells #[.slice ao kept.length ca, .slice ao' wait.length ca'] 31)) := (Below.refl _ _).alloc (Nat.le_refl _) _
  have X := hide (al1_0 w1 (.cells #[.slice ao kept.length ca, .slice ao' wait.length ca'] 31))
  have c1 := bAll b1 al1
  have hd := d1.reads.keep al1
  have RH := hide (rh.keep al1)
  have HSS := fun w h hx => specWalSteps_any (.agg #[.slice ao kept.length ca, .slice ao' wait.length ca']) ho hc hs kept wait w h hx hhz dr.ks dr.ws
  have HSI := fun w hg h hx => implWalStepsC_any (.agg #[.slice ao kept.length ca, .slice ao' wait.length ca']) ho hc hs kept wait w hg h hx hhz dr.ks dr.ws
  have HDO := fun so sc xs w h hx hc hz => implWalDo_any (.agg #[.slice ao kept.length ca, .slice ao' wait.length ca']) kept wait so none sc 0 xs false 0 [] w h hx hc hz (RowR.nil _ _) dr.ks dr.ws
  simp only [List.length_nil] at HDO
  have hTl := stepsL_len kept wait hs
  have hTz := stepsL_small kept wait hs
  have hfact : Hid (stepsB kept wait hs = true → _) := fun hb => done_fact (dr.win (stepsB_parts hb).1) hb
  have hno : Hid (stepsB kept wait hs = false → stepsL kept wait hs = []) := stepsL_no
  obtain ⟨T, hT⟩ : ∃ T, stepsL kept wait hs = T := ⟨_, rfl⟩
  obtain ⟨O, hO⟩ : ∃ O, stepsB kept wait hs = O := ⟨_, rfl⟩
  simp only [hT, hO] at HSS HSI
  rw [hT] at hTl hTz
  have HF : Hid (O = true → WInv (doR kept wait T false 0 []).1 (doR kept wait T false 0 []).2 ∧ readB (doR kept wait T false 0 []).1 (doR kept wait T false 0 []).2 = true ∧ readH (doR kept wait T false 0 []).1 (doR kept wait T false 0 []).2 = hs ∧ (sign0 (flushK (doR kept wait T false 0 []).1 (doR kept wait T false 0 []).2)).size = 0 ∧ (T ≠ [] → (doR kept wait T false 0 []).2 = [])) := by
    intro ho
    have h2 := hfact.out (hO.trans ho)
    simp only [hT] at h2
    exact h2
  have HN : Hid (O = false → T = []) := fun ho => by rw [← hT]; exact hno.out (hO.trans ho)
  have HTZ := hide hTz
  clear hfact hno hT hO d1 rh hTz hhz
  obtain ⟨t0, t1, tl⟩ := box2 X.out
  go_wp2_with fail
  refine (HSS _ hd RH.out).mono ?_
  rintro e w2 ⟨v2, rfl, r2, b2⟩
  obtain ⟨so2, sc2, rfl⟩ := r2.shape
  have c2 := bAll c1 b2
  replace hd := hd.keep b2
  replace RH := hide (RH.out.keep b2)
  have R2 := hide r2.reads
  clear t0 t1 tl r2
  obtain ⟨t0, t1, tl⟩ := box2 (bKeeps b2 X.out)
  go_wp2_with fail
  refine (HSI _ (errVar_keep Hg.out c2) hd RH.out).mono ?_
  rintro e w4 ⟨v4, rfl, r4, b4, so4, sc4, rfl, hcap4⟩
  have c4 := bAll c2 b4
  replace hd := hd.keep b4
  replace RH := hide (RH.out.keep b4)
  replace R2 := hide (R2.out.keep b4)
  have R4 := hide r4.reads
  have X4 := hide (bKeeps b4 (bKeeps b2 X.out))
  clear t0 t1 tl r4 HSS HSI
  cases O
  · have hT0 := HN.out rfl
    subst hT0
    simp only [List.length_nil]
    go_wp2
    refine wp_loop_rounds 1 ?_
    rw [rounds_succ]
    go_wp2
    go_ret
    exact ⟨rfl, c4⟩
  · go_wp2
    go_loopw [9] (fun iv wr => ∃ k : Nat, k ≤ T.length ∧ iv = .int .i64 k ∧ Below w4.heap.size w4 wr) (fun iv _ => T.length - (intOf iv).toNat)
    case atStart => exact ⟨0, Nat.zero_le _, rfl, Below.refl _ _⟩
    case round =>
      obtain ⟨k, hk, rfl, hbel⟩ := hrel
      by_cases hlt : k < T.length
      · obtain ⟨⟨f, a, s⟩, hx⟩ := getAt T k hlt
        obtain ⟨_, _, ev, _, _, q2⟩ := R2.out
        simp only [Value.slice.injEq, true_and] at ev
        obtain ⟨rfl, rfl⟩ := ev
        obtain ⟨_, _, ev, _, _, q4⟩ := R4.out
        simp only [Value.slice.injEq, true_and] at ev
        obtain ⟨rfl, rfl⟩ := ev
        obtain ⟨b2', o2, rfl, hc2⟩ := q2 (by omega)
        obtain ⟨b4', o4, rfl, hc4⟩ := q4 (by omega)
        obtain ⟨f1, f2, f3, fl⟩ := step_cells hc2 hx hbel
        obtain ⟨g1, g2, g3, gl⟩ := step_cells hc4 hx hbel
        have hi : (k : Int) < (T.length : Int) := by omega
        clear hc2 hc4 q2 q4 hx
        simp only at f1 f2 f3 g1 g2 g3
        go_wp2
        go_region
        all_goals
          go_wp2
          go_roundw
          case rel => exact ⟨k + 1, by omega, by go_num, hbel.trans ((Below.refl _ _).drew)⟩
          case measure => simp [intOf]; omega
      · have hi : ¬ (k : Int) < (T.length : Int) := by omega
        obtain ⟨f1, f2, f3, f4, f5⟩ := HF.out (by trivial)
        have HD4 := hide (HDO so4 sc4 T wr (hd.keep hbel) (R4.out.keep hbel) hcap4 (fun x hx => by have := HTZ.out x hx; omega))
        obtain ⟨⟨K, Y⟩, hKY⟩ : ∃ r, doR kept wait T false 0 [] = r := ⟨_, rfl⟩
        rw [hKY] at HD4 f1 f2 f3 f4 f5
        dsimp only at HD4 f1 f2 f3 f4 f5
        obtain ⟨bk, bw⟩ := ok_big f1.1
        have HRI := fun w v hg h => implWalRead_any v K Y w hg h bk bw
        have HLI := fun w v h => implSecLook_any v K Y 0 w h bk bw
        rw [look0 (read_form f2), bytes_empty f4] at HLI
        simp only [f2, f3] at HRI
        have F5 := hide f5
        have XR := hide (bKeeps hbel X4.out)
        have cr := bAll c4 hbel
        replace RH := hide (RH.out.keep hbel)
        clear hKY HF HN HDO f2 f3 f4 f5 hbel
        obtain ⟨t0, t1, tl⟩ := box2 XR.out
        go_wp2_with fail
        refine (unhide HD4).mono ?_
        rintro e w5 ⟨v5, rfl, d5, b5⟩
        obtain ⟨jo, jc, jo', jc', rfl⟩ := d5.shapeO
        have al5 : Below w5.heap.size w5 (w5.alloc (.cells #[.slice jo K.length jc, .slice jo' Y.length jc'] 31)) := (Below.refl _ _).alloc (Nat.le_refl _) _
        have X5 := hide (al1_0 w5 (.cells #[.slice jo K.length jc, .slice jo' Y.length jc'] 31))
        have c5 := bAll (bAll cr b5) al5
        have hd5 := d5.reads.keep al5
        replace RH := hide ((RH.out.keep b5).keep al5)
        clear t0 t1 tl HD4 d5
        go_wp2_with fail
        refine (HRI _ _ (errVar_keep Hg.out c5) hd5).mono ?_
        rintro e w6 ⟨v6, rfl, r6, b6⟩
        obtain ⟨so6, sc6, rfl⟩ := r6.shape
        have c6 := bAll c5 b6
        have RN := hide r6.reads
        replace RH := hide (RH.out.keep b6)
        replace hd5 := hd5.keep b6
        clear r6
        go_wp2_with fail
        refine (lpTexts_true _ _ hs.length hs _ RN.out RH.out).mono ?_
        rintro e w7 ⟨rfl, b7⟩
        have c7 := bAll c6 b7
        replace hd5 := hd5.keep b7
        obtain ⟨t0, t1, tl⟩ := box2 (bKeeps b7 (bKeeps b6 X5.out))
        by_cases hT0 : T.length = 0
        · have hT0' : ((T.length : Int) == 0) = true := by simp only [beq_iff_eq]; omega
          clear hT0
          go_wp2
          go_ret
          exact ⟨rfl, c7⟩
        · have hT0' : ((T.length : Int) == 0) = false := by simp only [beq_eq_false_iff_ne, ne_eq]; omega
          have hY := F5.out (fun e => hT0 (by rw [e]; rfl))
          subst hY
          simp only [List.length_nil] at hd5 t1 ⊢
          have HL7 := hide (HLI w7 _ hd5)
          clear hT0 HLI HRI
          go_wp2_with fail
          refine (unhide HL7).mono ?_
          rintro e w8 ⟨rfl, b8⟩
          go_wp2
          go_ret
          exact ⟨rfl, bAll c7 b8⟩

end Go.Proofs.YtapflnabiobonaaDoor

/- What the law FnWalTwice does: its walk; the statement itself is proved elsewhere. -/
namespace Go.Proofs.YtapflnabiobonaaDoor
open Go.RowKit

set_option maxRecDepth 100000 in
set_option maxHeartbeats 4000000 in
theorem lawWalTwice_walk (bo : Option Addr) (n cap : Nat) (bs : List Nat) (bo' : Option Addr) (n' cap' : Nat) (bs' : List Nat) (w : World) (hg : ErrVar w) (h : BytesIn w bo n cap bs) (h' : BytesIn w bo' n' cap' bs') :
    Calls Tryd.prog 8 #[.slice bo n cap, .slice bo' n' cap'] w fun e w' => e = .returned (.bool true) ∧ Below w.heap.size w w' := by
  by_cases hb1 : (n : Int) > 1048576
  · go_enter Tryd.func8, Tryd.ntmps8
    go_wp2
    go_ret
    exact ⟨rfl, Below.refl _ _⟩
  by_cases hb2 : (n' : Int) > 1048576
  · go_enter Tryd.func8, Tryd.ntmps8
    go_wp2
    go_ret
    exact ⟨rfl, Below.refl _ _⟩
  have HB := hide h
  have HB' := hide h'
  have Hg := hide hg
  clear h h' hg
  go_enter Tryd.func8, Tryd.ntmps8
  go_wp2_with fail
  refine (drawWalSteps_any w bo n cap bs HB.out (by omega)).mono ?_
  rintro e w1 ⟨v1, kept, wait, ho, hc, hs, rfl, d1, dr, rh, hhz, hhl, b1⟩
  obtain ⟨ao, ca, ao', ca', rfl⟩ := d1.shapeO
  have al1 : Below w1.heap.size w1 (w1.alloc (.cells #[.slice ao kept.length ca, .slice ao' wait.length ca'] 31)) := (Below.refl _ _).alloc (Nat.le_refl _) _
  have X := hide (al1_0 w1 (.cells #[.slice ao kept.length ca, .slice ao' wait.length ca'] 31))
  have c1 := bAll b1 al1
  have hd := d1.reads.keep al1
  have RH := hide (rh.keep al1)
  clear d1 rh
  go_wp2_with fail
  refine (drawWalSteps_any _ bo' n' cap' bs' (HB'.out.keep c1) (by omega)).mono ?_
  rintro e w1b ⟨v1b, kept2, wait2, po, pc, os, rfl, d1b, -, ro, hoz, hol, b1b⟩
  obtain ⟨zo, za, zo', za', rfl⟩ := d1b.shapeO
  have al1b : Below w1b.heap.size w1b (w1b.alloc (.cells #[.slice zo kept2.length za, .slice zo' wait2.length za'] 31)) := (Below.refl _ _).alloc (Nat.le_refl _) _
  have bb := bAll b1b al1b
  replace c1 := bAll c1 bb
  replace hd := hd.keep bb
  replace X := hide (bKeeps bb X.out)
  replace RH := hide (RH.out.keep bb)
  have RO := hide (ro.keep al1b)
  have HSS := fun w h hx => specWalSteps_any (.agg #[.slice ao kept.length ca, .slice ao' wait.length ca']) ho hc hs kept wait w h hx hhz dr.ks dr.ws
  have HSI := fun w hg h hx => implWalStepsC_any (.agg #[.slice ao kept.length ca, .slice ao' wait.length ca']) ho hc hs kept wait w hg h hx hhz dr.ks dr.ws
  have HDO := fun so sc xs w h hx hc hz => implWalDo_any (.agg #[.slice ao kept.length ca, .slice ao' wait.length ca']) kept wait so none sc 0 xs false 0 [] w h hx hc hz (RowR.nil _ _) dr.ks dr.ws
  simp only [List.length_nil] at HDO
  have hTl := stepsL_len kept wait hs
  have hTz := stepsL_small kept wait hs
  have hfact : Hid (stepsB kept wait hs = true → fitB hs = true ∧ _) := fun hb => ⟨(stepsB_parts hb).2.2, done_fact (dr.win (stepsB_parts hb).1) hb⟩
  have hno : Hid (stepsB kept wait hs = false → stepsL kept wait hs = []) := stepsL_no
  obtain ⟨T, hT⟩ : ∃ T, stepsL kept wait hs = T := ⟨_, rfl⟩
  obtain ⟨O, hO⟩ : ∃ O, stepsB kept wait hs = O := ⟨_, rfl⟩
  simp only [hT, hO] at HSS HSI
  rw [hT] at hTl hTz
  have HF : Hid (O = true → fitB hs = true ∧ WInv (doR kept wait T false 0 []).1 (doR kept wait T false 0 []).2 ∧ readB (doR kept wait T false 0 []).1 (doR kept wait T false 0 []).2 = true ∧ readH (doR kept wait T false 0 []).1 (doR kept wait T false 0 []).2 = hs ∧ (sign0 (flushK (doR kept wait T false 0 []).1 (doR kept wait T false 0 []).2)).size = 0 ∧ (T ≠ [] → (doR kept wait T false 0 []).2 = [])) := by
    intro ho
    have h2 := hfact.out (hO.trans ho)
    simp only [hT] at h2
    exact h2
  have HN : Hid (O = false → T = []) := fun ho => by rw [← hT]; exact hno.out (hO.trans ho)
  have HTZ := hide hTz
  clear hfact hno hT hO hTz d1b ro
  obtain ⟨t0, t1, tl⟩ := box2 X.out
  go_wp2_with fail
  refine (HSS _ hd RH.out).mono ?_
  rintro e w2 ⟨v2, rfl, r2, b2⟩
  obtain ⟨so2, sc2, rfl⟩ := r2.shape
  have c2 := bAll c1 b2
  replace hd := hd.keep b2
  replace RH := hide (RH.out.keep b2)
  replace RO := hide (RO.out.keep b2)
  clear t0 t1 tl r2
  obtain ⟨t0, t1, tl⟩ := box2 (bKeeps b2 X.out)
  go_wp2_with fail
  refine (HSI _ (errVar_keep Hg.out c2) hd RH.out).mono ?_
  rintro e w4 ⟨v4, rfl, r4, b4, so4, sc4, rfl, hcap4⟩
  have c4 := bAll c2 b4
  replace hd := hd.keep b4
  replace RH := hide (RH.out.keep b4)
  replace RO := hide (RO.out.keep b4)
  have R4 := hide r4.reads
  have X4 := hide (bKeeps b4 (bKeeps b2 X.out))
  clear t0 t1 tl r4 HSS HSI
  cases O
  · have hT0 := HN.out rfl
    subst hT0
    simp only [List.length_nil]
    go_wp2
    go_ret
    exact ⟨rfl, c4⟩
  · obtain ⟨f0, f1, f2, f3, f4, -⟩ := HF.out rfl
    have HD4 := hide (HDO so4 sc4 T w4 hd R4.out hcap4 (fun x hx => by have := HTZ.out x hx; omega))
    obtain ⟨⟨K, Y⟩, hKY⟩ : ∃ r, doR kept wait T false 0 [] = r := ⟨_, rfl⟩
    rw [hKY] at HD4 f1 f2 f3 f4
    dsimp only at HD4 f1 f2 f3 f4
    obtain ⟨bk, bw⟩ := ok_big f1.1
    have hag := again_fact f2 f4 (by rw [f3]; exact f0)
    rw [f3] at hag
    have HS1 := fun w v hg h hx => implWalStepsC_any v ho hc hs K Y w hg h hx hhz bk bw
    simp only [hag.1, hag.2, List.length_nil] at HS1
    have HS2 := fun w v hg h hx => implWalStepsC_any v po pc os K Y w hg h hx hoz bk bw
    have HD2 := fun v so sc xs w h hx hc hz => implWalDo_any v K Y so none sc 0 xs false 0 [] w h hx hc hz (RowR.nil _ _) bk bw
    simp only [List.length_nil] at HD2
    have hTl2 := stepsL_len K Y os
    have hTz2 := stepsL_small K Y os
    have hok2 := (doR_keeps f1.1 (xs := stepsL K Y os) (by omega) false 0 []).1
    have hf2 : Hid (stepsB K Y os = true → readB (doR K Y (stepsL K Y os) false 0 []).1 (doR K Y (stepsL K Y os) false 0 []).2 = true ∧ readH (doR K Y (stepsL K Y os) false 0 []).1 (doR K Y (stepsL K Y os) false 0 []).2 = os) := fun hb => by
      obtain ⟨-, g2, g3, -⟩ := done_fact f1 hb
      exact ⟨g2, g3⟩
    obtain ⟨T2, hT2⟩ : ∃ T2, stepsL K Y os = T2 := ⟨_, rfl⟩
    obtain ⟨O2, hO2⟩ : ∃ O2, stepsB K Y os = O2 := ⟨_, rfl⟩
    obtain ⟨⟨K2, Y2⟩, hKY2⟩ : ∃ r, doR K Y T2 false 0 [] = r := ⟨_, rfl⟩
    simp only [hT2, hO2] at HS2
    rw [hT2] at hTl2 hTz2 hok2 hf2
    rw [hO2] at hf2
    rw [hKY2] at hok2 hf2
    dsimp only at hok2 hf2
    have HKY2 := hide hKY2
    obtain ⟨bk2, bw2⟩ := ok_big hok2
    have HR2 := fun w v hg h => implWalRead_any v K2 Y2 w hg h bk2 bw2
    have HTZ2 := hide hTz2
    clear hKY HF HN HDO f0 f1 f2 f3 f4 hag hT2 hO2 hKY2 hTz2
    obtain ⟨t0, t1, tl⟩ := box2 X4.out
    go_wp2_with fail
    refine (unhide HD4).mono ?_
    rintro e w5 ⟨v5, rfl, d5, b5⟩
    obtain ⟨jo, jc, jo', jc', rfl⟩ := d5.shapeO
    have al5 : Below w5.heap.size w5 (w5.alloc (.cells #[.slice jo K.length jc, .slice jo' Y.length jc'] 31)) := (Below.refl _ _).alloc (Nat.le_refl _) _
    have X5 := hide (al1_0 w5 (.cells #[.slice jo K.length jc, .slice jo' Y.length jc'] 31))
    have b45 := bAll b5 al5
    have c5 := bAll c4 b45
    have hd5 := d5.reads.keep al5
    replace RH := hide (RH.out.keep b45)
    replace RO := hide (RO.out.keep b45)
    clear t0 t1 tl HD4 d5
    go_wp2_with fail
    refine (HS1 _ _ (errVar_keep Hg.out c5) hd5 RH.out).mono ?_
    rintro e w6 ⟨v6, rfl, r6, b6, so6, sc6, rfl, -⟩
    have c6 := bAll c5 b6
    replace RO := hide (RO.out.keep b6)
    replace hd5 := hd5.keep b6
    obtain ⟨t0, t1, tl⟩ := box2 (bKeeps b6 X5.out)
    clear r6
    go_wp2_with fail
    refine (HS2 _ _ (errVar_keep Hg.out c6) hd5 RO.out).mono ?_
    rintro e w7 ⟨v7, rfl, r7, b7, so7, sc7, rfl, hcap7⟩
    have c7 := bAll c6 b7
    replace RO := hide (RO.out.keep b7)
    replace hd5 := hd5.keep b7
    have HD7 := hide (HD2 _ so7 sc7 T2 w7 hd5 r7.reads hcap7 (fun x hx => by have := HTZ2.out x hx; omega))
    rw [HKY2.out] at HD7
    dsimp only at HD7
    clear t0 t1 tl r7
    obtain ⟨t0, t1, tl⟩ := box2 (bKeeps b7 (bKeeps b6 X5.out))
    go_wp2_with fail
    refine (unhide HD7).mono ?_
    rintro e w8 ⟨v8, rfl, d8, b8⟩
    obtain ⟨ko, kc, ko', kc', rfl⟩ := d8.shapeO
    have c8 := bAll c7 b8
    replace RO := hide (RO.out.keep b8)
    clear t0 t1 tl HD7
    cases O2
    · go_wp2_with fail
      refine (HR2 _ _ (errVar_keep Hg.out c8) d8.reads).mono ?_
      rintro e w9 ⟨v9, rfl, r9, b9⟩
      obtain ⟨mo, mc, rfl⟩ := r9.shape
      clear r9
      go_wp2
      go_ret
      exact ⟨rfl, bAll c8 b9⟩
    · obtain ⟨g2, g3⟩ := hf2.out rfl
      simp only [g2, g3] at HR2
      clear g2 g3
      go_wp2_with fail
      refine (HR2 _ _ (errVar_keep Hg.out c8) d8.reads).mono ?_
      rintro e w9 ⟨v9, rfl, r9, b9⟩
      obtain ⟨mo, mc, rfl⟩ := r9.shape
      have RN := hide r9.reads
      clear r9
      go_wp2_with fail
      refine (lpTexts_true _ _ os.length os _ RN.out (RO.out.keep b9)).mono ?_
      rintro e w10 ⟨rfl, b10⟩
      go_wp2
      go_ret
      exact ⟨rfl, bAll c8 (bAll b9 b10)⟩

end Go.Proofs.YtapflnabiobonaaDoor
