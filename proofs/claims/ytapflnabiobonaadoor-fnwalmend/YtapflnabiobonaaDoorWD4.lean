/- Drawn disks with transactions, some spoilt: contracts; no statement of the seat is proved here. -/
import Derived.Test.YtapflnabiobonaaDoorWD3
namespace Go.Proofs.YtapflnabiobonaaDoor
open Go.RowKit

theorem DiskO.set0 {w : World} {S : Nat → Prop} {ao ao' : Option Addr} {ca ca' : Nat} {kept : List ByteArray} {wait : List (Int × ByteArray)} (h : DiskO w S (.agg #[.slice ao kept.length ca, .slice ao' wait.length ca']) kept wait) (i : Nat) (hi : i < kept.length) :
    ∃ g, ao = some ⟨g, 0, none⟩ ∧ S g ∧ g < w.heap.size ∧ (∃ u, w.cell? ⟨g, i, none⟩ = some u) ∧ w.frozen? ⟨g, i, none⟩ = false ∧ typed w S 9 g ∧ ∀ s : ByteArray, DiskO (w.setCell ⟨g, i, none⟩ (.string s)) S (.agg #[.slice ao (kept.set i s).length ca, .slice ao' wait.length ca']) (kept.set i s) wait := by
  obtain ⟨vk, vw, e, a1, a2⟩ := h
  simp only [Value.agg.injEq, Array.mk.injEq, List.cons.injEq, and_true] at e
  obtain ⟨rfl, rfl⟩ := e
  obtain ⟨g, cap, u, ev, hS, hl, hc, -, hf, hset⟩ := a1.at i hi
  simp only [Value.slice.injEq, true_and] at ev
  obtain ⟨rfl, rfl⟩ := ev
  have hty : typed w S 9 g := by
    obtain ⟨_, _, ev, _, _, h3⟩ := a1
    obtain ⟨g', cur, rfl, hS', hh, _⟩ := h3 (by omega)
    simp only [Value.slice.injEq, Option.some.injEq, Addr.mk.injEq, and_true, true_and] at ev
    obtain ⟨rfl, -⟩ := ev
    exact ⟨hS, cur, hh⟩
  refine ⟨g, rfl, hS, hl, ⟨u, hc⟩, hf, hty, fun s => ⟨_, _, rfl, ?_, ?_⟩⟩
  · rw [List.length_set, List.map_set]
    exact hset (.string s)
  · exact (a2.typed.keep (Upd.setCell (S := fun k => k = g) w g i (.string s) rfl) (fun k ht e => by subst e; exact typed_apart (by decide) _ hty ht)).mono (fun k _ h => h.1)

set_option maxRecDepth 100000 in
set_option maxHeartbeats 8000000 in
theorem l72WalAny_any (w0 w : World) (R p : Nat) (hr : Rd w0 w R p) (hp : p ≤ 400000) :
    Calls Tryd.prog 53 #[.pointer (some ⟨R, 0, none⟩)] w fun e w' => ∃ v kept wait p', e = .returned v ∧ DiskO w' (fun k => w.heap.size ≤ k) v kept wait ∧ Drawn kept wait ∧ Rd w0 w' R p' ∧ p' ≤ p + 600 ∧ Upd (fun j => j = R) w w' := by
  obtain ⟨hRl, hR0, hw0⟩ := hr.lt
  have al0 : Below w.heap.size w (w.alloc (.cells #[.slice none 0 0, .slice none 0 0] 31)) := (Below.refl _ _).alloc (Nat.le_refl _) _
  have H0 := hide (al1_0 w (.cells #[.slice none 0 0, .slice none 0 0] 31))
  have rd0 := hr.keepB al0
  go_enter Tryd.func53, Tryd.ntmps53
  go_wp2_with fail
  refine (l72Wal_any w0 _ R p rd0 (by omega)).mono ?_
  rintro e w1 ⟨v1, kept, wait, p1, rfl, d1, iv1, rd1, hp1, u1⟩
  obtain ⟨ao, ca, ao', ca', rfl⟩ := d1.shapeO
  simp only [World.size_alloc] at d1
  have U1 : Upd (fun j => j = R) w w1 := (Upd.ofBelow al0).trans u1
  have z1 := u1.size
  simp only [World.size_alloc] at z1
  replace H0 := hide (u1.keeps H0.out (by omega))
  have al2 : Below w1.heap.size w1 (w1.alloc (.cells #[.slice ao kept.length ca, .slice ao' wait.length ca'] 31)) := (Below.refl _ _).alloc (Nat.le_refl _) _
  have H2 := hide (al1_0 w1 (.cells #[.slice ao kept.length ca, .slice ao' wait.length ca'] 31))
  have rd2 := rd1.keepB al2
  have d2 := d1.keepB al2
  replace H0 := hide (bKeeps al2 H0.out)
  clear d1 rd0 rd1
  go_wp2_with fail
  refine (pick_any w0 _ R p1 12 rd2 (by omega) (by omega) (by omega)).mono ?_
  rintro e w2 ⟨q2, rfl, hq2, rd3, u2⟩
  have U2 : Upd (fun j => j = R) w w2 := (U1.trans (Upd.ofBelow al2)).trans u2
  have z2 := u2.size
  simp only [World.size_alloc] at z2
  replace H0 := hide (u2.keeps H0.out (by omega))
  replace H2 := hide (u2.keeps H2.out (by omega))
  have d3 := (d2.keep u2 (fun k h e => by omega))
  clear d2 rd2
  obtain ⟨t0, t1, tl⟩ := box2 H2.out
  obtain ⟨t2, t3⟩ := box2f H2.out
  obtain ⟨x0, x1, xl⟩ := box2 H0.out
  obtain ⟨x2, x3⟩ := box2f H0.out
  have h501 := iv1.2.1
  have hk0 : (0 : Int) < (kept.length : Int) := by omega
  have hk1 : (1 : Int) < (kept.length : Int) := by omega
  have hk0n : 0 < kept.length := by omega
  have hk1n : 1 < kept.length := by omega
  have IV := hide iv1
  clear h501 iv1
  rcases (by omega : q2 = 0 ∨ q2 = 1 ∨ q2 = 2 ∨ 3 ≤ q2) with rfl | rfl | rfl | hq3
  · have Hof := fun h => ofN_any w0 ((w2.alloc (.cells #[.string ⟨#[1]⟩, .string ⟨#[255]⟩, .string ⟨#[97, 98]⟩, .string ⟨#[2]⟩, .string ⟨#[0]⟩] 9)).drew) R (p1 + 1) w2.heap.size 5 5 (rd3.keepB (((Below.refl _ _).alloc (Nat.le_refl _) _).drew)) (by omega) (by omega) (by omega) (by omega) (cells5 w2 _ _ _ _ _ 9 h)
    have HOF := hide (Hof (by intro s hs; simp only [List.mem_cons, List.not_mem_nil, or_false] at hs; rcases hs with rfl | rfl | rfl | rfl | rfl <;> decide))
    have al3 : Below w2.heap.size w2 ((w2.alloc (.cells #[.string ⟨#[1]⟩, .string ⟨#[255]⟩, .string ⟨#[97, 98]⟩, .string ⟨#[2]⟩, .string ⟨#[0]⟩] 9)).drew) := ((Below.refl _ _).alloc (Nat.le_refl _) _).drew
    obtain ⟨gk, rfl, hgS, hgl, -, -, hty, -⟩ := d3.set0 0 hk0n
    clear Hof
    go_wp2
    go_region_with (go_at_call 80; refine (unhide HOF).mono ?_; rintro e w4 ⟨s4, rfl, hs4, rd4, u4⟩; have u34 : Upd (fun j => j = R) w2 w4 := (Upd.ofBelow al3).trans u4; have y0 : w4.cell? ⟨w1.heap.size, 0, none⟩ = some (.slice (some ⟨gk, 0, none⟩) kept.length ca) := (World.cell?_of_block (a := ⟨w1.heap.size, 0, none⟩) (u34.block w1.heap.size tl (by omega))).trans t0; have y1 : w4.cell? ⟨w1.heap.size, 1, none⟩ = some (.slice ao' wait.length ca') := (World.cell?_of_block (a := ⟨w1.heap.size, 1, none⟩) (u34.block w1.heap.size tl (by omega))).trans t1; have d4 := d3.keep u34 (fun k h e => by omega); obtain ⟨g', eg, hgS', hgl', ⟨uu, hcc⟩, hff, hty', hset⟩ := d4.set0 0 hk0n; (simp only [Option.some.injEq, Addr.mk.injEq, and_true] at eg); obtain rfl := eg; have Hset := hide (hset s4))
    all_goals
      have z4 := u34.size
      have hkk := u34.keeps H2.out (by omega)
      have hne : ¬ w1.heap.size = gk := fun e => typed_box hkk (by decide) rfl (e ▸ hty')
      obtain ⟨W5, hW5⟩ : ∃ W5, W5 = w4.setCell ⟨gk, 0, none⟩ (.string s4) := ⟨_, rfl⟩
      have D5 := Hset.out
      have us : Upd (fun k => k = gk) w4 W5 := by rw [hW5]; exact Upd.setCell _ _ _ _ rfl
      rw [← hW5, List.length_set] at D5
      have z5 := us.size
      have B2 := us.keeps hkk hne
      have B0 := us.keeps (u34.keeps H0.out (by omega)) (by omega)
      rw [← hW5]
      clear hW5 y0 y1 t0 t1 tl t2 t3 x0 x1 xl x2 x3 hcc hff
      obtain ⟨t0, t1, tl⟩ := box2 B2
      obtain ⟨x0, x1, xl⟩ := box2 B0
      obtain ⟨x2, x3⟩ := box2f B0
      have K0 := hide B0
      clear B0 B2 hkk
      go_wp2
      have hs := upd_set2 W5 w.heap.size 0 1 (.slice (some ⟨gk, 0, none⟩) kept.length ca) (.slice ao' wait.length ca')
      refine bodyPost_ret (v := .agg #[.slice (some ⟨gk, 0, none⟩) kept.length ca, .slice ao' wait.length ca']) (by simp [results, Tryd.results53, go_sem, x0, x1]) rfl ⟨_, kept.set 0 s4, wait, p1 + 1 + 1, rfl, ?_, (IV.out.set 0 (by omega)).drawn, (rd4.keep us (by omega) (fun k h => by omega)).keep hs (by omega) (fun k h => by omega), by omega, (((U2.trans u34).transN us (fun k h => by omega))).transN hs (fun k h => by omega)⟩
      exact (D5.keep hs (fun k h e => by omega)).mono (fun k _ h => by omega)
  · have Hof := fun h => ofN_any w0 ((w2.alloc (.cells #[.string ⟨#[]⟩, .string ⟨#[255]⟩, .string ⟨#[5, 120, 121, 122]⟩] 9)).drew) R (p1 + 1) w2.heap.size 3 3 (rd3.keepB (((Below.refl _ _).alloc (Nat.le_refl _) _).drew)) (by omega) (by omega) (by omega) (by omega) (cells3 w2 _ _ _ 9 h)
    have HOF := hide (Hof (by intro s hs; simp only [List.mem_cons, List.not_mem_nil, or_false] at hs; rcases hs with rfl | rfl | rfl <;> decide))
    have al3 : Below w2.heap.size w2 ((w2.alloc (.cells #[.string ⟨#[]⟩, .string ⟨#[255]⟩, .string ⟨#[5, 120, 121, 122]⟩] 9)).drew) := ((Below.refl _ _).alloc (Nat.le_refl _) _).drew
    obtain ⟨gk, rfl, hgS, hgl, -, -, hty, -⟩ := d3.set0 1 hk1n
    clear Hof
    go_wp2
    go_region_with (go_at_call 80; refine (unhide HOF).mono ?_; rintro e w4 ⟨s4, rfl, hs4, rd4, u4⟩; have u34 : Upd (fun j => j = R) w2 w4 := (Upd.ofBelow al3).trans u4; have y0 : w4.cell? ⟨w1.heap.size, 0, none⟩ = some (.slice (some ⟨gk, 0, none⟩) kept.length ca) := (World.cell?_of_block (a := ⟨w1.heap.size, 0, none⟩) (u34.block w1.heap.size tl (by omega))).trans t0; have y1 : w4.cell? ⟨w1.heap.size, 1, none⟩ = some (.slice ao' wait.length ca') := (World.cell?_of_block (a := ⟨w1.heap.size, 1, none⟩) (u34.block w1.heap.size tl (by omega))).trans t1; have d4 := d3.keep u34 (fun k h e => by omega); obtain ⟨g', eg, hgS', hgl', ⟨uu, hcc⟩, hff, hty', hset⟩ := d4.set0 1 hk1n; (simp only [Option.some.injEq, Addr.mk.injEq, and_true] at eg); obtain rfl := eg; have Hset := hide (hset s4))
    all_goals
      have z4 := u34.size
      have hkk := u34.keeps H2.out (by omega)
      have hne : ¬ w1.heap.size = gk := fun e => typed_box hkk (by decide) rfl (e ▸ hty')
      obtain ⟨W5, hW5⟩ : ∃ W5, W5 = w4.setCell ⟨gk, 1, none⟩ (.string s4) := ⟨_, rfl⟩
      have D5 := Hset.out
      have us : Upd (fun k => k = gk) w4 W5 := by rw [hW5]; exact Upd.setCell _ _ _ _ rfl
      rw [← hW5, List.length_set] at D5
      have z5 := us.size
      have B2 := us.keeps hkk hne
      have B0 := us.keeps (u34.keeps H0.out (by omega)) (by omega)
      rw [← hW5]
      clear hW5 y0 y1 t0 t1 tl t2 t3 x0 x1 xl x2 x3 hcc hff
      obtain ⟨t0, t1, tl⟩ := box2 B2
      obtain ⟨x0, x1, xl⟩ := box2 B0
      obtain ⟨x2, x3⟩ := box2f B0
      have K0 := hide B0
      clear B0 B2 hkk
      go_wp2
      have hs := upd_set2 W5 w.heap.size 0 1 (.slice (some ⟨gk, 0, none⟩) kept.length ca) (.slice ao' wait.length ca')
      refine bodyPost_ret (v := .agg #[.slice (some ⟨gk, 0, none⟩) kept.length ca, .slice ao' wait.length ca']) (by simp [results, Tryd.results53, go_sem, x0, x1]) rfl ⟨_, kept.set 1 s4, wait, p1 + 1 + 1, rfl, ?_, (IV.out.set 1 (by omega)).drawn, (rd4.keep us (by omega) (fun k h => by omega)).keep hs (by omega) (fun k h => by omega), by omega, (((U2.trans u34).transN us (fun k h => by omega))).transN hs (fun k h => by omega)⟩
      exact (D5.keep hs (fun k h e => by omega)).mono (fun k _ h => by omega)
  · go_wp2_with fail
    refine (l72SecL_any w0 w2 R (p1 + 1) rd3 (by omega)).mono ?_
    rintro e w4 ⟨v4, K4, X4, p4, rfl, d4, sm4, rd4, hp4, u4⟩
    obtain ⟨jo, jc, jo', jc', rfl⟩ := d4.shape
    have D4 : DiskO w4 (fun k => w2.heap.size ≤ k) (.agg #[.slice jo K4.length jc, .slice jo' X4.length jc']) K4 X4 := by
      obtain ⟨vk, vw, e, a1, a2⟩ := d4
      exact ⟨vk, vw, e, a1.row (by have := sm4.sm.kl; omega), a2.row (by have := sm4.sm.wl; omega)⟩
    have z4 := u4.size
    have B2 := u4.keeps H2.out (by omega)
    have B0 := u4.keeps H0.out (by omega)
    clear t0 t1 tl t2 t3 x0 x1 xl x2 x3 d4
    obtain ⟨m0, m1, ml⟩ := box2 B2
    obtain ⟨m2, m3⟩ := box2f B2
    have hs4 := upd_set2 w4 w1.heap.size 0 1 (.slice jo K4.length jc) (.slice jo' X4.length jc')
    have k2 := row_set (j := 1) (.slice jo' X4.length jc') (row_set (j := 0) (.slice jo K4.length jc) B2)
    obtain ⟨W5, hW5⟩ : ∃ W5, W5 = (w4.setCell ⟨w1.heap.size, 0, none⟩ (.slice jo K4.length jc)).setCell ⟨w1.heap.size, 1, none⟩ (.slice jo' X4.length jc') := ⟨_, rfl⟩
    have B2' : W5.heap[w1.heap.size]? = some (.cells #[.slice jo K4.length jc, .slice jo' X4.length jc'] 31 (0, 0)) := by rw [hW5]; exact k2
    rw [← hW5] at hs4
    have B0' := hs4.keeps B0 (by omega)
    obtain ⟨x0, x1, xl⟩ := box2 B0'
    obtain ⟨x2, x3⟩ := box2f B0'
    obtain ⟨t0, t1, tl⟩ := box2 B2'
    have z5 := hs4.size
    clear B2 B0 k2 B0' B2'
    subst hW5
    go_wp2
    have hs := upd_set2 ((w4.setCell ⟨w1.heap.size, 0, none⟩ (.slice jo K4.length jc)).setCell ⟨w1.heap.size, 1, none⟩ (.slice jo' X4.length jc')) w.heap.size 0 1 (.slice jo K4.length jc) (.slice jo' X4.length jc')
    refine bodyPost_ret (v := .agg #[.slice jo K4.length jc, .slice jo' X4.length jc']) (by simp [results, Tryd.results53, go_sem, x0, x1]) rfl ⟨_, K4, X4, p4, rfl, ?_, sm4.drawn, (rd4.keep hs4 (by omega) (fun k h => by omega)).keep hs (by omega) (fun k h => by omega), by omega, ((U2.trans u4).transN hs4 (fun k h => by omega)).transN hs (fun k h => by omega)⟩
    exact ((D4.keep hs4 (fun k h e => by omega)).keep hs (fun k h e => by omega)).mono (fun k _ h => by omega)
  · have e0 : ((q2 : Int) == 0) = false := by simp only [beq_eq_false_iff_ne, ne_eq]; omega
    have e1 : ((q2 : Int) == 1) = false := by simp only [beq_eq_false_iff_ne, ne_eq]; omega
    have e2 : ((q2 : Int) == 2) = false := by simp only [beq_eq_false_iff_ne, ne_eq]; omega
    go_wp2
    have hs := upd_set2 w2 w.heap.size 0 1 (.slice ao kept.length ca) (.slice ao' wait.length ca')
    refine bodyPost_ret (v := .agg #[.slice ao kept.length ca, .slice ao' wait.length ca']) (by simp [results, Tryd.results53, go_sem, x0, x1]) rfl ⟨_, kept, wait, p1 + 1, rfl, ?_, IV.out.drawn, rd3.keep hs (by omega) (fun k h => by omega), by omega, U2.transN hs (fun k h => by omega)⟩
    exact (d3.keep hs (fun k h e => by omega)).mono (fun k _ h => by omega)

end Go.Proofs.YtapflnabiobonaaDoor
