/- Contracts and plain facts that the claims of this seat lean on (texts WD4, WD5, WC, Lp, WPMend, OkLaw, Arg); no statement of the seat is proved here. -/
import Derived.Test.YtapflnabiobonaaDoorPk15
import Derived.Test.YtapflnabiobonaaDoorPk11
import Derived.Test.YtapflnabiobonaaDoorPk1
import Derived.ProofKit
import Derived.OpenShut
import Derived.ShutString
import Derived.ChangeOld
import Derived.Below
import Derived.Lib.SmallJoins
import Derived.Deep.Strs
import Derived.Deep.SlicePairs

/- Drawn disks with transactions, some spoilt: contracts; no statement of the seat is proved here. -/
namespace Go.Proofs.YtapflnabiobonaaDoor
open Go.RowKit

theorem DiskO.set0 {w : World} {S : Nat → Prop} {ao ao' : Option Addr} {ca ca' : Nat} {kept : List ByteArray} {wait : List (Int × ByteArray)} (h : DiskO w S (.agg #[.slice ao kept.length ca, .slice ao' wait.length ca']) kept wait) (i : Nat) (hi : i < kept.length) :
    ∃ g, ao = some ⟨g, 0, none⟩ ∧ S g ∧ g < w.heap.size ∧ (∃ u, w.cell? ⟨g, i, none⟩ = some u) ∧ w.frozen? ⟨g, i, none⟩ = false ∧ typed w S 9 g ∧ ∀ s : ByteArray, DiskO (w.setCell ⟨g, i, none⟩ (.string s)) S (.agg #[.slice ao (kept.set i s).length ca, .slice ao' wait.length ca']) (kept.set i s) wait := by
  obtain ⟨vk, vw, e, a1, a2⟩ := h
  simp only [Value.agg.injEq, Array.mk.injEq, List.cons.injEq, and_true] at e
  obtain ⟨rfl, rfl⟩ := e
  obtain ⟨g, cap, u, ev, hS, hl, hc, -, hf, hset⟩ := a1.at i hi
  simp only [Value.slice.injEq, true_and] at ev
  obtain ⟨rfl, rfl⟩ := ev
  have hty : typed w S 9 g := by
    obtain ⟨_, _, ev, _, _, h3⟩ := a1
    obtain ⟨g', cur, rfl, hS', hh, _⟩ := h3 (by omega)
    simp only [Value.slice.injEq, Option.some.injEq, Addr.mk.injEq, and_true, true_and] at ev
    obtain ⟨rfl, -⟩ := ev
    exact ⟨hS, cur, hh⟩
  refine ⟨g, rfl, hS, hl, ⟨u, hc⟩, hf, hty, fun s => ⟨_, _, rfl, ?_, ?_⟩⟩
  · rw [List.length_set, List.map_set]
    exact hset (.string s)
  · exact (a2.typed.keep (Upd.setCell (S := fun k => k = g) w g i (.string s) rfl) (fun k ht e => by subst e; exact typed_apart (by decide) _ hty ht)).mono (fun k _ h => h.1)

set_option maxRecDepth 100000 in
set_option maxHeartbeats 8000000 in
theorem l72WalAny_any (w0 w : World) (R p : Nat) (hr : Rd w0 w R p) (hp : p ≤ 400000) :
    Calls Tryd.prog 53 #[.pointer (some ⟨R, 0, none⟩)] w fun e w' => ∃ v kept wait p', e = .returned v ∧ DiskO w' (fun k => w.heap.size ≤ k) v kept wait ∧ Drawn kept wait ∧ Rd w0 w' R p' ∧ p' ≤ p + 600 ∧ Upd (fun j => j = R) w w' := by
  obtain ⟨hRl, hR0, hw0⟩ := hr.lt
  have al0 : Below w.heap.size w (w.alloc (.cells #[.slice none 0 0, .slice none 0 0] 31)) := (Below.refl _ _).alloc (Nat.le_refl _) _
  have H0 := hide (al1_0 w (.cells #[.slice none 0 0, .slice none 0 0] 31))
  have rd0 := hr.keepB al0
  go_enter Tryd.func53, Tryd.ntmps53
  go_wp2_with fail
  refine (l72Wal_any w0 _ R p rd0 (by omega)).mono ?_
  rintro e w1 ⟨v1, kept, wait, p1, rfl, d1, iv1, rd1, hp1, u1⟩
  obtain ⟨ao, ca, ao', ca', rfl⟩ := d1.shapeO
  simp only [World.size_alloc] at d1
  have U1 : Upd (fun j => j = R) w w1 := (Upd.ofBelow al0).trans u1
  have z1 := u1.size
  simp only [World.size_alloc] at z1
  replace H0 := hide (u1.keeps H0.out (by omega))
  have al2 : Below w1.heap.size w1 (w1.alloc (.cells #[.slice ao kept.length ca, .slice ao' wait.length ca'] 31)) := (Below.refl _ _).alloc (Nat.le_refl _) _
  have H2 := hide (al1_0 w1 (.cells #[.slice ao kept.length ca, .slice ao' wait.length ca'] 31))
  have rd2 := rd1.keepB al2
  have d2 := d1.keepB al2
  replace H0 := hide (bKeeps al2 H0.out)
  clear d1 rd0 rd1
  go_wp2_with fail
  refine (pick_any w0 _ R p1 12 rd2 (by omega) (by omega) (by omega)).mono ?_
  rintro e w2 ⟨q2, rfl, hq2, rd3, u2⟩
  have U2 : Upd (fun j => j = R) w w2 := (U1.trans (Upd.ofBelow al2)).trans u2
  have z2 := u2.size
  simp only [World.size_alloc] at z2
  replace H0 := hide (u2.keeps H0.out (by omega))
  replace H2 := hide (u2.keeps H2.out (by omega))
  have d3 := (d2.keep u2 (fun k h e => by omega))
  clear d2 rd2
  obtain ⟨t0, t1, tl⟩ := box2 H2.out
  obtain ⟨t2, t3⟩ := box2f H2.out
  obtain ⟨x0, x1, xl⟩ := box2 H0.out
  obtain ⟨x2, x3⟩ := box2f H0.out
  have h501 := iv1.2.1
  have hk0 : (0 : Int) < (kept.length : Int) := by omega
  have hk1 : (1 : Int) < (kept.length : Int) := by omega
  have hk0n : 0 < kept.length := by omega
  have hk1n : 1 < kept.length := by omega
  have IV := hide iv1
  clear h501 iv1
  rcases (by omega : q2 = 0 ∨ q2 = 1 ∨ q2 = 2 ∨ 3 ≤ q2) with rfl | rfl | rfl | hq3
  · have Hof := fun h => ofN_any w0 ((w2.alloc (.cells #[.string ⟨#[1]⟩, .string ⟨#[255]⟩, .string ⟨#[97, 98]⟩, .string ⟨#[2]⟩, .string ⟨#[0]⟩] 9)).drew) R (p1 + 1) w2.heap.size 5 5 (rd3.keepB (((Below.refl _ _).alloc (Nat.le_refl _) _).drew)) (by omega) (by omega) (by omega) (by omega) (cells5 w2 _ _ _ _ _ 9 h)
    have HOF := hide (Hof (by intro s hs; simp only [List.mem_cons, List.not_mem_nil, or_false] at hs; rcases hs with rfl | rfl | rfl | rfl | rfl <;> decide))
    have al3 : Below w2.heap.size w2 ((w2.alloc (.cells #[.string ⟨#[1]⟩, .string ⟨#[255]⟩, .string ⟨#[97, 98]⟩, .string ⟨#[2]⟩, .string ⟨#[0]⟩] 9)).drew) := ((Below.refl _ _).alloc (Nat.le_refl _) _).drew
    obtain ⟨gk, rfl, hgS, hgl, -, -, hty, -⟩ := d3.set0 0 hk0n
    clear Hof
    go_wp2
    go_region_with (go_at_call 80; refine (unhide HOF).mono ?_; rintro e w4 ⟨s4, rfl, hs4, rd4, u4⟩; have u34 : Upd (fun j => j = R) w2 w4 := (Upd.ofBelow al3).trans u4; have y0 : w4.cell? ⟨w1.heap.size, 0, none⟩ = some (.slice (some ⟨gk, 0, none⟩) kept.length ca) := (World.cell?_of_block (a := ⟨w1.heap.size, 0, none⟩) (u34.block w1.heap.size tl (by omega))).trans t0; have y1 : w4.cell? ⟨w1.heap.size, 1, none⟩ = some (.slice ao' wait.length ca') := (World.cell?_of_block (a := ⟨w1.heap.size, 1, none⟩) (u34.block w1.heap.size tl (by omega))).trans t1; have d4 := d3.keep u34 (fun k h e => by omega); obtain ⟨g', eg, hgS', hgl', ⟨uu, hcc⟩, hff, hty', hset⟩ := d4.set0 0 hk0n; (simp only [Option.some.injEq, Addr.mk.injEq, and_true] at eg); obtain rfl := eg; have Hset := hide (hset s4))
    all_goals
      have z4 := u34.size
      have hkk := u34.keeps H2.out (by omega)
      have hne : ¬ w1.heap.size = gk := fun e => typed_box hkk (by decide) rfl (e ▸ hty')
      obtain ⟨W5, hW5⟩ : ∃ W5, W5 = w4.setCell ⟨gk, 0, none⟩ (.string s4) := ⟨_, rfl⟩
      have D5 := Hset.out
      have us : Upd (fun k => k = gk) w4 W5 := by rw [hW5]; exact Upd.setCell _ _ _ _ rfl
      rw [← hW5, List.length_set] at D5
      have z5 := us.size
      have B2 := us.keeps hkk hne
      have B0 := us.keeps (u34.keeps H0.out (by omega)) (by omega)
      rw [← hW5]
      clear hW5 y0 y1 t0 t1 tl t2 t3 x0 x1 xl x2 x3 hcc hff
      obtain ⟨t0, t1, tl⟩ := box2 B2
      obtain ⟨x0, x1, xl⟩ := box2 B0
      obtain ⟨x2, x3⟩ := box2f B0
      have K0 := hide B0
      clear B0 B2 hkk
      go_wp2
      have hs := upd_set2 W5 w.heap.size 0 1 (.slice (some ⟨gk, 0, none⟩) kept.length ca) (.slice ao' wait.length ca')
      refine bodyPost_ret (v := .agg #[.slice (some ⟨gk, 0, none⟩) kept.length ca, .slice ao' wait.length ca']) (by simp [results, Tryd.results53, go_sem, x0, x1]) rfl ⟨_, kept.set 0 s4, wait, p1 + 1 + 1, rfl, ?_, (IV.out.set 0 (by omega)).drawn, (rd4.keep us (by omega) (fun k h => by omega)).keep hs (by omega) (fun k h => by omega), by omega, (((U2.trans u34).transN us (fun k h => by omega))).transN hs (fun k h => by omega)⟩
      exact (D5.keep hs (fun k h e => by omega)).mono (fun k _ h => by omega)
  · have Hof := fun h => ofN_any w0 ((w2.alloc (.cells #[.string ⟨#[]⟩, .string ⟨#[255]⟩, .string ⟨#[5, 120, 121, 122]⟩] 9)).drew) R (p1 + 1) w2.heap.size 3 3 (rd3.keepB (((Below.refl _ _).alloc (Nat.le_refl _) _).drew)) (by omega) (by omega) (by omega) (by omega) (cells3 w2 _ _ _ 9 h)
    have HOF := hide (Hof (by intro s hs; simp only [List.mem_cons, List.not_mem_nil, or_false] at hs; rcases hs with rfl | rfl | rfl <;> decide))
    have al3 : Below w2.heap.size w2 ((w2.alloc (.cells #[.string ⟨#[]⟩, .string ⟨#[255]⟩, .string ⟨#[5, 120, 121, 122]⟩] 9)).drew) := ((Below.refl _ _).alloc (Nat.le_refl _) _).drew
    obtain ⟨gk, rfl, hgS, hgl, -, -, hty, -⟩ := d3.set0 1 hk1n
    clear Hof
    go_wp2
    go_region_with (go_at_call 80; refine (unhide HOF).mono ?_; rintro e w4 ⟨s4, rfl, hs4, rd4, u4⟩; have u34 : Upd (fun j => j = R) w2 w4 := (Upd.ofBelow al3).trans u4; have y0 : w4.cell? ⟨w1.heap.size, 0, none⟩ = some (.slice (some ⟨gk, 0, none⟩) kept.length ca) := (World.cell?_of_block (a := ⟨w1.heap.size, 0, none⟩) (u34.block w1.heap.size tl (by omega))).trans t0; have y1 : w4.cell? ⟨w1.heap.size, 1, none⟩ = some (.slice ao' wait.length ca') := (World.cell?_of_block (a := ⟨w1.heap.size, 1, none⟩) (u34.block w1.heap.size tl (by omega))).trans t1; have d4 := d3.keep u34 (fun k h e => by omega); obtain ⟨g', eg, hgS', hgl', ⟨uu, hcc⟩, hff, hty', hset⟩ := d4.set0 1 hk1n; (simp only [Option.some.injEq, Addr.mk.injEq, and_true] at eg); obtain rfl := eg; have Hset := hide (hset s4))
    all_goals
      have z4 := u34.size
      have hkk := u34.keeps H2.out (by omega)
      have hne : ¬ w1.heap.size = gk := fun e => typed_box hkk (by decide) rfl (e ▸ hty')
      obtain ⟨W5, hW5⟩ : ∃ W5, W5 = w4.setCell ⟨gk, 1, none⟩ (.string s4) := ⟨_, rfl⟩
      have D5 := Hset.out
      have us : Upd (fun k => k = gk) w4 W5 := by rw [hW5]; exact Upd.setCell _ _ _ _ rfl
      rw [← hW5, List.length_set] at D5
      have z5 := us.size
      have B2 := us.keeps hkk hne
      have B0 := us.keeps (u34.keeps H0.out (by omega)) (by omega)
      rw [← hW5]
      clear hW5 y0 y1 t0 t1 tl t2 t3 x0 x1 xl x2 x3 hcc hff
      obtain ⟨t0, t1, tl⟩ := box2 B2
      obtain ⟨x0, x1, xl⟩ := box2 B0
      obtain ⟨x2, x3⟩ := box2f B0
      have K0 := hide B0
      clear B0 B2 hkk
      go_wp2
      have hs := upd_set2 W5 w.heap.size 0 1 (.slice (some ⟨gk, 0, none⟩) kept.length ca) (.slice ao' wait.length ca')
      refine bodyPost_ret (v := .agg #[.slice (some ⟨gk, 0, none⟩) kept.length ca, .slice ao' wait.length ca']) (by simp [results, Tryd.results53, go_sem, x0, x1]) rfl ⟨_, kept.set 1 s4, wait, p1 + 1 + 1, rfl, ?_, (IV.out.set 1 (by omega)).drawn, (rd4.keep us (by omega) (fun k h => by omega)).keep hs (by omega) (fun k h => by omega), by omega, (((U2.trans u34).transN us (fun k h => by omega))).transN hs (fun k h => by omega)⟩
      exact (D5.keep hs (fun k h e => by omega)).mono (fun k _ h => by omega)
  · go_wp2_with fail
    refine (l72SecL_any w0 w2 R (p1 + 1) rd3 (by omega)).mono ?_
    rintro e w4 ⟨v4, K4, X4, p4, rfl, d4, sm4, rd4, hp4, u4⟩
    obtain ⟨jo, jc, jo', jc', rfl⟩ := d4.shape
    have D4 : DiskO w4 (fun k => w2.heap.size ≤ k) (.agg #[.slice jo K4.length jc, .slice jo' X4.length jc']) K4 X4 := by
      obtain ⟨vk, vw, e, a1, a2⟩ := d4
      exact ⟨vk, vw, e, a1.row (by have := sm4.sm.kl; omega), a2.row (by have := sm4.sm.wl; omega)⟩
    have z4 := u4.size
    have B2 := u4.keeps H2.out (by omega)
    have B0 := u4.keeps H0.out (by omega)
    clear t0 t1 tl t2 t3 x0 x1 xl x2 x3 d4
    obtain ⟨m0, m1, ml⟩ := box2 B2
    obtain ⟨m2, m3⟩ := box2f B2
    have hs4 := upd_set2 w4 w1.heap.size 0 1 (.slice jo K4.length jc) (.slice jo' X4.length jc')
    have k2 := row_set (j := 1) (.slice jo' X4.length jc') (row_set (j := 0) (.slice jo K4.length jc) B2)
    obtain ⟨W5, hW5⟩ : ∃ W5, W5 = (w4.setCell ⟨w1.heap.size, 0, none⟩ (.slice jo K4.length jc)).setCell ⟨w1.heap.size, 1, none⟩ (.slice jo' X4.length jc') := ⟨_, rfl⟩
    have B2' : W5.heap[w1.heap.size]? = some (.cells #[.slice jo K4.length jc, .slice jo' X4.length jc'] 31 (0, 0)) := by rw [hW5]; exact k2
    rw [← hW5] at hs4
    have B0' := hs4.keeps B0 (by omega)
    obtain ⟨x0, x1, xl⟩ := box2 B0'
    obtain ⟨x2, x3⟩ := box2f B0'
    obtain ⟨t0, t1, tl⟩ := box2 B2'
    have z5 := hs4.size
    clear B2 B0 k2 B0' B2'
    subst hW5
    go_wp2
    have hs := upd_set2 ((w4.setCell ⟨w1.heap.size, 0, none⟩ (.slice jo K4.length jc)).setCell ⟨w1.heap.size, 1, none⟩ (.slice jo' X4.length jc')) w.heap.size 0 1 (.slice jo K4.length jc) (.slice jo' X4.length jc')
    refine bodyPost_ret (v := .agg #[.slice jo K4.length jc, .slice jo' X4.length jc']) (by simp [results, Tryd.results53, go_sem, x0, x1]) rfl ⟨_, K4, X4, p4, rfl, ?_, sm4.drawn, (rd4.keep hs4 (by omega) (fun k h => by omega)).keep hs (by omega) (fun k h => by omega), by omega, ((U2.trans u4).transN hs4 (fun k h => by omega)).transN hs (fun k h => by omega)⟩
    exact ((D4.keep hs4 (fun k h e => by omega)).keep hs (fun k h e => by omega)).mono (fun k _ h => by omega)
  · have e0 : ((q2 : Int) == 0) = false := by simp only [beq_eq_false_iff_ne, ne_eq]; omega
    have e1 : ((q2 : Int) == 1) = false := by simp only [beq_eq_false_iff_ne, ne_eq]; omega
    have e2 : ((q2 : Int) == 2) = false := by simp only [beq_eq_false_iff_ne, ne_eq]; omega
    go_wp2
    have hs := upd_set2 w2 w.heap.size 0 1 (.slice ao kept.length ca) (.slice ao' wait.length ca')
    refine bodyPost_ret (v := .agg #[.slice ao kept.length ca, .slice ao' wait.length ca']) (by simp [results, Tryd.results53, go_sem, x0, x1]) rfl ⟨_, kept, wait, p1 + 1, rfl, ?_, IV.out.drawn, rd3.keep hs (by omega) (fun k h => by omega), by omega, U2.transN hs (fun k h => by omega)⟩
    exact (d3.keep hs (fun k h e => by omega)).mono (fun k _ h => by omega)

end Go.Proofs.YtapflnabiobonaaDoor

/- What DrawWalMend draws: a contract; no statement of the seat is proved here. -/
namespace Go.Proofs.YtapflnabiobonaaDoor
open Go.RowKit

set_option maxRecDepth 100000 in
set_option maxHeartbeats 2000000 in
theorem drawWalMend_any (w : World) (bo : Option Addr) (n cap : Nat) (bs : List Nat) (h : BytesIn w bo n cap bs) (hn : n ≤ 1048576) :
    Calls Tryd.prog 31 #[.slice bo n cap] w fun e w' => ∃ v kept wait, e = .returned v ∧ DiskO w' (fun k => w.heap.size ≤ k) v kept wait ∧ Drawn kept wait ∧ Below w.heap.size w w' := by
  have al0 : Below w.heap.size w (w.alloc (.cells #[.slice none 0 0, .slice none 0 0] 31)) := (Below.refl _ _).alloc (Nat.le_refl _) _
  have H0 := hide (al1_0 w (.cells #[.slice none 0 0, .slice none 0 0] 31))
  have HB := hide (h.keep al0)
  go_enter Tryd.func31, Tryd.ntmps31
  go_wp2_with fail
  refine (l6Open_any _ bo n cap bs HB.out hn).mono ?_
  rintro e w1 ⟨rfl, hr1, b1⟩
  have c1 := bAll al0 b1
  have z1 := b1.size
  simp only [World.size_alloc] at z1
  replace H0 := hide (bKeeps b1 H0.out)
  rw [World.size_alloc] at hr1
  have hRl := hr1.lt
  go_wp2_with fail
  refine (l72WalAny_any _ w1 (w.heap.size + 1) 0 hr1 (by omega)).mono ?_
  rintro e w2 ⟨v2, kept, wait, p', rfl, d2, dr2, hr2, hp2, hu2⟩
  obtain ⟨ao, ca, ao', ca', rfl⟩ := d2.shapeO
  have B0 := hu2.keeps H0.out (by omega)
  have z2 := hu2.size
  obtain ⟨x0, x1, xl⟩ := box2 B0
  obtain ⟨x2, x3⟩ := box2f B0
  clear B0
  go_wp2
  have hs := upd_set2 w2 w.heap.size 0 1 (.slice ao kept.length ca) (.slice ao' wait.length ca')
  refine bodyPost_ret (v := .agg #[.slice ao kept.length ca, .slice ao' wait.length ca']) (by simp [results, Tryd.results31, go_sem, x0, x1]) rfl ⟨_, kept, wait, rfl, ?_, dr2, ?_⟩
  · exact (d2.keep hs (fun k h e => by omega)).mono (fun k _ h => by omega)
  · exact (c1.trans (hu2.below (by omega) (fun k h => by omega))).trans (hs.below (by omega) (fun k h => by omega))

end Go.Proofs.YtapflnabiobonaaDoor

/- WalMend and WalSteps of the program, with the room of their answers: contracts; no statement of the seat is proved here. -/
namespace Go.Proofs.YtapflnabiobonaaDoor
open Go.RowKit

theorem RowA.capOk {w : World} {base : Nat} {e : TypeId} {size n : Nat} {v : Value} {cs : List Value} (h : RowA w base e size v n cs) : CapOk v n := by
  rcases h with h | ⟨rfl, _, ao, rfl⟩
  · exact owns_cap h
  · exact ⟨ao, 0, rfl, Nat.le_refl _⟩

set_option maxRecDepth 100000 in
set_option maxHeartbeats 2000000 in
theorem implWalMendC_any (v : Value) (kept : List ByteArray) (wait : List (Int × ByteArray)) (w : World) (hg : ErrVar w) (hr : DiskR w v kept wait) (hs : ∀ s ∈ kept, s.size ≤ 9223372036854775807) (hs' : ∀ s ∈ wait, s.2.size ≤ 9223372036854775807) :
    Calls Tryd.prog 19 #[v] w fun e w' => ∃ v', e = .returned (.tuple #[v', .bool (readB kept wait)]) ∧ Row w' 50 3 (fun k => w.heap.size ≤ k) v' (mendL kept wait).length (scells (mendL kept wait)) ∧ Below w.heap.size w w' ∧ CapOk v' (mendL kept wait).length := by
  have Hr := hide hr
  obtain ⟨ak, aw, rfl, ⟨ao, ca, rfl, -⟩, ⟨bo, cb, rfl, -⟩⟩ := hr
  have hal : Below w.heap.size w (w.alloc (.cells #[.slice ao kept.length ca, .slice bo wait.length cb] 31)) := (Below.refl _ _).alloc (Nat.le_refl _) _
  have Hg := hide (errVar_keep hg hal)
  clear hg
  go_enter Tryd.func19, Tryd.ntmps19
  go_wp2_with fail
  refine (walOpen_any _ kept wait _ Hg.out (Hr.out.keep hal) hs hs').mono ?_
  rintro e w1 ⟨⟨hrb, F, s, L, g, gc, no, nc, hF, hFl, h0, hL, hlb, hFz, rfl, hgc, kF, kL⟩ | ⟨hrb, rfl⟩, b1⟩
  · have c1 := bAll hal b1
    have z1 := c1.size
    have hLb : ∀ x ∈ L, 0 ≤ x.1 ∧ x.1 < 250 := by rw [← hL]; exact logL_bound hlb
    have hLn : L.length ≤ 512 := by rw [← hL]; have := logL_len s F; omega
    have HRB := hide hrb
    have HM := hide (mendL_of hrb hF h0)
    rw [hL] at HM
    obtain ⟨W, hW⟩ : ∃ W, W = (w1.alloc (.cells #[.slice (some ⟨g, 0, none⟩) F.length gc, .slice no L.length nc] 69)).alloc (.cells #[.slice none 0 0] 78) := ⟨_, rfl⟩
    have al2 : Below w1.heap.size w1 W := by rw [hW]; exact ((Below.refl _ _).alloc (Nat.le_refl _) _).alloc (by simp) _
    have hzW : W.heap.size = w1.heap.size + 2 := by rw [hW]; simp
    have X0 := hide (show W.heap[w1.heap.size]? = some (.cells #[.slice (some ⟨g, 0, none⟩) F.length gc, .slice no L.length nc] 69 (0, 0)) by rw [hW]; exact al2_0 w1 _ _)
    have X1 := hide (show W.heap[w1.heap.size + 1]? = some (.cells #[.slice none 0 0] 78 (0, 0)) by rw [hW]; exact al2_1 w1 _ _)
    have HS := hide (signed_any _ no gc L.length nc F s W (kF.keep al2) h0)
    have kL2 := hide (kL.keep al2)
    clear hrb hF hFl hL hlb hFz hgc kF kL h0
    go_wp2_with fail
    rw [← hW]
    clear hW
    refine (unhide HS).mono ?_
    rintro e w2 ⟨rfl, b2⟩
    have c2 := bAll (bAll c1 al2) b2
    have z2 := b2.size
    replace X0 := hide (bKeeps b2 X0.out)
    replace X1 := hide (bKeeps b2 X1.out)
    obtain ⟨p0, p1, pl⟩ := box2 X0.out
    obtain ⟨q0, q1, ql⟩ := box1 X1.out
    clear HS
    cases he : s.toList.isEmpty
    · have hsz : s.size ≠ 0 := by have := size_pos he; omega
      have HM2 : Hid (mendL kept wait = applyL L) := by show _ = _; rw [HM.out, if_pos hsz]
      have HA := hide (bapply_any (w1.heap.size + 1) W.heap.size [] no nc L w2 ⟨by omega, by omega, none, 0, X1.out, .inl (World.ownsRow_nil _ _ _ _)⟩ (by simp) (kL2.out.keep b2) hLb hLn)
      clear hsz he HM
      go_wp2_with fail
      refine (unhide HA).mono ?_
      rintro e w3 ⟨rfl, ⟨hb1, hb2, so, sc, hbx, hrow⟩, u3⟩
      have r3 := (hrow.row (by rw [List.nil_append, applyL_len]; omega)).mono (T := fun k => w.heap.size ≤ k) (fun k _ h => by omega)
      rw [List.nil_append] at r3 hbx
      have R3 := hide r3
      rw [List.nil_append] at hrow
      have C3 := hide hrow.capOk
      obtain ⟨t0, t1, tl⟩ := box1 hbx
      have c3 : Below w.heap.size w w3 := c2.trans (u3.below (by have := c2.size; omega) (fun k h => by omega))
      clear p0 p1 pl q0 q1 ql HA hbx hrow r3
      go_wp2
      go_ret2
      rw [HRB.out, HM2.out]
      exact ⟨_, rfl, R3.out, c3, C3.out⟩
    · have hsz : s.size = 0 := empty_size he
      have HM2 : Hid (mendL kept wait = []) := by show _ = _; rw [HM.out, if_neg (by simpa using hsz)]
      clear hsz HM
      go_wp2
      go_ret2
      rw [HRB.out, HM2.out]
      exact ⟨_, rfl, Row.nil _ _ _ _, c2, _, _, rfl, Nat.le_refl _⟩
  · have HX : Hid (readB kept wait = false ∧ mendL kept wait = []) := ⟨hrb, mendL_no hrb⟩
    have c1 := bAll hal b1
    clear hrb
    go_wp2
    go_ret2
    rw [HX.out.1, HX.out.2]
    exact ⟨_, rfl, Row.nil _ _ _ _, c1.alloc c1.size _, _, _, rfl, Nat.le_refl _⟩

set_option maxRecDepth 100000 in
set_option maxHeartbeats 4000000 in
theorem implWalStepsC_any (v : Value) (so : Option Addr) (sc : Nat) (hs : List ByteArray) (kept : List ByteArray) (wait : List (Int × ByteArray)) (w : World) (hg : ErrVar w) (hr : DiskR w v kept wait) (hx : RowR w 1 (.slice so hs.length sc) hs.length (hs.map Value.string)) (hxz : ∀ s ∈ hs, s.size ≤ 9223372036854775807) (hs1 : ∀ s ∈ kept, s.size ≤ 9223372036854775807) (hs2 : ∀ s ∈ wait, s.2.size ≤ 9223372036854775807) :
    Calls Tryd.prog 26 #[v, .slice so hs.length sc] w fun e w' => ∃ v', e = .returned (.tuple #[v', .bool (stepsB kept wait hs)]) ∧ Row w' 50 3 (fun k => w.heap.size ≤ k) v' (stepsL kept wait hs).length (scells (stepsL kept wait hs)) ∧ Below w.heap.size w w' ∧ CapOk v' (stepsL kept wait hs).length := by
  have Hr := hide hr
  have HX := hide hx
  obtain ⟨ak, aw, rfl, ⟨ao, ca, rfl, -⟩, ⟨bo, cb, rfl, -⟩⟩ := hr
  have hal : Below w.heap.size w (w.alloc (.cells #[.slice ao kept.length ca, .slice bo wait.length cb] 31)) := (Below.refl _ _).alloc (Nat.le_refl _) _
  have Hg := hide (errVar_keep hg hal)
  have HOP := hide (walOpen_any _ kept wait _ Hg.out (Hr.out.keep hal) hs1 hs2)
  have HFC := fun w h => walFit_any so sc hs w h hxz
  clear hg hx hxz hs1 hs2
  go_enter Tryd.func26, Tryd.ntmps26
  go_wp2_with fail
  refine (unhide HOP).mono ?_
  rintro e w1 ⟨⟨hrb, F, s, L, g, gc, no, nc, hF, hFl, h0, hL, hlb, hFz, rfl, hgc, kF, kL⟩ | ⟨hrb, rfl⟩, b1⟩
  · have c1 := bAll hal b1
    have z1 := c1.size
    have hLb : ∀ x ∈ L, 0 ≤ x.1 ∧ x.1 < 250 := by rw [← hL]; exact logL_bound hlb
    have HB : Hid (stepsB kept wait hs = (decide (s.size = 0) && fitB hs)) := by show _ = _; simp only [stepsB, hrb, hF, sign0_of h0, Bool.true_and]
    have HH : Hid (readH kept wait = flushL (F.drop 251) L) := by show _ = _; simp only [readH, hrb, if_true, hF, homesL, sign0_of h0, hL]
    have al2 : Below w1.heap.size w1 (w1.alloc (.cells #[.slice (some ⟨g, 0, none⟩) F.length gc, .slice no L.length nc] 69)) := (Below.refl _ _).alloc (Nat.le_refl _) _
    have X0 := hide (al1_0 w1 (.cells #[.slice (some ⟨g, 0, none⟩) F.length gc, .slice no L.length nc] 69))
    have HS := hide (signed_any _ no gc L.length nc F s _ (kF.keep al2) h0)
    have c2 := bAll c1 al2
    have kF2 := hide (kF.keep al2)
    have kL2 := hide (kL.keep al2)
    have HFl := hide hFl
    have HLb := hide hLb
    have Hgc := hide hgc
    clear hrb hF hFl hL hlb hFz hgc kF kL h0 HOP hLb
    go_wp2_with fail
    refine (unhide HS).mono ?_
    rintro e w3 ⟨rfl, b3⟩
    have c3 := bAll c2 b3
    clear HS
    cases he : s.toList.isEmpty
    · have hsz : s.size ≠ 0 := by have := size_pos he; omega
      have HN : Hid (stepsB kept wait hs = false) := by show _ = _; rw [HB.out]; simp [hsz]
      have HN2 := hide (stepsL_no HN.out)
      clear hsz
      go_wp2
      go_ret2
      rw [HN.out, HN2.out]
      exact ⟨_, rfl, Row.nil _ _ _ _, c3, _, _, rfl, Nat.le_refl _⟩
    · have hsz : s.size = 0 := empty_size he
      have HB2 : Hid (stepsB kept wait hs = fitB hs) := by show _ = _; rw [HB.out]; simp [hsz]
      have HF3 := hide (HFC w3 (HX.out.keep c3))
      clear hsz HB
      go_wp2_with fail
      refine (unhide HF3).mono ?_
      rintro e w3' ⟨rfl, e3⟩
      rw [e3]
      clear e3 w3' HF3 HFC
      cases hfit : fitB hs
      · have HN : Hid (stepsB kept wait hs = false) := HB2.out.trans hfit
        have HN2 := hide (stepsL_no HN.out)
        clear hfit
        go_wp2
        go_ret2
        rw [HN.out, HN2.out]
        exact ⟨_, rfl, Row.nil _ _ _ _, c3, _, _, rfl, Nat.le_refl _⟩
      · have HY : Hid (stepsB kept wait hs = true) := HB2.out.trans hfit
        have HY2 := hide (stepsL_yes HY.out)
        obtain ⟨p0, p1, pl⟩ := box2 (bKeeps b3 X0.out)
        have HCH := hide (changes_any g gc no nc F L so sc hs w3 (kF2.out.keep b3) Hgc.out HFl.out (kL2.out.keep b3) HLb.out (HX.out.keep c3) (fitB_parts hfit).1)
        have hCb := chgK_bound (now := flushL (F.drop 251) L) hfit
        have hCl := chgK_len (flushL (F.drop 251) L) hs 250
        rw [HH.out] at HY2
        obtain ⟨C, hC⟩ : ∃ C, chgK (flushL (F.drop 251) L) hs 250 = C := ⟨_, rfl⟩
        rw [hC] at HCH hCb hCl HY2
        have HCb := hide hCb
        clear hfit hC HB2 HH kF2 kL2 HLb Hgc HFl hCb
        go_wp2_with fail
        refine (unhide HCH).mono ?_
        rintro e w4 ⟨xo, xc, rfl, r4, b4⟩
        have c4 := bAll c3 b4
        have z4 := c4.size
        have r4' := r4.mono (T := fun k => k < w4.heap.size) (fun k hk _ => hk)
        clear HCH r4 p0 p1 pl
        by_cases hc0 : C.length = 0
        · have hc0' : ((C.length : Int) == 0) = true := by simp only [beq_iff_eq]; omega
          have HE : Hid (stepsL kept wait hs = []) := by show _ = _; rw [HY2.out]; simp [stepsOf, hc0]
          clear hc0 r4'
          go_wp2
          go_ret2
          rw [HY.out, HE.out]
          exact ⟨_, rfl, Row.nil _ _ _ _, c4, _, _, rfl, Nat.le_refl _⟩
        · have hc0' : ((C.length : Int) == 0) = false := by simp only [beq_eq_false_iff_ne, ne_eq]; omega
          have HE : Hid (stepsL kept wait hs = commitL C ++ applyL C) := by show _ = _; rw [HY2.out]; simp [stepsOf, hc0]
          have al5 : Below w4.heap.size w4 (w4.alloc (.cells #[.slice none 0 0] 78)) := (Below.refl _ _).alloc (Nat.le_refl _) _
          have r5 := r4'.keepB al5
          have HCM := hide (bcommit_any w4.heap.size (w4.heap.size + 1) [] xo xc C _ ⟨by omega, by simp, none, 0, al1_0 w4 _, .inl (World.ownsRow_nil _ _ _ _)⟩ (by simp) r5.reads HCb.out hCl)
          clear hc0 HY2 r4'
          go_wp2_with fail
          refine (unhide HCM).mono ?_
          rintro e w6 ⟨rfl, B6, u6⟩
          have r6 := r5.keep u6 (fun k h => by omega)
          have HAP := hide (bapply_any w4.heap.size (w4.heap.size + 1) _ xo xc C w6 B6 (by rw [List.nil_append, commitL_len]; omega) r6.reads (fun x hx => ⟨(HCb.out x hx).1, (HCb.out x hx).2.1⟩) (by omega))
          clear HCM B6 r5 r6
          go_wp2_with fail
          refine (unhide HAP).mono ?_
          rintro e w7 ⟨rfl, ⟨hb1, hb2, yo, yc, hbx, hrow⟩, u7⟩
          rw [List.nil_append] at hrow hbx
          have hll : (commitL C ++ applyL C).length ≤ 1000 := by rw [List.length_append, commitL_len, applyL_len]; omega
          obtain ⟨T, hT⟩ : ∃ T, commitL C ++ applyL C = T := ⟨_, rfl⟩
          rw [hT] at hrow hbx hll HE
          clear hT
          have r7 := hide ((hrow.row (by omega)).mono (T := fun k => w.heap.size ≤ k) (fun k _ h => by omega))
          have C7 := hide hrow.capOk
          obtain ⟨t0, t1, tl⟩ := box1 hbx
          have c7 : Below w.heap.size w w7 := ((bAll c4 al5).trans (u6.below (by simp; omega) (fun k h => by omega))).trans (u7.below (by have := u6.size; simp at this; omega) (fun k h => by omega))
          clear HAP hrow hbx
          go_wp2
          go_ret2
          rw [HY.out, HE.out]
          exact ⟨_, rfl, r7.out, c7, C7.out⟩
  · have HN : Hid (stepsB kept wait hs = false) := by show _ = _; simp [stepsB, hrb]
    have HN2 := hide (stepsL_no HN.out)
    have c1 := bAll hal b1
    clear hrb HOP HFC
    go_wp2
    go_ret2
    rw [HN.out, HN2.out]
    exact ⟨_, rfl, Row.nil _ _ _ _, c1.alloc c1.size _, _, _, rfl, Nat.le_refl _⟩

end Go.Proofs.YtapflnabiobonaaDoor

/- Whether two disks are said to be the same by the laws: contracts; no statement of the seat is proved here. -/
namespace Go.Proofs.YtapflnabiobonaaDoor
open Go.RowKit

set_option maxHeartbeats 400000 in
theorem lpTexts_true (va vb : Value) (n : Nat) (ss : List ByteArray) (w : World) (ha : RowR w 1 va n (ss.map Value.string)) (hb : RowR w 1 vb n (ss.map Value.string)) :
    Calls Tryd.prog 29 #[va, vb] w fun e w' => e = .returned (.bool true) ∧ Below w.heap.size w w' := by
  obtain ⟨ao, ca, rfl, hn, hl, ha⟩ := ha
  obtain ⟨bo, cb, rfl, _, _, hb⟩ := hb
  go_enter Tryd.func29, Tryd.ntmps29
  go_wp2
  go_loopw [5] (fun i wr => ∃ k : Nat, k ≤ n ∧ i = .int .i64 k ∧ Below w.heap.size w wr) (fun i _ => n - (intOf i).toNat)
  case atStart => exact ⟨0, Nat.zero_le _, rfl, Below.refl _ _⟩
  case round =>
    obtain ⟨k, hk, rfl, hbel⟩ := hrel
    by_cases hlt : k < n
    · obtain ⟨b1, o1, rfl, hc1⟩ := ha (by omega)
      obtain ⟨b2, o2, rfl, hc2⟩ := hb (by omega)
      obtain ⟨s, hs⟩ : ∃ s, (ss.map Value.string)[k]? = some (.string s) := by
        simp only [List.length_map, Nat.mul_one] at hl
        exact ⟨ss[k]'(by omega), by simp [show k < ss.length by omega]⟩
      have g1 := hc1 k _ hs
      have g2 := hc2 k _ hs
      have f1 : wr.cell? ⟨b1, o1 + k, none⟩ = some (.string s) := (hbel.cell (p := ⟨b1, o1 + k, none⟩) (World.block_lt_of_cell? w _ g1)).trans g1
      have f2 : wr.cell? ⟨b2, o2 + k, none⟩ = some (.string s) := (hbel.cell (p := ⟨b2, o2 + k, none⟩) (World.block_lt_of_cell? w _ g2)).trans g2
      have hi : (k : Int) < (n : Int) := by omega
      clear ha hb hc1 hc2 hs g1 g2 hl
      go_wp2
      go_quiet (fail)
      go_wp2
      go_roundw
      case rel => exact ⟨k + 1, by omega, by go_num, below_drewN hbel _⟩
      case measure => simp [intOf]; omega
    · go_wp2
      go_ret
      exact ⟨rfl, hbel⟩


end Go.Proofs.YtapflnabiobonaaDoor

/- What the law FnWalMend does: its walk; the statement itself is proved elsewhere. -/
namespace Go.Proofs.YtapflnabiobonaaDoor
open Go.RowKit

theorem Drawn.win {kept : List ByteArray} {wait : List (Int × ByteArray)} (h : Drawn kept wait) (hr : readB kept wait = true) : WInv kept wait := by
  rcases h.inv with hi | hl
  · exact hi
  · have := (form_parts (read_form hr)).2.1
    omega

set_option maxRecDepth 100000 in
set_option maxHeartbeats 4000000 in
theorem lawWalMend_walk (bo : Option Addr) (n cap : Nat) (bs : List Nat) (w : World) (hg : ErrVar w) (h : BytesIn w bo n cap bs) :
    Calls Tryd.prog 7 #[.slice bo n cap] w fun e w' => e = .returned (.bool true) ∧ Below w.heap.size w w' := by
  by_cases hb1 : (n : Int) > 1048576
  · go_enter Tryd.func7, Tryd.ntmps7
    go_wp2
    go_ret
    exact ⟨rfl, Below.refl _ _⟩
  have HB := hide h
  have Hg := hide hg
  clear h hg
  go_enter Tryd.func7, Tryd.ntmps7
  go_wp2_with fail
  refine (drawWalMend_any w bo n cap bs HB.out (by omega)).mono ?_
  rintro e w1 ⟨v1, kept, wait, rfl, d1, dr, b1⟩
  obtain ⟨ao, ca, ao', ca', rfl⟩ := d1.shapeO
  have al1 : Below w1.heap.size w1 (w1.alloc (.cells #[.slice ao kept.length ca, .slice ao' wait.length ca'] 31)) := (Below.refl _ _).alloc (Nat.le_refl _) _
  have X := hide (al1_0 w1 (.cells #[.slice ao kept.length ca, .slice ao' wait.length ca'] 31))
  have c1 := bAll b1 al1
  have hd := d1.reads.keep al1
  have HMS := fun w h => specWalMend_any (.agg #[.slice ao kept.length ca, .slice ao' wait.length ca']) kept wait w h dr.ks dr.ws
  have HRS := fun w h => specWalRead_any (.agg #[.slice ao kept.length ca, .slice ao' wait.length ca']) kept wait w h dr.ks dr.ws
  have HMI := fun w hg h => implWalMendC_any (.agg #[.slice ao kept.length ca, .slice ao' wait.length ca']) kept wait w hg h dr.ks dr.ws
  have HDO := fun so sc xs w h hx hc hz => implWalDo_any (.agg #[.slice ao kept.length ca, .slice ao' wait.length ca']) kept wait so none sc 0 xs false 0 [] w h hx hc hz (RowR.nil _ _) dr.ks dr.ws
  simp only [List.length_nil] at HDO
  have hfact : Hid (readB kept wait = true → WInv kept wait ∧ _) := fun hb => ⟨dr.win hb, mend_fact (dr.win hb) hb⟩
  have hno : Hid (readB kept wait = false → mendL kept wait = []) := mendL_no
  have hrl : (readH kept wait).length ≤ 2000 := by
    cases hb : readB kept wait
    · simp [readH, hb]
    · rw [readH_len hb]; omega
  have hml : WInv kept wait → (mendL kept wait).length ≤ 253 ∧ ∀ x ∈ mendL kept wait, x.2.2.size ≤ 16 := fun hi => mendL_small hi.1
  have HML := hide hml
  obtain ⟨T, hT⟩ : ∃ T, mendL kept wait = T := ⟨_, rfl⟩
  obtain ⟨bf, hbf⟩ : ∃ bf, readH kept wait = bf := ⟨_, rfl⟩
  obtain ⟨O, hO⟩ : ∃ O, readB kept wait = O := ⟨_, rfl⟩
  simp only [hT, hO] at HMS HMI
  simp only [hbf, hO] at HRS
  rw [hbf] at hrl
  rw [hT] at HML
  have HF : Hid (O = true → WInv kept wait ∧ WInv (doR kept wait T false 0 []).1 (doR kept wait T false 0 []).2 ∧ readB (doR kept wait T false 0 []).1 (doR kept wait T false 0 []).2 = true ∧ readH (doR kept wait T false 0 []).1 (doR kept wait T false 0 []).2 = bf ∧ mendL (doR kept wait T false 0 []).1 (doR kept wait T false 0 []).2 = []) := by
    intro ho
    obtain ⟨h1, h2⟩ := hfact.out (hO.trans ho)
    simp only [hT, hbf] at h2
    exact ⟨h1, h2⟩
  have HN : Hid (O = false → T = []) := fun ho => by rw [← hT]; exact mendL_no (hO.trans ho)
  clear hfact hno hml hT hbf hO d1
  obtain ⟨t0, t1, tl⟩ := box2 X.out
  go_wp2_with fail
  refine (HMS _ hd).mono ?_
  rintro e w2 ⟨v2, rfl, r2, b2⟩
  obtain ⟨so2, sc2, rfl⟩ := r2.shape
  have c2 := bAll c1 b2
  replace hd := hd.keep b2
  clear t0 t1 tl r2
  obtain ⟨t0, t1, tl⟩ := box2 (bKeeps b2 X.out)
  go_wp2_with fail
  refine (HRS _ hd).mono ?_
  rintro e w3 ⟨v3, rfl, r3, b3⟩
  obtain ⟨so3, sc3, rfl⟩ := r3.shape
  have c3 := bAll c2 b3
  replace hd := hd.keep b3
  have RB := hide r3.reads
  clear t0 t1 tl r3
  obtain ⟨t0, t1, tl⟩ := box2 (bKeeps b3 (bKeeps b2 X.out))
  go_wp2_with fail
  refine (HMI _ (errVar_keep Hg.out c3) hd).mono ?_
  rintro e w4 ⟨v4, rfl, r4, b4, so4, sc4, rfl, hcap4⟩
  have c4 := bAll c3 b4
  replace hd := hd.keep b4
  replace RB := hide (RB.out.keep b4)
  have R4 := hide r4.reads
  clear t0 t1 tl r4
  obtain ⟨t0, t1, tl⟩ := box2 (bKeeps b4 (bKeeps b3 (bKeeps b2 X.out)))
  cases O
  · have hT0 := HN.out rfl
    subst hT0
    simp only [List.length_nil]
    go_wp2
    go_ret
    exact ⟨rfl, c4⟩
  · obtain ⟨f0, f1, f2, f3, f4⟩ := HF.out rfl
    obtain ⟨m1, m2⟩ := HML.out f0
    have HD4 := hide (HDO so4 sc4 T w4 hd R4.out hcap4 (fun x hx => by have := m2 x hx; omega))
    obtain ⟨⟨K, Y⟩, hKY⟩ : ∃ r, doR kept wait T false 0 [] = r := ⟨_, rfl⟩
    rw [hKY] at HD4 f1 f2 f3 f4
    dsimp only at HD4 f1 f2 f3 f4
    obtain ⟨bk, bw⟩ := ok_big f1.1
    have HRI := fun w v hg h => implWalRead_any v K Y w hg h bk bw
    have HMI2 := fun w v hg h => implWalMend_any v K Y w hg h bk bw
    simp only [f2, f3] at HRI
    simp only [f2, f4, List.length_nil] at HMI2
    have hTl : T.length ≤ 253 := m1
    clear hKY HF HN HML m2 f0 HMI HMS HRS HDO f2 f3 f4
    go_wp2_with fail
    refine (unhide HD4).mono ?_
    rintro e w5 ⟨v5, rfl, d5, b5⟩
    obtain ⟨jo, jc, jo', jc', rfl⟩ := d5.shapeO
    have al5 : Below w5.heap.size w5 (w5.alloc (.cells #[.slice jo K.length jc, .slice jo' Y.length jc'] 31)) := (Below.refl _ _).alloc (Nat.le_refl _) _
    have X5 := hide (al1_0 w5 (.cells #[.slice jo K.length jc, .slice jo' Y.length jc'] 31))
    have c5 := bAll (bAll c4 b5) al5
    have hd5 := d5.reads.keep al5
    replace RB := hide ((RB.out.keep b5).keep al5)
    clear t0 t1 tl HD4 d5
    go_wp2_with fail
    refine (HRI _ _ (errVar_keep Hg.out c5) hd5).mono ?_
    rintro e w6 ⟨v6, rfl, r6, b6⟩
    obtain ⟨so6, sc6, rfl⟩ := r6.shape
    have c6 := bAll c5 b6
    have RN := hide r6.reads
    replace RB := hide (RB.out.keep b6)
    replace hd5 := hd5.keep b6
    obtain ⟨t0, t1, tl⟩ := box2 (bKeeps b6 X5.out)
    clear r6
    go_wp2_with fail
    refine (HMI2 _ _ (errVar_keep Hg.out c6) hd5).mono ?_
    rintro e w7 ⟨v7, rfl, r7, b7⟩
    obtain ⟨so7, sc7, rfl⟩ := r7.shape
    have c7 := bAll c6 b7
    replace RN := hide (RN.out.keep b7)
    replace RB := hide (RB.out.keep b7)
    clear t0 t1 tl r7
    go_wp2_with fail
    refine (lpTexts_true _ _ bf.length bf _ RN.out RB.out).mono ?_
    rintro e w8 ⟨rfl, b8⟩
    go_wp2
    go_ret
    exact ⟨rfl, bAll c7 b8⟩

end Go.Proofs.YtapflnabiobonaaDoor

/- What the law FnExactSecOk does: its walk; the statement itself is proved elsewhere. -/
namespace Go.Proofs.YtapflnabiobonaaDoor
open Go.RowKit

/-- What a disk that came in is known by: it reads so, and its texts have a length. -/
structure DiskIn (w : World) (v : Value) (kept : List ByteArray) (wait : List (Int × ByteArray)) : Prop where
  reads : DiskR w v kept wait
  kept : ∀ s ∈ kept, s.size ≤ 9223372036854775807
  wait : ∀ s ∈ wait, s.2.size ≤ 9223372036854775807

theorem DiskR.shape {w : World} {v : Value} {kept : List ByteArray} {wait : List (Int × ByteArray)} (h : DiskR w v kept wait) : ∃ ao ca ao' ca', v = .agg #[.slice ao kept.length ca, .slice ao' wait.length ca'] := by
  obtain ⟨vk, vw, rfl, ⟨ao, ca, rfl, -⟩, ⟨ao', ca', rfl, -⟩⟩ := h
  exact ⟨ao, ca, ao', ca', rfl⟩

end Go.Proofs.YtapflnabiobonaaDoor

/- How an argument that is a slice of texts, or of pairs of a number and a text, is opened; no statement of the seat is proved here. -/
namespace Go.Proofs.YtapflnabiobonaaDoor
open Go.ChangeShapes Go.WideShapes Go.ChangeAt Go.RowKit Go.Deep Go.Joins

section
variable {H : Type} {enc : TypeId × Value → H} {P : Program} {w : World} {base : Nat} {spare : Nat → Bool} {held : Bool}

theorem rowR_of_strs {t e : TypeId} {fuel : Nat} {v : Value} {x : DataW H × List MemPlace} (ht : P.underlying t = some (.slice e)) (he : P.underlying e = some .string) (hc : P.cellsOf e = 1)
    (h : DataW.trod enc P w base spare held fuel t [v] = some x) : ∃ ss : List ByteArray, RowR w 1 v ss.length (ss.map Value.string) ∧ ∀ s ∈ ss, s.size ≤ 9223372036854775807 := by
  rcases open_strs ht he hc h with ⟨hcs, _⟩ | ⟨a, len, cap, m, Sx, hcs, _, hl, hm, hmm, _, hx⟩
  · obtain rfl : v = .slice none 0 0 := by simpa using hcs
    exact ⟨[], RowR.nil _ _, by simp⟩
  · obtain rfl : v = .slice (some a) len cap := by simpa using hcs
    have hlm : len ≤ m := by rw [hmm]; split <;> omega
    unfold maxLen at hm hx
    refine ⟨(List.range len).map Sx, ⟨some a, cap, by simp, by simp; omega, by simp, fun h0 => ?_⟩, ?_⟩
    · simp only [List.length_map, List.length_range] at h0
      have h1 := (hx 0 (by omega)).1
      obtain ⟨b, off, spot⟩ := a
      have hspot : spot = none := by simpa [Addr.add] using World.cell?_spot h1
      subst hspot
      refine ⟨b, off, rfl, fun j u hj => ?_⟩
      have hj' : j < len := by have := (List.getElem?_eq_some_iff.1 hj).1; simpa using this
      have := (hx j (by omega)).1
      rw [Addr.add_lit] at this
      rw [this]
      simpa [hj'] using hj
    · intro s hs
      obtain ⟨i, hi, rfl⟩ := List.mem_map.1 hs
      have := List.mem_range.1 hi
      exact (hx i (by omega)).2

theorem rowR_of_pairs {t e : TypeId} {f0 f1 : Field} {fuel : Nat} {v : Value} {x : DataW H × List MemPlace} (ht : P.underlying t = some (.slice e)) (he : P.underlying e = some (.struct #[f0, f1]))
    (ce : P.cellsOf e = 2) (o0 : f0.offset = 0) (o1 : f1.offset = 1) (c0 : P.cellsOf f0.type = 1) (c1 : P.cellsOf f1.type = 1) (t0 : P.underlying f0.type = some (.int .i64)) (t1 : P.underlying f1.type = some .string)
    (h : DataW.trod enc P w base spare held fuel t [v] = some x) : ∃ xs : List (Int × ByteArray), RowR w 2 v xs.length (wcells xs) ∧ ∀ s ∈ xs, s.2.size ≤ 9223372036854775807 := by
  rcases open_slice_pairs ht he ce o0 o1 c0 c1 h with ⟨hcs, _⟩ | ⟨a, len, cap, m, n, V0, V1, D0, D1, P0, P1, hcs, _, hl, hm, hmm, _, hx⟩
  · obtain rfl : v = .slice none 0 0 := by simpa using hcs
    exact ⟨[], RowR.nil _ _, by simp⟩
  · obtain rfl : v = .slice (some a) len cap := by simpa using hcs
    have hlm : len ≤ m := by rw [hmm]; split <;> omega
    unfold maxLen at hm
    have each : ∀ i, i < m → ∃ y : Int × ByteArray, V0 i = .int .i64 y.1 ∧ V1 i = .string y.2 ∧ y.2.size ≤ 9223372036854775807 := fun i hi => by
      obtain ⟨_, _, h0, h1⟩ := hx i hi
      obtain ⟨q, e0, _, _⟩ := DataW.trod_int t0 h0
      obtain ⟨s, e1, _, hs⟩ := DataW.trod_string t1 h1
      unfold maxLen at hs
      exact ⟨(q, s), by simpa using e0, by simpa using e1, hs⟩
    obtain ⟨Y, hY⟩ := choose_lt each
    refine ⟨(List.range len).map Y, ⟨some a, cap, by simp, by simp; omega, by rw [wcells_len], fun h0 => ?_⟩, ?_⟩
    · simp only [List.length_map, List.length_range] at h0
      have h1 := (hx 0 (by omega)).1
      obtain ⟨b, off, spot⟩ := a
      have hspot : spot = none := by simpa [Addr.add] using World.cell?_spot h1
      subst hspot
      refine ⟨b, off, rfl, fun j u hj => ?_⟩
      have hj' : j < len * 2 := by have := (List.getElem?_eq_some_iff.1 hj).1; rw [wcells_len] at this; simpa using this
      have hw := wcells_at ((List.range len).map Y) (j / 2) (Y (j / 2)) (by simp [show j / 2 < len by omega])
      obtain ⟨q0, q1, _⟩ := hx (j / 2) (by omega)
      obtain ⟨y0, y1, _⟩ := hY (j / 2) (by omega)
      rw [Addr.add_lit] at q0 q1
      rcases Nat.mod_two_eq_zero_or_one j with ej | ej
      · rw [show 2 * (j / 2) = j by omega] at hw
        rw [show j / 2 * 2 = j by omega, y0] at q0
        rw [hw.1] at hj
        rw [q0]
        exact hj
      · rw [show 2 * (j / 2) + 1 = j by omega] at hw
        rw [show j / 2 * 2 + 1 = j by omega, y1] at q1
        rw [hw.2] at hj
        rw [q1]
        exact hj
    · intro s hs
      obtain ⟨i, hi, rfl⟩ := List.mem_map.1 hs
      have := List.mem_range.1 hi
      exact (hY i (by omega)).2.2
end

end Go.Proofs.YtapflnabiobonaaDoor
