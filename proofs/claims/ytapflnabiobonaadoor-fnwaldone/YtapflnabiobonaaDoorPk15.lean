/- Contracts and plain facts that the claims of this seat lean on (texts WD3); no statement of the seat is proved here. -/
import Derived.Test.YtapflnabiobonaaDoorPk14

/- Drawn disks with transactions, some spoilt: contracts; no statement of the seat is proved here. -/
namespace Go.Proofs.YtapflnabiobonaaDoor
open Go.RowKit

structure SmallL (kept : List ByteArray) (wait : List (Int × ByteArray)) : Prop where
  sm : Small 0 kept wait
  le : kept.length ≤ 6
theorem SmallL.put {kept : List ByteArray} {wait : List (Int × ByteArray)} (h : SmallL kept wait) (a : Int) (s : ByteArray) (hs : s.size ≤ 1000) : SmallL (putK kept wait) (putW kept wait a s) := by
  refine ⟨h.sm.put a s hs, ?_⟩
  unfold putK
  split
  · exact h.le
  · simp
theorem SmallL.flush {kept : List ByteArray} {wait : List (Int × ByteArray)} (h : SmallL kept wait) : SmallL (flushK kept wait) [] := by
  refine ⟨h.sm.flush, ?_⟩
  unfold flushK
  split
  · rw [flushL_len]; exact h.le
  · simp
theorem small_newL (n : Nat) (hn : n < 7) : SmallL (newKept (n : Int)) [] := by
  refine ⟨small_new n, ?_⟩
  unfold newKept
  split
  · rw [List.length_replicate]; omega
  · simp

set_option maxRecDepth 100000 in
set_option maxHeartbeats 4000000 in
theorem l72SecL_any (w0 w : World) (R p : Nat) (hr : Rd w0 w R p) (hp : p ≤ 900000) :
    Calls Tryd.prog 81 #[.pointer (some ⟨R, 0, none⟩)] w fun e w' => ∃ v kept wait p', e = .returned v ∧ DiskAA w' w.heap.size v kept wait ∧ SmallL kept wait ∧ Rd w0 w' R p' ∧ p' ≤ p + 100 ∧ Upd (fun j => j = R) w w' := by
  obtain ⟨hRl, hR0, hw0⟩ := hr.lt
  have al0 : Below w.heap.size w (w.alloc (.cells #[.slice none 0 0, .slice none 0 0] 31)) := (Below.refl _ _).alloc (Nat.le_refl _) _
  have H0 := hide (al1_0 w (.cells #[.slice none 0 0, .slice none 0 0] 31))
  have hr0 := hr.keepB al0
  go_enter Tryd.func81, Tryd.ntmps81
  go_wp2_with fail
  refine (pick_any w0 _ R p 7 hr0 (by omega) (by omega) (by omega)).mono ?_
  rintro e w1 ⟨q, rfl, hq, hr1, hu1⟩
  have U1 : Upd (fun j => j = R) w w1 := (Upd.ofBelow al0).trans hu1
  have z1 := hu1.size
  simp only [World.size_alloc] at z1
  replace H0 := hide (hu1.keeps H0.out (by omega))
  go_wp2_with fail
  refine (specSecNewA_any q w1).mono ?_
  rintro e w2 ⟨v2, rfl, d2, b2⟩
  have sm2 := small_newL q (by omega)
  obtain ⟨K2, hK2⟩ : ∃ K2, newKept (q : Int) = K2 := ⟨_, rfl⟩
  rw [hK2] at d2 sm2
  clear hK2
  obtain ⟨ao, ca, ao', ca', rfl⟩ := d2.shape
  have al2 : Below w2.heap.size w2 (w2.alloc (.cells #[.slice ao K2.length ca, .slice ao' 0 ca'] 31)) := (Below.refl _ _).alloc (Nat.le_refl _) _
  have H2 := hide (al1_0 w2 (.cells #[.slice ao K2.length ca, .slice ao' 0 ca'] 31))
  have hr2 := (hr1.keepB b2).keepB al2
  have z2 := b2.size
  replace H0 := hide (bKeeps al2 (bKeeps b2 H0.out))
  have d2' := d2.keepB al2
  go_wp2_with fail
  refine (pick_any w0 _ R (p + 1) 8 hr2 (by omega) (by omega) (by omega)).mono ?_
  rintro e w3 ⟨q3, rfl, hq3, hr3, hu3⟩
  have U3 : Upd (fun j => j = R) w w3 := ((U1.trans (Upd.ofBelow b2)).trans (Upd.ofBelow al2)).trans hu3
  have z3 := hu3.size
  simp only [World.size_alloc] at z3
  replace H0 := hide (hu3.keeps H0.out (by omega))
  replace H2 := hide (hu3.keeps H2.out (by omega))
  have d3 := d2'.keepU hu3 (fun k ht e => by subst e; exact hr2.apart (by decide) ht) (fun k ht e => by subst e; exact hr2.apart (by decide) ht)
  clear d2 d2' hr0 hr1 hr2
  go_wp2
  go_loopw [4] (fun kv wr => ∃ (i : Nat) (kept : List ByteArray) (wait : List (Int × ByteArray)) (ao ao' : Option Addr) (ca ca' p' : Nat), kv = .int .i64 i ∧ i ≤ 7 ∧ p' + 5 * i ≤ p + 40 ∧
      wr.heap[w.heap.size]? = some (.cells #[.slice none 0 0, .slice none 0 0] 31 (0, 0)) ∧ wr.heap[w2.heap.size]? = some (.cells #[.slice ao kept.length ca, .slice ao' wait.length ca'] 31 (0, 0)) ∧
      DiskAA wr (w.heap.size + 1) (.agg #[.slice ao kept.length ca, .slice ao' wait.length ca']) kept wait ∧ SmallL kept wait ∧ Rd w0 wr R p' ∧ Upd (fun j => j = R) w wr) (fun kv _ => (intOf kv).toNat)
  case atStart => exact ⟨q3, K2, [], ao, ao', ca, ca', p + 2, rfl, by omega, by omega, H0.out, H2.out, d3.mono (by omega), sm2, hr3, U3⟩
  case round =>
    clear H0 H2 d3 sm2 hr3 U3
    obtain ⟨i, kept, wait, ao, ao', ca, ca', p', rfl, hi, hpi, B0, B2, hd, hsm, hrd, hU⟩ := hrel
    have zr := heap_lt B2
    obtain ⟨t0, t1, tl⟩ := box2 B2
    obtain ⟨t2, t3⟩ := box2f B2
    obtain ⟨q0, q1, ql⟩ := box2 B0
    obtain ⟨q2, q3'⟩ := box2f B0
    have G0 := hide B0
    have G2 := hide B2
    clear B0 B2
    by_cases hlt : 0 < i
    · have hlt' : (0 : Int) < (i : Int) := by omega
      have hrdd : Rd w0 wr.drew R p' := hrd.keepB ((Below.refl _ _).drew)
      have Hp := hide (pick_any w0 wr.drew R p' 7 hrdd (by omega) (by omega) (by omega))
      have hkl := hsm.sm.kl
      have hwl := hsm.sm.wl
      clear q0 q1 ql q2 q3'
      go_wp2
      go_region_with (first
        | (go_at_call 55; refine (unhide Hp).mono ?_; rintro e w4 ⟨a4, rfl, ha4, hr4, hu4⟩; have s0 : w4.cell? ⟨w2.heap.size, 0, none⟩ = some (.slice ao kept.length ca) := (World.cell?_of_block (a := ⟨w2.heap.size, 0, none⟩) (hu4.block w2.heap.size zr (by omega))).trans t0; have s1 : w4.cell? ⟨w2.heap.size, 1, none⟩ = some (.slice ao' wait.length ca') := (World.cell?_of_block (a := ⟨w2.heap.size, 1, none⟩) (hu4.block w2.heap.size zr (by omega))).trans t1)
        | (go_at_call 82; refine (l72Text_any w0 w4 R (p' + 1) 16 hr4 (by omega) (by omega)).mono ?_; rintro e w5 ⟨s5, rfl, hs5, hr5, hu5⟩; have u45 : Upd (fun j => j = R) wr w5 := ⟨(hu4.trans hu5).os, (hu4.trans hu5).tape, (hu4.trans hu5).output, (hu4.trans hu5).size, (hu4.trans hu5).block⟩; have y0 : w5.cell? ⟨w2.heap.size, 0, none⟩ = some (.slice ao kept.length ca) := (World.cell?_of_block (a := ⟨w2.heap.size, 0, none⟩) (u45.block w2.heap.size zr (by omega))).trans t0; have y1 : w5.cell? ⟨w2.heap.size, 1, none⟩ = some (.slice ao' wait.length ca') := (World.cell?_of_block (a := ⟨w2.heap.size, 1, none⟩) (u45.block w2.heap.size zr (by omega))).trans t1; have d5 := hd.keepU u45 (fun k ht e => by subst e; exact hrd.apart (by decide) ht) (fun k ht e => by subst e; exact hrd.apart (by decide) ht))
        | (go_at_call 99; refine (specSecPutA_any _ kept wait a4 s5 w5 (d5.reads (by omega) (by omega)) (fun s hs => by have := hsm.sm.ks s hs; omega) (fun x hx => by have := hsm.sm.ws x hx; omega) (by omega)).mono ?_; rintro e w6 ⟨v6, rfl, d6, b6⟩; obtain ⟨jo, jc, jo', jc', rfl⟩ := d6.shape; have k2 := bKeeps b6 (u45.keeps G2.out (by omega)); obtain ⟨m0, m1, ml⟩ := box2 k2; obtain ⟨m2, m3⟩ := box2f k2))
      all_goals
        have sm6 := hsm.put a4 s5 hs5
        obtain ⟨K6, hK6⟩ : ∃ K6, putK kept wait = K6 := ⟨_, rfl⟩
        obtain ⟨X6, hX6⟩ : ∃ X6, putW kept wait (a4 : Int) s5 = X6 := ⟨_, rfl⟩
        rw [hK6, hX6] at d6 sm6 ⊢
        clear hK6 hX6
        obtain ⟨W6, hW6⟩ : ∃ W6, W6 = (w6.setCell ⟨w2.heap.size, 0, none⟩ (.slice jo K6.length jc)).setCell ⟨w2.heap.size, 1, none⟩ (.slice jo' X6.length jc') := ⟨_, rfl⟩
        have hs6 : Upd (fun j => j = w2.heap.size) w6 W6 := by rw [hW6]; exact upd_set2 _ _ _ _ _ _
        have B2' : W6.heap[w2.heap.size]? = some (.cells #[.slice jo K6.length jc, .slice jo' X6.length jc'] 31 (0, 0)) := by rw [hW6]; exact row_set _ (row_set _ k2)
        rw [← hW6]
        clear hW6 m0 m1 ml m2 m3 t0 t1 tl t2 t3 s0 s1 y0 y1
        have z6 := b6.size
        have z45 := u45.size
        have B0' := hs6.keeps (bKeeps b6 (u45.keeps G0.out (by omega))) (by omega)
        have d6' := d6.keepU hs6 (fun k ht e => by subst e; exact typed_box k2 (by decide) rfl ht) (fun k ht e => by subst e; exact typed_box k2 (by decide) rfl ht)
        have r6 := (hr5.keepB b6).keep hs6 (by omega) (fun k h => by omega)
        have U6 : Upd (fun j => j = R) w W6 := ((hU.trans u45).trans (Upd.ofBelow b6)).transN hs6 (fun k h => by omega)
        have zW6 := hs6.size
        clear hd hrd hrdd Hp hr4 hr5 d5 d6 k2 G0 G2 hsm
        obtain ⟨t0, t1, tl⟩ := box2 B2'
        obtain ⟨t2, t3⟩ := box2f B2'
        have G0 := hide B0'
        have G2 := hide B2'
        clear B0' B2'
        go_wp2_with fail
        refine (pick_any w0 W6 R (p' + 1 + 3) 4 r6 (by omega) (by omega) (by omega)).mono ?_
        rintro e w7 ⟨q7, rfl, hq7, r7, hu7⟩
        have U7 : Upd (fun j => j = R) w w7 := U6.trans hu7
        have d7 := d6'.keepU hu7 (fun k ht e => by subst e; exact r6.apart (by decide) ht) (fun k ht e => by subst e; exact r6.apart (by decide) ht)
        have B0' := hu7.keeps G0.out (by omega)
        have B2' := hu7.keeps G2.out (by omega)
        have z7 := hu7.size
        clear t0 t1 tl t2 t3 G0 G2 d6' r6
        obtain ⟨t0, t1, tl⟩ := box2 B2'
        obtain ⟨t2, t3⟩ := box2f B2'
        have G0 := hide B0'
        have G2 := hide B2'
        clear B0' B2'
        by_cases hq0 : q7 = 0
        · have hq0' : ((q7 : Int) == 0) = true := by simpa using hq0
          go_wp2_with fail
          refine (specSecFlushA_any _ K6 X6 w7 (d7.reads (by have := sm6.sm.kl; omega) (by have := sm6.sm.wl; omega)) (fun s hs => by have := sm6.sm.ks s hs; omega) (fun x hx => by have := sm6.sm.ws x hx; omega)).mono ?_
          rintro e w8 ⟨v8, rfl, d8, b8⟩
          have sm8 := sm6.flush
          obtain ⟨K8, hK8⟩ : ∃ K8, flushK K6 X6 = K8 := ⟨_, rfl⟩
          rw [hK8] at d8 sm8
          clear hK8
          obtain ⟨ko, kc, ko', kc', rfl⟩ := d8.shape
          have k8 := bKeeps b8 G2.out
          clear t0 t1 tl t2 t3
          obtain ⟨m0, m1, ml⟩ := box2 k8
          obtain ⟨m2, m3⟩ := box2f k8
          have K8h := hide k8
          clear k8
          go_wp2
          have hs8 : Upd (fun j => j = w2.heap.size) w8 ((w8.setCell ⟨w2.heap.size, 0, none⟩ (.slice ko K8.length kc)).setCell ⟨w2.heap.size, 1, none⟩ (.slice ko' 0 kc')) := upd_set2 _ _ _ _ _ _
          have z8 := b8.size
          go_roundw
          case rel => exact ⟨i - 1, K8, [], ko, ko', kc, kc', p' + 1 + 3 + 1, by go_num, by omega, by omega, hs8.keeps (bKeeps b8 G0.out) (by omega), row_set _ (row_set _ K8h.out), (d8.keepU hs8 (fun k ht e => by subst e; exact typed_box K8h.out (by decide) rfl ht) (fun k ht e => by subst e; exact typed_box K8h.out (by decide) rfl ht)).mono (by omega), sm8, (r7.keepB b8).keep hs8 (by omega) (fun k h => by omega), (U7.trans (Upd.ofBelow b8)).transN hs8 (fun k h => by omega)⟩
          case measure => simp [intOf]; omega
        · have hq0' : ((q7 : Int) == 0) = false := by simpa using hq0
          go_wp2
          go_roundw
          case rel => exact ⟨i - 1, K6, X6, jo, jo', jc, jc', p' + 1 + 3 + 1, by go_num, by omega, by omega, G0.out, G2.out, d7.mono (by omega), sm6, r7, U7⟩
          case measure => simp [intOf]; omega
    · go_wp2
      have hs6 : Upd (fun j => j = w.heap.size) wr ((wr.setCell ⟨w.heap.size, 0, none⟩ (.slice ao kept.length ca)).setCell ⟨w.heap.size, 1, none⟩ (.slice ao' wait.length ca')) := upd_set2 _ _ _ _ _ _
      refine bodyPost_ret (v := .agg #[.slice ao kept.length ca, .slice ao' wait.length ca']) (by simp [results, Tryd.results81, go_sem, q0, q1]) rfl ⟨_, kept, wait, p', rfl, ?_, hsm, hrd.keep hs6 (by omega) (fun k h => by omega), by omega, hU.transN hs6 (fun k h => by omega)⟩
      exact (hd.keepU hs6 (fun k ht e => by subst e; exact typed_box G0.out (by decide) rfl ht) (fun k ht e => by subst e; exact typed_box G0.out (by decide) rfl ht)).mono (by omega)

theorem ofN_any (w0 w : World) (R p g c n : Nat) (hr : Rd w0 w R p) (hp : p ≤ 1073741824) (hg : g ≠ R) (hn1 : 1 ≤ n) (hn : n ≤ 100) (hc : ∀ j, j < n → ∃ s : ByteArray, s.size ≤ 4 ∧ w.cell? ⟨g, j, none⟩ = some (.string s)) :
    Calls Tryd.prog 80 #[.pointer (some ⟨R, 0, none⟩), .slice (some ⟨g, 0, none⟩) n c] w fun e w' => ∃ s : ByteArray, e = .returned (.string s) ∧ s.size ≤ 4 ∧ Rd w0 w' R (p + 1) ∧ Upd (fun j => j = R) w w' := by
  have Hc := hide hc
  clear hc
  go_enter Tryd.func80, Tryd.ntmps80
  go_wp2_with fail
  refine (pick_any w0 w R p n hr (by omega) (by omega) hp).mono ?_
  rintro e w1 ⟨q, rfl, hq, hr1, hu1⟩
  obtain ⟨s, hs, hcs⟩ := Hc.out q hq
  have f1 : w1.cell? ⟨g, q, none⟩ = some (.string s) := (World.cell?_of_block (a := ⟨g, q, none⟩) (hu1.block g (World.block_lt_of_cell? w _ hcs) hg)).trans hcs
  have hq' : (q : Int) < (n : Int) := by omega
  go_wp2
  go_ret
  exact ⟨s, rfl, hs, hr1, hu1⟩

theorem okB_set {kept : List ByteArray} {wait : List (Int × ByteArray)} {i : Nat} {s : ByteArray} (h : okB kept wait = true) (hs : s.size ≤ 16) : okB (kept.set i s) wait = true := by
  obtain ⟨h1, h2, h3, h4⟩ := okB_parts h
  refine okB_mk (by rw [List.length_set]; exact h1) h2 (fun t ht => ?_) (fun x hx => by rw [List.length_set]; exact h4 x hx)
  rcases List.mem_or_eq_of_mem_set ht with h | rfl
  · exact h3 t h
  · exact hs
theorem WInv.set {kept : List ByteArray} {wait : List (Int × ByteArray)} (h : WInv kept wait) (i : Nat) {s : ByteArray} (hs : s.size ≤ 16) : WInv (kept.set i s) wait := ⟨okB_set h.1 hs, by rw [List.length_set]; exact h.2.1, h.2.2⟩

/-- What a drawn disk is like. -/
structure Drawn (kept : List ByteArray) (wait : List (Int × ByteArray)) : Prop where
  inv : WInv kept wait ∨ kept.length ≤ 6
  ks : ∀ s ∈ kept, s.size ≤ 9223372036854775807
  ws : ∀ x ∈ wait, x.2.size ≤ 9223372036854775807
  kl : kept.length ≤ 512
  wl : wait.length ≤ 600
theorem WInv.drawn {kept : List ByteArray} {wait : List (Int × ByteArray)} (h : WInv kept wait) : Drawn kept wait := ⟨.inl h, (ok_big h.1).1, (ok_big h.1).2, (okB_parts h.1).1, (okB_parts h.1).2.1⟩
theorem SmallL.drawn {kept : List ByteArray} {wait : List (Int × ByteArray)} (h : SmallL kept wait) : Drawn kept wait := ⟨.inr h.le, fun s hs => by have := h.sm.ks s hs; omega, fun x hx => by have := h.sm.ws x hx; omega, by have := h.le; omega, by have := h.sm.wl; omega⟩

theorem cells5 (w : World) (a b c d e : ByteArray) (t : TypeId) (h : ∀ s ∈ [a, b, c, d, e], s.size ≤ 4) : ∀ j, j < 5 → ∃ s : ByteArray, s.size ≤ 4 ∧ (w.alloc (.cells #[.string a, .string b, .string c, .string d, .string e] t)).cell? ⟨w.heap.size, j, none⟩ = some (.string s) := by
  intro j hj
  have g := fun j => cell_of_row (w.alloc (.cells #[.string a, .string b, .string c, .string d, .string e] t)) w.heap.size j _ _ (0, 0) (al1_0 w _)
  rcases (by omega : j = 0 ∨ j = 1 ∨ j = 2 ∨ j = 3 ∨ j = 4) with rfl | rfl | rfl | rfl | rfl
  · exact ⟨a, h a (by simp), g 0⟩
  · exact ⟨b, h b (by simp), g 1⟩
  · exact ⟨c, h c (by simp), g 2⟩
  · exact ⟨d, h d (by simp), g 3⟩
  · exact ⟨e, h e (by simp), g 4⟩
theorem cells3 (w : World) (a b c : ByteArray) (t : TypeId) (h : ∀ s ∈ [a, b, c], s.size ≤ 4) : ∀ j, j < 3 → ∃ s : ByteArray, s.size ≤ 4 ∧ (w.alloc (.cells #[.string a, .string b, .string c] t)).cell? ⟨w.heap.size, j, none⟩ = some (.string s) := by
  intro j hj
  have g := fun j => cell_of_row (w.alloc (.cells #[.string a, .string b, .string c] t)) w.heap.size j _ _ (0, 0) (al1_0 w _)
  rcases (by omega : j = 0 ∨ j = 1 ∨ j = 2) with rfl | rfl | rfl
  · exact ⟨a, h a (by simp), g 0⟩
  · exact ⟨b, h b (by simp), g 1⟩
  · exact ⟨c, h c (by simp), g 2⟩

end Go.Proofs.YtapflnabiobonaaDoor
