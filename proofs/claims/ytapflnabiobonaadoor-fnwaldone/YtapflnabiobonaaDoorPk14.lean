/- Contracts and plain facts that the claims of this seat lean on (texts WD2); no statement of the seat is proved here. -/
import Derived.Test.YtapflnabiobonaaDoorPk10
import Derived.Test.YtapflnabiobonaaDoorPk11
import Derived.Test.YtapflnabiobonaaDoorPk12
import Derived.Test.YtapflnabiobonaaDoorPk13

/- A drawn disk with transactions: a contract; no statement of the seat is proved here. -/
namespace Go.Proofs.YtapflnabiobonaaDoor
open Go.RowKit

theorem DiskO.keepTy {w w' : World} {S T : Nat → Prop} {v : Value} {kept : List ByteArray} {wait : List (Int × ByteArray)} (h : DiskO w S v kept wait) (hb : Upd T w w') (h1 : ∀ k, typed w S 9 k → ¬ T k) (h2 : ∀ k, typed w S 63 k → ¬ T k) : DiskO w' S v kept wait := by
  obtain ⟨vk, vw, rfl, a1, a2⟩ := h
  exact ⟨vk, vw, rfl, (a1.typed.keep hb h1).mono (fun k _ hk => hk.1), (a2.typed.keep hb h2).mono (fun k _ hk => hk.1)⟩

theorem ok_big {kept : List ByteArray} {wait : List (Int × ByteArray)} (h : okB kept wait = true) : (∀ s ∈ kept, s.size ≤ 9223372036854775807) ∧ ∀ x ∈ wait, x.2.size ≤ 9223372036854775807 := by
  obtain ⟨-, -, h3, h4⟩ := okB_parts h
  exact ⟨fun s hs => by have := h3 s hs; omega, fun x hx => by have := (h4 x hx).2.2; omega⟩

theorem readH_small {kept : List ByteArray} {wait : List (Int × ByteArray)} : ∀ s ∈ readH kept wait, s.size ≤ 9223372036854775807 := by
  intro s hs
  unfold readH at hs
  split at hs
  · rename_i h
    have hf := read_form h
    obtain ⟨hok, h5, hfk⟩ := form_parts hf
    obtain ⟨-, -, h3, h4⟩ := okB_parts hok
    have hFz : ∀ t ∈ flushL kept wait, t.size ≤ 16 := flushL_all h3 (fun x hx => (h4 x hx).2.2)
    rw [hfk, homesL] at hs
    have hall := flushL_all (kept := (flushL kept wait).drop 251) (wait := logL (sign0 (flushL kept wait)) (flushL kept wait)) (P := fun s => s.size ≤ 16) (fun t ht => hFz t (List.mem_of_mem_drop ht)) (fun x hx => by
      obtain ⟨t, ht, rfl⟩ := List.mem_map.1 hx
      have := hFz t (List.mem_of_mem_drop (List.mem_of_mem_take ht))
      have := rest1_size t
      show (rest1 t).size ≤ 16
      omega)
    have := hall s hs
    omega
  · cases hs

theorem wrapT (n : Nat) (h : n ≤ 600) : IntKind.i64.wrap ((n : Int) + 1) = ((n + 1 : Nat) : Int) := by
  simp only [IntKind.wrap, IntKind.bits, IntKind.signed]
  simp
  omega

set_option maxRecDepth 100000 in
set_option maxHeartbeats 8000000 in
theorem l72Wal_any (w0 w : World) (R p : Nat) (hr : Rd w0 w R p) (hp : p ≤ 500000) :
    Calls Tryd.prog 79 #[.pointer (some ⟨R, 0, none⟩)] w fun e w' => ∃ v kept wait p', e = .returned v ∧ DiskO w' (fun k => w.heap.size ≤ k) v kept wait ∧ WInv kept wait ∧ Rd w0 w' R p' ∧ p' ≤ p + 400 ∧ Upd (fun j => j = R) w w' := by
  obtain ⟨hRl, hR0, hw0⟩ := hr.lt
  have al0 : Below w.heap.size w (w.alloc (.cells #[.slice none 0 0, .slice none 0 0] 31)) := (Below.refl _ _).alloc (Nat.le_refl _) _
  have H0 := hide (al1_0 w (.cells #[.slice none 0 0, .slice none 0 0] 31))
  go_enter Tryd.func79, Tryd.ntmps79
  go_wp2_with fail
  refine (specWalNew_any _).mono ?_
  rintro e w1 ⟨v1, rfl, d1, b1⟩
  have cl1 := clean_new
  obtain ⟨K1, hK1⟩ : ∃ K1, newKept 501 = K1 := ⟨_, rfl⟩
  rw [hK1] at d1 cl1
  clear hK1
  obtain ⟨ao, ca, ao', ca', rfl⟩ := d1.shapeO
  simp only [World.size_alloc, List.length_nil] at d1 ⊢
  have c1 := bAll al0 b1
  have z1 := b1.size
  simp only [World.size_alloc] at z1
  have al2 : Below w1.heap.size w1 (w1.alloc (.cells #[.slice ao K1.length ca, .slice ao' 0 ca'] 31)) := (Below.refl _ _).alloc (Nat.le_refl _) _
  have H2 := hide (al1_0 w1 (.cells #[.slice ao K1.length ca, .slice ao' 0 ca'] 31))
  have rd2 := (hr.keepB c1).keepB al2
  have d2 := d1.keepB al2
  replace H0 := hide (bKeeps al2 (bKeeps b1 H0.out))
  clear d1
  go_wp2_with fail
  refine (pick_any w0 _ R p 3 rd2 (by omega) (by omega) (by omega)).mono ?_
  rintro e w2 ⟨q2, rfl, hq2, rd3, u2⟩
  have U2 : Upd (fun j => j = R) w w2 := (Upd.ofBelow (bAll c1 al2)).trans u2
  have z2 := u2.size
  simp only [World.size_alloc] at z2
  replace H0 := hide (u2.keeps H0.out (by omega))
  replace H2 := hide (u2.keeps H2.out (by omega))
  have d3 := (d2.keep u2 (fun k h e => by omega)).mono (T := fun k => w.heap.size ≤ k) (fun k _ h => by omega)
  clear d2 rd2
  go_wp2
  go_loopw [4] (fun kv wr => ∃ (i : Nat) (kept : List ByteArray) (ao ao' : Option Addr) (ca ca' p' : Nat), kv = .int .i64 i ∧ i ≤ 3 ∧ p' + 41 * i ≤ p + 130 ∧
      wr.heap[w.heap.size]? = some (.cells #[.slice none 0 0, .slice none 0 0] 31 (0, 0)) ∧ wr.heap[w1.heap.size]? = some (.cells #[.slice ao kept.length ca, .slice ao' 0 ca'] 31 (0, 0)) ∧
      DiskO wr (fun k => w.heap.size ≤ k) (.agg #[.slice ao kept.length ca, .slice ao' 0 ca']) kept [] ∧ Clean kept ∧ Rd w0 wr R p' ∧ Upd (fun j => j = R) w wr) (fun kv _ => (intOf kv).toNat)
  case atStart => exact ⟨1 + q2, K1, ao, ao', ca, ca', p + 1, by first | rfl | go_num, by omega, by omega, H0.out, H2.out, d3, cl1, rd3, U2⟩
  case round =>
    clear H0 H2 d3 cl1 rd3 U2
    obtain ⟨i, kept, ao, ao', ca, ca', p', rfl, hi, hpi, B0, B2, hd, hcl, hrd, hU⟩ := hrel
    have zr := heap_lt B2
    have zU := hU.size
    obtain ⟨t0, t1, tl⟩ := box2 B2
    have G0 := hide B0
    have G2 := hide B2
    obtain ⟨bk, bw⟩ := ok_big hcl.1
    obtain ⟨hrb, hnl⟩ := hcl.read
    have HRC := hide (specWalRead_any _ kept [] wr hd.reads bk bw)
    rw [hrb] at HRC
    have hnz := readH_small (kept := kept) (wait := [])
    obtain ⟨now, hnow⟩ : ∃ now, readH kept [] = now := ⟨_, rfl⟩
    rw [hnow] at HRC hnl hnz
    rw [hnl] at HRC
    have HNL := hide hnl
    have HNZ := hide hnz
    clear hnow hrb B0 B2 hnl hnz
    have hls := stepsL_len kept []
    have hss := stepsL_small kept []
    by_cases hlt : 0 < i
    · have hlt' : (0 : Int) < (i : Int) := by omega
      go_wp2_with fail
      refine (unhide HRC).mono ?_
      rintro e w3 ⟨v3, rfl, r3, b3⟩
      obtain ⟨no, nc, rfl⟩ := r3.shape
      have z3 := b3.size
      have hrd3 : Rd w0 w3.drew R p' := (hrd.keepB b3).keepB ((Below.refl _ _).drew)
      have Hh := hide (l72Homes_any w0 w3.drew R p' no nc now hrd3 (by omega) (by rw [HNL.out]; exact r3.reads.keep ((Below.refl _ _).drew)) HNL.out HNZ.out)
      rw [HNL.out] at Hh
      clear HRC t0 t1 tl
      obtain ⟨t0, t1, tl⟩ := box2 (bKeeps b3 G2.out)
      clear r3
      go_wp2
      go_region_with (first
        | (go_at_call 24; refine (unhide HS).mono ?_; rintro e w5 ⟨v5, rfl, r5, b5, so5, sc5, rfl, hcap5⟩)
        | (go_at_call 54; refine (unhide Hh).mono ?_; rintro e w4 ⟨ho, hc, out, p4, rfl, hol, hcap, hoz, r4, rd4, hp4, u4⟩; have u34 : Upd (fun j => j = R) w3 w4 := ⟨u4.os, u4.tape, u4.output, u4.size, u4.block⟩; have s0 : w4.cell? ⟨w1.heap.size, 0, none⟩ = some (.slice ao kept.length ca) := (World.cell?_of_block (a := ⟨w1.heap.size, 0, none⟩) (u34.block w1.heap.size tl (by omega))).trans t0; have s1 : w4.cell? ⟨w1.heap.size, 1, none⟩ = some (.slice ao' 0 ca') := (World.cell?_of_block (a := ⟨w1.heap.size, 1, none⟩) (u34.block w1.heap.size tl (by omega))).trans t1; have d4 := (hd.keepB b3).keep u34 (fun k h e => by omega); have HS := hide (specWalStepsC_any _ ho hc out kept [] w4 d4.reads (by rw [hol]; exact r4.reads) hoz bk bw); rw [hol] at HS; have HOL := hide hol; have HOZ := hide hoz; clear hol hoz))
      all_goals
        have z4 := u34.size
        have z5 := b5.size
        have hTl := hls out
        have hTz := hss out
        have U5 : Upd (fun j => j = R) w w5 := ((hU.trans (Upd.ofBelow b3)).trans u34).trans (Upd.ofBelow b5)
        have G0' := hide (bKeeps b5 (u34.keeps (bKeeps b3 G0.out) (by omega)))
        have G2' := hide (bKeeps b5 (u34.keeps (bKeeps b3 G2.out) (by omega)))
        have d5 := d4.keepB b5
        have rd5 := rd4.keepB b5
        have hcs := clean_step hcl out
        obtain ⟨T, hT⟩ : ∃ T, stepsL kept [] out = T := ⟨_, rfl⟩
        rw [hT] at r5 hTl hTz hcs hcap5 ⊢
        have HD := hide (specWalDo_any _ kept [] so5 none sc5 0 T false 0 [] w5 d5.reads r5.reads (fun x hx => by have := hTz x hx; omega) (RowR.nil _ _) bk bw)
        rw [hcs.1] at HD
        obtain ⟨K6, hK6⟩ : ∃ K6, (doR kept [] T false 0 []).1 = K6 := ⟨_, rfl⟩
        rw [hK6] at HD hcs
        have hcl6 := hcs.2
        simp only [List.length_nil] at HD
        clear t0 t1 tl s0 s1 hT hK6 hcs HS Hh r4
        obtain ⟨t0, t1, tl⟩ := box2 G2'.out
        go_wp2_with fail
        refine (unhide HD).mono ?_
        rintro e w6 ⟨v6, rfl, d6, b6⟩
        obtain ⟨jo, jc, jo', jc', rfl⟩ := d6.shapeO
        simp only [List.length_nil] at d6 ⊢
        have k2 := bKeeps b6 G2'.out
        clear t0 t1 tl HD
        obtain ⟨m0, m1, ml⟩ := box2 k2
        obtain ⟨m2, m3⟩ := box2f k2
        have K2 := hide k2
        clear k2
        go_wp2
        have hs6 := upd_set2 w6 w1.heap.size 0 1 (.slice jo K6.length jc) (.slice jo' 0 jc')
        have z6 := b6.size
        go_roundw
        case rel =>
          refine ⟨i - 1, K6, jo, jo', jc, jc', p4, by go_num, by omega, by omega, hs6.keeps (bKeeps b6 G0'.out) (by omega), row_set _ (row_set _ K2.out), ?_, hcl6, (rd5.keepB b6).keep hs6 (by omega) (fun k h => by omega), (U5.trans (Upd.ofBelow b6)).transN hs6 (fun k h => by omega)⟩
          exact (d6.keep hs6 (fun k h e => by omega)).mono (fun k _ h => by omega)
        case measure => simp [intOf]; omega
    · have hlt' : ¬ (0 : Int) < (i : Int) := by omega
      go_wp2_with fail
      refine (unhide HRC).mono ?_
      rintro e w3 ⟨v3, rfl, r3, b3⟩
      obtain ⟨no, nc, rfl⟩ := r3.shape
      have z3 := b3.size
      have hrd3 : Rd w0 w3.drew R p' := (hrd.keepB b3).keepB ((Below.refl _ _).drew)
      have Hh := hide (l72Homes_any w0 w3.drew R p' no nc now hrd3 (by omega) (by rw [HNL.out]; exact r3.reads.keep ((Below.refl _ _).drew)) HNL.out HNZ.out)
      rw [HNL.out] at Hh
      clear HRC t0 t1 tl
      obtain ⟨t0, t1, tl⟩ := box2 (bKeeps b3 G2.out)
      clear r3
      go_wp2
      go_region_with (first
        | (go_at_call 24; refine (unhide HS).mono ?_; rintro e w5 ⟨v5, rfl, r5, b5, so5, sc5, rfl, hcap5⟩)
        | (go_at_call 54; refine (unhide Hh).mono ?_; rintro e w4 ⟨ho, hc, out, p4, rfl, hol, hcap, hoz, r4, rd4, hp4, u4⟩; have u34 : Upd (fun j => j = R) w3 w4 := ⟨u4.os, u4.tape, u4.output, u4.size, u4.block⟩; have s0 : w4.cell? ⟨w1.heap.size, 0, none⟩ = some (.slice ao kept.length ca) := (World.cell?_of_block (a := ⟨w1.heap.size, 0, none⟩) (u34.block w1.heap.size tl (by omega))).trans t0; have s1 : w4.cell? ⟨w1.heap.size, 1, none⟩ = some (.slice ao' 0 ca') := (World.cell?_of_block (a := ⟨w1.heap.size, 1, none⟩) (u34.block w1.heap.size tl (by omega))).trans t1; have d4 := (hd.keepB b3).keep u34 (fun k h e => by omega); have HS := hide (specWalStepsC_any _ ho hc out kept [] w4 d4.reads (by rw [hol]; exact r4.reads) hoz bk bw); rw [hol] at HS; have HOL := hide hol; have HOZ := hide hoz; clear hol hoz))
      all_goals
        have z4 := u34.size
        have z5 := b5.size
        have hTl := hls out
        have hTz := hss out
        have U5 : Upd (fun j => j = R) w w5 := ((hU.trans (Upd.ofBelow b3)).trans u34).trans (Upd.ofBelow b5)
        have G0' := hide (bKeeps b5 (u34.keeps (bKeeps b3 G0.out) (by omega)))
        have G2' := hide (bKeeps b5 (u34.keeps (bKeeps b3 G2.out) (by omega)))
        have d5 := d4.keepB b5
        have rd5 := rd4.keepB b5
        have icut := fun a ks => inv_cut hcl out a ks
        have ipart := fun k => inv_part hcl out k
        have iall := hcl.inv
        obtain ⟨T, hT⟩ : ∃ T, stepsL kept [] out = T := ⟨_, rfl⟩
        rw [hT] at r5 hTl hTz hcap5 icut ipart ⊢
        clear t0 t1 tl s0 s1 hT HS Hh r4
        go_wp2_with fail
        refine (pick_any w0 w5 R p4 4 rd5 (by omega) (by omega) (by omega)).mono ?_
        rintro e w6 ⟨q6, rfl, hq6, rd6, u6⟩
        have z6 := u6.size
        have U6 := U5.trans u6
        have d6 := d5.keep u6 (fun k h e => by omega)
        have r6 := r5.keep u6 (fun k h e => by omega)
        replace G0' := hide (u6.keeps G0'.out (by omega))
        replace G2' := hide (u6.keeps G2'.out (by omega))
        obtain ⟨t0, t1, tl⟩ := box2 G2'.out
        obtain ⟨x0, x1, xl⟩ := box2 G0'.out
        obtain ⟨x2, x3⟩ := box2f G0'.out
        rcases (by omega : q6 = 0 ∨ q6 = 1 ∨ q6 = 2 ∨ q6 = 3) with rfl | rfl | rfl | rfl
        · go_wp2
          have hs := upd_set2 w6 w.heap.size 0 1 (.slice ao kept.length ca) (.slice ao' 0 ca')
          refine bodyPost_ret (v := .agg #[.slice ao kept.length ca, .slice ao' 0 ca']) (by simp [results, Tryd.results79, go_sem, x0, x1]) rfl ⟨_, kept, [], _, rfl, ?_, iall, rd6.keep hs (by omega) (fun k h => by omega), by omega, U6.transN hs (fun k h => by omega)⟩
          exact d6.keepTy hs (fun k ht e => by subst e; exact typed_box G0'.out (by decide) rfl ht) (fun k ht e => by subst e; exact typed_box G0'.out (by decide) rfl ht)
        · have hTz' : ∀ x ∈ T, x.2.2.size ≤ 9223372036854775807 := fun x hx => by have := hTz x hx; omega
          have rd6d : Rd w0 w6.drew R (p4 + 1) := rd6.keepB ((Below.refl _ _).drew)
          go_wp2
          go_region_with (first
            | (go_at_call 96; refine (HD _).mono ?_; rintro e w9 ⟨v9, K9, X9, rfl, d9, iv9, b9⟩; obtain ⟨jo, jc, jo', jc', rfl⟩ := d9.shapeO; have k0 := bKeeps b9 (u68.keeps G0'.out (by omega)); obtain ⟨m0, m1, ml⟩ := box2 k0; obtain ⟨m2, m3⟩ := box2f k0; have K0 := hide k0; clear k0)
            | (go_at_call 97; refine (l72Bits_any w0 w7 R (p4 + 2) 8 rd7 (by omega) (by omega)).mono ?_; rintro e w8 ⟨ko, kc, ks, p8, rfl, rk8, hk8, rd8, hp8, u8⟩; have u68 : Upd (fun j => j = R) w6 w8 := u67.trans u8; have y0 : w8.cell? ⟨w1.heap.size, 0, none⟩ = some (.slice ao kept.length ca) := (World.cell?_of_block (a := ⟨w1.heap.size, 0, none⟩) (u68.block w1.heap.size tl (by omega))).trans t0; have y1 : w8.cell? ⟨w1.heap.size, 1, none⟩ = some (.slice ao' 0 ca') := (World.cell?_of_block (a := ⟨w1.heap.size, 1, none⟩) (u68.block w1.heap.size tl (by omega))).trans t1; have HD := fun af => (specWalDo_any _ kept [] so5 ko sc5 kc T true af ks w8 (d6.keep u68 (fun k h e => by omega)).reads (r6.keep u68 (fun k h e => by omega)).reads hTz' (rk8.row (by omega)).reads bk bw).mono (R' := fun e w' => ∃ v' K X, e = .returned v' ∧ DiskO w' (fun k => w8.heap.size ≤ k) v' K X ∧ WInv K X ∧ Below w8.heap.size w8 w') (fun _ _ ⟨v', h1, h2, h3⟩ => ⟨v', _, _, h1, h2, icut af ks, h3⟩))
            | (go_at_call 55; refine (pick_at w0 w6.drew R (p4 + 1) (T.length + 1) _ (by first | exact wrapT _ (by omega) | omega) rd6d (by omega) (by omega) (by omega)).mono ?_; rintro e w7 ⟨a7, rfl, ha7, rd7, u7⟩; have u67 : Upd (fun j => j = R) w6 w7 := ⟨u7.os, u7.tape, u7.output, u7.size, u7.block⟩; have s0 : w7.cell? ⟨w1.heap.size, 0, none⟩ = some (.slice ao kept.length ca) := (World.cell?_of_block (a := ⟨w1.heap.size, 0, none⟩) (u67.block w1.heap.size tl (by omega))).trans t0; have s1 : w7.cell? ⟨w1.heap.size, 1, none⟩ = some (.slice ao' 0 ca') := (World.cell?_of_block (a := ⟨w1.heap.size, 1, none⟩) (u67.block w1.heap.size tl (by omega))).trans t1))
          all_goals
            have z8 := u68.size
            have z9 := b9.size
            try go_wp2
            have hs := upd_set2 w9 w.heap.size 0 1 (.slice jo K9.length jc) (.slice jo' X9.length jc')
            refine bodyPost_ret (v := .agg #[.slice jo K9.length jc, .slice jo' X9.length jc']) (by simp [results, Tryd.results79, go_sem, m0, m1]) rfl ⟨_, K9, X9, _, rfl, ?_, iv9, (rd8.keepB b9).keep hs (by omega) (fun k h => by omega), by omega, ((U6.trans u68).trans (Upd.ofBelow b9)).transN hs (fun k h => by omega)⟩
            exact (d9.keep hs (fun k h e => by omega)).mono (fun k _ h => by omega)
        · have hTz' : ∀ x ∈ T, x.2.2.size ≤ 9223372036854775807 := fun x hx => by have := hTz x hx; omega
          go_wp2_with fail
          refine (pick_at w0 w6 R (p4 + 1) (T.length + 1) _ (by first | exact wrapT _ (by omega) | omega) rd6 (by omega) (by omega) (by omega)).mono ?_
          rintro e w7 ⟨a7, rfl, ha7, rd7, u7⟩
          have z7 := u7.size
          have U7 := U6.trans u7
          have d7 := d6.keep u7 (fun k h e => by omega)
          have r7 := RowR.prefix (n := a7) (r6.keep u7 (fun k h e => by omega)).reads (by omega)
          have htl : (T.take a7).length = a7 := by rw [List.length_take]; omega
          replace G0' := hide (u7.keeps G0'.out (by omega))
          replace G2' := hide (u7.keeps G2'.out (by omega))
          have u68 : Upd (fun j => j = R) w7 w7.drew := Upd.ofBelow ((Below.refl _ _).drew)
          have HD := (specWalDo_any _ kept [] so5 none sc5 0 (T.take a7) false 0 [] w7.drew (d7.keepB ((Below.refl _ _).drew)).reads (r7.keep ((Below.refl _ _).drew)) (fun x hx => hTz' x (List.mem_of_mem_take hx)) (RowR.nil _ _) bk bw).mono (R' := fun e w' => ∃ v' K X, e = .returned v' ∧ DiskO w' (fun k => w7.heap.size ≤ k) v' K X ∧ WInv K X ∧ Below w7.heap.size w7 w') (fun _ _ ⟨v', h1, h2, h3⟩ => ⟨v', _, _, h1, h2, ipart a7, bUndrew h3⟩)
          rw [htl] at HD
          simp only [List.length_nil] at HD
          have HDh := hide HD
          have hsl : (a7 : Int) ≤ (sc5 : Int) := by omega
          clear t0 t1 tl x0 x1 xl x2 x3 HD r7 htl
          obtain ⟨t0, t1, tl⟩ := box2 G2'.out
          go_wp2
          go_region_with (go_at_call 96; refine (unhide HDh).mono ?_; rintro e w9 ⟨v9, K9, X9, rfl, d9, iv9, b9⟩; obtain ⟨jo, jc, jo', jc', rfl⟩ := d9.shapeO; have k0 := bKeeps b9 G0'.out; obtain ⟨m0, m1, ml⟩ := box2 k0; obtain ⟨m2, m3⟩ := box2f k0; have K0 := hide k0; clear k0)
          all_goals
            have z9 := b9.size
            try go_wp2
            have hs := upd_set2 w9 w.heap.size 0 1 (.slice jo K9.length jc) (.slice jo' X9.length jc')
            refine bodyPost_ret (v := .agg #[.slice jo K9.length jc, .slice jo' X9.length jc']) (by simp [results, Tryd.results79, go_sem, m0, m1]) rfl ⟨_, K9, X9, _, rfl, ?_, iv9, (rd7.keepB b9).keep hs (by omega) (fun k h => by omega), by omega, (U7.trans (Upd.ofBelow b9)).transN hs (fun k h => by omega)⟩
            exact (d9.keep hs (fun k h e => by omega)).mono (fun k _ h => by omega)
        · have hTz' : ∀ x ∈ T, x.2.2.size ≤ 9223372036854775807 := fun x hx => by have := hTz x hx; omega
          have rd6d : Rd w0 w6.drew R (p4 + 1) := rd6.keepB ((Below.refl _ _).drew)
          go_wp2
          go_region_with (first
            | (go_at_call 96; refine (HD _).mono ?_; rintro e w9 ⟨v9, K9, X9, rfl, d9, iv9, b9⟩; obtain ⟨jo, jc, jo', jc', rfl⟩ := d9.shapeO; have k0 := bKeeps b9 (u68.keeps G0'.out (by omega)); obtain ⟨m0, m1, ml⟩ := box2 k0; obtain ⟨m2, m3⟩ := box2f k0; have K0 := hide k0; clear k0)
            | (go_at_call 97; refine (l72Bits_any w0 w7 R (p4 + 2) 8 rd7 (by omega) (by omega)).mono ?_; rintro e w8 ⟨ko, kc, ks, p8, rfl, rk8, hk8, rd8, hp8, u8⟩; have u68 : Upd (fun j => j = R) w6 w8 := u67.trans u8; have y0 : w8.cell? ⟨w1.heap.size, 0, none⟩ = some (.slice ao kept.length ca) := (World.cell?_of_block (a := ⟨w1.heap.size, 0, none⟩) (u68.block w1.heap.size tl (by omega))).trans t0; have y1 : w8.cell? ⟨w1.heap.size, 1, none⟩ = some (.slice ao' 0 ca') := (World.cell?_of_block (a := ⟨w1.heap.size, 1, none⟩) (u68.block w1.heap.size tl (by omega))).trans t1; have HD := fun af => (specWalDo_any _ kept [] so5 ko sc5 kc T true af ks w8 (d6.keep u68 (fun k h e => by omega)).reads (r6.keep u68 (fun k h e => by omega)).reads hTz' (rk8.row (by omega)).reads bk bw).mono (R' := fun e w' => ∃ v' K X, e = .returned v' ∧ DiskO w' (fun k => w8.heap.size ≤ k) v' K X ∧ WInv K X ∧ Below w8.heap.size w8 w') (fun _ _ ⟨v', h1, h2, h3⟩ => ⟨v', _, _, h1, h2, icut af ks, h3⟩))
            | (go_at_call 55; refine (pick_any w0 w6.drew R (p4 + 1) 4 rd6d (by omega) (by omega) (by omega)).mono ?_; rintro e w7 ⟨a7, rfl, ha7, rd7, u7⟩; have u67 : Upd (fun j => j = R) w6 w7 := ⟨u7.os, u7.tape, u7.output, u7.size, u7.block⟩; have s0 : w7.cell? ⟨w1.heap.size, 0, none⟩ = some (.slice ao kept.length ca) := (World.cell?_of_block (a := ⟨w1.heap.size, 0, none⟩) (u67.block w1.heap.size tl (by omega))).trans t0; have s1 : w7.cell? ⟨w1.heap.size, 1, none⟩ = some (.slice ao' 0 ca') := (World.cell?_of_block (a := ⟨w1.heap.size, 1, none⟩) (u67.block w1.heap.size tl (by omega))).trans t1))
          all_goals
            have z8 := u68.size
            have z9 := b9.size
            try go_wp2
            have hs := upd_set2 w9 w.heap.size 0 1 (.slice jo K9.length jc) (.slice jo' X9.length jc')
            refine bodyPost_ret (v := .agg #[.slice jo K9.length jc, .slice jo' X9.length jc']) (by simp [results, Tryd.results79, go_sem, m0, m1]) rfl ⟨_, K9, X9, _, rfl, ?_, iv9, (rd8.keepB b9).keep hs (by omega) (fun k h => by omega), by omega, ((U6.trans u68).trans (Upd.ofBelow b9)).transN hs (fun k h => by omega)⟩
            exact (d9.keep hs (fun k h e => by omega)).mono (fun k _ h => by omega)

end Go.Proofs.YtapflnabiobonaaDoor
