/- Contracts and plain facts that this claim leans on (texts XQ, XP); no statement of the seat is proved here. -/
import Derived.Test.YtdnojnkcmncffaaWk27

/- Numbers written as bytes, in the program: contracts; no statement of the seat is proved here. -/
namespace Go.Proofs.Ytdnojnkcmncffaa
open Go.RowKit

/-- The slice that a block of one cell holds: bytes that were written, ready to be grown. -/
def Out (w : World) (base B : Nat) (bs : List Nat) : Prop :=
  ∃ ao ca, w.heap[B]? = some (.cells #[.slice ao bs.length ca] 69 (0, 0)) ∧ RowA w base 5 1 (.slice ao bs.length ca) bs.length (byts bs) ∧ base ≤ B

theorem RowA.keepTy8 {w w' : World} {base : Nat} {e : TypeId} {size : Nat} {T : Nat → Prop} {v : Value} {n : Nat} {cs : List Value} (h : RowA w base e size v n cs) (hb : Upd T w w') (hT : ∀ k, typed w (fun k => base ≤ k) e k → ¬ T k) : RowA w' base e size v n cs := by
  rcases h with ⟨hl, h⟩ | h
  · refine .inl ⟨hl, ?_⟩
    rcases h with h | ⟨g, cap, cur, rfl, hg, hh, h1, h2, h3, h4⟩
    · exact .inl h
    · exact .inr ⟨g, cap, cur, rfl, hg, hb.keeps hh (hT g ⟨hg, cur, hh⟩), h1, h2, h3, h4⟩
  · exact .inr h

set_option maxRecDepth 100000 in
set_option maxHeartbeats 4000000 in
theorem putNumber_any (base B : Nat) (a : Int) (bs : List Nat) (w : World) (h : Out w base B bs) (hbase : base ≤ w.heap.size) (ha : -1 ≤ a) (ha2 : a ≤ 99999) (hl : bs.length ≤ 10000) :
    Calls Try.prog 115 #[.pointer (some ⟨B, 0, none⟩), .int .i64 a] w fun e w' => e = .returned (.tuple #[]) ∧ Out w' base B (bs ++ encI a) ∧ (∀ k o, k < w.heap.size → k ≠ B → w.heap[k]? = some o → (∀ c, o ≠ .cells c 5 (0, 0)) → w'.heap[k]? = some o) ∧ Below base w w' := by
  obtain ⟨q, hq⟩ : ∃ q : Nat, a = (q : Int) - 1 := ⟨(a + 1).toNat, by omega⟩
  have hq2 : q ≤ 100000 := by omega
  have HE := hide (show encI a = encN q by rw [hq]; unfold encI; congr 1; omega)
  obtain ⟨i1, gi, gz0, gz1, gz2⟩ := info_parts infoU8
  subst hq
  have hq3 : (q : Int) - 1 + 1 = (q : Int) := by omega
  have H := hide h
  clear h ha ha2
  go_enter Try.func115, Try.ntmps115
  go_wp2
  go_loopw [4] (fun rv wr => ∃ (r : Nat) (pre : List Nat), r ≤ 100000 ∧ rv = .int .i64 r ∧ pre ++ encN r = bs ++ encN q ∧ Out wr base B pre ∧ (∀ k o, k < w.heap.size → k ≠ B → w.heap[k]? = some o → (∀ c, o ≠ .cells c 5 (0, 0)) → wr.heap[k]? = some o) ∧ Below base w wr) (fun rv _ => (intOf rv).toNat)
  case atStart => exact ⟨q, bs, hq2, rfl, rfl, H.out, fun _ _ _ _ h _ => h, Below.refl _ _⟩
  case round =>
    obtain ⟨r, pre, hr2, rfl, hpre, ho, hkeep, hbel⟩ := hrel
    have hlen : pre.length ≤ 10003 := by
      have h1 := congrArg List.length hpre
      rw [List.length_append, List.length_append] at h1
      have h3 := (encN_len q hq2).2
      omega
    have HP := hide hpre
    obtain ⟨ao, ca, hB, hrow, hbB⟩ := ho
    obtain ⟨p0, pl⟩ : wr.cell? ⟨B, 0, none⟩ = some (.slice ao pre.length ca) ∧ wr.frozen? ⟨B, 0, none⟩ = false := ⟨boxAt hB 0, boxFz hB 0⟩
    have HB := hide hB
    have HK := hide hkeep
    have hz := hbel.size
    have hBl := heap_lt hB
    clear hpre hB hkeep
    by_cases hbig : 128 ≤ r
    · have hbig' : (128 : Int) ≤ (r : Int) := by omega
      have al3 := bal (Below.refl wr.heap.size wr) (.cells #[.int .u8 ((r : Int) % 128 + 128)] 5)
      have row3 := hrow.keepB al3
      have N3 := hide (new_byte wr ((r : Int) % 128 + 128) 5)
      have HB2 := hide (bKeeps al3 HB.out)
      go_wp2_with (at_builtin; refine wpList_appendA _ rfl _ _ 69 rfl base 5 i1 (.int .u8 0) 1 1 Try.underlying69 gi gz0 gz1 gz2 rfl (by decide) _ pre.length (byts pre) rfl row3 ⟨wr.heap.size, 0, none⟩ 1 1 [.int .u8 ((r : Int) % 128 + 128)] rfl rfl N3.out (byte_one _) (by decide) ?q63 ?qby ?qbase ?_)
      case q63 => unfold maxLen; omega
      case qby => omega
      case qbase => first | omega | (simp; omega)
      intro v4 w4 hown u4
      obtain ⟨mo, cm, rfl⟩ := (Row.ofOwns hown (by omega)).shape
      have HB4 := hide (u4.keeps HB2.out (typed_box HB2.out (by decide) rfl))
      have q0 : w4.cell? ⟨B, 0, none⟩ = some (.slice ao pre.length ca) := boxAt HB4.out 0
      have q1 : w4.frozen? ⟨B, 0, none⟩ = false := boxFz HB4.out 0
      clear p0 pl
      go_wp2
      have u5 := Upd.setCell (S := fun j => j = B) w4 B 0 (.slice mo (pre.length + 1) cm) rfl
      go_roundw
      case rel =>
        refine ⟨r / 128, pre ++ [r % 128 + 128], by omega, by first | rfl | go_num | (congr 1; omega), ?_, ⟨mo, cm, ?_, ?_, hbB⟩, ?_, ?_⟩
        · rw [List.append_assoc, List.singleton_append, Nat.add_comm (r % 128) 128, ← encN_ge (by omega)]
          exact HP.out
        · rw [show (pre ++ [r % 128 + 128]).length = pre.length + 1 by simp]
          exact row_set _ HB4.out
        · rw [show (pre ++ [r % 128 + 128]).length = pre.length + 1 by simp, byts_append, show byts [r % 128 + 128] = [.int .u8 ((r : Int) % 128 + 128)] by simp [byts]]
          exact (RowA.keepTy8 (.inl hown) u5 (fun k h1 h2 => by subst h2; exact typed_box HB4.out (by decide) rfl h1))
        · intro k o hk hkB ho hno
          have g := HK.out k o hk hkB ho hno
          refine u5.keeps (u4.keeps (bKeeps al3 g) ?_) hkB
          rintro ⟨_, c, hc⟩
          rw [bKeeps al3 g] at hc
          exact hno c (Option.some.inj hc)
        · exact ((hbel.trans (al3.mono (by omega))).trans (u4.below (by first | omega | (simp; omega)) (fun k h => h.1))).trans (u5.below (by have := u4.size; simp at this; omega) (fun k h => by omega))
      case measure => simp [intOf]; omega
    · have hbig' : ¬ (128 : Int) ≤ (r : Int) := by omega
      have hr256 : (r : Int) < 256 := by omega
      have al3 := bal (Below.refl wr.heap.size wr) (.cells #[.int .u8 (r : Int)] 5)
      have row3 := hrow.keepB al3
      have N3 := hide (new_byte wr (r : Int) 5)
      have HB2 := hide (bKeeps al3 HB.out)
      go_wp2_with (at_builtin; refine wpList_appendA _ rfl _ _ 69 rfl base 5 i1 (.int .u8 0) 1 1 Try.underlying69 gi gz0 gz1 gz2 rfl (by decide) _ pre.length (byts pre) rfl row3 ⟨wr.heap.size, 0, none⟩ 1 1 [.int .u8 (r : Int)] rfl rfl N3.out (byte_one _) (by decide) ?q63 ?qby ?qbase ?_)
      case q63 => unfold maxLen; omega
      case qby => omega
      case qbase => first | omega | (simp; omega)
      intro v4 w4 hown u4
      obtain ⟨mo, cm, rfl⟩ := (Row.ofOwns hown (by omega)).shape
      have HB4 := hide (u4.keeps HB2.out (typed_box HB2.out (by decide) rfl))
      have q0 : w4.cell? ⟨B, 0, none⟩ = some (.slice ao pre.length ca) := boxAt HB4.out 0
      have q1 : w4.frozen? ⟨B, 0, none⟩ = false := boxFz HB4.out 0
      clear p0 pl
      go_wp2
      have u5 := Upd.setCell (S := fun j => j = B) w4 B 0 (.slice mo (pre.length + 1) cm) rfl
      have e1 : bs ++ encI ((q : Int) - 1) = pre ++ [r] := by rw [HE.out, ← HP.out, encN_lt (by omega)]
      go_end0
      refine ⟨rfl, ⟨mo, cm, ?_, ?_, hbB⟩, ?_, ?_⟩
      · rw [e1, show (pre ++ [r]).length = pre.length + 1 by simp]
        exact row_set _ HB4.out
      · rw [e1, show (pre ++ [r]).length = pre.length + 1 by simp, byts_append]
        exact (RowA.keepTy8 (.inl hown) u5 (fun k h1 h2 => by subst h2; exact typed_box HB4.out (by decide) rfl h1))
      · intro k o hk hkB ho hno
        have g := HK.out k o hk hkB ho hno
        refine u5.keeps (u4.keeps (bKeeps al3 g) ?_) hkB
        rintro ⟨_, c, hc⟩
        rw [bKeeps al3 g] at hc
        exact hno c (Option.some.inj hc)
      · exact ((hbel.trans (al3.mono (by omega))).trans (u4.below (by first | omega | (simp; omega)) (fun k h => h.1))).trans (u5.below (by have := u4.size; simp at this; omega) (fun k h => by omega))

/-- What writing of bytes leaves as it was: all blocks that hold no bytes, but that of the slice. -/
def Still (w w' : World) (B : Nat) : Prop := ∀ k o, k < w.heap.size → k ≠ B → w.heap[k]? = some o → (∀ c, o ≠ .cells c 5 (0, 0)) → w'.heap[k]? = some o
theorem Still.trans {w w' w'' : World} {B : Nat} (h : Still w w' B) (g : Still w' w'' B) (hs : w.heap.size ≤ w'.heap.size) : Still w w'' B := fun k o hk hB ho hno => g k o (by omega) hB (h k o hk hB ho hno) hno

set_option maxRecDepth 100000 in
set_option maxHeartbeats 4000000 in
theorem put_numbers (base B N b o n c : Nat) (xs : List Int) (bs : List Nat) (cs ds : Array Value) (t1 t2 : TypeId) (w : World) (h : Out w base B bs) (hbase : base ≤ w.heap.size) (hx : ∀ a ∈ xs, -1 ≤ a ∧ a ≤ 99999) (hl : bs.length + 3 * xs.length ≤ 10000) (hn : xs.length = n)
    (hN : w.heap[N]? = some (.cells cs t1 (0, 0))) (h1 : t1 ≠ 5) (hNB : N ≠ B) (hb : w.heap[b]? = some (.cells ds t2 (0, 0))) (h2 : t2 ≠ 5) (hbB : b ≠ B)
    (hcs : ∀ k, k < n → cs[k]? = some (.pointer (some ⟨b, o + k, none⟩))) (hds : ∀ k a, xs[k]? = some a → ds[o + k]? = some (.int .i64 a)) :
    Calls Try.prog 105 #[.pointer (some ⟨B, 0, none⟩), .slice (some ⟨N, 0, none⟩) n c] w fun e w' => e = .returned (.tuple #[]) ∧ Out w' base B (bs ++ enc xs) ∧ Still w w' B ∧ Below base w w' := by
  have H := hide h
  have HN := hide hN
  have Hb := hide hb
  have HX := hide hx
  have Hn := hide hn
  have HCS := hide hcs
  have HDS := hide hds
  have hnl : bs.length + 3 * n ≤ 10000 := by omega
  have hNl := heap_lt hN
  have hbl := heap_lt hb
  clear h hN hb hx hn hcs hds hl
  go_enter Try.func105, Try.ntmps105
  go_wp2
  go_loopw [8] (fun i wr => ∃ k : Nat, k ≤ n ∧ i = .int .i64 k ∧ Out wr base B (bs ++ enc (xs.take k)) ∧ Still w wr B ∧ Below base w wr) (fun i _ => n - (intOf i).toNat)
  case atStart => exact ⟨0, Nat.zero_le _, rfl, by simpa [enc] using H.out, fun _ _ _ _ h _ => h, Below.refl _ _⟩
  case round =>
    obtain ⟨k, hk, rfl, ho, hst, hbel⟩ := hrel
    have HO := hide ho
    have HST := hide hst
    clear ho hst
    by_cases hlt : k < n
    · obtain ⟨a, ha⟩ := getAt xs k (by have := Hn.out; omega)
      obtain ⟨a1, a2⟩ := HX.out a (List.mem_of_getElem? ha)
      have f0 : wr.cell? ⟨N, k, none⟩ = some (.pointer (some ⟨b, o + k, none⟩)) := (boxAt (HST.out N _ hNl hNB HN.out (fun c h => by cases h; exact h1 rfl)) k).trans (HCS.out k hlt)
      have f1 : wr.cell? ⟨b, o + k, none⟩ = some (.int .i64 a) := (boxAt (HST.out b _ hbl hbB Hb.out (fun c h => by cases h; exact h2 rfl)) (o + k)).trans (HDS.out k a ha)
      have hi : (k : Int) < (n : Int) := by omega
      have Ha := hide (take_enc xs k a ha)
      have hlen : (bs ++ enc (xs.take k)).length ≤ 10000 := by
        have g := (enc_len (xs.take k) (fun b hb => (HX.out b (List.mem_of_mem_take hb)).2)).2
        rw [List.length_take] at g
        rw [List.length_append]
        omega
      have hz := hbel.size
      have CP := hide (putNumber_any base B a (bs ++ enc (xs.take k)) wr HO.out (by omega) a1 a2 hlen)
      clear ha hlen
      go_wp2_with fail
      refine CP.out.mono ?_
      rintro e w1 ⟨rfl, o1, s1, b1⟩
      have s1' : Still wr w1 B := s1
      have O1 := hide o1
      have S1 := hide (HST.out.trans s1' hz)
      clear o1 s1 s1' CP f0 f1
      go_wp2
      go_roundw
      case rel => exact ⟨k + 1, by omega, by go_num, by rw [Ha.out, ← List.append_assoc]; exact O1.out, S1.out, hbel.trans b1⟩
      case measure => simp [intOf]; omega
    · have hge : ¬ (k : Int) < (n : Int) := by omega
      have e1 : xs.take k = xs := List.take_of_length_le (by have := Hn.out; omega)
      rw [e1] at HO
      clear e1
      go_wp2
      go_end0
      exact ⟨rfl, HO.out, HST.out, hbel⟩

end Go.Proofs.Ytdnojnkcmncffaa

/- WordPack of the specification: a contract; no statement of the seat is proved here. -/
namespace Go.Proofs.Ytdnojnkcmncffaa
open Go.RowKit

set_option maxRecDepth 100000 in
set_option maxHeartbeats 4000000 in
theorem specWordPack_any (v : Value) (x : Wd) (w : World) (h : WdR w v x) :
    Calls Try.prog 14 #[v] w fun e w' => ∃ vo co, e = .returned (.slice vo (packW x).length co) ∧ RowA w' w.heap.size 5 1 (.slice vo (packW x).length co) (packW x).length (byts (packW x)) ∧ Below w.heap.size w w' := by
  obtain ⟨pk, hpk⟩ : ∃ pk, packW x = pk := ⟨_, rfl⟩
  rw [hpk]
  have HPK := hide hpk
  clear hpk
  obtain ⟨cs, rfl, hs, h1⟩ := h.agg
  have HX := hide h
  have HI := hide (infoAt infoWd hs)
  have hb0 := bal (Below.refl w.heap.size w) (.cells cs 34)
  have B0 := hide (heap_alloc_new w (.cells cs 34))
  clear h hs h1
  go_enter Try.func14, Try.ntmps14
  go_wp2_with (refine wpList_load_row rfl 34 (.tmp 1) rfl w.heap.size rfl _ cs (0, 0) _ B0.out Try.underlying34 rfl HI.out ?_)
  refine (specWordOk_any _ x _ (HX.out.keep hb0)).mono ?_
  rintro e w1 ⟨rfl, b1⟩
  have c1 := bAll hb0 b1
  have B1 := hide (bKeeps b1 B0.out)
  clear B0 b1 hb0
  rcases hk : okW x with _ | _
  · have e0 : pk = [] := by rw [← HPK.out]; unfold packW; rw [hk]; rfl
    subst e0
    go_wp2
    go_ret
    exact ⟨_, _, rfl, .inr ⟨rfl, rfl, _, rfl⟩, by first | exact c1 | exact bal c1 _⟩
  · have e0 : pk = enc (allW x) := by rw [← HPK.out]; unfold packW; rw [hk]; rfl
    have E0 := hide e0
    have HP := hide (okL_mem (okW_ps hk)).1
    have HL := hide (okL_mem (okW_ls hk)).1
    have HN := hide (allW_num hk)
    have HLn := hide (allW_len x)
    have HK := hide hk
    go_wp2_with (refine wpList_load_row rfl 34 (.tmp 1) rfl w.heap.size rfl _ cs (0, 0) _ B1.out Try.underlying34 rfl HI.out ?_)
    refine (l11All_any _ x _ (HX.out.keep c1) HP.out HL.out).mono ?_
    rintro e w2 ⟨so, n, sc, rfl, hn, r2, b2⟩
    have c2 := bAll c1 b2
    have hn2 : n ≤ 1000 := by have := HP.out; have := HL.out; have := HLn.out; omega
    clear hk hn
    go_wp2_with fail
    refine (l11Byte_any _ n (allW x) _ r2 hn2 HN.out).mono ?_
    rintro e w3 ⟨vo, m, co, rfl, r3, hm, b3⟩
    have r4 := hide (r3.base (b' := w.heap.size) c2.size)
    have hm' : m = pk.length := by rw [E0.out]; exact hm
    rw [← E0.out] at r4
    subst hm'
    clear r3 r2 hm
    go_wp2
    go_ret
    exact ⟨_, _, by rw [E0.out]; rfl, r4.out, bAll c2 b3⟩

end Go.Proofs.Ytdnojnkcmncffaa
