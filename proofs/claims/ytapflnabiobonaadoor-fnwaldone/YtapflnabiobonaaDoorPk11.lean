/- Contracts and plain facts that the claims of this seat lean on (texts WStepS); no statement of the seat is proved here. -/
import Derived.Test.YtapflnabiobonaaDoorPk8
import Derived.Test.YtapflnabiobonaaDoorPk10

/- WalSteps of the specification: contracts; no statement of the seat is proved here. -/
namespace Go.Proofs.YtapflnabiobonaaDoor
open Go.RowKit

theorem new_cells9b (w : World) (b : ByteArray) (e : TypeId) : ∀ j u, (scells [flushS, (false, 0, b), flushS])[j]? = some u → (w.alloc (.cells #[.bool true, .int .i64 0, .string ⟨#[]⟩, .bool false, .int .i64 0, .string b, .bool true, .int .i64 0, .string ⟨#[]⟩] e)).cell? ((⟨w.heap.size, 0, none⟩ : Addr).add j) = some u := by
  intro j u h
  rw [Addr.add_lit, Nat.zero_add, cell_of_row _ _ j _ _ (0, 0) (al1_0 w _)]
  simpa [scells, scell, flushS] using h

theorem look0 {kept : List ByteArray} {wait : List (Int × ByteArray)} (hf : formB kept wait = true) : lookB kept wait 0 = sign0 (flushK kept wait) := by
  have hok : okB kept wait = true := by simp only [formB, Bool.and_eq_true] at hf; exact hf.1
  have h5 : kept.length = 501 := by simp only [formB, Bool.and_eq_true, decide_eq_true_eq] at hf; exact hf.2
  have hin : inB 0 0 ((kept.length : Int) - 1) = true := by simp [inB]; omega
  simp only [lookB, hok, hin, and_self, if_true, sign0, flushK, Int.toNat_zero]

theorem fit_no {hs : List ByteArray} {j : Nat} {t : ByteArray} (h : hs[j]? = some t) (ht : 15 < t.size) : fitB hs = false := by
  have : hs.all (fun s => decide (s.size ≤ 15)) = false := by
    rw [List.all_eq_false]
    exact ⟨t, List.mem_of_getElem? h, by simp; omega⟩
  simp [fitB, this]
theorem fit_yes {hs : List ByteArray} (h5 : hs.length = 250) (h : ∀ j t, j < hs.length → hs[j]? = some t → t.size ≤ 15) : fitB hs = true := by
  have : hs.all (fun s => decide (s.size ≤ 15)) = true := by
    rw [List.all_eq_true]
    intro x hx
    obtain ⟨j, hj⟩ := List.getElem?_of_mem hx
    have := (List.getElem?_eq_some_iff.1 hj).1
    simp only [decide_eq_true_eq]
    exact h j x (by omega) hj
  simp [fitB, this, h5]
theorem readH_len {kept : List ByteArray} {wait : List (Int × ByteArray)} (h : readB kept wait = true) : (readH kept wait).length = 250 := by
  have hf : formB kept wait = true := by simp only [readB, Bool.and_eq_true] at h; exact h.1
  have hok : okB kept wait = true := by simp only [formB, Bool.and_eq_true] at hf; exact hf.1
  have h5 : kept.length = 501 := by simp only [formB, Bool.and_eq_true, decide_eq_true_eq] at hf; exact hf.2
  rw [readH, if_pos h, homesL, flushL_len, List.length_drop, flushK, if_pos hok, flushL_len]
  omega

/-- The later half: what is done with the homes that change. -/
theorem owns_some {w : World} {base : Nat} {e : TypeId} {size n : Nat} {ao : Option Addr} {ca : Nat} {cs : List Value} (h : RowA w base e size (.slice ao n ca) n cs) (hn : 0 < n) (h63 : n ≤ 9223372036854775807) : ∃ b off, ao = some ⟨b, off, none⟩ ∧ (∀ j u, cs[j]? = some u → w.cell? ((⟨b, off, none⟩ : Addr).add j) = some u) ∧ cs.length = n * size := by
  obtain ⟨ao', ca', ev, _, hl, hr⟩ := (h.row h63).reads
  simp only [Value.slice.injEq, true_and] at ev
  obtain ⟨rfl, rfl⟩ := ev
  obtain ⟨b, off, rfl, hc⟩ := hr hn
  exact ⟨b, off, rfl, fun j u hj => by rw [Addr.add_lit]; exact hc j u hj, hl⟩

/-- A slice has room for what it holds. -/
def CapOk (v : Value) (n : Nat) : Prop := ∃ so sc, v = .slice so n sc ∧ n ≤ sc
theorem owns_cap {w : World} {base : Nat} {e : TypeId} {size n : Nat} {v : Value} {cs : List Value} (h : w.ownsRow base e size v n cs) : CapOk v n := by
  obtain ⟨_, ⟨h1, h2⟩ | ⟨g, cap, cur, rfl, _, _, h1, h2, h3, h4⟩⟩ := h
  · subst h1
    subst h2
    exact ⟨none, 0, rfl, Nat.le_refl _⟩
  · exact ⟨_, cap, rfl, by omega⟩

set_option maxRecDepth 100000 in
set_option maxHeartbeats 8000000 in
theorem specWalStepsC_any (v : Value) (so : Option Addr) (sc : Nat) (hs : List ByteArray) (kept : List ByteArray) (wait : List (Int × ByteArray)) (w : World) (hr : DiskR w v kept wait) (hx : RowR w 1 (.slice so hs.length sc) hs.length (hs.map Value.string)) (hxz : ∀ s ∈ hs, s.size ≤ 9223372036854775807) (hs1 : ∀ s ∈ kept, s.size ≤ 9223372036854775807) (hs2 : ∀ s ∈ wait, s.2.size ≤ 9223372036854775807) :
    Calls Tryd.prog 24 #[v, .slice so hs.length sc] w fun e w' => ∃ v', e = .returned (.tuple #[v', .bool (stepsB kept wait hs)]) ∧ Row w' 50 3 (fun k => w.heap.size ≤ k) v' (stepsL kept wait hs).length (scells (stepsL kept wait hs)) ∧ Below w.heap.size w w' ∧ CapOk v' (stepsL kept wait hs).length := by
  have Hr := hide hr
  have HX := hide hx
  have HXZ := hide hxz
  have hxn : hs.length ≤ 9223372036854775807 := by obtain ⟨_, _, _, h, _⟩ := hx; exact h
  obtain ⟨ak, aw, rfl, ⟨ao, ca, rfl, -⟩, ⟨bo, cb, rfl, -⟩⟩ := hr
  obtain ⟨Wa, hWa⟩ : ∃ Wa, Wa = (w.alloc (.cells #[.slice ao kept.length ca, .slice bo wait.length cb] 31)).alloc (.cells #[] 50) := ⟨_, rfl⟩
  have hal : Below w.heap.size w Wa := by rw [hWa]; exact ((Below.refl _ _).alloc (Nat.le_refl _) _).alloc (by simp) _
  have H0 := hide (show Wa.heap[w.heap.size]? = some (.cells #[.slice ao kept.length ca, .slice bo wait.length cb] 31 (0, 0)) by rw [hWa]; exact al2_0 w _ _)
  have HRC := hide (specWalRead_any _ kept wait _ (Hr.out.keep hal) hs1 hs2)
  have HLC := fun w h => specSecLook_any (.agg #[.slice ao kept.length ca, .slice bo wait.length cb]) kept wait 0 w h hs1 hs2
  obtain ⟨i1, gi, gz0, gz1, gz2⟩ := info_parts infoWr
  obtain ⟨i2, si, sz0, sz1, sz2⟩ := info_parts infoSt
  clear hx hxz hs1 hs2
  go_enter Tryd.func24, Tryd.ntmps24
  go_wp2_with fail
  rw [← hWa]
  clear hWa
  refine (unhide HRC).mono ?_
  rintro e w1 ⟨v1, rfl, r1, b1⟩
  obtain ⟨ho, hc, rfl⟩ := r1.shape
  have c1 := bAll hal b1
  have z1 := c1.size
  clear HRC
  cases hrb : readB kept wait
  · have HN : Hid (stepsB kept wait hs = false) := by show _ = _; simp [stepsB, hrb]
    have HN2 := hide (stepsL_no HN.out)
    clear hrb r1 HLC
    go_wp2
    go_ret2
    rw [HN.out, HN2.out]
    exact ⟨_, rfl, Row.none0 _ _ _ _ _ _, c1, _, _, rfl, Nat.zero_le _⟩
  have hf : formB kept wait = true := by simp only [readB, Bool.and_eq_true] at hrb; exact hrb.1
  have hnl := readH_len hrb
  obtain ⟨now, hnow⟩ : ∃ now, readH kept wait = now := ⟨_, rfl⟩
  rw [hnow] at r1 hnl
  obtain ⟨s, hsg⟩ : ∃ s, sign0 (flushK kept wait) = s := ⟨_, rfl⟩
  have hlk := look0 hf
  rw [hsg] at hlk
  rw [hlk] at HLC
  have HB : Hid (stepsB kept wait hs = (decide (s.size = 0) && fitB hs)) := by show _ = _; simp only [stepsB, hrb, hsg, Bool.true_and]
  have HY2 : Hid (stepsB kept wait hs = true → stepsL kept wait hs = stepsOf (chgK now hs 250)) := fun h => by rw [stepsL_yes h, hnow]
  have RN := hide r1.reads
  have hn1 : 250 ≤ now.length := by omega
  have hn2 : now.length ≤ 250 := by omega
  rw [hnow]
  clear hrb hf hnow hsg hlk r1 hnl
  by_cases h5 : hs.length = 250
  · have h5' : ((hs.length : Int) != 250) = false := by simp only [bne_eq_false_iff_eq]; omega
    have hh1 : 250 ≤ hs.length := by omega
    have hh2 : hs.length ≤ 250 := by omega
    have H5 := hide h5
    have HL1 := hide (HLC w1 (Hr.out.keep c1))
    obtain ⟨p0, p1, pl⟩ := box2 (bKeeps b1 H0.out)
    clear h5 HLC
    go_wp2_with fail
    refine (unhide HL1).mono ?_
    rintro e w2 ⟨rfl, b2⟩
    have c2 := bAll c1 b2
    have z2 := c2.size
    clear HL1 p0 p1 pl
    cases he : s.toList.isEmpty
    · have hsz : s.size ≠ 0 := by have := size_pos he; omega
      have HN : Hid (stepsB kept wait hs = false) := by show _ = _; rw [HB.out]; simp [hsz]
      have HN2 := hide (stepsL_no HN.out)
      clear hsz
      go_wp2
      go_ret2
      rw [HN.out, HN2.out]
      exact ⟨_, rfl, Row.none0 _ _ _ _ _ _, c2, _, _, rfl, Nat.zero_le _⟩
    have hsz : s.size = 0 := empty_size he
    have HB2 : Hid (stepsB kept wait hs = fitB hs) := by show _ = _; rw [HB.out]; simp [hsz]
    have RN2 := hide (RN.out.keep b2)
    have HX2 := hide (HX.out.keep c2)
    clear hsz HB RN
    go_wp2
    go_loopw [9, 10] (fun ov iv wr => ∃ (k : Nat) (xo : Option Addr) (xc : Nat), k ≤ hs.length ∧ iv = .int .i64 k ∧ ov = .slice xo (chgK now hs k).length xc ∧ (∀ j t, j < k → hs[j]? = some t → t.size ≤ 15) ∧ RowA wr w2.heap.size 63 2 (.slice xo (chgK now hs k).length xc) (chgK now hs k).length (wcells (chgK now hs k)) ∧ Below w2.heap.size w2 wr) (fun _ iv _ => hs.length - (intOf iv).toNat)
    case atStart => exact ⟨0, _, 0, Nat.zero_le _, rfl, rfl, fun j t hj => by omega, .inr ⟨rfl, rfl, _, rfl⟩, (Below.refl _ _).alloc (Nat.le_refl _) _⟩
    case round =>
      obtain ⟨k, xo, xc, hk, rfl, rfl, hall, hown, hbel⟩ := hrel
      have HA := hide hall
      have hcl := chgK_len now hs k
      have zz := hbel.size
      clear hall
      by_cases hlt : k < hs.length
      · obtain ⟨t, ht⟩ := getAt now k (by omega)
        obtain ⟨x, hsk⟩ := getAt hs k hlt
        obtain ⟨b, off, cap, u, ev, hb, hu, hcu⟩ := RowR.ptr RN2.out k (by omega)
        simp only [Value.slice.injEq, true_and] at ev
        obtain ⟨rfl, rfl⟩ := ev
        obtain rfl : u = .string t := by rw [List.getElem?_map, ht] at hu; simpa using hu.symm
        obtain ⟨b', off', cap', u, ev, hb', hu', hcu'⟩ := RowR.ptr HX2.out k hlt
        simp only [Value.slice.injEq, true_and] at ev
        obtain ⟨rfl, rfl⟩ := ev
        obtain rfl : u = .string x := by rw [List.getElem?_map, hsk] at hu'; simpa using hu'.symm
        have f1 : wr.cell? ⟨b, off + k, none⟩ = some (.string t) := (hbel.cell (p := ⟨b, off + k, none⟩) hb).trans hcu
        have f2 : wr.cell? ⟨b', off' + k, none⟩ = some (.string x) := (hbel.cell (p := ⟨b', off' + k, none⟩) hb').trans hcu'
        have hi : (k : Int) < (now.length : Int) := by omega
        have hi' : (k : Int) < (hs.length : Int) := by omega
        have hxz : x.size ≤ 9223372036854775807 := HXZ.out x (List.mem_of_getElem? hsk)
        have H1 := hide hsk
        have H2 := hide ht
        clear hu hcu hu' hcu' ht hsk
        by_cases h15 : (x.size : Int) > 15
        · have HN : Hid (stepsB kept wait hs = false) := HB2.out.trans (fit_no H1.out (by omega))
          have HN2 := hide (stepsL_no HN.out)
          go_wp2
          go_ret2
          rw [HN.out, HN2.out]
          exact ⟨_, rfl, Row.none0 _ _ _ _ _ _, c2.trans (hbel.mono z2), _, _, rfl, Nat.zero_le _⟩
        · have HA2 : Hid (∀ j t, j < k + 1 → hs[j]? = some t → t.size ≤ 15) := by
            intro j t hj ht
            by_cases hjk : j = k
            · subst hjk
              rw [H1.out] at ht
              rw [← Option.some.inj ht]
              omega
            · exact HA.out j t (by omega) ht
          cases hq : (x.toList == t.toList)
          · have HN := hide (chgK_no H1.out H2.out hq)
            obtain ⟨C, hC⟩ : ∃ C, chgK now hs k = C := ⟨_, rfl⟩
            rw [hC] at hown HN hcl ⊢
            clear hC
            go_wp2
            go_region
            all_goals
              go_wp2_with (at_builtin; refine wpList_appendA _ rfl _ _ 29 rfl w2.heap.size 63 i1 (.agg #[.int .i64 0, .string ⟨#[]⟩]) 2 24 Tryd.underlying29 gi gz0 gz1 gz2 rfl (by decide) _ C.length (wcells C) rfl (hown.keepB (((Below.refl _ _).drew).alloc (Nat.le_refl _) _)) ⟨wr.heap.size, 0, none⟩ 1 1 [.int .i64 (k : Int), .string x] rfl rfl ?qn (new_one _ _) (by decide) ?q63 ?qby ?qbase ?_)
              case qn => exact new_cells wr.drew _ _ _
              case q63 => unfold maxLen; omega
              case qby => omega
              case qbase => simp; omega
              intro v4 w4 hown4 u4
              obtain ⟨mo, cm, rfl⟩ := (Row.ofOwns hown4 (by omega)).shape
              have bA : Below w2.heap.size wr w4 := (((Below.refl w2.heap.size wr).drew).alloc (by simp; omega) _).trans (u4.below (by simp; omega) (fun k h => h.1))
              go_wp2
              go_roundw
              case rel =>
                refine ⟨k + 1, mo, cm, by omega, by go_num, ?_, HA2.out, ?_, hbel.trans bA⟩
                · rw [HN.out, List.length_append]; rfl
                · rw [HN.out, List.length_append, wcells_snoc]; exact .inl hown4
              case measure => simp [intOf]; omega
          · have HN := hide (chgK_yes H1.out H2.out hq)
            go_wp2
            go_region
            all_goals
              go_wp2
              go_roundw
              case rel =>
                refine ⟨k + 1, xo, xc, by omega, by go_num, ?_, HA2.out, ?_, hbel.trans ((Below.refl _ _).drew)⟩
                · rw [HN.out]
                · rw [HN.out]; exact hown.keepB ((Below.refl _ _).drew)
              case measure => simp [intOf]; omega
      · obtain ⟨q, rfl⟩ : ∃ q, q = k := ⟨_, rfl⟩
        have hq250 : q = 250 := by omega
        have hfit : fitB hs = true := fit_yes H5.out (fun j t hj ht => HA.out j t (by omega) ht)
        have HY : Hid (stepsB kept wait hs = true) := HB2.out.trans hfit
        have HY3 := hide (HY2.out HY.out)
        have hCb := chgK_bound (now := now) hfit
        rw [← hq250] at HY3 hCb
        obtain ⟨C, hC⟩ : ∃ C, chgK now hs q = C := ⟨_, rfl⟩
        rw [hC] at hown hcl HY3 hCb ⊢
        have HCb := hide hCb
        obtain ⟨w5, rfl⟩ : ∃ w5, w5 = wr := ⟨_, rfl⟩
        have c5 := c2.trans (hbel.mono z2)
        have hd250 : decide ((q : Int) < (hs.length : Int)) = false := by rw [decide_eq_false_iff_not]; omega
        have hCl : (C.length : Int) < 256 := by omega
        clear hC hfit HY2 HB2 HA hCb RN2 HX2 hq250
        by_cases hc0 : C.length = 0
        · have hc0' : ((C.length : Int) == 0) = true := by simp only [beq_iff_eq]; omega
          have HE : Hid (stepsL kept wait hs = []) := by show _ = _; rw [HY3.out]; simp [stepsOf, hc0]
          clear hc0
          go_wp2
          go_ret2
          rw [HY.out, HE.out]
          exact ⟨_, rfl, Row.none0 _ _ _ _ _ _, c5, _, _, rfl, Nat.zero_le _⟩
        · have hc0' : ((C.length : Int) == 0) = false := by simp only [beq_eq_false_iff_ne, ne_eq]; omega
          have HE : Hid (stepsL kept wait hs = commitL C ++ applyL C) := by show _ = _; rw [HY3.out]; simp [stepsOf, hc0]
          obtain ⟨_, _, ev, _, _, hrc⟩ := (hown.row (by omega)).reads
          simp only [Value.slice.injEq, true_and] at ev
          obtain ⟨rfl, rfl⟩ := ev
          have HRC := hide hrc
          have HCR := hide (hown.row (by omega)).reads
          clear hown HY3 hrc
          go_wp2
          go_loopw [11, 12] (fun ov iv wr => ∃ (k : Nat) (yo : Option Addr) (yc : Nat), k ≤ C.length ∧ iv = .int .i64 k ∧ ov = .slice yo k yc ∧ RowA wr w5.heap.size 50 3 (.slice yo k yc) k (scells ((logW 0 (C.take k)).map putS)) ∧ Below w5.heap.size w5 wr) (fun _ iv _ => C.length - (intOf iv).toNat)
          case atStart => exact ⟨0, _, 0, Nat.zero_le _, rfl, rfl, .inr ⟨rfl, rfl, _, rfl⟩, (Below.refl _ _).alloc (Nat.le_refl _) _⟩
          case round =>
            obtain ⟨k, yo, yc, hk, rfl, rfl, hrow, hbel5⟩ := hrel
            have zz5 := hbel5.size
            by_cases hlt : k < C.length
            · obtain ⟨⟨a, t⟩, hx⟩ := getAt C k hlt
              obtain ⟨ha0, ha1, ha2⟩ := HCb.out (a, t) (List.mem_of_getElem? hx)
              simp only at ha0 ha1 ha2
              obtain ⟨b, off, rfl, hcl'⟩ := HRC.out (by omega)
              obtain ⟨e0, e1⟩ := wcells_at C k _ hx
              have g1 := hcl' _ _ e0
              have g2 := hcl' _ _ e1
              have l1 : b < w5.heap.size := World.block_lt_of_cell? w5 _ g1
              have f1 : wr.cell? ⟨b, off + k * 2, none⟩ = some (.int .i64 a) := by rw [Nat.mul_comm k 2]; exact (hbel5.cell (p := ⟨b, off + 2 * k, none⟩) l1).trans g1
              have f2 : wr.cell? ⟨b, off + k * 2 + 1, none⟩ = some (.string t) := by rw [Nat.mul_comm k 2]; exact (hbel5.cell (p := ⟨b, off + (2 * k + 1), none⟩) l1).trans g2
              have hi' : (k : Int) < (C.length : Int) := by omega
              have Hx := hide hx
              have zu : IntKind.u8.wrap a = a := by simp [IntKind.wrap, IntKind.bits, IntKind.signed]; omega
              have ZU := hide zu
              have zw : IntKind.i64.wrap (1 + (k : Int)) = 1 + (k : Int) := by simp [IntKind.wrap, IntKind.bits, IntKind.signed]; omega
              have ZW := hide zw
              have hcv : (convert 46 9 (.slice (some ⟨wr.heap.size, 0, none⟩) 1 1)).run Tryd.prog ((wr.alloc (.cells #[.int .u8 (IntKind.u8.wrap a)] 5)).drew) = .ok (.string (byteS (IntKind.u8.wrap a))) ((wr.alloc (.cells #[.int .u8 (IntKind.u8.wrap a)] 5)).drew) := run_byte_string (P := Tryd.prog) 46 9 5 Tryd.underlying46 Tryd.underlying5 Tryd.underlying9 wr.drew _
              have hcat : ¬ (9223372036854775807 < (byteS (IntKind.u8.wrap a)).size + t.size) := by have : (byteS (IntKind.u8.wrap a)).size = 1 := rfl; omega
              have HP := hide (l2Put_any (IntKind.i64.wrap (1 + (k : Int))) (byteS (IntKind.u8.wrap a) ++ t) ((wr.alloc (.cells #[.int .u8 (IntKind.u8.wrap a)] 5)).drew))
              have al1 : Below wr.heap.size wr ((wr.alloc (.cells #[.int .u8 (IntKind.u8.wrap a)] 5)).drew) := ((Below.refl _ _).drew).alloc (Nat.le_refl _) _
              have hbw : b < wr.heap.size := by omega
              have f3 : (wr.alloc (.cells #[.int .u8 (IntKind.u8.wrap a)] 5)).cell? ⟨b, off + k * 2 + 1, none⟩ = some (.string t) := (((Below.refl wr.heap.size wr).alloc (Nat.le_refl _) _).cell (p := ⟨b, off + k * 2 + 1, none⟩) hbw).trans f2
              have Hrow := hide hrow
              clear hcl' g1 g2 e0 e1 hx hrow zu zw
              go_wp2
              go_region_law (first
                | (refine step_appendA rfl _ _ 38 rfl w5.heap.size 50 i2 (.agg #[.bool false, .int .i64 0, .string ⟨#[]⟩]) 3 32 Tryd.underlying38 si sz0 sz1 sz2 rfl (by decide) _ k _ rfl s3 ⟨w6.heap.size, 0, none⟩ 1 1 [.bool false, .int .i64 (IntKind.i64.wrap (1 + (k : Int))), .string (byteS (IntKind.u8.wrap a) ++ t)] rfl rfl N3.out (new_one3 _ _ _) (by decide) (by unfold maxLen; omega) (by omega) hbs ?_; intro v4 w4 hown u4; obtain ⟨mo', cm', rfl⟩ := (Row.ofOwns hown (by omega)).shape)
                | (go_simp; go_at_call 48; refine (unhide HP).mono ?_; rintro e w6 ⟨rfl, b6⟩; have b6' : Below wr.heap.size wr w6 := bAll al1 b6; have al2 : Below w6.heap.size w6 (w6.alloc (.cells #[.bool false, .int .i64 (IntKind.i64.wrap (1 + (k : Int))), .string (byteS (IntKind.u8.wrap a) ++ t)] 50)) := (Below.refl _ _).alloc (Nat.le_refl _) _; have s3 := ((unhide Hrow).keepB b6').keepB al2; have N3 := hide (new_cells3 w6 false (IntKind.i64.wrap (1 + (k : Int))) (byteS (IntKind.u8.wrap a) ++ t) 50); have hbs : w5.heap.size ≤ (w6.alloc (.cells #[.bool false, .int .i64 (IntKind.i64.wrap (1 + (k : Int))), .string (byteS (IntKind.u8.wrap a) ++ t)] 50)).heap.size := Nat.le_trans (Nat.le_trans zz5 b6'.size) al2.size))
              all_goals
                go_wp2
                go_roundw
                case rel =>
                  refine ⟨k + 1, mo', cm', by omega, by go_num, rfl, ?_, hbel5.trans (((bAll b6' al2).mono zz5).trans (u4.below hbs (fun j h => h.1)))⟩
                  rw [List.take_add_one, Hx.out, Option.toList_some, logW_snoc, List.map_append, List.map_cons, List.map_nil, putS, scells_snoc]
                  rw [show (((1 + (0 + (C.take k).length) : Nat)) : Int) = 1 + (k : Int) by rw [List.length_take]; omega]
                  rw [ZW.out, ZU.out] at hown
                  exact .inl hown
                case measure => simp [intOf]; omega
            · obtain rfl : k = C.length := by omega
              rw [List.take_length] at hrow
              have hcv := fun w n => run_byte_string (P := Tryd.prog) 46 9 5 Tryd.underlying46 Tryd.underlying5 Tryd.underlying9 w n
              go_wp2_with fail
              refine (l2Put_any _ _ _).mono ?_
              rintro e w6 ⟨rfl, b6⟩
              obtain ⟨bs, hbs⟩ : ∃ bs : ByteArray, (⟨#[UInt8.ofNat C.length]⟩ : ByteArray) = bs := ⟨_, rfl⟩
              have HBS : Hid (bs = byteS (C.length : Int)) := hbs.symm
              rw [hbs]
              clear hbs hcv
              have al1 : Below wr.heap.size wr (wr.alloc (.cells #[.int .u8 (C.length : Int)] 5)) := (Below.refl _ _).alloc (Nat.le_refl _) _
              have al2 : Below w6.heap.size w6 (w6.alloc (.cells #[.bool true, .int .i64 0, .string ⟨#[]⟩, .bool false, .int .i64 0, .string bs, .bool true, .int .i64 0, .string ⟨#[]⟩] 50)) := (Below.refl _ _).alloc (Nat.le_refl _) _
              have b6' := bAll al1 b6
              have s3 := (hrow.keepB b6').keepB al2
              have N3 := hide (new_cells9b w6 bs 50)
              have hbs : w5.heap.size ≤ (w6.alloc (.cells #[.bool true, .int .i64 0, .string ⟨#[]⟩, .bool false, .int .i64 0, .string bs, .bool true, .int .i64 0, .string ⟨#[]⟩] 50)).heap.size := Nat.le_trans (Nat.le_trans zz5 b6'.size) al2.size
              go_wp2_with (at_builtin; refine wpList_appendA _ rfl _ _ 38 rfl w5.heap.size 50 i2 (.agg #[.bool false, .int .i64 0, .string ⟨#[]⟩]) 3 32 Tryd.underlying38 si sz0 sz1 sz2 rfl (by decide) _ C.length _ rfl s3 ⟨w6.heap.size, 0, none⟩ 3 3 (scells [flushS, (false, 0, bs), flushS]) rfl rfl N3.out (scells_one _) (by decide) ?q63 ?qby hbs ?_)
              case q63 => unfold maxLen; omega
              case qby => omega
              intro v4 w4 hown u4
              obtain ⟨mo', cm', rfl⟩ := (Row.ofOwns hown (by omega)).shape
              have c4 : Below w5.heap.size w5 w4 := hbel5.trans (((bAll b6' al2).mono zz5).trans (u4.below hbs (fun j h => h.1)))
              have HAP := hide (l2Apply_any xo xc C w4 (HCR.out.keep c4) (fun x hx => ⟨(HCb.out x hx).1, (HCb.out x hx).2.1⟩) (by omega))
              have hTA := applyL_len C
              obtain ⟨TA, eTA⟩ : ∃ TA, applyL C = TA := ⟨_, rfl⟩
              rw [eTA] at HAP hTA HE
              have Hown := hide hown
              have HTA := hide hTA
              clear eTA s3 N3 hrow hown hTA
              go_wp2_with fail
              refine (unhide HAP).mono ?_
              rintro e w7 ⟨ao7, ca7, rfl, r7, b7⟩
              obtain ⟨b7b, off7, rfl, hc7, hl7⟩ := owns_some r7 (by have := HTA.out; omega) (by have := HTA.out; omega)
              have z7 := c4.size
              have hown7 : RowA w7 w5.heap.size 50 3 _ _ _ := (show RowA w4 w5.heap.size 50 3 _ _ _ from .inl Hown.out).keepB b7
              have hta1 : TA.length ≤ 300 := by have := HTA.out; omega
              have hta2 : 0 < TA.length := by have := HTA.out; omega
              clear HAP
              go_wp2_with (at_builtin; refine wpList_appendA _ rfl _ _ 38 rfl w5.heap.size 50 i2 (.agg #[.bool false, .int .i64 0, .string ⟨#[]⟩]) 3 32 Tryd.underlying38 si sz0 sz1 sz2 rfl (by decide) _ (C.length + 3) _ rfl hown7 ⟨b7b, off7, none⟩ TA.length ca7 (scells TA) rfl hl7 hc7 (scells_one _) hta2 ?q63b ?qbyb ?qbaseb ?_)
              case q63b => unfold maxLen; omega
              case qbyb => omega
              case qbaseb => have := b7.size; omega
              intro v8 w8 hown8 u8
              have r8 := (Row.ofOwns hown8 (by omega)).mono (T := fun k => w.heap.size ≤ k) (fun k _ h => by have := c5.size; omega)
              obtain ⟨no8, cn8, rfl⟩ := r8.shape
              have c8 : Below w.heap.size w w8 := (c5.trans ((bAll c4 b7).mono c5.size)).trans ((u8.below (by have := b7.size; omega) (fun j h => h.1)).mono c5.size)
              have R8 := hide r8
              have C8 := hide (owns_cap hown8)
              clear r8 hown8
              go_wp2
              go_ret2
              have hlen : (stepsL kept wait hs).length = C.length + 3 + TA.length := by rw [HE.out, List.length_append, commitL_len]
              have hcel : scells (stepsL kept wait hs) = scells (List.map putS (logW 0 C)) ++ (scells [flushS, (false, 0, bs), flushS] ++ scells TA) := by
                rw [HE.out, scells_app, commitL, scells_app, ← HBS.out, List.append_assoc]
              rw [HY.out, hlen, hcel]
              exact ⟨_, rfl, R8.out, c8, C8.out⟩
  · have h5' : ((hs.length : Int) != 250) = true := by simp only [bne_iff_ne, ne_eq]; omega
    have HN : Hid (stepsB kept wait hs = false) := by show _ = _; rw [HB.out]; simp [fitB, h5]
    have HN2 := hide (stepsL_no HN.out)
    clear h5 HLC
    go_wp2
    go_ret2
    rw [HN.out, HN2.out]
    exact ⟨_, rfl, Row.none0 _ _ _ _ _ _, c1, _, _, rfl, Nat.zero_le _⟩

theorem specWalSteps_any (v : Value) (so : Option Addr) (sc : Nat) (hs : List ByteArray) (kept : List ByteArray) (wait : List (Int × ByteArray)) (w : World) (hr : DiskR w v kept wait) (hx : RowR w 1 (.slice so hs.length sc) hs.length (hs.map Value.string)) (hxz : ∀ s ∈ hs, s.size ≤ 9223372036854775807) (hs1 : ∀ s ∈ kept, s.size ≤ 9223372036854775807) (hs2 : ∀ s ∈ wait, s.2.size ≤ 9223372036854775807) :
    Calls Tryd.prog 24 #[v, .slice so hs.length sc] w fun e w' => ∃ v', e = .returned (.tuple #[v', .bool (stepsB kept wait hs)]) ∧ Row w' 50 3 (fun k => w.heap.size ≤ k) v' (stepsL kept wait hs).length (scells (stepsL kept wait hs)) ∧ Below w.heap.size w w' :=
  (specWalStepsC_any v so sc hs kept wait w hr hx hxz hs1 hs2).mono (fun _ _ ⟨v', h1, h2, h3, _⟩ => ⟨v', h1, h2, h3⟩)

end Go.Proofs.YtapflnabiobonaaDoor
