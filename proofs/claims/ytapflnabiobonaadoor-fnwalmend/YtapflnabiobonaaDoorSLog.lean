/- What the specification reads of a log: contracts; no statement of the seat is proved here. -/
import Derived.Test.YtapflnabiobonaaDoorWNote
namespace Go.Proofs.YtapflnabiobonaaDoor
open Go.RowKit

/-- The sectors of the log that a sign speaks of. -/
def logS (s : ByteArray) (ss : List ByteArray) : List ByteArray := (ss.drop 1).take (comN s)
/-- Whether a log can be read. -/
def signB (s : ByteArray) : Bool := decide (s.size = 0 ∨ (s.size = 1 ∧ byte0 s ≤ 250))
def logB (s : ByteArray) (ss : List ByteArray) : Bool := signB s && (logS s ss).all noteB
/-- What a log says. -/
def noteW (s : ByteArray) : Int × ByteArray := ((byte0 s : Nat), rest1 s)
def logL (s : ByteArray) (ss : List ByteArray) : List (Int × ByteArray) := (logS s ss).map noteW

theorem noteB_of {s : ByteArray} (h1 : 0 < s.size) (h2 : byte0 s < 250) : noteB s = true := by simp only [noteB, decide_eq_true_eq]; exact ⟨h1, h2⟩
theorem noteB_not {s : ByteArray} (h : ¬ (0 < s.size ∧ byte0 s < 250)) : noteB s = false := by simp only [noteB, decide_eq_false_iff_not]; exact h

theorem log_no {s t : ByteArray} {ss : List ByteArray} {y k : Nat} (hsg : signB s = true) (hl : logS s ss = (ss.drop 1).take y) (hk : k < y) (ht : (ss.drop 1).take (k + 1) = (ss.drop 1).take k ++ [t]) (hn : noteB t = false) : logB s ss = false := by
  have hm : t ∈ (ss.drop 1).take y := by
    have h1 : t ∈ (ss.drop 1).take (k + 1) := by rw [ht]; simp
    have h2 : (ss.drop 1).take (k + 1) = ((ss.drop 1).take y).take (k + 1) := by rw [List.take_take]; congr 1; omega
    rw [h2] at h1
    exact List.mem_of_mem_take h1
  simp only [logB, hsg, Bool.true_and, hl, List.all_eq_false]
  exact ⟨t, hm, by simp [hn]⟩

set_option maxRecDepth 100000 in
set_option maxHeartbeats 4000000 in
theorem specL2Logged_any (so : Option Addr) (sc : Nat) (ss : List ByteArray) (s : ByteArray) (w : World) (hr : RowR w 1 (.slice so ss.length sc) ss.length (ss.map Value.string)) (h0 : ss[0]? = some s) (hlen : 251 ≤ ss.length) (hlen' : ss.length ≤ 512) (hz : ∀ t ∈ ss, t.size ≤ 16) :
    Calls Tryd.prog 35 #[.slice so ss.length sc] w fun e w' => ∃ v, e = .returned (.tuple #[v, .bool (logB s ss)]) ∧ (∃ ao n cap, v = .slice ao n cap) ∧ (logB s ss = true → RowA w' w.heap.size 63 2 v (logL s ss).length (wcells (logL s ss))) ∧ Below w.heap.size w w' := by
  obtain ⟨b, off, cap, u, ev, hb, hu, hcu⟩ := RowR.ptr hr 0 (by omega)
  simp only [Value.slice.injEq, true_and] at ev
  obtain ⟨rfl, rfl⟩ := ev
  obtain rfl : u = .string s := by rw [List.getElem?_map, h0] at hu; simpa using hu.symm
  have hsz : s.size ≤ 16 := hz s (List.mem_of_getElem? h0)
  have hi0 : (0 : Int) < (ss.length : Int) := by omega
  obtain ⟨i1, gi, gz0, gz1, gz2⟩ := info_parts infoWr
  have hcu' : w.cell? ⟨b, off, none⟩ = some (.string s) := by simpa using hcu
  have al0 := fun o : Obj => (Below.refl w.heap.size w).alloc (Nat.le_refl _) o
  have f0 : ∀ o : Obj, (w.alloc o).cell? ⟨b, off, none⟩ = some (.string s) := fun o => ((al0 o).cell (p := ⟨b, off, none⟩) hb).trans hcu'
  have HR := hide hr
  have HZ := hide hz
  clear hu hcu hr hz
  cases he : s.toList.isEmpty
  · have hp := size_pos he
    obtain ⟨y, hy⟩ : ∃ y, (s[0]'hp).toNat = y := ⟨_, rfl⟩
    have hy8 : (y : Int) < 256 := by have := (s[0]'hp).toNat_lt; omega
    have hyb : byte0 s = y := by rw [← hy]; exact byte0_eq hp
    by_cases h1 : s.size = 1
    · by_cases h2 : (y : Int) > 250
      · have HN : Hid (logB s ss = false) := by
          have : signB s = false := by simp only [signB, decide_eq_false_iff_not, hyb, h1]; simp; omega
          show _ = _
          simp [logB, this]
        clear hyb
        go_enter Tryd.func35, Tryd.ntmps35
        go_wp2
        go_ret2
        rw [HN.out]
        exact ⟨_, rfl, ⟨_, _, _, rfl⟩, (fun h => by cases h), al0 _⟩
      · have hcn : comN s = y := by simp only [comN, h1, hyb]; rw [if_pos (by simp; omega)]
        have hsg : signB s = true := by simp only [signB, decide_eq_true_eq, hyb, h1]; simp; omega
        have HL : Hid (∀ _ : Nat, logS s ss = (ss.drop 1).take y) := by intro _; simp only [logS, hcn]
        have HSG := hide hsg
        clear hyb hcn hsg
        go_enter Tryd.func35, Tryd.ntmps35
        go_wp2
        go_loopw [4, 6] (fun ov kv wr => ∃ (k : Nat) (ao : Option Addr) (ca : Nat), k ≤ y ∧ kv = .int .i64 k ∧ ov = .slice ao k ca ∧ (∀ t ∈ (ss.drop 1).take k, noteB t = true) ∧
            RowA wr w.heap.size 63 2 (.slice ao k ca) k (wcells (((ss.drop 1).take k).map noteW)) ∧ Below w.heap.size w wr) (fun _ kv _ => y - (intOf kv).toNat)
        case atStart => exact ⟨0, _, 0, Nat.zero_le _, rfl, rfl, by simp, .inr ⟨rfl, by simp [wcells], _, rfl⟩, al0 _⟩
        case round =>
          obtain ⟨k, ao, ca, hk, rfl, rfl, hall, hrow, hbel⟩ := hrel
          have HALL := hide hall
          have hy2 : y ≤ 250 := by omega
          have HK : Hid ((((ss.drop 1).take k).map noteW).length = k) := by show _ = _; rw [List.length_map, List.length_take, List.length_drop]; omega
          clear hall
          by_cases hlt : k < y
          · have hlt' : (k : Int) < (y : Int) := by omega
            obtain ⟨b', off', cap', u, ev, hb', hu, hcu⟩ := RowR.ptr HR.out (1 + k) (by omega)
            simp only [Value.slice.injEq, Option.some.injEq, Addr.mk.injEq, and_true, true_and] at ev
            obtain ⟨⟨rfl, rfl⟩, rfl⟩ := ev
            obtain ⟨t, ht⟩ := getAt ss (1 + k) (by omega)
            obtain rfl : u = .string t := by rw [List.getElem?_map, ht] at hu; simpa using hu.symm
            have htz : t.size ≤ 16 := HZ.out t (List.mem_of_getElem? ht)
            have f1 : wr.cell? ⟨b, off + (1 + k), none⟩ = some (.string t) := (hbel.cell (p := ⟨b, off + (1 + k), none⟩) hb').trans hcu
            have hi1 : (1 : Int) + (k : Int) < (ss.length : Int) := by omega
            have htake : (ss.drop 1).take (k + 1) = (ss.drop 1).take k ++ [t] := by rw [List.take_add_one, List.getElem?_drop, ht]; rfl
            have HTK := hide htake
            clear hu hcu htake f0 hcu'
            cases het : t.toList.isEmpty
            · have hpt := size_pos het
              have hpt' : ((t.size : Int) == 0) = false := by simp only [beq_eq_false_iff_ne, ne_eq]; omega
              obtain ⟨z, hz⟩ : ∃ z, (t[0]'hpt).toNat = z := ⟨_, rfl⟩
              have hz8 : (z : Int) < 256 := by have := (t[0]'hpt).toNat_lt; omega
              have hzb : byte0 t = z := by rw [← hz]; exact byte0_eq hpt
              by_cases h3 : (z : Int) ≥ 250
              · have HF := hide (log_no HSG.out (HL.out 0) hlt HTK.out (noteB_not (s := t) (by rw [hzb]; omega)))
                clear hzb
                go_wp2
                go_ret2
                rw [HF.out]
                exact ⟨_, rfl, ⟨_, _, _, rfl⟩, (fun h => by cases h), hbel⟩
              · have hnb := noteB_of hpt (by rw [hzb]; omega : byte0 t < 250)
                have hnw : noteW t = ((z : Int), rest1 t) := by simp only [noteW, hzb]
                have zw : IntKind.i64.wrap (z : Int) = (z : Int) := by simp [IntKind.wrap, IntKind.bits, IntKind.signed]; omega
                have ZW := hide zw
                clear zw
                have HNB := hide hnb
                have HNW := hide hnw
                have h1t : (1 : Int) ≤ (t.size : Int) := by omega
                clear hzb hnb hnw
                have al2 : Below wr.heap.size wr (wr.drew.alloc (.cells #[.int .i64 (IntKind.i64.wrap (z : Int)), .string (t.extract 1 t.size)] 63)) := ((Below.refl _ _).drew).alloc (Nat.le_refl _) _
                have N3 := hide (new_cells wr.drew (IntKind.i64.wrap (z : Int)) (t.extract 1 t.size) 63)
                have s3 := hrow.keepB al2
                have zz := hbel.size
                have hbs : w.heap.size ≤ (wr.drew.alloc (.cells #[.int .i64 (IntKind.i64.wrap (z : Int)), .string (t.extract 1 t.size)] 63)).heap.size := by have := al2.size; omega
                go_wp2
                go_region_law (refine step_appendA rfl _ _ 29 rfl w.heap.size 63 i1 (.agg #[.int .i64 0, .string ⟨#[]⟩]) 2 24 Tryd.underlying29 gi gz0 gz1 gz2 rfl (by decide) _ k _ rfl s3 ⟨wr.heap.size, 0, none⟩ 1 1 [.int .i64 (IntKind.i64.wrap (z : Int)), .string (t.extract 1 t.size)] rfl rfl N3.out (new_one _ _) (by decide) (by unfold maxLen; omega) (by omega) hbs ?_; intro v4 w4 hown u4; obtain ⟨mo', cm', rfl⟩ := (Row.ofOwns hown (by omega)).shape)
                all_goals
                  have b4 : Below w.heap.size w w4 := hbel.trans ((al2.mono zz).trans (u4.below hbs (fun k h => h.1)))
                  go_wp2
                  go_roundw
                  case rel =>
                    refine ⟨k + 1, mo', cm', by omega, by go_num, rfl, ?_, ?_, b4⟩
                    · intro x hx
                      rw [HTK.out] at hx
                      rcases List.mem_append.1 hx with hx | hx
                      · exact HALL.out x hx
                      · rw [List.mem_singleton] at hx
                        rw [hx]
                        exact HNB.out
                    · rw [HTK.out, List.map_append, List.map_cons, List.map_nil, HNW.out, wcells_snoc]
                      rw [ZW.out] at hown
                      exact .inl hown
                  case measure => simp [intOf]; omega
            · have h0t : t.size = 0 := by
                have e := toList_len t
                have := List.isEmpty_iff.1 het
                rw [this] at e
                simpa using e.symm
              have HF := hide (log_no HSG.out (HL.out 0) hlt HTK.out (noteB_not (s := t) (by omega)))
              go_wp2
              go_ret2
              rw [HF.out]
              exact ⟨_, rfl, ⟨_, _, _, rfl⟩, (fun h => by cases h), hbel⟩
          · obtain rfl : k = y := by omega
            have HF : Hid (logB s ss = true ∧ logL s ss = ((ss.drop 1).take k).map noteW) := by
              have e := HL.out 0
              constructor
              · simp only [logB, HSG.out, Bool.true_and, e, List.all_eq_true]
                exact HALL.out
              · simp only [logL, e]
            go_wp2
            go_ret2
            rw [HF.out.1, HF.out.2]
            refine ⟨_, rfl, ⟨_, _, _, rfl⟩, fun _ => ?_, hbel⟩
            rw [HK.out]
            exact hrow
    · have HN : Hid (logB s ss = false) := by
        have : signB s = false := by simp only [signB, decide_eq_false_iff_not]; omega
        show _ = _
        simp [logB, this]
      have h1' : ((s.size : Int) != 1) = true := by simp; omega
      clear hyb
      go_enter Tryd.func35, Tryd.ntmps35
      go_wp2
      go_ret2
      rw [HN.out]
      exact ⟨_, rfl, ⟨_, _, _, rfl⟩, (fun h => by cases h), al0 _⟩
  · have h0s : s.size = 0 := by
      have e := toList_len s
      have := List.isEmpty_iff.1 he
      rw [this] at e
      simpa using e.symm
    have HN : Hid (logB s ss = true ∧ logL s ss = []) := by
      have hc : comN s = 0 := by simp [comN, h0s]
      constructor
      · simp [logB, signB, h0s, logS, hc]
      · simp [logL, logS, hc]
    clear h0s
    go_enter Tryd.func35, Tryd.ntmps35
    go_wp2
    go_ret2
    rw [HN.out.1, HN.out.2]
    exact ⟨_, rfl, ⟨_, _, _, rfl⟩, (fun _ => .inr ⟨rfl, rfl, _, rfl⟩), al0 _⟩

end Go.Proofs.YtapflnabiobonaaDoor
