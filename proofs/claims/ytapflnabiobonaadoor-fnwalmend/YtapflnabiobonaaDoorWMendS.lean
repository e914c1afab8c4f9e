/- WalMend of the specification: contracts; no statement of the seat is proved here. -/
import Derived.Test.YtapflnabiobonaaDoorWMend
namespace Go.Proofs.YtapflnabiobonaaDoor
open Go.RowKit

theorem new_cells9 (w : World) (e : TypeId) : ∀ j u, (scells [flushS, (false, 0, ⟨#[]⟩), flushS])[j]? = some u → (w.alloc (.cells #[.bool true, .int .i64 0, .string ⟨#[]⟩, .bool false, .int .i64 0, .string ⟨#[]⟩, .bool true, .int .i64 0, .string ⟨#[]⟩] e)).cell? ((⟨w.heap.size, 0, none⟩ : Addr).add j) = some u := by
  intro j u h
  rw [Addr.add_lit, Nat.zero_add, cell_of_row _ _ j _ _ (0, 0) (al1_0 w _)]
  simpa [scells, scell, flushS] using h
theorem scells_one (xs : List Stp) : ∀ u ∈ scells xs, u.oneCell' = true := by
  intro u hu
  obtain ⟨x, _, hx⟩ := List.mem_flatMap.1 hu
  simp only [scell, List.mem_cons, List.not_mem_nil, or_false] at hx
  rcases hx with rfl | rfl | rfl <;> rfl

set_option maxRecDepth 100000 in
set_option maxHeartbeats 4000000 in
theorem l2Apply_any (no : Option Addr) (nc : Nat) (L : List (Int × ByteArray)) (w : World) (hL : RowR w 2 (.slice no L.length nc) L.length (wcells L)) (hLb : ∀ x ∈ L, 0 ≤ x.1 ∧ x.1 < 250) (hLn : L.length ≤ 512) :
    Calls Tryd.prog 43 #[.slice no L.length nc] w fun e w' => ∃ ao ca, e = .returned (.slice ao (applyL L).length ca) ∧ RowA w' w.heap.size 50 3 (.slice ao (applyL L).length ca) (applyL L).length (scells (applyL L)) ∧ Below w.heap.size w w' := by
  obtain ⟨_, _, ev, hn, hl, hr⟩ := hL
  simp only [Value.slice.injEq, true_and] at ev
  obtain ⟨rfl, rfl⟩ := ev
  have HLb := hide hLb
  have Hr := hide hr
  obtain ⟨i1, gi, gz0, gz1, gz2⟩ := info_parts infoSt
  clear hLb hl hr
  go_enter Tryd.func43, Tryd.ntmps43
  go_wp2
  go_loopw [3, 4] (fun ov iv wr => ∃ (k : Nat) (ao : Option Addr) (ca : Nat), k ≤ L.length ∧ iv = .int .i64 k ∧ ov = .slice ao k ca ∧ RowA wr w.heap.size 50 3 (.slice ao k ca) k (scells (((L.take k).map appW).map putS)) ∧ Below w.heap.size w wr) (fun _ iv _ => L.length - (intOf iv).toNat)
  case atStart => exact ⟨0, _, 0, Nat.zero_le _, rfl, rfl, .inr ⟨rfl, by simp [scells], _, rfl⟩, (Below.refl _ _).alloc (Nat.le_refl _) _⟩
  case round =>
    obtain ⟨k, ao, ca, hk, rfl, rfl, hrow, hbel⟩ := hrel
    by_cases hlt : k < L.length
    · obtain ⟨⟨a, t⟩, hx⟩ := getAt L k hlt
      obtain ⟨ha0, ha1⟩ := HLb.out (a, t) (List.mem_of_getElem? hx)
      simp only at ha0 ha1
      obtain ⟨b, off, rfl, hcl⟩ := Hr.out (by omega)
      obtain ⟨e0, e1⟩ := wcells_at L k _ hx
      have g1 := hcl _ _ e0
      have g2 := hcl _ _ e1
      have l1 : b < w.heap.size := World.block_lt_of_cell? w _ g1
      have f1 : wr.cell? ⟨b, off + k * 2, none⟩ = some (.int .i64 a) := by rw [Nat.mul_comm k 2]; exact (hbel.cell (p := ⟨b, off + 2 * k, none⟩) l1).trans g1
      have f2 : wr.cell? ⟨b, off + k * 2 + 1, none⟩ = some (.string t) := by rw [Nat.mul_comm k 2]; exact (hbel.cell (p := ⟨b, off + (2 * k + 1), none⟩) l1).trans g2
      have hi' : (k : Int) < (L.length : Int) := by omega
      have Hx := hide hx
      have zz := hbel.size
      have HP := hide (l2Put_any (251 + a) t wr.drew)
      have HH := hide (l2Home_any a wr.drew ha0 (by omega))
      have Hrow := hide hrow
      clear hcl g1 g2 e0 e1 hx hrow
      go_wp2
      go_region_law (first
        | (refine step_appendA rfl _ _ 38 rfl w.heap.size 50 i1 (.agg #[.bool false, .int .i64 0, .string ⟨#[]⟩]) 3 32 Tryd.underlying38 gi gz0 gz1 gz2 rfl (by decide) _ k _ rfl s3 ⟨w6.heap.size, 0, none⟩ 1 1 [.bool false, .int .i64 (251 + a), .string t] rfl rfl N3.out (new_one3 _ _ _) (by decide) (by unfold maxLen; omega) (by omega) hbs ?_; intro v4 w4 hown u4; obtain ⟨mo', cm', rfl⟩ := (Row.ofOwns hown (by omega)).shape)
        | (go_simp; go_at_call 36; refine (unhide HH).mono ?_; rintro e w5 ⟨rfl, e5⟩; rw [e5]; clear e5)
        | (go_simp; go_at_call 48; refine (unhide HP).mono ?_; rintro e w6 ⟨rfl, b6⟩; have b6' : Below wr.heap.size wr w6 := bUndrew b6; have al2 : Below w6.heap.size w6 (w6.alloc (.cells #[.bool false, .int .i64 (251 + a), .string t] 50)) := (Below.refl _ _).alloc (Nat.le_refl _) _; have s3 := ((unhide Hrow).keepB b6').keepB al2; have N3 := hide (new_cells3 w6 false (251 + a) t 50); have hbs : w.heap.size ≤ (w6.alloc (.cells #[.bool false, .int .i64 (251 + a), .string t] 50)).heap.size := (Nat.le_trans (Nat.le_trans zz b6'.size) al2.size)))
      all_goals
        go_wp2
        go_roundw
        case rel =>
          refine ⟨k + 1, mo', cm', by omega, by go_num, rfl, ?_, hbel.trans (((bAll b6' al2).mono zz).trans (u4.below hbs (fun j h => h.1)))⟩
          rw [List.take_add_one, Hx.out, Option.toList_some, List.map_append, List.map_append, List.map_cons, List.map_nil, List.map_cons, List.map_nil, appW, putS, scells_snoc]
          exact .inl hown
        case measure => simp [intOf]; omega
    · obtain rfl : k = L.length := by omega
      rw [List.take_length] at hrow
      have zz := hbel.size
      have HP := hide (l2Put_any 0 ⟨#[]⟩ wr)
      go_wp2_with fail
      refine (unhide HP).mono ?_
      rintro e w6 ⟨rfl, b6⟩
      have al2 : Below w6.heap.size w6 (w6.alloc (.cells #[.bool true, .int .i64 0, .string ⟨#[]⟩, .bool false, .int .i64 0, .string ⟨#[]⟩, .bool true, .int .i64 0, .string ⟨#[]⟩] 50)) := (Below.refl _ _).alloc (Nat.le_refl _) _
      have s3 := (hrow.keepB b6).keepB al2
      have N3 := hide (new_cells9 w6 50)
      have hbs : w.heap.size ≤ (w6.alloc (.cells #[.bool true, .int .i64 0, .string ⟨#[]⟩, .bool false, .int .i64 0, .string ⟨#[]⟩, .bool true, .int .i64 0, .string ⟨#[]⟩] 50)).heap.size := Nat.le_trans (Nat.le_trans zz b6.size) al2.size
      clear HP
      go_wp2_with (at_builtin; refine wpList_appendA _ rfl _ _ 38 rfl w.heap.size 50 i1 (.agg #[.bool false, .int .i64 0, .string ⟨#[]⟩]) 3 32 Tryd.underlying38 gi gz0 gz1 gz2 rfl (by decide) _ L.length _ rfl s3 ⟨w6.heap.size, 0, none⟩ 3 3 (scells [flushS, (false, 0, ⟨#[]⟩), flushS]) rfl rfl N3.out (scells_one _) (by decide) ?q63 ?qby hbs ?_)
      case q63 => unfold maxLen; omega
      case qby => omega
      intro v4 w4 hown u4
      obtain ⟨mo', cm', rfl⟩ := (Row.ofOwns hown (by omega)).shape
      go_wp2
      go_ret
      refine ⟨mo', cm', by rw [applyL_len]; rfl, ?_, hbel.trans (((bAll b6 al2).mono zz).trans (u4.below hbs (fun j h => h.1)))⟩
      rw [applyL_len, applyL, scells_app, List.map_map]
      exact .inl hown

set_option maxRecDepth 100000 in
set_option maxHeartbeats 4000000 in
theorem specWalMend_any (v : Value) (kept : List ByteArray) (wait : List (Int × ByteArray)) (w : World) (hr : DiskR w v kept wait) (hs : ∀ s ∈ kept, s.size ≤ 9223372036854775807) (hs' : ∀ s ∈ wait, s.2.size ≤ 9223372036854775807) :
    Calls Tryd.prog 18 #[v] w fun e w' => ∃ v', e = .returned (.tuple #[v', .bool (readB kept wait)]) ∧ Row w' 50 3 (fun k => w.heap.size ≤ k) v' (mendL kept wait).length (scells (mendL kept wait)) ∧ Below w.heap.size w w' := by
  have Hr := hide hr
  obtain ⟨ak, aw, rfl, ⟨ao, ca, rfl, -⟩, ⟨bo, cb, rfl, -⟩⟩ := hr
  obtain ⟨Wa, hWa⟩ : ∃ Wa, Wa = (w.alloc (.cells #[.slice ao kept.length ca, .slice bo wait.length cb] 31)).alloc (.cells #[] 50) := ⟨_, rfl⟩
  have hal : Below w.heap.size w Wa := by rw [hWa]; exact ((Below.refl _ _).alloc (Nat.le_refl _) _).alloc (by simp) _
  have H0 := hide (show Wa.heap[w.heap.size]? = some (.cells #[.slice ao kept.length ca, .slice bo wait.length cb] 31 (0, 0)) by rw [hWa]; exact al2_0 w _ _)
  go_enter Tryd.func18, Tryd.ntmps18
  go_wp2_with fail
  rw [← hWa]
  clear hWa
  refine (l2Form_any _ kept wait _ (Hr.out.keep hal) hs hs').mono ?_
  rintro e w1 ⟨rfl, b1⟩
  have c1 := bAll hal b1
  cases hf : formB kept wait
  · have HNO : Hid (readB kept wait = false ∧ mendL kept wait = []) := by
      have h1 : readB kept wait = false := by simp [readB, hf]
      exact ⟨h1, mendL_no h1⟩
    clear hf
    go_wp2
    go_ret2
    rw [HNO.out.1, HNO.out.2]
    exact ⟨_, rfl, Row.none0 _ _ _ _ _ _, c1⟩
  · have hok : okB kept wait = true := by simp only [formB, Bool.and_eq_true] at hf; exact hf.1
    have h5 : kept.length = 501 := by simp only [formB, Bool.and_eq_true, decide_eq_true_eq] at hf; exact hf.2
    obtain ⟨hp1, hp2, hp3, hp4⟩ := okB_parts hok
    have hflK : flushK kept wait = flushL kept wait := by simp [flushK, hok]
    have hFl : (flushK kept wait).length = 501 := by rw [hflK, flushL_len, h5]
    have hFz : ∀ t ∈ flushK kept wait, t.size ≤ 16 := by rw [hflK]; exact flushL_all hp3 (fun x hx => (hp4 x hx).2.2)
    clear hp3 hp4 h5 hflK hok
    obtain ⟨p0, p1, pl⟩ := box2 (bKeeps b1 H0.out)
    have hrb0 : readB kept wait = logB (sign0 (flushK kept wait)) (flushK kept wait) := by simp only [readB, hf, Bool.true_and]
    have HRB0 := hide hrb0
    clear hf hrb0
    go_wp2_with fail
    refine (specSecFlushA_any _ kept wait _ (Hr.out.keep c1) hs hs').mono ?_
    rintro e w2 ⟨v2, rfl, ⟨vk, vw, rfl, rk, rw2⟩, b2⟩
    obtain ⟨F, hF⟩ : ∃ F, flushK kept wait = F := ⟨_, rfl⟩
    obtain ⟨s, hs0⟩ := getAt F 0 (by rw [← hF]; omega)
    have HRB : Hid (readB kept wait = logB s F) := by have := HRB0.out; rw [hF, sign0_of hs0] at this; exact this
    have HM : Hid (readB kept wait = true → mendL kept wait = if s.size ≠ 0 then applyL (logL s F) else []) := fun h => mendL_of h hF hs0
    rw [hF] at rk hFl hFz
    clear hF HRB0
    have hF1 : 501 ≤ F.length := by omega
    have hF2 : F.length ≤ 501 := by omega
    clear hFl
    obtain ⟨g, gc, rfl, hgc, hgb, hgl⟩ := rk.cap (by omega)
    obtain ⟨wo, wc, rfl⟩ := rw2.shape
    have hfk := fun w => field_kept (some ⟨g, 0, none⟩) wo F.length gc 0 wc w
    have c2 := bAll c1 b2
    clear p0 p1 pl
    have kF := (rk.row (by omega)).reads
    have HLG := hide (specL2Logged_any _ _ F s w2 kF hs0 (by omega) (by omega) hFz)
    obtain ⟨b, off, cap, u, ev, hb, hu, hcu⟩ := RowR.ptr kF 0 (by omega)
    simp only [Value.slice.injEq, Option.some.injEq, Addr.mk.injEq, and_true, true_and] at ev
    obtain ⟨⟨rfl, rfl⟩, rfl⟩ := ev
    obtain rfl : u = .string s := by rw [List.getElem?_map, hs0] at hu; simpa using hu.symm
    have hcu' : w2.cell? ⟨g, 0, none⟩ = some (.string s) := by simpa using hcu
    have hi0 : (0 : Int) < (F.length : Int) := by omega
    have HS0 := hide hs0
    clear hu hcu hs0 kF
    go_wp2_with fail
    refine (unhide HLG).mono ?_
    rintro e w3 ⟨v3, rfl, ⟨lo, ln, lc, rfl⟩, hlog, b3⟩
    have c3 := bAll c2 b3
    have f0 : w3.cell? ⟨g, 0, none⟩ = some (.string s) := (b3.cell (p := ⟨g, 0, none⟩) hb).trans hcu'
    clear hcu' HLG
    cases hlb : logB s F
    · have HNO : Hid (readB kept wait = false ∧ mendL kept wait = []) := by
        have h1 : readB kept wait = false := HRB.out.trans hlb
        exact ⟨h1, mendL_no h1⟩
      clear hlb
      go_wp2
      go_ret2
      rw [HNO.out.1, HNO.out.2]
      exact ⟨_, rfl, Row.none0 _ _ _ _ _ _, c3⟩
    · have hrb : readB kept wait = true := HRB.out.trans hlb
      cases he : s.toList.isEmpty
      · have hsz : s.size ≠ 0 := by have := size_pos he; omega
        have HX : Hid (readB kept wait = true ∧ mendL kept wait = applyL (logL s F)) := ⟨hrb, by rw [HM.out hrb, if_pos hsz]⟩
        have hL := hlog hlb
        obtain ⟨L, eL⟩ : ∃ L, logL s F = L := ⟨_, rfl⟩
        have hLb : ∀ x ∈ logL s F, 0 ≤ x.1 ∧ x.1 < 250 := logL_bound hlb
        have hLn : (logL s F).length ≤ 512 := by have := logL_len s F; omega
        rw [eL] at hL hLb HX hLn
        obtain ⟨lo', lc', e3⟩ := hL.shape
        simp only [Value.slice.injEq] at e3
        obtain ⟨rfl, rfl, rfl⟩ := e3
        have HA := hide (l2Apply_any lo lc L w3 (hL.row (by omega)).reads hLb hLn)
        clear hL hlb hlog hLb hrb hsz eL HM HRB
        go_wp2_with fail
        refine (unhide HA).mono ?_
        rintro e w4 ⟨xo, xc, rfl, r4, b4⟩
        have R4 := hide ((r4.row (by rw [applyL_len]; omega)).mono (T := fun k => w.heap.size ≤ k) (fun k _ h => by have := c3.size; omega))
        clear r4 HA
        go_wp2
        go_ret2
        rw [HX.out.1, HX.out.2]
        exact ⟨_, rfl, R4.out, bAll c3 b4⟩
      · have hsz : s.size = 0 := empty_size he
        have HX : Hid (readB kept wait = true ∧ mendL kept wait = []) := ⟨hrb, by rw [HM.out hrb, if_neg (by simpa using hsz)]⟩
        clear hsz HM HRB hrb hlb hlog
        go_wp2
        go_ret2
        rw [HX.out.1, HX.out.2]
        exact ⟨_, rfl, Row.none0 _ _ _ _ _ _, c3⟩

end Go.Proofs.YtapflnabiobonaaDoor
