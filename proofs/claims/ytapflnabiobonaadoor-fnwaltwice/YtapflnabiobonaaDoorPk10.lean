/- Contracts and plain facts that the claims of this seat lean on (texts Draw5, WD1, WF3, WMendS); no statement of the seat is proved here. -/
import Derived.Test.YtapflnabiobonaaDoorPk9
import Derived.Test.YtapflnabiobonaaDoorPk4
import Derived.Test.YtapflnabiobonaaDoorPk8

/- What the law on SecCut is drawn from: contracts; no statement of the seat is proved here. -/
namespace Go.Proofs.YtapflnabiobonaaDoor
open Go.RowKit

theorem pick_at (w0 w : World) (R p k : Nat) (a : Int) (ha : a = k) (hr : Rd w0 w R p) (hk : 1 ≤ k) (hk' : k ≤ 1073741824) (hp : p ≤ 1073741824) :
    Calls Tryd.prog 55 #[.pointer (some ⟨R, 0, none⟩), .int .i64 a] w fun e w' => ∃ q : Nat, e = .returned (.int .i64 q) ∧ q < k ∧ Rd w0 w' R (p + 1) ∧ Upd (fun j => j = R) w w' := by
  subst ha
  exact pick_any w0 w R p k hr hk hk' hp

end Go.Proofs.YtapflnabiobonaaDoor

/- Drawn homes: a contract; no statement of the seat is proved here. -/
namespace Go.Proofs.YtapflnabiobonaaDoor
open Go.RowKit

theorem mul_small (a b : Nat) (ha : a < 5) (hb : b < 51) : IntKind.i64.wrap ((a : Int) * (b : Int)) = ((a * b : Nat) : Int) := by
  have h1 : a * b ≤ 4 * 50 := Nat.mul_le_mul (by omega) (by omega)
  have h2 : ((a : Int) * (b : Int)) = ((a * b : Nat) : Int) := by simp
  rw [h2]
  simp only [IntKind.wrap, IntKind.bits, IntKind.signed]
  simp
  omega

theorem mod_small (a b : Nat) : ∃ j : Nat, j < 250 ∧ ((a : Int) * (b : Int)).tmod 250 = (j : Int) := by
  refine ⟨(a * b) % 250, Nat.mod_lt _ (by omega), ?_⟩
  have h2 : ((a : Int) * (b : Int)) = ((a * b : Nat) : Int) := by simp
  rw [h2, Int.tmod_eq_emod_of_nonneg (by omega)]
  rfl

set_option maxRecDepth 100000 in
set_option maxHeartbeats 4000000 in
theorem l72Homes_any (w0 w : World) (R p : Nat) (no : Option Addr) (nc : Nat) (now : List ByteArray) (hr : Rd w0 w R p) (hp : p ≤ 900000) (hn : RowR w 1 (.slice no now.length nc) now.length (now.map Value.string)) (h250 : now.length = 250) (hz : ∀ s ∈ now, s.size ≤ 9223372036854775807) :
    Calls Tryd.prog 54 #[.pointer (some ⟨R, 0, none⟩), .slice no now.length nc] w fun e w' => ∃ (ho : Option Addr) (hc : Nat) (out : List ByteArray) (p' : Nat), e = .returned (.slice ho 250 hc) ∧ out.length = 250 ∧ 250 ≤ hc ∧ (∀ s ∈ out, s.size ≤ 9223372036854775807) ∧
      Row w' 9 1 (fun k => w.heap.size ≤ k) (.slice ho 250 hc) 250 (out.map Value.string) ∧ Rd w0 w' R p' ∧ p' ≤ p + 40 ∧ Upd (fun j => j = R) w w' := by
  obtain ⟨hRl, hR0, hw0⟩ := hr.lt
  obtain ⟨i0, hi, hz0, hz1, hz2⟩ := info_parts infoStr
  rw [h250] at hn ⊢
  have HZ := hide hz
  have H250 := hide h250
  clear hz h250
  go_enter Tryd.func54, Tryd.ntmps54
  go_wp2_with (at_builtin; refine wpList_append_row _ rfl _ _ 22 rfl w.heap.size 9 i0 (.string ⟨#[]⟩) 1 16 Tryd.underlying22 hi hz0 hz1 hz2 rfl (by decide) _ 0 [] rfl ?qown _ 250 (now.map Value.string) rfl ?qrow (strs_one _) ?q63 ?qby ?qbase ?_)
  case qown => exact World.ownsRow_lit w #[] 0 (Nat.le_refl _) (by unfold maxLen; omega) rfl
  case qrow => exact hn.keep ((Below.refl _ _).alloc (Nat.le_refl _) _)
  case q63 => unfold maxLen; omega
  case qby => omega
  case qbase => simp
  intro v1 w1 hown hgr
  try simp only [Nat.zero_add, List.nil_append] at hown
  have r1 := (Row.ofOwns hown (by omega)).mono (T := fun k => w.heap.size ≤ k) (fun k hk h => h)
  have b1 : Below w.heap.size w w1 := ((Below.refl _ _).alloc (Nat.le_refl _) (.cells #[] 9)).grown hgr (by simp) (fun k e => by simp [Value.ownBlock] at e; omega)
  obtain ⟨ho, hc, rfl⟩ := r1.shape
  have hcap : 250 ≤ hc := RowA.capLe (.inl hown)
  have rd1 := hr.keepB b1
  clear hown hgr hn
  go_wp2_with fail
  refine (pick_any w0 w1 R p 6 rd1 (by omega) (by omega) (by omega)).mono ?_
  rintro e w2 ⟨q2, rfl, hq2, rd2, u2⟩
  have U2 : Upd (fun j => j = R) w w2 := (Upd.ofBelow b1).trans u2
  have r2 := r1.keep u2 (fun k h e => by omega)
  obtain ⟨gh, ch, u0, ev, -, hgh, -⟩ := r2.at 0 (by omega)
  simp only [Value.slice.injEq, true_and] at ev
  obtain ⟨rfl, rfl⟩ := ev
  clear r1 rd1 hr
  go_wp2
  go_loopw [6] (fun kv wr => ∃ (i : Nat) (out : List ByteArray) (p' : Nat), kv = .int .i64 i ∧ i ≤ 5 ∧ p' + 5 * i ≤ p + 30 ∧ out.length = 250 ∧ (∀ s ∈ out, s.size ≤ 9223372036854775807) ∧ Row wr 9 1 (fun k => w.heap.size ≤ k) (.slice (some ⟨gh, 0, none⟩) 250 hc) 250 (out.map Value.string) ∧ Rd w0 wr R p' ∧ Upd (fun j => j = R) w wr) (fun kv _ => (intOf kv).toNat)
  case atStart => exact ⟨q2, now, p + 1, rfl, by omega, by omega, H250.out, HZ.out, r2, rd2, U2⟩
  case round =>
    clear r2 rd2 U2
    obtain ⟨i, out, p', rfl, hi5, hpi, hol, hoz, hrow, hrd, hU⟩ := hrel
    by_cases hlt : 0 < i
    · have hlt' : (0 : Int) < (i : Int) := by omega
      have hrdd : Rd w0 wr.drew R p' := hrd.keepB ((Below.refl _ _).drew)
      have Hp := hide (pick_any w0 wr.drew R p' 5 hrdd (by omega) (by omega) (by omega))
      have HOZ := hide hoz
      have HOL := hide hol
      have Hrow := hide hrow
      clear hoz hol hrow
      go_wp2
      go_region_with (first
        | (go_at_call 82; refine (l72Text_any w0 w5 R (p' + 2) 15 hr5 (by omega) (by omega)).mono ?_; rintro e w6 ⟨s6, rfl, hs6, hr6, hu6⟩; obtain ⟨j, hj, hje⟩ := mod_small a4 a5; have u46 : Upd (fun j => j = R) wr w6 := ⟨((hu4.trans hu5).trans hu6).os, ((hu4.trans hu5).trans hu6).tape, ((hu4.trans hu5).trans hu6).output, ((hu4.trans hu5).trans hu6).size, ((hu4.trans hu5).trans hu6).block⟩; have hrow6 := (unhide Hrow).keep u46 (fun k h e => by omega); obtain ⟨gh', caph, u, ev, hS, hgl', hcu, hbl, hfu, hset⟩ := hrow6.at j hj; simp only [Value.slice.injEq, Option.some.injEq, Addr.mk.injEq, and_true, true_and] at ev; obtain ⟨rfl, rfl⟩ := ev; have Hset := hide hset; have hjl : (j : Int) < 250 := by omega)
        | (go_at_call 55; refine (pick_at w0 w4 R (p' + 1) 51 _ (by first | rfl | omega | decide) hr4 (by omega) (by omega) (by omega)).mono ?_; rintro e w5 ⟨a5, rfl, ha5, hr5, hu5⟩; have hmul := mul_small a4 a5 ha4 ha5)
        | (go_at_call 55; refine (unhide Hp).mono ?_; rintro e w4 ⟨a4, rfl, ha4, hr4, hu4⟩))
      all_goals
        go_wp2
        have us := Upd.setCell (S := fun k => k = gh) w6 gh j (.string s6) rfl
        go_roundw
        case rel =>
          refine ⟨i - 1, out.set j s6, p' + 2 + 3, by go_num, by omega, by omega, by rw [List.length_set]; exact HOL.out, ?_, ?_, hr6.keep us (by omega) (fun k h => by omega), (hU.trans u46).transN us (fun k h => by omega)⟩
          · intro t ht
            rcases List.mem_or_eq_of_mem_set ht with h | rfl
            · exact HOZ.out t h
            · omega
          · rw [List.map_set]; exact Hset.out (.string s6)
        case measure => simp [intOf]; omega
    · have HOZ := hide hoz
      have HOL := hide hol
      go_wp2
      go_ret
      exact ⟨_, _, out, p', rfl, HOL.out, hcap, HOZ.out, hrow, hrd, by omega, hU⟩

end Go.Proofs.YtapflnabiobonaaDoor

/- Plain facts on drawn disks with transactions; no statement of the seat is proved here. -/
namespace Go.Proofs.YtapflnabiobonaaDoor

/-- A disk on which nothing is committed, and nothing waits. -/
def Clean (kept : List ByteArray) : Prop := okB kept [] = true ∧ kept.length = 501 ∧ (sign0 kept).size = 0

theorem clean_rep (n : Nat) (h : n = 501) : Clean (List.replicate n ⟨#[]⟩) := by
  refine ⟨okB_mk (by rw [List.length_replicate]; omega) (Nat.zero_le _) (fun s hs => ?_) (fun x hx => by cases hx), by rw [List.length_replicate]; exact h, ?_⟩
  · rw [List.eq_of_mem_replicate hs]; show (0 : Nat) ≤ 16; omega
  · have : (List.replicate n (⟨#[]⟩ : ByteArray))[0]? = some ⟨#[]⟩ := by rw [List.getElem?_replicate, if_pos (by omega)]
    rw [sign0, this]
    rfl
theorem clean_new : Clean (newKept 501) := by
  rw [newKept, if_pos (by decide)]
  exact clean_rep _ rfl

theorem Clean.inv {kept : List ByteArray} (h : Clean kept) : WInv kept [] := ⟨h.1, h.2.1, by simp⟩
theorem Clean.read {kept : List ByteArray} (h : Clean kept) : readB kept [] = true ∧ (readH kept []).length = 250 := by
  obtain ⟨h1, h2, -⟩ := read_clean (wait := []) h.1 h.2.1 h.2.2
  refine ⟨h1, ?_⟩
  rw [h2, List.length_drop, flushL_len, h.2.1]

theorem stepsL_len (kept : List ByteArray) (wait : List (Int × ByteArray)) (hs : List ByteArray) : (stepsL kept wait hs).length ≤ 506 := by
  unfold stepsL
  split
  · have h1 := stepsOf_len (chgK (readH kept wait) hs 250)
    have h2 := chgK_len (readH kept wait) hs 250
    omega
  · simp

theorem stepsOf_small {C : List (Int × ByteArray)} (hC : ∀ x ∈ C, x.2.size ≤ 15) : ∀ x ∈ stepsOf C, x.2.2.size ≤ 16 := by
  intro x hx
  unfold stepsOf at hx
  split at hx
  · cases hx
  · rcases List.mem_append.1 hx with h | h
    · rcases List.mem_append.1 h with h | h
      · obtain ⟨y, hy, rfl⟩ := List.mem_map.1 h
        obtain ⟨z, hz, -, -, e⟩ := logW_mem 0 C y hy
        show y.2.size ≤ 16
        rw [e, ByteArray.size_append, byteS_size]
        have := hC z hz
        omega
      · simp only [List.mem_cons, List.not_mem_nil, or_false] at h
        rcases h with rfl | rfl | rfl
        · show (0 : Nat) ≤ 16; omega
        · show (byteS _).size ≤ 16; rw [byteS_size]; omega
        · show (0 : Nat) ≤ 16; omega
    · rcases List.mem_append.1 h with h | h
      · obtain ⟨y, hy, rfl⟩ := List.mem_map.1 h
        obtain ⟨z, hz, rfl⟩ := List.mem_map.1 hy
        have := hC z hz
        show z.2.size ≤ 16
        omega
      · simp only [List.mem_cons, List.not_mem_nil, or_false] at h
        rcases h with rfl | rfl | rfl <;> (show (0 : Nat) ≤ 16; omega)

theorem stepsL_small (kept : List ByteArray) (wait : List (Int × ByteArray)) (hs : List ByteArray) : ∀ x ∈ stepsL kept wait hs, x.2.2.size ≤ 16 := by
  cases h : stepsB kept wait hs
  · rw [stepsL_no h]; simp
  · rw [stepsL_yes h]
    exact stepsOf_small (fun x hx => (chgK_fit (stepsB_parts h).2.2 x hx).2.2)

theorem mendL_small {kept : List ByteArray} {wait : List (Int × ByteArray)} (hok : okB kept wait = true) : (mendL kept wait).length ≤ 253 ∧ ∀ x ∈ mendL kept wait, x.2.2.size ≤ 16 := by
  unfold mendL
  split
  · have hfk : flushK kept wait = flushL kept wait := by simp [flushK, hok]
    obtain ⟨hp1, hp2, hp3, hp4⟩ := okB_parts hok
    have hFz : ∀ t ∈ flushL kept wait, t.size ≤ 16 := flushL_all hp3 (fun x hx => (hp4 x hx).2.2)
    rw [hfk]
    constructor
    · rw [applyL_len]
      have := comN_le (sign0 (flushL kept wait))
      simp only [logL, logS, List.length_map, List.length_take]
      omega
    · intro x hx
      rcases List.mem_append.1 hx with h | h
      · obtain ⟨y, hy, rfl⟩ := List.mem_map.1 h
        obtain ⟨z, hz, rfl⟩ := List.mem_map.1 hy
        obtain ⟨t, ht, rfl⟩ := List.mem_map.1 hz
        have := hFz t (List.mem_of_mem_drop (List.mem_of_mem_take ht))
        have := rest1_size t
        show (rest1 t).size ≤ 16
        omega
      · simp only [List.mem_cons, List.not_mem_nil, or_false] at h
        rcases h with rfl | rfl | rfl <;> (show (0 : Nat) ≤ 16; omega)
  · simp

theorem doR_keeps {kept : List ByteArray} {wait : List (Int × ByteArray)} {xs : List Stp} (h : okB kept wait = true) (hx : xs.length ≤ 600) (cut : Bool) (a : Int) (ks : List Int) : okB (doR kept wait xs cut a ks).1 (doR kept wait xs cut a ks).2 = true ∧ (doR kept wait xs cut a ks).1.length = kept.length ∧ (cut = true → (doR kept wait xs cut a ks).2 = []) := by
  obtain ⟨h1, h2⟩ := doL_ok (s := (kept, wait)) (xs.take (doEnd cut a xs.length)) h
  unfold doR
  rw [if_pos ⟨h, hx⟩]
  split
  · refine ⟨ok_cutK _ _ ks, ?_, fun _ => rfl⟩
    rw [cutK, if_pos h1, cutL, flushL_len]
    exact h2
  · exact ⟨h1, h2, fun hc => absurd hc ‹_›⟩

theorem clean_step {kept : List ByteArray} (hc : Clean kept) (hs : List ByteArray) : (doR kept [] (stepsL kept [] hs) false 0 []).2 = [] ∧ Clean (doR kept [] (stepsL kept [] hs) false 0 []).1 := by
  have hnil : stepsL kept [] hs = [] → doR kept [] (stepsL kept [] hs) false 0 [] = (kept, []) := fun e => by rw [doR_all hc.1 (by rw [e]; simp) 0 [], e]; rfl
  cases h : stepsB kept [] hs
  · rw [hnil (stepsL_no h)]
    exact ⟨rfl, hc⟩
  · obtain ⟨f1, f2, f3, f4, f5⟩ := done_fact hc.inv h
    by_cases he : stepsL kept [] hs = []
    · rw [hnil he]
      exact ⟨rfl, hc⟩
    · have e := f5 he
      refine ⟨e, ?_⟩
      obtain ⟨g1, g2, -⟩ := f1
      rw [e] at g1 f4
      refine ⟨g1, g2, ?_⟩
      rw [flushK, if_pos g1] at f4
      exact f4

/-- The most that ever waits. -/
def mx : Nat → List Stp → Nat
  | w, [] => w
  | w, x :: xs => max w (mx (if x.1 = true then 0 else w + 1) xs)
theorem mx_ge : ∀ (w : Nat) (xs : List Stp), w ≤ mx w xs
  | _, [] => Nat.le_refl _
  | _, _ :: _ => Nat.le_max_left _ _
theorem mx_mono : ∀ (xs : List Stp) (w w' : Nat), w ≤ w' → mx w xs ≤ mx w' xs
  | [], _, _, h => h
  | x :: xs, w, w', h => by
    simp only [mx]
    have := mx_mono xs (if x.1 = true then 0 else w + 1) (if x.1 = true then 0 else w' + 1) (by split <;> omega)
    omega
theorem stepL_wait (s : List ByteArray × List (Int × ByteArray)) (x : Stp) : (stepL s x).2.length ≤ if x.1 = true then 0 else s.2.length + 1 := by
  unfold stepL
  split
  · simp
  · simp only [putW]
    split
    · split <;> simp
    · simp
theorem doL_mx : ∀ (xs : List Stp) (s : List ByteArray × List (Int × ByteArray)) (k : Nat), (doL s (xs.take k)).2.length ≤ mx s.2.length xs
  | [], s, k => by simp [doL, mx]
  | x :: xs, s, 0 => by simpa [doL] using mx_ge s.2.length (x :: xs)
  | x :: xs, s, k + 1 => by
    have e : doL s ((x :: xs).take (k + 1)) = doL (stepL s x) (xs.take k) := rfl
    rw [e]
    have h1 := doL_mx xs (stepL s x) k
    have h2 := mx_mono xs _ _ (stepL_wait s x)
    simp only [mx]
    omega
theorem mx_puts : ∀ (xs : List (Int × ByteArray)) (ys : List Stp) (w : Nat), mx w (xs.map putS ++ ys) = mx (w + xs.length) ys ∨ mx w (xs.map putS ++ ys) ≤ max (w + xs.length) (mx (w + xs.length) ys)
  | [], ys, w => .inl rfl
  | x :: xs, ys, w => by
    right
    have e : mx w ((x :: xs).map putS ++ ys) = max w (mx (w + 1) (xs.map putS ++ ys)) := rfl
    rw [e, List.length_cons]
    have hge := mx_ge (w + 1 + xs.length) ys
    rw [show w + (xs.length + 1) = w + 1 + xs.length by omega]
    rcases mx_puts xs ys (w + 1) with h | h
    · rw [h]; omega
    · omega
theorem mx_phase (xs : List (Int × ByteArray)) (b : ByteArray) (ys : List Stp) : mx 0 (xs.map putS ++ (flushS :: (false, 0, b) :: flushS :: ys)) ≤ max (xs.length + 1) (mx 0 ys) := by
  have e : ∀ w, mx w (flushS :: (false, 0, b) :: flushS :: ys) = max w (max 0 (max 1 (mx 0 ys))) := fun _ => rfl
  rcases mx_puts xs (flushS :: (false, 0, b) :: flushS :: ys) 0 with h | h
  · rw [h, e]; omega
  · rw [e] at h; omega
theorem mx_steps (kept : List ByteArray) (wait : List (Int × ByteArray)) (hs : List ByteArray) : mx 0 (stepsL kept wait hs) ≤ 251 := by
  unfold stepsL
  split
  · have hl := chgK_len (readH kept wait) hs 250
    unfold stepsOf
    split
    · simp [mx]
    · have e1 : ∀ C : List (Int × ByteArray), commitL C ++ applyL C = (logW 0 C).map putS ++ (flushS :: (false, 0, byteS C.length) :: flushS :: applyL C) := fun C => by simp [commitL]
      have e2 : ∀ C : List (Int × ByteArray), applyL C = (C.map appW).map putS ++ (flushS :: (false, 0, ⟨#[]⟩) :: flushS :: []) := fun C => rfl
      rw [e1]
      have h1 := mx_phase (logW 0 (chgK (readH kept wait) hs 250)) (byteS (chgK (readH kept wait) hs 250).length) (applyL (chgK (readH kept wait) hs 250))
      have h2 := mx_phase ((chgK (readH kept wait) hs 250).map appW) ⟨#[]⟩ []
      rw [← e2, List.length_map] at h2
      rw [logW_len] at h1
      have h3 : mx 0 ([] : List Stp) = 0 := rfl
      omega
  · simp [mx]

theorem inv_cut {kept : List ByteArray} (hc : Clean kept) (hs : List ByteArray) (a : Int) (ks : List Int) : WInv (doR kept [] (stepsL kept [] hs) true a ks).1 (doR kept [] (stepsL kept [] hs) true a ks).2 := by
  have hl := stepsL_len kept [] hs
  obtain ⟨h1, h2, h3⟩ := doR_keeps hc.1 (xs := stepsL kept [] hs) (by omega) true a ks
  exact ⟨h1, by rw [h2]; exact hc.2.1, by rw [h3 rfl]; simp⟩
theorem inv_part {kept : List ByteArray} (hc : Clean kept) (hs : List ByteArray) (k : Nat) : WInv (doR kept [] ((stepsL kept [] hs).take k) false 0 []).1 (doR kept [] ((stepsL kept [] hs).take k) false 0 []).2 := by
  have hl := stepsL_len kept [] hs
  have hl2 : ((stepsL kept [] hs).take k).length ≤ 600 := by rw [List.length_take]; omega
  obtain ⟨h1, h2, -⟩ := doR_keeps hc.1 hl2 false 0 []
  refine ⟨h1, by rw [h2]; exact hc.2.1, ?_⟩
  rw [doR_all hc.1 hl2]
  have := doL_mx (stepsL kept [] hs) (kept, []) k
  have := mx_steps kept [] hs
  simp only [List.length_nil] at *
  omega

end Go.Proofs.YtapflnabiobonaaDoor

/- WalMend of the specification: contracts; no statement of the seat is proved here. -/
namespace Go.Proofs.YtapflnabiobonaaDoor
open Go.RowKit

theorem new_cells9 (w : World) (e : TypeId) : ∀ j u, (scells [flushS, (false, 0, ⟨#[]⟩), flushS])[j]? = some u → (w.alloc (.cells #[.bool true, .int .i64 0, .string ⟨#[]⟩, .bool false, .int .i64 0, .string ⟨#[]⟩, .bool true, .int .i64 0, .string ⟨#[]⟩] e)).cell? ((⟨w.heap.size, 0, none⟩ : Addr).add j) = some u := by
  intro j u h
  rw [Addr.add_lit, Nat.zero_add, cell_of_row _ _ j _ _ (0, 0) (al1_0 w _)]
  simpa [scells, scell, flushS] using h
theorem scells_one (xs : List Stp) : ∀ u ∈ scells xs, u.oneCell' = true := by
  intro u hu
  obtain ⟨x, _, hx⟩ := List.mem_flatMap.1 hu
  simp only [scell, List.mem_cons, List.not_mem_nil, or_false] at hx
  rcases hx with rfl | rfl | rfl <;> rfl

set_option maxRecDepth 100000 in
set_option maxHeartbeats 4000000 in
theorem l2Apply_any (no : Option Addr) (nc : Nat) (L : List (Int × ByteArray)) (w : World) (hL : RowR w 2 (.slice no L.length nc) L.length (wcells L)) (hLb : ∀ x ∈ L, 0 ≤ x.1 ∧ x.1 < 250) (hLn : L.length ≤ 512) :
    Calls Tryd.prog 43 #[.slice no L.length nc] w fun e w' => ∃ ao ca, e = .returned (.slice ao (applyL L).length ca) ∧ RowA w' w.heap.size 50 3 (.slice ao (applyL L).length ca) (applyL L).length (scells (applyL L)) ∧ Below w.heap.size w w' := by
  obtain ⟨_, _, ev, hn, hl, hr⟩ := hL
  simp only [Value.slice.injEq, true_and] at ev
  obtain ⟨rfl, rfl⟩ := ev
  have HLb := hide hLb
  have Hr := hide hr
  obtain ⟨i1, gi, gz0, gz1, gz2⟩ := info_parts infoSt
  clear hLb hl hr
  go_enter Tryd.func43, Tryd.ntmps43
  go_wp2
  go_loopw [3, 4] (fun ov iv wr => ∃ (k : Nat) (ao : Option Addr) (ca : Nat), k ≤ L.length ∧ iv = .int .i64 k ∧ ov = .slice ao k ca ∧ RowA wr w.heap.size 50 3 (.slice ao k ca) k (scells (((L.take k).map appW).map putS)) ∧ Below w.heap.size w wr) (fun _ iv _ => L.length - (intOf iv).toNat)
  case atStart => exact ⟨0, _, 0, Nat.zero_le _, rfl, rfl, .inr ⟨rfl, by simp [scells], _, rfl⟩, (Below.refl _ _).alloc (Nat.le_refl _) _⟩
  case round =>
    obtain ⟨k, ao, ca, hk, rfl, rfl, hrow, hbel⟩ := hrel
    by_cases hlt : k < L.length
    · obtain ⟨⟨a, t⟩, hx⟩ := getAt L k hlt
      obtain ⟨ha0, ha1⟩ := HLb.out (a, t) (List.mem_of_getElem? hx)
      simp only at ha0 ha1
      obtain ⟨b, off, rfl, hcl⟩ := Hr.out (by omega)
      obtain ⟨e0, e1⟩ := wcells_at L k _ hx
      have g1 := hcl _ _ e0
      have g2 := hcl _ _ e1
      have l1 : b < w.heap.size := World.block_lt_of_cell? w _ g1
      have f1 : wr.cell? ⟨b, off + k * 2, none⟩ = some (.int .i64 a) := by rw [Nat.mul_comm k 2]; exact (hbel.cell (p := ⟨b, off + 2 * k, none⟩) l1).trans g1
      have f2 : wr.cell? ⟨b, off + k * 2 + 1, none⟩ = some (.string t) := by rw [Nat.mul_comm k 2]; exact (hbel.cell (p := ⟨b, off + (2 * k + 1), none⟩) l1).trans g2
      have hi' : (k : Int) < (L.length : Int) := by omega
      have Hx := hide hx
      have zz := hbel.size
      have HP := hide (l2Put_any (251 + a) t wr.drew)
      have HH := hide (l2Home_any a wr.drew ha0 (by omega))
      have Hrow := hide hrow
      clear hcl g1 g2 e0 e1 hx hrow
      go_wp2
      go_region_law (first
        | (refine step_appendA rfl _ _ 38 rfl w.heap.size 50 i1 (.agg #[.bool false, .int .i64 0, .string ⟨#[]⟩]) 3 32 Tryd.underlying38 gi gz0 gz1 gz2 rfl (by decide) _ k _ rfl s3 ⟨w6.heap.size, 0, none⟩ 1 1 [.bool false, .int .i64 (251 + a), .string t] rfl rfl N3.out (new_one3 _ _ _) (by decide) (by unfold maxLen; omega) (by omega) hbs ?_; intro v4 w4 hown u4; obtain ⟨mo', cm', rfl⟩ := (Row.ofOwns hown (by omega)).shape)
        | (go_simp; go_at_call 36; refine (unhide HH).mono ?_; rintro e w5 ⟨rfl, e5⟩; rw [e5]; clear e5)
        | (go_simp; go_at_call 48; refine (unhide HP).mono ?_; rintro e w6 ⟨rfl, b6⟩; have b6' : Below wr.heap.size wr w6 := bUndrew b6; have al2 : Below w6.heap.size w6 (w6.alloc (.cells #[.bool false, .int .i64 (251 + a), .string t] 50)) := (Below.refl _ _).alloc (Nat.le_refl _) _; have s3 := ((unhide Hrow).keepB b6').keepB al2; have N3 := hide (new_cells3 w6 false (251 + a) t 50); have hbs : w.heap.size ≤ (w6.alloc (.cells #[.bool false, .int .i64 (251 + a), .string t] 50)).heap.size := (Nat.le_trans (Nat.le_trans zz b6'.size) al2.size)))
      all_goals
        go_wp2
        go_roundw
        case rel =>
          refine ⟨k + 1, mo', cm', by omega, by go_num, rfl, ?_, hbel.trans (((bAll b6' al2).mono zz).trans (u4.below hbs (fun j h => h.1)))⟩
          rw [List.take_add_one, Hx.out, Option.toList_some, List.map_append, List.map_append, List.map_cons, List.map_nil, List.map_cons, List.map_nil, appW, putS, scells_snoc]
          exact .inl hown
        case measure => simp [intOf]; omega
    · obtain rfl : k = L.length := by omega
      rw [List.take_length] at hrow
      have zz := hbel.size
      have HP := hide (l2Put_any 0 ⟨#[]⟩ wr)
      go_wp2_with fail
      refine (unhide HP).mono ?_
      rintro e w6 ⟨rfl, b6⟩
      have al2 : Below w6.heap.size w6 (w6.alloc (.cells #[.bool true, .int .i64 0, .string ⟨#[]⟩, .bool false, .int .i64 0, .string ⟨#[]⟩, .bool true, .int .i64 0, .string ⟨#[]⟩] 50)) := (Below.refl _ _).alloc (Nat.le_refl _) _
      have s3 := (hrow.keepB b6).keepB al2
      have N3 := hide (new_cells9 w6 50)
      have hbs : w.heap.size ≤ (w6.alloc (.cells #[.bool true, .int .i64 0, .string ⟨#[]⟩, .bool false, .int .i64 0, .string ⟨#[]⟩, .bool true, .int .i64 0, .string ⟨#[]⟩] 50)).heap.size := Nat.le_trans (Nat.le_trans zz b6.size) al2.size
      clear HP
      go_wp2_with (at_builtin; refine wpList_appendA _ rfl _ _ 38 rfl w.heap.size 50 i1 (.agg #[.bool false, .int .i64 0, .string ⟨#[]⟩]) 3 32 Tryd.underlying38 gi gz0 gz1 gz2 rfl (by decide) _ L.length _ rfl s3 ⟨w6.heap.size, 0, none⟩ 3 3 (scells [flushS, (false, 0, ⟨#[]⟩), flushS]) rfl rfl N3.out (scells_one _) (by decide) ?q63 ?qby hbs ?_)
      case q63 => unfold maxLen; omega
      case qby => omega
      intro v4 w4 hown u4
      obtain ⟨mo', cm', rfl⟩ := (Row.ofOwns hown (by omega)).shape
      go_wp2
      go_ret
      refine ⟨mo', cm', by rw [applyL_len]; rfl, ?_, hbel.trans (((bAll b6 al2).mono zz).trans (u4.below hbs (fun j h => h.1)))⟩
      rw [applyL_len, applyL, scells_app, List.map_map]
      exact .inl hown

set_option maxRecDepth 100000 in
set_option maxHeartbeats 4000000 in
theorem specWalMend_any (v : Value) (kept : List ByteArray) (wait : List (Int × ByteArray)) (w : World) (hr : DiskR w v kept wait) (hs : ∀ s ∈ kept, s.size ≤ 9223372036854775807) (hs' : ∀ s ∈ wait, s.2.size ≤ 9223372036854775807) :
    Calls Tryd.prog 18 #[v] w fun e w' => ∃ v', e = .returned (.tuple #[v', .bool (readB kept wait)]) ∧ Row w' 50 3 (fun k => w.heap.size ≤ k) v' (mendL kept wait).length (scells (mendL kept wait)) ∧ Below w.heap.size w w' := by
  have Hr := hide hr
  obtain ⟨ak, aw, rfl, ⟨ao, ca, rfl, -⟩, ⟨bo, cb, rfl, -⟩⟩ := hr
  obtain ⟨Wa, hWa⟩ : ∃ Wa, Wa = (w.alloc (.cells #[.slice ao kept.length ca, .slice bo wait.length cb] 31)).alloc (.cells #[] 50) := ⟨_, rfl⟩
  have hal : Below w.heap.size w Wa := by rw [hWa]; exact ((Below.refl _ _).alloc (Nat.le_refl _) _).alloc (by simp) _
  have H0 := hide (show Wa.heap[w.heap.size]? = some (.cells #[.slice ao kept.length ca, .slice bo wait.length cb] 31 (0, 0)) by rw [hWa]; exact al2_0 w _ _)
  go_enter Tryd.func18, Tryd.ntmps18
  go_wp2_with fail
  rw [← hWa]
  clear hWa
  refine (l2Form_any _ kept wait _ (Hr.out.keep hal) hs hs').mono ?_
  rintro e w1 ⟨rfl, b1⟩
  have c1 := bAll hal b1
  cases hf : formB kept wait
  · have HNO : Hid (readB kept wait = false ∧ mendL kept wait = []) := by
      have h1 : readB kept wait = false := by simp [readB, hf]
      exact ⟨h1, mendL_no h1⟩
    clear hf
    go_wp2
    go_ret2
    rw [HNO.out.1, HNO.out.2]
    exact ⟨_, rfl, Row.none0 _ _ _ _ _ _, c1⟩
  · have hok : okB kept wait = true := by simp only [formB, Bool.and_eq_true] at hf; exact hf.1
    have h5 : kept.length = 501 := by simp only [formB, Bool.and_eq_true, decide_eq_true_eq] at hf; exact hf.2
    obtain ⟨hp1, hp2, hp3, hp4⟩ := okB_parts hok
    have hflK : flushK kept wait = flushL kept wait := by simp [flushK, hok]
    have hFl : (flushK kept wait).length = 501 := by rw [hflK, flushL_len, h5]
    have hFz : ∀ t ∈ flushK kept wait, t.size ≤ 16 := by rw [hflK]; exact flushL_all hp3 (fun x hx => (hp4 x hx).2.2)
    clear hp3 hp4 h5 hflK hok
    obtain ⟨p0, p1, pl⟩ := box2 (bKeeps b1 H0.out)
    have hrb0 : readB kept wait = logB (sign0 (flushK kept wait)) (flushK kept wait) := by simp only [readB, hf, Bool.true_and]
    have HRB0 := hide hrb0
    clear hf hrb0
    go_wp2_with fail
    refine (specSecFlushA_any _ kept wait _ (Hr.out.keep c1) hs hs').mono ?_
    rintro e w2 ⟨v2, rfl, ⟨vk, vw, rfl, rk, rw2⟩, b2⟩
    obtain ⟨F, hF⟩ : ∃ F, flushK kept wait = F := ⟨_, rfl⟩
    obtain ⟨s, hs0⟩ := getAt F 0 (by rw [← hF]; omega)
    have HRB : Hid (readB kept wait = logB s F) := by have := HRB0.out; rw [hF, sign0_of hs0] at this; exact this
    have HM : Hid (readB kept wait = true → mendL kept wait = if s.size ≠ 0 then applyL (logL s F) else []) := fun h => mendL_of h hF hs0
    rw [hF] at rk hFl hFz
    clear hF HRB0
    have hF1 : 501 ≤ F.length := by omega
    have hF2 : F.length ≤ 501 := by omega
    clear hFl
    obtain ⟨g, gc, rfl, hgc, hgb, hgl⟩ := rk.cap (by omega)
    obtain ⟨wo, wc, rfl⟩ := rw2.shape
    have hfk := fun w => field_kept (some ⟨g, 0, none⟩) wo F.length gc 0 wc w
    have c2 := bAll c1 b2
    clear p0 p1 pl
    have kF := (rk.row (by omega)).reads
    have HLG := hide (specL2Logged_any _ _ F s w2 kF hs0 (by omega) (by omega) hFz)
    obtain ⟨b, off, cap, u, ev, hb, hu, hcu⟩ := RowR.ptr kF 0 (by omega)
    simp only [Value.slice.injEq, Option.some.injEq, Addr.mk.injEq, and_true, true_and] at ev
    obtain ⟨⟨rfl, rfl⟩, rfl⟩ := ev
    obtain rfl : u = .string s := by rw [List.getElem?_map, hs0] at hu; simpa using hu.symm
    have hcu' : w2.cell? ⟨g, 0, none⟩ = some (.string s) := by simpa using hcu
    have hi0 : (0 : Int) < (F.length : Int) := by omega
    have HS0 := hide hs0
    clear hu hcu hs0 kF
    go_wp2_with fail
    refine (unhide HLG).mono ?_
    rintro e w3 ⟨v3, rfl, ⟨lo, ln, lc, rfl⟩, hlog, b3⟩
    have c3 := bAll c2 b3
    have f0 : w3.cell? ⟨g, 0, none⟩ = some (.string s) := (b3.cell (p := ⟨g, 0, none⟩) hb).trans hcu'
    clear hcu' HLG
    cases hlb : logB s F
    · have HNO : Hid (readB kept wait = false ∧ mendL kept wait = []) := by
        have h1 : readB kept wait = false := HRB.out.trans hlb
        exact ⟨h1, mendL_no h1⟩
      clear hlb
      go_wp2
      go_ret2
      rw [HNO.out.1, HNO.out.2]
      exact ⟨_, rfl, Row.none0 _ _ _ _ _ _, c3⟩
    · have hrb : readB kept wait = true := HRB.out.trans hlb
      cases he : s.toList.isEmpty
      · have hsz : s.size ≠ 0 := by have := size_pos he; omega
        have HX : Hid (readB kept wait = true ∧ mendL kept wait = applyL (logL s F)) := ⟨hrb, by rw [HM.out hrb, if_pos hsz]⟩
        have hL := hlog hlb
        obtain ⟨L, eL⟩ : ∃ L, logL s F = L := ⟨_, rfl⟩
        have hLb : ∀ x ∈ logL s F, 0 ≤ x.1 ∧ x.1 < 250 := logL_bound hlb
        have hLn : (logL s F).length ≤ 512 := by have := logL_len s F; omega
        rw [eL] at hL hLb HX hLn
        obtain ⟨lo', lc', e3⟩ := hL.shape
        simp only [Value.slice.injEq] at e3
        obtain ⟨rfl, rfl, rfl⟩ := e3
        have HA := hide (l2Apply_any lo lc L w3 (hL.row (by omega)).reads hLb hLn)
        clear hL hlb hlog hLb hrb hsz eL HM HRB
        go_wp2_with fail
        refine (unhide HA).mono ?_
        rintro e w4 ⟨xo, xc, rfl, r4, b4⟩
        have R4 := hide ((r4.row (by rw [applyL_len]; omega)).mono (T := fun k => w.heap.size ≤ k) (fun k _ h => by have := c3.size; omega))
        clear r4 HA
        go_wp2
        go_ret2
        rw [HX.out.1, HX.out.2]
        exact ⟨_, rfl, R4.out, bAll c3 b4⟩
      · have hsz : s.size = 0 := empty_size he
        have HX : Hid (readB kept wait = true ∧ mendL kept wait = []) := ⟨hrb, by rw [HM.out hrb, if_neg (by simpa using hsz)]⟩
        clear hsz HM HRB hrb hlb hlog
        go_wp2
        go_ret2
        rw [HX.out.1, HX.out.2]
        exact ⟨_, rfl, Row.none0 _ _ _ _ _ _, c3⟩

end Go.Proofs.YtapflnabiobonaaDoor
