/- What do of the program does with steps: a contract; no statement of the seat is proved here. -/
import Derived.Test.YtapflnabiobonaaDoorPutA
import Derived.Test.YtapflnabiobonaaDoorDoM
import Derived.Test.YtapflnabiobonaaDoorIPut
namespace Go.Proofs.YtapflnabiobonaaDoor
open Go.RowKit Go.Shelf

/-- A slice of steps that came in, ahead of all that may turn. -/
structure StepsIn (w : World) (base : Nat) (so : Option Addr) (sc : Nat) (xs : List Stp) : Prop where
  reads : RowR w 3 (.slice so xs.length sc) xs.length (scells xs)
  old : ∀ b off, 0 < xs.length → so = some ⟨b, off, none⟩ → b < base
  size : ∀ x ∈ xs, x.2.2.size ≤ 9223372036854775807

set_option maxRecDepth 100000 in
set_option maxHeartbeats 4000000 in
theorem do_any (kept : List ByteArray) (wait : List (Int × ByteArray)) (xs : List Stp) (base B : Nat) (no mo so : Option Addr) (cn cm sc : Nat) (w : World)
    (hbox : w.heap[B]? = some (.cells #[.slice no kept.length cn, .slice mo wait.length cm] 94 (0, 0)))
    (hrow : Row w 9 1 (fun k => base ≤ k) (.slice no kept.length cn) kept.length (kept.map Value.string))
    (hwait : RowA w base 63 2 (.slice mo wait.length cm) wait.length (wcells wait)) (hbase : base ≤ w.heap.size) (hB : base ≤ B) (hxs : StepsIn w base so sc xs) (hok : okB kept wait = true) :
    Calls Tryd.prog 59 #[.pointer (some ⟨B, 0, none⟩), .slice so xs.length sc] w fun e w' => e = .returned (.tuple #[]) ∧
      ∃ mo' cm', w'.heap[B]? = some (.cells #[.slice no kept.length cn, .slice mo' (doL (kept, wait) xs).2.length cm'] 94 (0, 0)) ∧
        Row w' 9 1 (fun k => base ≤ k) (.slice no kept.length cn) kept.length ((doL (kept, wait) xs).1.map Value.string) ∧
        RowA w' base 63 2 (.slice mo' (doL (kept, wait) xs).2.length cm') (doL (kept, wait) xs).2.length (wcells (doL (kept, wait) xs).2) ∧ Upd (fun k => base ≤ k) w w' := by
  obtain ⟨⟨_, _, ev, hn, hl, hr⟩, hold, hsz⟩ := hxs
  simp only [Value.slice.injEq, true_and] at ev
  obtain ⟨rfl, rfl⟩ := ev
  rw [scells_len] at hl
  have Hr := hide hr
  have Hold := hide hold
  have Hsz := hide hsz
  have HD : Hid (∀ k, doL (kept, wait) (xs.take k) = doL (kept, wait) (xs.take k)) := fun _ => rfl
  have HOK := hide hok
  have hkl : kept.length ≤ 512 := (okB_parts hok).1
  obtain ⟨n, hkn⟩ : ∃ n, kept.length = n := ⟨_, rfl⟩
  have HKN := hide hkn
  rw [hkn] at hbox hrow ⊢
  clear hr hold hsz hl HD hkn
  go_enter Tryd.func59, Tryd.ntmps59
  go_wp2
  go_loopw [8] (fun iv wr => ∃ (k : Nat) (K : List ByteArray) (X : List (Int × ByteArray)) (mo' : Option Addr) (cm' : Nat), k ≤ xs.length ∧ iv = .int .i64 k ∧ K.length = n ∧ okB K X = true ∧ doL (kept, wait) (xs.take k) = (K, X) ∧
      wr.heap[B]? = some (.cells #[.slice no n cn, .slice mo' X.length cm'] 94 (0, 0)) ∧ Row wr 9 1 (fun k => base ≤ k) (.slice no n cn) n (K.map Value.string) ∧
      RowA wr base 63 2 (.slice mo' X.length cm') X.length (wcells X) ∧ Upd (fun k => base ≤ k) w wr) (fun iv _ => xs.length - (intOf iv).toNat)
  case atStart => exact ⟨0, kept, wait, mo, cm, Nat.zero_le _, rfl, HKN.out, HOK.out, rfl, hbox, hrow, hwait, Upd.refl _ _⟩
  case round =>
    clear hbox hrow hwait
    obtain ⟨k, K, X, mo', cm', hk, rfl, hKn, hokK, hdo, hbx, hrw, hwt, hup⟩ := hrel
    have hKl : K.length ≤ 512 := (okB_parts hokK).1
    have hXl : X.length ≤ 600 := (okB_parts hokK).2.1
    by_cases hlt : k < xs.length
    · obtain ⟨b1, o1, rfl, hc1⟩ := Hr.out (by omega)
      have hb1 := Hold.out b1 o1 (by omega) rfl
      obtain ⟨⟨f, a, s⟩, hx⟩ := getAt xs k hlt
      have hss : s.size ≤ 9223372036854775807 := Hsz.out (f, a, s) (List.mem_of_getElem? hx)
      obtain ⟨e0, e1, e2⟩ := scells_at xs k (f, a, s) hx
      have cellAt : ∀ j u, (scells xs)[j]? = some u → wr.cell? ⟨b1, o1 + j, none⟩ = some u := fun j u hj => (World.cell?_of_block (a := ⟨b1, o1 + j, none⟩) (hup.block b1 (World.block_lt_of_cell? w _ (hc1 j u hj)) (by omega))).trans (hc1 j u hj)
      obtain ⟨f0, f1, f2, l1⟩ := step_cells cellAt hx (Below.refl _ wr)
      have hst := doL_take (kept, wait) xs k _ hx
      rw [hdo] at hst
      have HST := hide hst
      have hi : (k : Int) < (xs.length : Int) := by omega
      have HUP := hide hup
      obtain ⟨W, hW⟩ : ∃ W, W = wr.alloc (.cells #[.bool f, .int .i64 a, .string s] 50) := ⟨_, rfl⟩
      have alW : Below wr.heap.size wr W := by rw [hW]; exact (Below.refl _ _).alloc (Nat.le_refl _) _
      have bxW := hide (bKeeps alW hbx)
      have rwW := hide (hrw.keepB alW)
      have wtW := hide (hwt.keepB alW)
      have zW := alW.size
      have zr := hup.size
      have HOKK := hide hokK
      have HKn := hide hKn
      clear cellAt hc1 hx e0 e1 e2 hst hdo hup hbx hrw hwt hokK
      subst hKn
      cases f
      · go_wp2_with fail
        rw [← hW]
        clear hW f0 f1 f2
        refine (putA_any K X a s base B no mo' cn cm' W bxW.out wtW.out (by omega) hKl hXl hss).mono ?_
        rintro e w2 ⟨rfl, mo2, cm2, bx2, wt2, u2⟩
        obtain ⟨x1, x2, x3⟩ := put_all a s HOKK.out
        have hs1 : stepL (K, X) (false, a, s) = (K, putX K X a s) := by simp only [stepL, x2, x3]; simp
        have hok2 := (stepL_ok (s := (K, X)) (false, a, s) HOKK.out).1
        rw [hs1] at hok2
        have hdo2 := HST.out
        rw [hs1] at hdo2
        go_wp2
        go_roundw
        case rel =>
          refine ⟨k + 1, K, putX K X a s, mo2, cm2, by omega, by go_num, rfl, hok2, hdo2, bx2, ?_, wt2, (HUP.out.trans (Upd.ofBelow alW)).trans (u2.mono (fun j h => by rcases h with rfl | h; exact hB; exact h.1))⟩
          refine (rwW.out.typed.keep u2 ?_).mono (fun _ _ h => h.1)
          rintro j ht (rfl | h)
          · exact typed_box bxW.out (by decide) rfl ht
          · exact typed_apart (by decide) j ht h
        case measure => simp [intOf]; omega
      · go_wp2_with fail
        rw [← hW]
        clear hW f0 f1 f2
        refine (callsIn_wide.1 (flush_in K X _ _ B no mo' cn cm' W bxW.out rwW.out.typed (wtW.out.row (by omega)).typed (fun j => typed_apart (by decide) j) (typed_box bxW.out (by decide) rfl) (fun j h => by obtain ⟨_, c, hc⟩ := h; exact heap_lt hc) HOKK.out)).mono ?_
        rintro e w2 ⟨rfl, bx2, r2, u2⟩
        have hfk : flushK K X = flushL K X := by simp [flushK, HOKK.out]
        have hs1 : stepL (K, X) (true, a, s) = (flushL K X, []) := by simp only [stepL, hfk]; simp
        have hok2 := (stepL_ok (s := (K, X)) (true, a, s) HOKK.out).1
        rw [hs1] at hok2
        have hdo2 := HST.out
        rw [hs1] at hdo2
        go_wp2
        go_roundw
        case rel => exact ⟨k + 1, flushL K X, [], none, 0, by omega, by go_num, flushL_len _ _, hok2, hdo2, bx2, r2.mono (fun _ _ h => h.1), .inl (World.ownsRow_nil _ _ _ _), (HUP.out.trans (Upd.ofBelow alW)).trans (u2.mono (fun j h => by rcases h with h | rfl; exact h.1; exact hB))⟩
        case measure => simp [intOf]; omega
    · obtain rfl : k = xs.length := by omega
      rw [List.take_length] at hdo
      have HDO := hide hdo
      clear hdo
      go_wp2
      go_end0
      rw [HDO.out]
      exact ⟨rfl, mo', cm', hbx, hrw, hwt, hup⟩

end Go.Proofs.YtapflnabiobonaaDoor
