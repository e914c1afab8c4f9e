/- Whatever bytes it is called with, the law FnWalTwice returns true and leaves its arguments as they were: of every disk and homes that are drawn from them, what is said already is not written again, and the next homes are said behind their steps. The one condition: the library's variable errors.errorType holds what the program's text lays in it (the card ties that). -/
import Derived.Test.YtapflnabiobonaaDoorRows
import Derived.Test.YtapflnabiobonaaDoorTie
import Derived.Test.YtapflnabiobonaaDoorCards
import Derived.Test.YtapflnabiobonaaDoorPk5
import Derived.Test.YtapflnabiobonaaDoorPk20
import Derived.Test.YtapflnabiobonaaDoorPk17
import Derived.ChangeSame
import Derived.JoinedOf
import Derived.Stop.Joined
import Derived.SevenTiedAt
namespace Go.Proofs.YtapflnabiobonaaDoor
open Go.ChangeShapes Go.WideShapes Go.ChangeAt Go.RowKit Go.Deep Go.Joins

set_option linter.unusedVariables false in
set_option maxRecDepth 100000 in
theorem fnWalTwice_lifted (os : Os) (started : os.Started) (H : Type) (enc : TypeId × Value → H) :
    ReturnsInHanded {} Tryd.checked os 8 .any (fun w args => (Rows.fnWalTwiceSpec.pre enc Tryd.prog Tryd.f8 [] false w args ∧ laidMetH Tryd.prog [("errors.errorType", Rows.laid_errors_errorType)] w) ∧ sizedMet enc Tryd.prog Tryd.f8 (OpenSpec.ofChange Rows.fnWalTwiceSpec) false w args)
      (Rows.fnWalTwiceSpec.post enc Tryd.prog Tryd.f8 false true false false) := by
  refine returnsInHanded_of_change_and (C := Tryd.checked) (X := fun w _ => laidMetH Tryd.prog [("errors.errorType", Rows.laid_errors_errorType)] w) (fun _ _ _ hh h => h.of_heap hh) seat_own started (by kernel_rfl) Tryd.func8
    (ChangeSpec.witness_at (enc := enc) (C := Tryd.checked) (os := os) (X := fun w _ => laidMetH Tryd.prog [("errors.errorType", Rows.laid_errors_errorType)] w) false ({ World.holding Tryd.prog os ⟨#[], #[], []⟩ with heap := (World.holding Tryd.prog os ⟨#[], #[], []⟩).heap.modify 0 (fun o => match o with | .cells _ t frozen => .cells #[.iface 154 (.agg #[.pointer (some ⟨1, 111, none⟩)])] t frozen | o => o) }) #[.slice none 0 0, .slice none 0 0] 8 rfl (by kernel_rfl) (by kernel_rfl) (by kernel_rfl) (by kernel_rfl) (by kernel_rfl) (laidMetH_of_parts (laidMet_nil _ _) (by kernel_rfl))) ?_
  intro W base args ds gs before hval0 hW _ _ hL _
  have hval : ∀ (j : Nat) t v, Tryd.f8.params[j]? = some t → args[j]? = some v → Value.okWide Tryd.prog W .any base t v := hval0
  have hW' := hW
  obtain ⟨p, q, hA0, hV, rfl, hfz, hnd⟩ := hW
  have hA : DataW.TrodAll enc Tryd.prog W 0 (fun _ => true) true Tryd.f8.params.toList args.toList ds p := hA0
  rw [ Tryd.params8 ] at hA hval
  obtain ⟨v0, vs0, d0, ds0, p0, q0, hargs, rfl, rfl, h0, r0⟩ := trodAll_cons hA
  obtain ⟨v1, vs1, d1, ds1, p1, q1, rfl, rfl, rfl, h1, r1⟩ := trodAll_cons r0
  obtain ⟨rfl, rfl, rfl⟩ := trodAll_nil r1
  obtain rfl : args = #[v0, v1] := by cases args; simp_all
  obtain ⟨rfl, rfl⟩ := trodVars_none hV
  have lt0 : ∀ x ∈ p0, x.block < W.heap.size := by obtain ⟨m, hm⟩ := h0; exact DataW.trod_lt m _ _ _ hm
  obtain ⟨bo0, n0, cap0, bs0, rfl, hb0⟩ : ∃ (bo : Option Addr) (n cap : Nat) (bs : List Nat), v0 = .slice bo n cap ∧ BytesIn W bo n cap bs := by
    obtain ⟨a1, l1, k1, rfl⟩ := okWide_slice Tryd.underlying46 (hval 0 46 v0 rfl rfl)
    obtain ⟨m, hm⟩ := h0
    exact bytesIn_of Tryd.underlying46 Tryd.underlying5 (by kernel_rfl) hm
  have lt1 : ∀ x ∈ p1, x.block < W.heap.size := by obtain ⟨m, hm⟩ := h1; exact DataW.trod_lt m _ _ _ hm
  obtain ⟨bo1, n1, cap1, bs1, rfl, hb1⟩ : ∃ (bo : Option Addr) (n cap : Nat) (bs : List Nat), v1 = .slice bo n cap ∧ BytesIn W bo n cap bs := by
    obtain ⟨a1, l1, k1, rfl⟩ := okWide_slice Tryd.underlying46 (hval 1 46 v1 rfl rfl)
    obtain ⟨m, hm⟩ := h1
    exact bytesIn_of Tryd.underlying46 Tryd.underlying5 (by kernel_rfl) hm
  have hg := errVar_of_laid hL
  clear hA0 hval0
  refine (lawWalTwice_walk bo0 n0 cap0 bs0 bo1 n1 cap1 bs1  W hg hb0 hb1).mono fun e W' ⟨he, bel⟩ => ?_
  subst he
  exact ⟨_, rfl, _, _, _, [], _, [], hW', trodAll_mk1 (shut_bool Tryd.underlying4 _), (trodAll_cons_mk (Below.trod seat_laidOut (by kernel_rfl) (of_decide_eq_true (by kernel_rfl)) h0 bel lt0) (trodAll_cons_mk (Below.trod seat_laidOut (by kernel_rfl) (of_decide_eq_true (by kernel_rfl)) h1 bel lt1) trodAll_mk0)), rfl, bel.frame _, fun h => by cases h⟩

theorem fnWalTwice_holds : Rows.FnWalTwiceSaid :=
  OpenClaim.holds_of_wide 8 Tryd.f8 rfl rfl rfl rfl rfl rfl rfl ⟨rfl, rfl, rfl, rfl, rfl⟩ rfl rfl rfl rfl rfl (by kernel_rfl) Tryd.func8 (by kernel_rfl)
    (of_decide_eq_true (by kernel_rfl)) (by unfold Func.isWrapper; first | (rw [if_pos (by decide +kernel)]; kernel_rfl) | (rw [if_neg (by decide +kernel)]; exact ⟨rfl, rfl⟩))
    (fun os started H enc _ => fnWalTwice_lifted os started H enc)

theorem fnWalTwice_card : Rows.FnWalTwiceCardSaid :=
  Claim7.holds_tied_plain_at .later [] [.handle] true Rows.fnWalTwiceCard.stood.harness true
    fnWalTwice_holds (fun _ h => by cases h) (by kernel_rfl) (fun _ h => by cases h) fnWalTwice_row_tie rfl ⟨rfl, rfl⟩ (by kernel_rfl) rfl
    (fun f fn hf hfn => by
      obtain rfl : f = 8 := Option.some.inj ((show Tryd.prog.funcNamed "loop.example/pannier/laws.FnWalTwice" = some 8 by kernel_rfl).symm.trans hf) |>.symm
      obtain rfl : fn = Tryd.f8 := (Option.some.inj (Tryd.func8.symm.trans hfn)).symm
      exact ⟨by kernel_rfl, fun j t ht => by
        rw [ Tryd.params8 ] at ht
        have h3 : t = 46 ∨ t = 46 := by
          rcases j with _ | _ | j
          · exact .inl (by simpa using ht.symm)
          · exact .inr (by simpa using ht.symm)
          · simp at ht
        rcases h3 with rfl | rfl
        · exact (show Tryd.prog.wantsStandIn 46 = false by kernel_rfl)
        · exact (show Tryd.prog.wantsStandIn 46 = false by kernel_rfl)⟩)
    (by kernel_rfl)

#print axioms fnWalTwice_card
end Go.Proofs.YtapflnabiobonaaDoor
