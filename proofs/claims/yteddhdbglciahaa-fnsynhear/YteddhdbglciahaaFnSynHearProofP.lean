/- Whatever bytes it is called with, the law FnSynHear returns true and leaves its argument as it was: a drawn seeker that hears a drawn word answers as the specification; what it puts forward is what was voted for by the greatest ballot that it was told, else its own; and it is chosen by two who said yes. (The law itself passes over more than 1048576 bytes.) -/
import Derived.Test.YteddhdbglciahaaRows
import Derived.Test.YteddhdbglciahaaHPwP
import Derived.Test.YteddhdbglciahaaLk17
namespace Go.Proofs.Yteddhdbglciahaa
open Go.ChangeShapes Go.WideShapes Go.ChangeAt Go.RowKit Go.Deep Go.Joins

set_option linter.unusedVariables false in
set_option maxRecDepth 100000 in
theorem fnSynHear_lifted (os : Os) (started : os.Started) (H : Type) (enc : TypeId × Value → H) :
    ReturnsInHanded {} Try.checked os 4 .any (Rows.fnSynHearSpec.pre6 enc Try.prog Try.f4 Rows.fnSynHearRow.domain false) (Rows.fnSynHearSpec.post enc Try.prog Try.f4 false true false false) := by
  refine returnsInHanded_of_change (C := Try.checked) seat_own started (by kernel_rfl) Try.func4
    (ChangeSpec.witness6 (enc := enc) (C := Try.checked) false ⟨#[], #[.slice none 0 0], []⟩ 8 (by kernel_rfl) (by kernel_rfl) (by kernel_rfl) (by kernel_rfl)) ?_
  intro W base args ds gs before hval0 hW hcnd _
  have hval : ∀ (j : Nat) t v, Try.f4.params[j]? = some t → args[j]? = some v → Value.okWide Try.prog W .any base t v := hval0
  have hW' := hW
  obtain ⟨p, q, hA0, hV, rfl, hfz, hnd⟩ := hW
  have hA : DataW.TrodAll enc Try.prog W 0 (fun _ => true) true Try.f4.params.toList args.toList ds p := hA0
  rw [ Try.params4 ] at hA hval
  obtain ⟨v0, vs0, d0, ds0, p0, q0, hargs, rfl, rfl, h0, r0⟩ := trodAll_cons hA
  obtain ⟨rfl, rfl, rfl⟩ := trodAll_nil r0
  obtain rfl : args = #[v0] := by cases args; simp_all
  obtain ⟨rfl, rfl⟩ := trodVars_none hV
  have lt0 : ∀ x ∈ p0, x.block < W.heap.size := by obtain ⟨m, hm⟩ := h0; exact DataW.trod_lt m _ _ _ hm
  obtain ⟨bo0, n0, cap0, bs0, rfl, hb0⟩ : ∃ (bo : Option Addr) (n cap : Nat) (bs : List Nat), v0 = .slice bo n cap ∧ BytesIn W bo n cap bs := by
    obtain ⟨a1, l1, k1, rfl⟩ := okWide_slice Try.underlying56 (hval 0 56 v0 rfl rfl)
    obtain ⟨m, hm⟩ := h0
    exact bytesIn_of Try.underlying56 Try.underlying5 (by kernel_rfl) hm
  clear hA0 hval0
  refine (lawSynHear_walk bo0 n0 cap0 bs0 W hb0).mono fun e W' ⟨he, bel⟩ => ?_
  subst he
  exact ⟨_, rfl, _, _, _, [], _, [], hW', trodAll_mk1 (shut_bool Try.underlying4 _), (trodAll_cons_mk (Below.trod seat_laidOut (by kernel_rfl) (of_decide_eq_true (by kernel_rfl)) h0 bel lt0) trodAll_mk0), rfl, bel.frame _, fun h => by cases h⟩

theorem fnSynHear_holds : Rows.FnSynHearSaid :=
  OpenClaim.holds_of_wide 4 Try.f4 rfl rfl rfl rfl rfl rfl rfl ⟨rfl, rfl, rfl, rfl, rfl⟩ rfl rfl rfl rfl rfl (by kernel_rfl) Try.func4 (by kernel_rfl)
    (of_decide_eq_true (by kernel_rfl)) (by unfold Func.isWrapper; first | (rw [if_pos (by decide +kernel)]; kernel_rfl) | (rw [if_neg (by decide +kernel)]; exact ⟨rfl, rfl⟩))
    (fun os started H enc _ => fnSynHear_lifted os started H enc)

#print axioms fnSynHear_holds
end Go.Proofs.Yteddhdbglciahaa
