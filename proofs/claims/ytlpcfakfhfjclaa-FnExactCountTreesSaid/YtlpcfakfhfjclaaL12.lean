/-
  Proved: the law FnExactCountTrees returns true for each argument and leaves it as it was: the program's CountTrees answers as its model does.
  Conditions: none beyond those of the statement itself.
-/
import Derived.Test.YtlpcfakfhfjclaaRows
import Derived.Test.YtlpcfakfhfjclaaG2L
import Derived.Test.YtlpcfakfhfjclaaRt
import Derived.WalkKit
import Derived.ProofKit
import Derived.OpenShut
namespace Go.Proofs.Ytlpcfakfhfjclaa.fnExactCountTrees
open Go.ChangeShapes Go.WideShapes Go.ChangeAt Go.RowKit
set_option linter.unusedVariables false

theorem own : ownKnob Try.prog.godebug = none := by kernel_rfl

theorem out_spec (x : Int) (h : x < 1 ∨ 8 < x) : Go.Rv.spec_CountTrees x = some (-1) := by
  unfold Rv.spec_CountTrees Rv.spec_CountTrees_r Rv.spec_CountTrees_1 Rv.spec_CountTrees_10 Rv.spec_CountTrees_100 Rv.spec_l1In Rv.spec_l1In_r Rv.spec_l1In_1 Rv.spec_l1In_10
  rcases h with h | h
  · have e : decide (x ≥ 1) = false := by simp; omega
    rw [e]; (show _ = _); kernel_rfl
  · have e : decide (x ≥ 1) = true := by simp; omega
    have e2 : decide (x ≤ 8) = false := by simp; omega
    rw [e, e2]; (show _ = _); kernel_rfl

theorem out_impl (x : Int) (h : x < 1 ∨ 8 < x) : Go.Rv.impl_CountTrees x = some (-1) := by
  unfold Rv.impl_CountTrees Rv.impl_CountTrees_r Rv.impl_CountTrees_1 Rv.impl_CountTrees_10 Rv.impl_CountTrees_100
  rcases h with h | h
  · have e : decide (x < 1) = true := by simp; omega
    rw [e]; (show _ = _); kernel_rfl
  · have e : decide (x < 1) = false := by simp; omega
    have e2 : decide (x > 8) = true := by simp; omega
    rw [e, e2]; (show _ = _); kernel_rfl

theorem same (x : Int) : Rv.laws_FnExactCountTrees x = some true := by
  by_cases h : x < 1 ∨ 8 < x
  · unfold Rv.laws_FnExactCountTrees Rv.laws_FnExactCountTrees_r Rv.laws_FnExactCountTrees_1 Rv.laws_FnExactCountTrees_10 Rv.laws_FnExactCountTrees_11 Rv.laws_FnExactCountTrees_110
    rw [out_spec x h, out_impl x h]; (show _ = _); kernel_rfl
  · have : x = 1 ∨ x = 2 ∨ x = 3 ∨ x = 4 ∨ x = 5 ∨ x = 6 ∨ x = 7 ∨ x = 8 := by omega
    rcases this with rfl | rfl | rfl | rfl | rfl | rfl | rfl | rfl <;> (show _ = _) <;> kernel_rfl

theorem walk (a0 : Int) (w0 : (Lit.int .i64 a0).wf = true) (w : World) :
    Calls Try.prog 12 #[.int .i64 a0] w fun e w' => e = .returned (.bool true) ∧ Grown w w' := by
  refine Rv.law_calls Rv.laws_FnExactCountTrees_sound (avs := [.dat (.int .i64) a0]) ?_ (args := [.int .i64 a0]) ⟨_, _, rfl, rfl, rfl⟩
  show (Rv.Ans.mk _ (Rv.laws_FnExactCountTrees a0) _).run = _
  rw [same]
  rfl

set_option maxRecDepth 100000 in
theorem lifted (os : Os) (started : os.Started) (H : Type) (enc : TypeId × Value → H) :
    ReturnsInHanded {} Try.checked os 12 .any (Rows.fnExactCountTreesSpec.pre6 enc Try.prog Try.f12 Rows.fnExactCountTreesRow.domain false) (Rows.fnExactCountTreesSpec.post enc Try.prog Try.f12 false true false false) := by
  refine returnsInHanded_of_change (C := Try.checked) own started (by kernel_rfl) Try.func12
    (ChangeSpec.witness6 (enc := enc) (C := Try.checked) false ⟨#[], #[.int .i64 0], []⟩ 8 (by kernel_rfl) (by kernel_rfl) (by kernel_rfl) (by kernel_rfl)) ?_
  intro W base args ds gs before hval0 hW hcnd _
  have hval : ∀ (j : Nat) t v, Try.f12.params[j]? = some t → args[j]? = some v → Value.okWide Try.prog W .any base t v := hval0
  have hW' := hW
  obtain ⟨p, q, hA0, hV, rfl, hfz, hnd⟩ := hW
  have hA : DataW.TrodAll enc Try.prog W 0 (fun _ => true) true Try.f12.params.toList args.toList ds p := hA0
  rw [Try.params12] at hA hval
  obtain ⟨v0, vs0, d0, ds0, p0, q0, hargs, rfl, rfl, h0, r0⟩ := trodAll_cons hA
  obtain ⟨rfl, rfl, rfl⟩ := trodAll_nil r0
  obtain rfl : args = #[v0] := by cases args; simp_all
  obtain ⟨rfl, rfl⟩ := trodVars_none hV
  obtain ⟨a0, rfl, rfl, rfl, w0⟩ := open_int Try.underlying3 (hval 0 3 v0 rfl rfl) h0
  clear hA0 hval0
  simp only [List.append_nil] at hW'
  refine (walk a0 w0 W).mono fun e W' ⟨he, hg⟩ => ?_
  subst he
  exact ⟨_, rfl, post_of_same (pa := []) (pv := []) hW' (fun _ _ _ => (trodAll_cons_mk (shut_bool Try.underlying4 _) trodAll_mk0)) (fun sp _ => (trodAll_cons_mk (shut_int Try.underlying3 w0) trodAll_mk0)) (fun _ _ => rfl) rfl
    (hg.frame _) hg.2.1 (ok_one (by kernel_rfl) rfl (okWide_bool_mk Try.underlying4 _))⟩

theorem over : Rows.fnExactCountTreesRow.holds Try.pinned (OpenSpec.ofChange Rows.fnExactCountTreesSpec) :=
  OpenClaim.holds_of_wide 12 Try.f12 rfl rfl rfl rfl rfl rfl rfl ⟨rfl, rfl, rfl, rfl, rfl⟩ rfl rfl rfl rfl rfl (by kernel_rfl) Try.func12 (by kernel_rfl)
    (of_decide_eq_true (by kernel_rfl)) (by unfold Func.isWrapper; first | (rw [if_pos (by decide +kernel)]; kernel_rfl) | (rw [if_neg (by decide +kernel)]; exact ⟨rfl, rfl⟩))
    (fun os started H enc _ => lifted os started H enc)

theorem proved : Rows.FnExactCountTreesSaid :=
  over
end Go.Proofs.Ytlpcfakfhfjclaa.fnExactCountTrees
