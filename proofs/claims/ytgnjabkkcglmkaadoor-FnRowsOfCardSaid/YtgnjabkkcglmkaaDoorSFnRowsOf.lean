/-
  The law FnRowsOf, in plain words: it is true of every argument. Conditions: none.
-/
import Derived.Test.YtgnjabkkcglmkaaDoorMge
import Derived.Test.YtgnjabkkcglmkaaDoorMcs
import Derived.Test.YtgnjabkkcglmkaaDoorMgb
import Derived.Test.YtgnjabkkcglmkaaDoorMoa
set_option linter.unusedVariables false
set_option linter.unusedSimpArgs false
namespace Go.Rv

def rowsOk (m : Nat) : Bool :=
  match spec_RowsOf_n8 (wordsL m) with
  | some R => R.length == endsN m && (match laws_FnRowsOf_n6 R R with
    | some (.inl t) => t == (((wordsL m).length : Nat) : Int)
    | _ => false)
  | none => false

theorem rowsOk_tab : ((List.range 256).all rowsOk) = true := by decide +kernel

theorem core_FnRowsOf (hG : ∀ h v, impl_GapsOf h v = some (gapsI h v)) (hR : ∀ h v, impl_RowsOf h v = spec_RowsOf h v) (x : List Int) (w : ∀ n ∈ x, (Lit.int .u8 n).wf = true) (l : x.length ≤ maxLen) : laws_FnRowsOf x = some true := by
  unfold laws_FnRowsOf laws_FnRowsOf_n9 laws_FnRowsOf_n1
  by_cases hx : x.length ≤ 1048576
  · rw [show decide (((x.length : Nat) : Int) > 1048576) = false from decide_eq_false (by omega)]
    obtain ⟨v, h, hd, h8, v0, v9⟩ := drawn_gaps x w l
    have hd' : spec_DrawRowsOf x = some (v, h) := by
      unfold spec_DrawRowsOf spec_DrawRowsOf_n1
      rw [hd]
      rfl
    have key : ∃ m, m < 256 ∧ yieldI h v = wordsL m ∧ gapsI h v = (endsN m : Int) - 1 := by
      unfold yieldI gapsI
      cases hw : wordB h v with
      | false => exact ⟨0, by omega, rfl, rfl⟩
      | true =>
        obtain ⟨k, rfl, T, k1, k2⟩ := wordB_iff.1 hw
        exact ⟨ymask h (k : Int).toNat, ymask_lt T.le _, rfl, rfl⟩
    obtain ⟨m, hm, hy, hg⟩ := key
    have t := all_lt rowsOk_tab hm
    unfold rowsOk at t
    split at t
    · rename_i R e
      simp only [Bool.and_eq_true, beq_iff_eq] at t
      obtain ⟨t1, t2⟩ := t
      split at t2
      · rename_i q e2
        have s : spec_RowsOf h v = some R := by
          unfold spec_RowsOf spec_RowsOf_n9 spec_RowsOf_n1
          rw [specYield_eq, hy]
          exact e
        simp only [hd', cond_false, Option.bind_some, hR, s, bne_self_eq_false, Sum.elim_inl]
        unfold laws_FnRowsOf_n8
        rw [e2]
        simp only [Option.bind_some, Sum.elim_inl]
        unfold laws_FnRowsOf_n7
        have h8 := endsN_le8 m
        rw [hG, hg, implYield_eq, hy, beq_iff_eq.mp t2]
        simp only [Option.bind_some]
        rw [wrap64 (by omega) (by omega), show (((R.length : Nat) : Int) == (endsN m : Int) - 1 + 1) = true from beq_iff_eq.mpr (by omega), beq_self_eq_true, alive_eq]
        rfl
      · cases t2
    · cases t
  · rw [show decide (((x.length : Nat) : Int) > 1048576) = true from decide_eq_true (by omega)]
    rfl

theorem same_FnRowsOf (x : List Int) (w : ∀ n ∈ x, (Lit.int .u8 n).wf = true) (l : x.length ≤ maxLen) : laws_FnRowsOf x = some true :=
  core_FnRowsOf implGaps_eq implRows_eq x w l

end Go.Rv
