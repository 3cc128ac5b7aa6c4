/-
  The law FnExactRunStack, in plain words: it is true of every argument. Conditions: none.
-/
import Derived.Test.YtiokdplogigiaaaMgp
import Derived.Test.YtiokdplogigiaaaMsa
import Derived.Test.YtiokdplogigiaaaMg
set_option linter.unusedVariables false
set_option linter.unusedSimpArgs false
namespace Go.Rv

theorem runI_short (x : Int) (mv : ByteArray) : (runI x mv).2.length ≤ 8 := by
  unfold runI
  split
  · rename_i b
    split
    · rename_i d q
      split
      · have := (run_inv (RInv.start x.toNat) q).1.base.len
        simp only
        omega
      · simp
    · simp
  · simp

theorem core_FnExactRunStack (hE : ∀ x mv, mv.size ≤ 1099511627776 → impl_RunStack x mv = some (runI x mv)) (x : Int) (wx : (Lit.int .i64 x).wf = true) (y : ByteArray) (ly : y.size ≤ maxLen) : laws_FnExactRunStack x y = some true := by
  unfold laws_FnExactRunStack laws_FnExactRunStack_n1
  by_cases hy : y.size ≤ 1048576
  · rw [show decide (((y.size : Nat) : Int) > 1048576) = false from decide_eq_false (by omega)]
    have hl := runI_short x y
    generalize hr : runI x y = r at hl
    have hs : spec_RunStack x y = some r := by rw [specRun_eq x y (by omega), hr]
    have hi : impl_RunStack x y = some r := by rw [hE x y (by omega), hr]
    have m2 := markIntS_eq 1 r.2 (by omega) (by omega)
    have m3 := heldIntS_eq 1 r.2.length (by omega) (by omega)
    simp only [show ((1 : Nat) : Int) = 1 from rfl] at m2 m3
    have e2 : decide (((1 + r.2.length : Nat) : Int) < 0) = false := decide_eq_false (by omega)
    simp only [hs, hi, eqIntS_eq r.2 r.2 (by omega), Option.bind_some, cond_false, beq_self_eq_true, Bool.not_true, m2, m3, e2, bne_self_eq_false]
  · rw [show decide (((y.size : Nat) : Int) > 1048576) = true from decide_eq_true (by omega)]
    rfl

theorem same_FnExactRunStack (x : Int) (wx : (Lit.int .i64 x).wf = true) (y : ByteArray) (ly : y.size ≤ maxLen) : laws_FnExactRunStack x y = some true :=
  core_FnExactRunStack implRun_eq x wx y ly

end Go.Rv
