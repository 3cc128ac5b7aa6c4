/-
  The law FnExactFlatAt, in plain words: it is true of every argument. Conditions: none.
-/
import Derived.Test.YthhbbiielebblaaMcp
import Derived.Test.YthhbbiielebblaaMg
set_option linter.unusedVariables false
set_option linter.unusedSimpArgs false
namespace Go.Rv

theorem same_FnExactFlatAt (x : Int) (wx : (Lit.int .i64 x).wf = true) (y : Int) (wy : (Lit.int .i64 y).wf = true) : laws_FnExactFlatAt x y = some true := by
  unfold laws_FnExactFlatAt laws_FnExactFlatAt_n1
  have hl := atS_short x y
  generalize hr : atS x y = r at hl
  have hs : spec_FlatAt x y = some r := by rw [specAtI_eq, hr]
  have hi : impl_FlatAt x y = some r := by rw [implAt_eq, hr]
  have m2 := markIntS_eq 1 r.2 (by omega) (by omega)
  have m3 := heldIntS_eq 1 r.2.length (by omega) (by omega)
  simp only [show ((1 : Nat) : Int) = 1 from rfl] at m2 m3
  have e2 : decide (((1 + r.2.length : Nat) : Int) < 0) = false := decide_eq_false (by omega)
  simp only [hs, hi, eqIntS_eq r.2 r.2 (by omega), Option.bind_some, cond_false, beq_self_eq_true, Bool.not_true, m2, m3, e2, bne_self_eq_false]

end Go.Rv
