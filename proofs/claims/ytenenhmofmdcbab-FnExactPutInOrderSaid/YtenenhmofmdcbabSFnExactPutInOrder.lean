/-
  The law FnExactPutInOrder, in plain words: it is true of every argument. Conditions: none.
-/
import Derived.Test.YtenenhmofmdcbabMj
import Derived.Test.YtenenhmofmdcbabMg
set_option linter.unusedVariables false
set_option linter.unusedSimpArgs false
namespace Go.Rv

theorem same_FnExactPutInOrder (x : List Int) (w : ∀ n ∈ x, (Lit.int .i64 n).wf = true) (l : x.length ≤ maxLen) (y : List Int) (wy : ∀ n ∈ y, (Lit.int .i64 n).wf = true) (ly : y.length ≤ maxLen) :
    laws_FnExactPutInOrder x y = some true := by
  unfold laws_FnExactPutInOrder laws_FnExactPutInOrder_n3 laws_FnExactPutInOrder_n1
  by_cases h : x.length ≤ 1048576
  · rw [show decide (((x.length : Nat) : Int) > 1048576) = false from decide_eq_false (by omega)]
    by_cases h2 : y.length ≤ 1048576
    · rw [show decide (((y.length : Nat) : Int) > 1048576) = false from decide_eq_false (by omega)]
      generalize hr : (if treeB x && orderB y x.length then (true, putRow x y) else (false, [])) = r
      have hlen : r.2.length ≤ 1048576 := by
        subst hr
        split
        · simp only [putRow_length]; omega
        · simp
      have hs : spec_PutInOrder x y = some r := by rw [specPut_eq x y h2, hr]
      have hi : impl_PutInOrder x y = some r := by rw [implPut_eq x y, hr]
      have m1 := markIntS_eq 1 x h (by omega)
      have m1' := markIntS_eq (1 + x.length) y h2 (by omega)
      have m2 := markIntS_eq 1 r.2 hlen (by omega)
      have m3 := heldIntS_eq 1 r.2.length hlen (by omega)
      simp only [show ((1 : Nat) : Int) = 1 from rfl] at m1 m2 m3
      have e1 : decide (((1 + x.length + y.length : Nat) : Int) < 0) = false := decide_eq_false (by omega)
      have e2 : decide (((1 + r.2.length : Nat) : Int) < 0) = false := decide_eq_false (by omega)
      simp only [toIntS_eq x h, toIntS_eq y h2, hs, hi, eqIntS_eq x x h, eqIntS_eq y y h2, eqIntS_eq r.2 r.2 hlen, Option.bind_some, cond_false, beq_self_eq_true, Bool.not_true, m1, m1', m2, m3, e1, e2, bne_self_eq_false, Sum.elim_inl, laws_FnExactPutInOrder_n2]
    · rw [show decide (((y.length : Nat) : Int) > 1048576) = true from decide_eq_true (by omega)]
      rfl
  · rw [show decide (((x.length : Nat) : Int) > 1048576) = true from decide_eq_true (by omega)]
    rfl

end Go.Rv
