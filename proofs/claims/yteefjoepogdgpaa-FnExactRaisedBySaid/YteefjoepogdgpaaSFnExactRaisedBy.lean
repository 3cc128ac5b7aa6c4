/-
  The law FnExactRaisedBy, in plain words: it is true of every argument. Conditions: what the program's RaisedBy says.
-/
import Derived.Test.YteefjoepogdgpaaHFnExactRaisedBy
import Derived.Test.YteefjoepogdgpaaFB
set_option linter.unusedVariables false
set_option linter.unusedSimpArgs false
namespace Go.Rv

theorem raised_sz (S : List (List Int)) (w : Int) : szT (raisedI S w).2 ≤ 1048576 := by
  unfold raisedI
  split
  · rename_i q
    simp only [Bool.and_eq_true] at q
    have o := q.2
    have l5 := okB_len o
    have t : ∀ k, k ≤ (raisedS S (w.toNat - 1)).length → tot ((raisedS S (w.toNat - 1)).take k) ≤ 6 * k := fun k => by
      induction k with
      | zero => intro _; simp [tot]
      | succ k ih =>
        intro hk
        have b := (okB_word o (k := k) (j := 0) (by omega) (by omega)).1
        rw [List.getD_eq_getElem?_getD, List.getElem?_eq_getElem (show k < (raisedS S (w.toNat - 1)).length by omega), Option.getD_some] at b
        rw [tot_take (by omega)]
        have := ih (by omega)
        omega
    have := t (raisedS S (w.toNat - 1)).length (Nat.le_refl _)
    rw [List.take_of_length_le (Nat.le_refl _)] at this
    show szT (raisedS S (w.toNat - 1)) ≤ 1048576
    unfold szT
    omega
  · simp [szT, tot]

theorem core_FnExactRaisedBy (hI : ∀ S w, szT S ≤ 1048576 → impl_RaisedBy S w = some (raisedI S w)) (x : List (List Int)) (l : x.length ≤ maxLen) (l2 : ∀ r ∈ x, r.length ≤ maxLen) (w : Int) : laws_FnExactRaisedBy x w = some true := by
  unfold laws_FnExactRaisedBy laws_FnExactRaisedBy_n1
  obtain ⟨v, hv, V⟩ := szSS x l l2
  rw [hv]
  simp only [Option.bind_some]
  rcases V with V | ⟨V, sz⟩
  · rw [decide_eq_true V]
    rfl
  · rw [decide_eq_false (by omega)]
    have s1 : x.length ≤ 1048576 := by unfold szT at sz; omega
    have rz := raised_sz x w
    have m1 := markIntSS_eq sz
    have m2 := markIntSS_eq rz
    have m3 := heldIntSS_eq rz
    simp only [cond_false, Option.bind_some, toIntSS_eq sz, specRaised_eq x w s1, hI x w sz, eqIntSS_refl rz, Bool.not_true, bne_self_eq_false, eqIntSS_refl sz, m1, m2, m3]
    rw [decide_eq_false (show ¬ ((1 + tot x : Nat) : Int) < 0 by omega), decide_eq_false (show ¬ ((1 + tot (raisedI x w).2 : Nat) : Int) < 0 by omega)]
    rfl

theorem same_FnExactRaisedBy (x : List (List Int)) (f : Fits (.list (.list (.int .i64))) x) (v : Int) (wv : (Lit.int .i64 v).wf = true) : laws_FnExactRaisedBy x v = some true :=
  core_FnExactRaisedBy implRaised_eq x f.1 (fun r hr => (f.2 r hr).1) v

end Go.Rv
