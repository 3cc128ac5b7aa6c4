/-
  The law FnSidesOf, in plain words: it is true of every argument. Conditions: none.
-/
import Derived.Test.YtgjhjbankpdcgaaDoorHFnSidesOf
set_option linter.unusedVariables false
set_option linter.unusedSimpArgs false
namespace Go.Rv

theorem same_FnSidesOf (x : List Int) (w : ∀ n ∈ x, (Lit.int .u8 n).wf = true) (l : x.length ≤ maxLen) : laws_FnSidesOf x = some true := by
  unfold laws_FnSidesOf laws_FnSidesOf_n9 laws_FnSidesOf_n1
  by_cases hx : x.length ≤ 1048576
  · rw [show decide (((x.length : Nat) : Int) > 1048576) = false from decide_eq_false (by omega)]
    obtain ⟨v, h, hdr, h8, v1, v2⟩ := drawn_yield x w l
    have hdr' : spec_DrawSidesOf x = some (v, h) := by
      unfold spec_DrawSidesOf spec_DrawSidesOf_n1
      exact hdr
    simp only [cond_false, hdr', Option.bind_some, implSides_eq, specSides_eq, bne_self_eq_false, alive_eq]
    cases hw : wordB h v with
    | false => simp [sidesI, hw]
    | true =>
      obtain ⟨u, rfl, T, u1, u2⟩ := wordB_iff.1 hw
      simp only [sidesI, hw, if_true, Bool.not_true, cond_false, Option.bind_some, Sum.elim_inl, Int.toNat_natCast]
      unfold laws_FnSidesOf_n8 laws_FnSidesOf_n6 laws_FnSidesOf_n2 laws_FnSidesOf_n5 laws_FnSidesOf_n4 laws_FnSidesOf_n7
      have small : ∀ k, sumN (fun k => leftN h (k + 1) + rightN h (k + 1)) k ≤ 8 * k := by
        intro k
        induction k with
        | zero => simp [sumN]
        | succ k ih =>
          simp only [sumN]
          have hs := sides_sum h (k + 1)
          have hc : (List.range h.length).countP (headB h ((k + 1 : Nat) : Int)) ≤ h.length := by simpa using List.countP_le_length (p := headB h ((k + 1 : Nat) : Int)) (l := List.range h.length)
          omega
      have hloop := nloop_to (body := fun (s : Int × Int) => ((laws_FnSidesOf_n3 s.1 s.2 h).map (Sum.elim (fun (t : Int × Int) => Sum.inl (t.1, t.2)) (fun (t : Int) => Sum.inr t)) : Option ((Int × Int) ⊕ (Int))))
        (fun k => (((sumN (fun k => leftN h (k + 1) + rightN h (k + 1)) k : Nat) : Int), ((k + 1 : Nat) : Int))) h.length (((h.length - 1 : Nat)) : Int)
        (by
          intro k hk
          have hw' : wordB h ((k + 1 : Nat) : Int) = true := wordB_iff.2 ⟨_, rfl, T, by omega, by omega⟩
          have hs := sides_sum h (k + 1)
          have hc : (List.range h.length).countP (headB h ((k + 1 : Nat) : Int)) ≤ h.length := by simpa using List.countP_le_length (p := headB h ((k + 1 : Nat) : Int)) (l := List.range h.length)
          have h8k := small k
          simp only [laws_FnSidesOf_n3, implSides_eq, sidesI, hw', if_true, Int.toNat_natCast, sumN]
          rw [show decide (((k + 1 : Nat) : Int) ≤ ((h.length : Nat) : Int)) = true from decide_eq_true (by omega)]
          simp only [cond_true, Option.bind_some]
          rw [wrap64 (x := ((sumN (fun k => leftN h (k + 1) + rightN h (k + 1)) k : Nat) : Int) + ((leftN h (k + 1) : Nat) : Int)) (by omega) (by omega), wrap64 (by omega) (by omega), wrap64 (by omega) (by omega)]
          simp only [Option.map_some, Sum.elim_inl, Option.some.injEq, Sum.inl.injEq, Prod.mk.injEq]
          omega)
        (by
          simp only [laws_FnSidesOf_n3]
          rw [show decide (((h.length + 1 : Nat) : Int) ≤ ((h.length : Nat) : Int)) = false from decide_eq_false (by omega), sides_all T]
          rfl)
      have hl := hloop LL (by simp only [LL]; omega)
      simp only [sumN] at hl
      simp only [Option.bind_some]
      rw [show ((0 : Int), (1 : Int)) = (((0 : Nat) : Int), ((0 + 1 : Nat) : Int)) from rfl, hl, implDeps_eq, deps_kids T u2]
      simp only [Option.map_some, Option.bind_some]
      have hs := sides_sum h u
      have hk := kids_count T u
      have hc := kids_length h u
      have hp := T.pos
      rw [wrap64 (x := ((leftN h u : Nat) : Int) + ((rightN h u : Nat) : Int)) (by omega) (by omega), wrap64 (by omega) (by omega),
        show (((leftN h u : Nat) : Int) + ((rightN h u : Nat) : Int) == (((kidsL h u).length : Nat) : Int)) = true by rw [beq_iff_eq]; omega,
        show (((h.length - 1 : Nat) : Int) == ((h.length : Nat) : Int) - 1) = true by rw [beq_iff_eq]; omega]
      rfl
  · rw [show decide (((x.length : Nat) : Int) > 1048576) = true from decide_eq_true (by omega)]
    rfl

end Go.Rv
