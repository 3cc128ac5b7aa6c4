/-
  The law FnPlaceOf, in plain words: it is true of every argument. Conditions: none.
-/
import Derived.Test.YtgjhjbankpdcgaaDoorHFnPlaceOf
set_option linter.unusedVariables false
set_option linter.unusedSimpArgs false
namespace Go.Rv

theorem same_FnPlaceOf (x : List Int) (w : ∀ n ∈ x, (Lit.int .u8 n).wf = true) (l : x.length ≤ maxLen) : laws_FnPlaceOf x = some true := by
  unfold laws_FnPlaceOf laws_FnPlaceOf_n1
  by_cases hx : x.length ≤ 1048576
  · rw [show decide (((x.length : Nat) : Int) > 1048576) = false from decide_eq_false (by omega)]
    obtain ⟨h, h8, hdr⟩ := drawn_flat x w l 9 (by omega)
    have hd' : spec_DrawPlaceOf x = some h := by unfold spec_DrawPlaceOf spec_DrawPlaceOf_n1; exact hdr
    simp only [hd', cond_false, Option.bind_some, implPlace_eq, specPlace_eq h (by omega), bne_self_eq_false, implAt_eq, implCountFlat_eq, implFlat_eq, alive_eq]
    by_cases f : flatI h = true ∧ h.length ≤ 6
    · obtain ⟨T, F⟩ := flatI_iff.mp f.1
      have hp := T.pos
      obtain ⟨k, hk, hr, ht⟩ := place_ok T F f.2
      have p : placeI h = (k : Int) := by unfold placeI; rw [if_pos f, hr]; rfl
      have b : atB ((h.length : Nat) : Int) (k : Int) := ⟨by omega, by omega, by simp only [Int.toNat_natCast]; omega⟩
      have e1 : atS ((h.length : Nat) : Int) (k : Int) = (true, h) := by unfold atS; rw [if_pos b]; simp [ht]
      have c : cntI ((h.length : Nat) : Int) = (flatT h.length : Int) := by unfold cntI; rw [if_pos (by omega), Int.toNat_natCast]
      have s : (h == h) = true := beq_self_eq_true h
      rw [p, e1, c, decide_eq_false (show ¬ (k : Int) < 0 by omega), decide_eq_true (show (k : Int) < (flatT h.length : Int) by omega)]
      simp only [cond_false, cond_true, sameInts_eq h h (by omega), Option.bind_some, s]
    · have p : placeI h = -1 := by unfold placeI; rw [if_neg f]
      rw [p]
      cases g : flatI h with
      | false => rfl
      | true =>
        rw [decide_eq_true (show ((h.length : Nat) : Int) > 6 from by
          have : ¬ h.length ≤ 6 := fun y => f ⟨g, y⟩
          omega)]
        rfl
  · rw [show decide (((x.length : Nat) : Int) > 1048576) = true from decide_eq_true (by omega)]
    rfl

end Go.Rv
