/-
  The law FnExchangesFor, in plain words: it is true of every argument. Conditions: none.
-/
import Derived.Test.YtgjhjbankpdcgaaDoorHFnExchangesFor
set_option linter.unusedVariables false
set_option linter.unusedSimpArgs false
namespace Go.Rv

theorem quo_halfE {n : Nat} : quo .i64 ((n : Nat) : Int) 2 = some (IntKind.wrap .i64 ((n / 2 : Nat) : Int)) := by
  unfold quo
  rw [if_neg (by omega)]
  congr 2

theorem core_FnExchangesFor (hE : ∀ h, h.length ≤ 1048576 → impl_ExchangesFor h = some (if treeB h = true then (turnN (flatOI h) : Int) else -1)) (hM : ∀ h, h.length ≤ 1048576 → impl_MadeFlat h = some (if treeB h = true then putRow h (flatOI h) else []))
    (x : List Int) (w : ∀ n ∈ x, (Lit.int .u8 n).wf = true) (l : x.length ≤ maxLen) : laws_FnExchangesFor x = some true := by
  unfold laws_FnExchangesFor laws_FnExchangesFor_n1
  by_cases hx : x.length ≤ 1048576
  · rw [show decide (((x.length : Nat) : Int) > 1048576) = false from decide_eq_false (by omega)]
    obtain ⟨h, h8, hdr⟩ := drawn_wild x w l 9 (by omega)
    have hd' : spec_DrawExchangesFor x = some h := by unfold spec_DrawExchangesFor spec_DrawExchangesFor_n1; exact hdr
    simp only [hd', cond_false, Option.bind_some, hE h (by omega), specExchanges_eq h (by omega), bne_self_eq_false, implTree_eq, alive_eq]
    cases t : treeB h with
    | false => rfl
    | true =>
      have T := (tree_iff h).mp t
      have fl := flatOI_length T
      have nd := ((orderP_iff _ _).mp (flatOI_order T)).2
      have le := turn_le nd
      have T' := put_tree T fl (flatOI_order T)
      have z := (turn_flat T').mpr (made_flat T)
      have len := putRow_length h (flatOI h)
      have m8 : h.length * (h.length - 1) ≤ 56 := Nat.mul_le_mul h8 (show h.length - 1 ≤ 7 by omega)
      rw [fl] at le
      have z1 : IntKind.wrap .i64 ((((h.length : Nat) : Int)) * (IntKind.wrap .i64 ((((h.length : Nat) : Int)) - 1))) = ((h.length * (h.length - 1) : Nat) : Int) := by
        have hp := T.pos
        rw [wrap64 (x := ((h.length : Nat) : Int) - 1) (by omega) (by omega), show ((h.length : Nat) : Int) - 1 = ((h.length - 1 : Nat) : Int) by omega, ← Int.natCast_mul, wrap64 (by omega) (by omega)]
      have ez : ((turnN (flatOI h) : Int) == 0) = flatI h := by
        rw [Bool.eq_iff_iff, beq_iff_eq]
        unfold flatI
        rw [Bool.and_eq_true, tree_iff, flatB_iff, ← turn_flat T]
        constructor
        · intro q
          exact ⟨T, by omega⟩
        · intro q
          omega
      simp only [if_true]
      rw [decide_eq_false (show ¬ (turnN (flatOI h) : Int) < 0 by omega)]
      simp only [cond_false, implFlat_eq, Option.bind_some, ez, beq_self_eq_true, cond_true, z1, quo_halfE]
      rw [wrap64 (by omega) (by omega), decide_eq_true (by omega), hM h (by omega), t]
      simp only [if_true, cond_true, Option.bind_some]
      rw [hE _ (by omega), (tree_iff _).mpr T']
      simp only [if_true, Option.bind_some, z]
      rfl
  · rw [show decide (((x.length : Nat) : Int) > 1048576) = true from decide_eq_true (by omega)]
    rfl

theorem same_FnExchangesFor (x : List Int) (w : ∀ n ∈ x, (Lit.int .u8 n).wf = true) (l : x.length ≤ maxLen) : laws_FnExchangesFor x = some true :=
  core_FnExchangesFor (fun h _ => implExchanges_eq h) (fun h _ => implMade_eq h) x w l

end Go.Rv
