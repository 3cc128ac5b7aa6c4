/-
  Plain mathematics: the number of a flat tree, as the program finds it. Conditions: none.
-/
import Derived.Test.YthhbbiielebblaaDoorMco
set_option linter.unusedVariables false
set_option linter.unusedSimpArgs false
namespace Go.Rv

theorem implPartsQ_eq : impl_countFlatParts = some (0, 1, 2, 7, 30, 143, 728, 1, 1, 3, 12, 55, 273, 1428) := by kernel_rfl

def placeM (h : List Int) : Option (Int × Int) := impl_flatCounts_numberOfTree 0 1 2 7 30 143 728 1 1 3 12 55 273 1428 h (top h : Int)

def chkJ (h : List Int) : Bool := (placeM h).map (fun v => v.2) == rankS h

theorem j_tab5 : ((List.range 5).all fun n => srchF chkJ (n + 1) (n + 1) []) = true := by decide +kernel
theorem j_tab6_0 : srchF chkJ 6 5 [0] = true := by decide +kernel
theorem j_tab6_2 : srchF chkJ 6 5 [2] = true := by decide +kernel
theorem j_tab6_3 : srchF chkJ 6 5 [3] = true := by decide +kernel
theorem j_tab6_4 : srchF chkJ 6 5 [4] = true := by decide +kernel
theorem j_tab6_5 : srchF chkJ 6 5 [5] = true := by decide +kernel
theorem j_tab6_6 : srchF chkJ 6 5 [6] = true := by decide +kernel
theorem j_tab {n : Nat} (n1 : 1 ≤ n) (n6 : n ≤ 6) : srchF chkJ n n [] = true := by
  by_cases e : n = 6
  · subst e
    refine srchF_cons ?_
    intro v hv ne
    have : v = 0 ∨ v = 2 ∨ v = 3 ∨ v = 4 ∨ v = 5 ∨ v = 6 := by omega
    rcases this with rfl | rfl | rfl | rfl | rfl | rfl
    · exact j_tab6_0
    · exact j_tab6_2
    · exact j_tab6_3
    · exact j_tab6_4
    · exact j_tab6_5
    · exact j_tab6_6
  · have s := List.all_eq_true.mp j_tab5 (n - 1) (by simp only [List.mem_range]; omega)
    simp only [show n - 1 + 1 = n by omega] at s
    exact s

theorem implPlace_eq (h : List Int) : impl_PlaceOf h = some (placeI h) := by
  unfold placeI
  unfold impl_PlaceOf impl_PlaceOf_n1
  by_cases l : h.length ≤ 6
  · rw [decide_eq_false (by omega), implFlat_eq]
    cases f : flatI h with
    | false => simp
    | true =>
      obtain ⟨T, F⟩ := flatI_iff.mp f
      obtain ⟨k, hk, hr, _⟩ := place_ok T F l
      have := flat_allF (j_tab T.pos l) T F rfl
      unfold chkJ at this
      rw [hr, beq_iff_eq] at this
      obtain ⟨p, hp, hp2⟩ := Option.map_eq_some_iff.mp this
      unfold placeM at hp
      have ht : rootI h = (top h : Int) := by unfold rootI; rw [(tree_iff h).mpr T]; rfl
      rw [if_pos ⟨rfl, l⟩, hr]
      simp only [implPartsQ_eq, implRoot_eq, ht, Option.bind_some, cond_false, Bool.not_true, hp, hp2, Option.getD_some]
  · rw [decide_eq_true (by omega), if_neg (fun x => l x.2)]
    rfl

end Go.Rv
