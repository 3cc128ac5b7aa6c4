/-
  Draws of chapter 5: a tree and two numbers. Conditions: none.
-/
import Derived.Test.YtgnjabkkcglmkaaDoorMgb
set_option linter.unusedVariables false
set_option linter.unusedSimpArgs false
namespace Go.Rv

theorem drawn_turns (x : List Int) (w : ∀ n ∈ x, (Lit.int .u8 n).wf = true) (l : x.length ≤ maxLen) : ∃ h a b, spec_DrawTurnsOk x = some (h, a, b) := by
  have e : spec_DrawTurnsOk x = spec_DrawTurnsOk_n1 x := by unfold spec_DrawTurnsOk; rfl
  rw [e]
  unfold spec_DrawTurnsOk_n1
  obtain ⟨b, hb, hB⟩ := open_ok x w l
  obtain ⟨q, h, hq, qa, qb, h8⟩ := wild_ok hB 12 (by omega) (p := 0) (by omega) (by omega)
  obtain ⟨v1, hv1, a1, b1, _⟩ := pick_ok hB 3 (by omega) (p := q) (by omega) (by omega)
  simp only [hb, hq, hv1, Option.bind_some]
  have two : ∀ (g : List Int) (r : Int), g.length ≤ 8 → 0 ≤ r → r ≤ 999970000 → ∃ h a c, ((spec_l20Rd_pick (IntKind.wrap .i64 ((((List.length g : Nat) : Int)) + 1)) b r).bind fun (y : Int × Int) => (spec_l20Rd_pick (IntKind.wrap .i64 ((((List.length g : Nat) : Int)) + 2)) b (y.2)).bind fun (z : Int × Int) => some (g, (IntKind.wrap .i64 (1 + (y.1))), (z.1))) = some (h, a, c) := by
    intro g r hg r0 r1
    obtain ⟨v2, hv2, _⟩ := pick_ok hB (((g.length : Nat) : Int) + 1) (by omega) (p := r) (by omega) (by omega)
    obtain ⟨v3, hv3, _⟩ := pick_ok hB (((g.length : Nat) : Int) + 2) (by omega) (p := r + 1) (by omega) (by omega)
    refine ⟨g, IntKind.wrap .i64 (1 + v2), v3, ?_⟩
    rw [wrap64 (x := ((g.length : Nat) : Int) + 1) (by omega) (by omega), wrap64 (x := ((g.length : Nat) : Int) + 2) (by omega) (by omega)]
    simp only [hv2, hv3, Option.bind_some]
  by_cases z : (v1 == 0) = true
  · rw [z, cond_true]
    obtain ⟨v2, hv2, a2, b2, _⟩ := pick_ok hB 4 (by omega) (p := q + 1) (by omega) (by omega)
    have b2 := b2 (by omega)
    obtain ⟨v3, hv3, a3, b3, _⟩ := pick_ok hB 3 (by omega) (p := q + 1 + 1) (by omega) (by omega)
    simp only [hv2, Option.bind_some, hv3]
    have h4 : v2 = 0 ∨ v2 = 1 ∨ v2 = 2 ∨ v2 = 3 := by omega
    by_cases y : v3 > 0
    · rw [decide_eq_true y]
      simp only [cond_true]
      rcases h4 with rfl | rfl | rfl | rfl <;> exact ⟨_, _, _, rfl⟩
    · rw [decide_eq_false y]
      simp only [cond_false]
      rcases h4 with rfl | rfl | rfl | rfl
      · exact two [5, 5, 1, 2, 0] (q + 1 + 1 + 1) (by decide) (by omega) (by omega)
      · exact two [0, 1, 1, 2, 3] (q + 1 + 1 + 1) (by decide) (by omega) (by omega)
      · exact two [6, 6, 1, 2, 1, 0] (q + 1 + 1 + 1) (by decide) (by omega) (by omega)
      · exact two [3, 4, 0, 3, 1, 2] (q + 1 + 1 + 1) (by decide) (by omega) (by omega)
  · rw [show (v1 == 0) = false from by simpa using z, cond_false]
    exact two h (q + 1) h8 (by omega) (by omega)

end Go.Rv
