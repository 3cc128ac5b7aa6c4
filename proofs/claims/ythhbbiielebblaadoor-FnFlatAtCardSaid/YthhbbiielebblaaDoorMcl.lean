/-
  Plain mathematics: chapter 4's tables. Conditions: none.
-/
import Derived.Test.YthhbbiielebblaaDoorMck
set_option linter.unusedVariables false
set_option linter.unusedSimpArgs false
namespace Go.Rv

/-- A flat tree, by its arcs. -/
def flatC (h : List Int) : Bool :=
  treeB h && (List.range h.length).all fun i => (List.range h.length).all fun j => Nat.beq i j || !(crsN (i + 1) (hd h (i + 1)) (j + 1) (hd h (j + 1)))

theorem flatC_ok {h : List Int} (c : flatC h = true) : Tree h ∧ FlatP h := by
  unfold flatC at c
  simp only [Bool.and_eq_true, List.all_eq_true, List.mem_range, Bool.or_eq_true, Bool.not_eq_true'] at c
  have T := (tree_iff h).mp c.1
  have C : ∀ w v, 1 ≤ w → w ≤ h.length → 1 ≤ v → v ≤ h.length → w ≠ v → crsN w (hd h w) v (hd h v) = false := by
    intro w v w1 w2 v1 v2 ne
    have := (c.2 (w - 1) (by omega) (v - 1) (by omega)).resolve_left (fun e => by
      have := Nat.eq_of_beq_eq_true e
      omega)
    rwa [show w - 1 + 1 = w by omega, show v - 1 + 1 = v by omega] at this
  refine ⟨T, (plan_iff T).mpr ⟨(arcs_pairs T).mpr ?_, ?_⟩⟩
  · intro w v w1 w2 w3 v1 v2 v3 x
    by_cases e : w = v
    · subst e
      unfold CrossW Betw Outs at x
      omega
    · have := C w v w1 w2 v1 v2 e
      rw [(crsN_iff _ _ _ _).mpr x] at this
      cases this
  · rw [Bool.eq_false_iff]
    intro x
    unfold covB at x
    rw [List.any_eq_true] at x
    obtain ⟨p, hp, q⟩ := x
    simp only [decide_eq_true_eq] at q
    obtain ⟨w, w1, w2, w3, e⟩ := (mem_arcs T).mp hp
    have t0 := (T.hd_zero (top_pos h) T.top_le).mpr rfl
    have ne : w ≠ top h := fun e => w3 (by rw [e]; exact t0)
    have := C w (top h) w1 w2 (top_pos h) T.top_le ne
    have b : Betw w (hd h w) (top h) ∧ Outs w (hd h w) (hd h (top h)) := by
      rw [t0]
      rw [e] at q
      unfold imin imax at q
      unfold Betw Outs
      constructor
      · split at q <;> omega
      · omega
    rw [(crsN_iff _ _ _ _).mpr (.inl b)] at this
    cases this

end Go.Rv
