/-
  Plain mathematics: what is drawn, a tree that is often not flat. Conditions: none.
-/
import Derived.Test.YtgnjabkkcglmkaaDoorMcd
import Derived.Test.YtgnjabkkcglmkaaDoorMjs
set_option linter.unusedVariables false
set_option linter.unusedSimpArgs false
namespace Go.Rv

theorem wild_ok {b : List Int} (hb : Bytes b) (n : Int) (hn : n ≤ 1000) {p : Int} (hp : 0 ≤ p) (hp2 : p ≤ 999960000) :
    ∃ (q : Int) (h : List Int), spec_l20Wild n b p = some (q, h) ∧ p ≤ q ∧ q ≤ p + 1000 ∧ h.length ≤ 8 := by
  have e : spec_l20Wild n b p = spec_l20Wild_n1 n b p := by unfold spec_l20Wild; rfl
  rw [e]
  unfold spec_l20Wild_n1
  obtain ⟨q, h, hq, qa, qb, h8⟩ := tree_ok hb n hn hp (by omega)
  obtain ⟨c, hc, _⟩ := pick_ok hb 2 (by omega) (p := q) (by omega) (by omega)
  obtain ⟨d, hd, _⟩ := pick_ok hb 3 (by omega) (p := q + 1) (by omega) (by omega)
  obtain ⟨qf, hf, hqf, fa, fb, f8⟩ := flat_ok hb n hn (p := q + 1 + 1) (by omega) (by omega)
  obtain ⟨qo, o, ho, oa, ob, ol, _⟩ := order_ok hb h.length (by omega) (p := q + 1) (by omega) (by omega)
  have tail : ∃ (q' : Int) (h' : List Int), ((spec_l20Rd_pick 3 b (q + 1)).bind fun (v4853 : Int × Int) => cond ((v4853.1) == 0) ((spec_l20Flat n b (v4853.2)).bind fun (v4857 : Int × (List Int)) => some ((v4857.1), (v4857.2))) (some ((v4853.2), h))) = some (q', h') ∧ p ≤ q' ∧ q' ≤ p + 1000 ∧ h'.length ≤ 8 := by
    simp only [hd, Option.bind_some]
    cases (d == 0) with
    | true => simp only [cond_true, hqf, Option.bind_some]; exact ⟨_, _, rfl, by omega, by omega, f8⟩
    | false => exact ⟨_, _, rfl, by omega, by omega, h8⟩
  simp only [hq, hc, Option.bind_some]
  cases (c == 0) with
  | false => exact tail
  | true =>
    simp only [cond_true, specTree_eq, Option.bind_some]
    cases hT : treeB h with
    | false => exact tail
    | true =>
      simp only [cond_true, ho, Option.bind_some, specPut_eq h o (by omega)]
      refine ⟨_, _, rfl, by omega, by omega, ?_⟩
      split
      · rw [putRow_length]; omega
      · simp

/-- Trees that are drawn. -/
theorem drawn_wild (x : List Int) (w : ∀ n ∈ x, (Lit.int .u8 n).wf = true) (l : x.length ≤ maxLen) (n : Int) (hn : n ≤ 1000) :
    ∃ h : List Int, h.length ≤ 8 ∧ ((spec_l20Open x).bind fun (v : List Int) => (spec_l20Wild n v 0).bind fun (t : Int × List Int) => some (t.2)) = some h := by
  obtain ⟨b, hb, hB⟩ := open_ok x w l
  obtain ⟨q, h, hq, _, _, h8⟩ := wild_ok hB n hn (p := 0) (by omega) (by omega)
  exact ⟨h, h8, by simp [hb, hq]⟩

/-- A tree and a number that are drawn. -/
theorem drawn_gaps (x : List Int) (w : ∀ n ∈ x, (Lit.int .u8 n).wf = true) (l : x.length ≤ maxLen) :
    ∃ (v : Int) (h : List Int), spec_DrawGapsOf x = some (v, h) ∧ h.length ≤ 8 ∧ 0 ≤ v ∧ v ≤ (h.length : Nat) + 1 := by
  have e : spec_DrawGapsOf x = spec_DrawGapsOf_n1 x := by unfold spec_DrawGapsOf; rfl
  obtain ⟨b, hb, hB⟩ := open_ok x w l
  obtain ⟨q, h, hq, qa, qb, h8⟩ := wild_ok hB 12 (by omega) (p := 0) (by omega) (by omega)
  obtain ⟨v, hv, va, vb, _⟩ := pick_ok hB (((h.length : Nat) : Int) + 2) (by omega) (p := q) (by omega) (by omega)
  have vb' := vb (by omega)
  refine ⟨v, h, ?_, h8, va, by omega⟩
  rw [e]
  unfold spec_DrawGapsOf_n1
  simp only [hb, hq, Option.bind_some]
  rw [wrap64 (by omega) (by omega)]
  simp only [hv, Option.bind_some]

end Go.Rv
