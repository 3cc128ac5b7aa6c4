/-
  Plain mathematics: a tree and a word that are drawn. Conditions: none.
-/
import Derived.Test.YtegmjhjihbhakaaDoorMn
set_option linter.unusedVariables false
set_option linter.unusedSimpArgs false
namespace Go.Rv

theorem word_ok {b : List Int} (hb : Bytes b) {p : Int} (hp : 0 ≤ p) (hp2 : p ≤ 999980000) :
    ∃ (v q : Int) (h : List Int), spec_l20Word b p = some (v, q, h) ∧ p ≤ q ∧ q ≤ p + 400 ∧ h.length ≤ 8 ∧ -1000 ≤ v ∧ v ≤ 1000 := by
  have e : spec_l20Word b p = spec_l20Word_n1 b p := by unfold spec_l20Word; rfl
  obtain ⟨q, h, hq, qa, qb, h8⟩ := tree_ok hb 12 (by omega) hp (by omega)
  have hmax : 1 ≤ imax ((h.length : Nat) : Int) 1 ∧ imax ((h.length : Nat) : Int) 1 ≤ 8 := by
    unfold imax; split <;> omega
  obtain ⟨v, hv, va, vb, _⟩ := pick_ok hb (imax ((h.length : Nat) : Int) 1) (by omega) (p := q) (by omega) (by omega)
  have vb' := vb hmax.1
  obtain ⟨c, hc, ca, cb, _⟩ := pick_ok hb 20 (by omega) (p := q + 1) (by omega) (by omega)
  have cb' := cb (by omega)
  obtain ⟨d, hd, da, db⟩ := quo_ok (a := c) (b := 19) (by omega) ca (by omega)
  obtain ⟨c2, hc2, ca2, cb2, _⟩ := pick_ok hb 20 (by omega) (p := q + 1 + 1) (by omega) (by omega)
  have cb2' := cb2 (by omega)
  obtain ⟨d2, hd2, da2, db2⟩ := quo_ok (a := c2) (b := 19) (by omega) ca2 (by omega)
  refine ⟨1 + v - d * 2 + d2 * 9, q + 1 + 1 + 1, h, ?_, by omega, by omega, h8, by omega, by omega⟩
  rw [e]
  unfold spec_l20Word_n1
  simp only [hq, hv, hc, hd, hc2, hd2, Option.bind_some]
  rw [wrap64 (x := 1 + v) (by omega) (by omega), wrap64 (x := d * 2) (by omega) (by omega), wrap64 (x := 1 + v - d * 2) (by omega) (by omega), wrap64 (x := d2 * 9) (by omega) (by omega), wrap64 (by omega) (by omega)]

theorem drawn_yield (x : List Int) (w : ∀ n ∈ x, (Lit.int .u8 n).wf = true) (l : x.length ≤ maxLen) :
    ∃ (v : Int) (h : List Int), ((spec_l20Open x).bind fun (v817 : List Int) => (spec_l20Word v817 0).bind fun (v818 : Int × Int × (List Int)) => some ((v818.1), (v818.2.2))) = some (v, h) ∧ h.length ≤ 8 ∧ -1000 ≤ v ∧ v ≤ 1000 := by
  obtain ⟨b, hb, hB⟩ := open_ok x w l
  obtain ⟨v, q, h, hq, _, _, h8, v1, v2⟩ := word_ok hB (p := 0) (by omega) (by omega)
  exact ⟨v, h, by simp [hb, hq], h8, v1, v2⟩

end Go.Rv
