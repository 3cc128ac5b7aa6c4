/-
  Plain mathematics: words that lie under arcs. Conditions: none.
-/
import Derived.Test.YtegmjhjihbhakaaDoorMcf
import Derived.Test.YtegmjhjihbhakaaDoorMwa
set_option linter.unusedVariables false
set_option linter.unusedSimpArgs false
namespace Go.Rv

def coveredI (h : List Int) (v : Int) : Bool := wordB h v && covB h v

theorem any_all {α : Type} (l : List α) (p : α → Bool) : (List.range l.length).all (fun i => !((l[i]?).map p).getD false) = !l.any p := by
  rw [Bool.eq_iff_iff]
  simp only [List.all_eq_true, List.mem_range, Bool.not_eq_true', List.any_eq_false]
  constructor
  · intro h x hx
    obtain ⟨i, hi, rfl⟩ := List.getElem_of_mem hx
    have := h i hi
    rw [List.getElem?_eq_getElem hi] at this
    simpa using this
  · intro h i hi
    rw [List.getElem?_eq_getElem hi]
    simpa using h l[i] (List.getElem_mem hi)

theorem implCovered_eq (h : List Int) (v : Int) : impl_CoveredOk h v = some (coveredI h v) := by
  have e : impl_CoveredOk h v = impl_CoveredOk_n9 h v := by unfold impl_CoveredOk; rfl
  rw [e]
  unfold impl_CoveredOk_n9 impl_CoveredOk_n1 impl_CoveredOk_n8 impl_CoveredOk_n6 impl_CoveredOk_n2 impl_CoveredOk_n5 impl_CoveredOk_n4 impl_CoveredOk_n7 coveredI
  rw [wordOk_eq]
  cases hw : wordB h v with
  | false => rfl
  | true =>
    obtain ⟨u, rfl, T, u1, u2⟩ := wordB_iff.1 hw
    simp only [Option.bind_some, Bool.not_true, cond_false, Sum.elim_inl, implArcs_eq T, List.length_map, Bool.true_and]
    have hA : (arcsP h).length ≤ 8 := by have := arcsK_length h h.length; have := T.le; unfold arcsP; omega
    unfold covB
    generalize arcsP h = A at hA ⊢
    generalize hp : (fun p : Int × Int => decide (p.1 < (u : Int) ∧ (u : Int) < p.2)) = p
    have hcov : ∀ q : Int × Int, impl_arc_covers q.1 q.2 (u : Int) = some (p q) := fun q => by rw [covers_eq, ← hp]
    have hstep : ∀ k, (hk : k < A.length) → (((A[k]?).map p).getD false) = p A[k] := fun k hk => by rw [List.getElem?_eq_getElem hk]; rfl
    have hloop := nloop_while (body := fun (s : Int) => ((impl_CoveredOk_n3 u A.length s (A.map asArc)).map (Sum.elim (fun (t : Int) => Sum.inl t) (Sum.elim (fun (t : Bool) => Sum.inr (Sum.inl t)) (fun (t : Unit) => Sum.inr (Sum.inr t)))) : Option ((Int) ⊕ (Bool ⊕ Unit))))
      (fun k => (k : Int)) A.length (fun i => !((A[i]?).map p).getD false) (fun b => cond b (.inr ()) (.inl true))
      (by
        intro k hk hpk
        have g : (A.map asArc)[k]? = some (asArc A[k]) := by simp [hk]
        rw [hstep k hk, Bool.not_eq_true'] at hpk
        simp only [impl_CoveredOk_n3, List.length_map]
        rw [show decide ((k : Int) < ((A.length : Nat) : Int)) = true from decide_eq_true (by omega), inb_nat hk, wrap64 (by omega) (by omega)]
        simp only [cond_true, Option.bind_some, g, asArc, hcov, hpk]
        rfl)
      (by
        intro k hk hpk
        have g : (A.map asArc)[k]? = some (asArc A[k]) := by simp [hk]
        rw [hstep k hk, Bool.not_eq_false'] at hpk
        simp only [impl_CoveredOk_n3, List.length_map]
        rw [show decide ((k : Int) < ((A.length : Nat) : Int)) = true from decide_eq_true (by omega), inb_nat hk, wrap64 (by omega) (by omega)]
        simp only [cond_true, Option.bind_some, g, asArc, hcov, hpk]
        rfl)
      (by
        simp only [impl_CoveredOk_n3]
        rw [show decide (((A.length : Nat) : Int) < ((A.length : Nat) : Int)) = false from decide_eq_false (by omega)]
        rfl)
    rw [show (0 : Int) = ((0 : Nat) : Int) from rfl, hloop LL (by simp only [LL]; omega), any_all]
    cases A.any p <;> rfl

theorem covB_iff {h : List Int} (T : Tree h) {v : Nat} : covB h (v : Int) = true ↔ ∃ w, 1 ≤ w ∧ w ≤ h.length ∧ hd h w ≠ 0 ∧ ((w < v ∧ v < hd h w) ∨ (hd h w < v ∧ v < w)) := by
  unfold covB
  rw [List.any_eq_true]
  constructor
  · rintro ⟨p, hp, hc⟩
    obtain ⟨w, h1, h2, h3, rfl⟩ := (mem_arcs T).1 hp
    rw [decide_eq_true_eq] at hc
    refine ⟨w, h1, h2, h3, ?_⟩
    revert hc
    unfold imin imax
    simp only
    split <;> split <;> omega
  · rintro ⟨w, h1, h2, h3, hc⟩
    refine ⟨_, (mem_arcs T).2 ⟨w, h1, h2, h3, rfl⟩, ?_⟩
    rw [decide_eq_true_eq]
    unfold imin imax
    simp only
    split <;> split <;> omega

end Go.Rv
