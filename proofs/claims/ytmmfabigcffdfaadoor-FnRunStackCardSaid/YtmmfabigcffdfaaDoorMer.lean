/-
  Trees of heads: the root, as the program finds it. Conditions: none.
-/
import Derived.Test.YtmmfabigcffdfaaDoorMe
set_option linter.unusedVariables false
set_option linter.unusedSimpArgs false
namespace Go.Rv

/-! The root -/

def rootI (h : List Int) : Int := if treeB h then (top h : Int) else -1

theorem implRoot_eq (h : List Int) : impl_RootOf h = some (rootI h) := by
  unfold impl_RootOf impl_RootOf_n7 impl_RootOf_n1 impl_RootOf_n6 impl_RootOf_n4 impl_RootOf_n3 rootI
  rw [implTree_eq]
  cases hT : treeB h with
  | false => simp
  | true =>
    have T := (tree_iff h).1 hT
    simp only [Option.bind_some, Bool.not_true, cond_false, Sum.elim_inl, if_true]
    have hloop := nloop_run (body := fun (s : Int × Int) => ((impl_RootOf_n2 h s.1 s.2).map (Sum.elim (fun (t : Int × Int) => Sum.inl (t.1, t.2)) (fun (t : Int × Int) => Sum.inr t)) : Option ((Int × Int) ⊕ ((Int × Int)))))
      (I := fun s => ∃ k i : Nat, s = (((k + 1 : Nat) : Int), (i : Int)) ∧ k < h.length ∧ i + dep h (k + 1) < h.length) (μ := fun s => dep h s.1.toNat)
      (f := fun s => ((top h : Int), s.2 + (dep h s.1.toNat : Int)))
      (by
        rintro _ ⟨k, i, rfl, hk, hi⟩
        have hle := T.le
        simp only [impl_RootOf_n2]
        rw [up_eq h k i hk (by omega) (by omega)]
        have hg := T.get (w := k + 1) (by omega) (by omega)
        rw [show k + 1 - 1 = k by omega, List.getElem?_eq_getElem hk] at hg
        have hg' : h[k] = ((hd h (k + 1) : Nat) : Int) := by simpa using hg
        by_cases e : hd h (k + 1) = 0
        · right
          have ht := (T.hd_zero (w := k + 1) (by omega) (by omega)).1 e
          have hd0 : dep h (k + 1) = 0 := by rw [ht]; exact T.dep_top
          have hd0' : dep h (((k + 1 : Nat) : Int)).toNat = 0 := hd0
          rw [if_pos (by omega)]
          simp only [Option.bind_some, cond_false, Option.map_some, Sum.elim_inr, hd0']
          rw [← ht]
          simp
        · left
          have hs := T.dep_step (w := k + 1) (by omega) (by omega) e
          have hle2 := T.hd_le (w := k + 1) (by omega) (by omega)
          rw [if_neg (by omega)]
          refine ⟨(h[k], ((i + 1 : Nat) : Int)), by simp, ⟨hd h (k + 1) - 1, i + 1, ?_, by omega, ?_⟩, ?_, ?_⟩
          · rw [hg', show hd h (k + 1) - 1 + 1 = hd h (k + 1) by omega]
          · rw [show hd h (k + 1) - 1 + 1 = hd h (k + 1) by omega]; omega
          · simp only [hg', Int.toNat_natCast]; omega
          · simp only [hg', Int.toNat_natCast]
            rw [hs]
            simp; omega)
    rw [hloop LL (1, 0) ⟨0, 0, rfl, by have := T.pos; omega, by have := T.dep_lt (w := 0 + 1) (by omega) (by have := T.pos; omega); omega⟩ (by
      have := T.dep_lt (w := 1) (by omega) T.pos; have := T.le; simp only [LL]; simp; omega)]
    simp [impl_RootOf_n5]

end Go.Rv
