/-
  What the first chapter's laws share. Conditions: none.
-/
import Derived.Test.YtegmjhjihbhakaaDoorMn
import Derived.Test.YtegmjhjihbhakaaDoorMe
set_option linter.unusedVariables false
set_option linter.unusedSimpArgs false
namespace Go.Rv

theorem tree0 : treeB [0] = true := by decide
theorem tree1 : treeB [1] = false := by decide
theorem tree21 : treeB [2, 1] = false := by decide

theorem alive_eq : laws_alive = some true := by
  unfold laws_alive laws_alive_n1
  simp [implTree_eq, tree0, tree1]

theorem sameInts_eq (xs ys : List Int) (h : xs.length ≤ 1048576) : laws_sameInts xs ys = some (xs == ys) := by
  have e : laws_sameInts xs ys = laws_sameInts_n9 xs ys := by unfold laws_sameInts; rfl
  rw [e]
  unfold laws_sameInts_n9 laws_sameInts_n1 laws_sameInts_n8 laws_sameInts_n6 laws_sameInts_n5 laws_sameInts_n4 laws_sameInts_n2 laws_sameInts_n7
  by_cases hl : xs.length = ys.length
  · have hloop := nloop_run (body := fun (s : Int) => ((laws_sameInts_n3 xs ys s).map (Sum.elim (fun (t : Int) => Sum.inl t) (Sum.elim (fun (t : Bool) => Sum.inr (Sum.inl t)) (fun (t : Unit) => Sum.inr (Sum.inr t)))) : Option ((Int) ⊕ (Bool ⊕ Unit))))
      (I := fun s => ∃ k : Nat, s = k ∧ k ≤ xs.length) (μ := fun s => xs.length - s.toNat) (f := fun s => cond (xs.drop s.toNat == ys.drop s.toNat) (.inr ()) (.inl false))
      (by
        rintro _ ⟨k, rfl, hk⟩
        by_cases hlt : k < xs.length
        · have hlt' : k < ys.length := by omega
          simp only [laws_sameInts_n3]
          rw [show decide ((k : Int) < ((xs.length : Nat) : Int)) = true from decide_eq_true (by omega)]
          simp only [cond_true, idx_lt hlt, idx_lt hlt', Option.bind_some, Int.toNat_natCast]
          rw [wrap64 (by omega) (by omega), drop_beq hlt hlt']
          by_cases he : xs[k] = ys[k]
          · left
            refine ⟨((k + 1 : Nat) : Int), by simp [he], ⟨k + 1, rfl, hlt⟩, by simp; omega, by simp [he]⟩
          · right
            have e1 : (xs[k] == ys[k]) = false := by simpa using he
            simp [bne, e1]
        · right
          have e : k = xs.length := by omega
          subst e
          simp only [laws_sameInts_n3]
          rw [show decide (((xs.length : Nat) : Int) < ((xs.length : Nat) : Int)) = false from decide_eq_false (by omega)]
          simp [List.drop_of_length_le (Nat.le_of_eq hl.symm)])
    rw [show ((((xs.length : Nat) : Int)) != (((ys.length : Nat) : Int))) = false by simp [hl]]
    simp only [cond_false, Option.bind_some, Sum.elim_inl]
    rw [hloop LL 0 ⟨0, by simp, by omega⟩ (by simp only [LL]; simp; omega)]
    simp only [Int.toNat_zero, List.drop_zero]
    cases xs == ys <;> rfl
  · rw [show ((((xs.length : Nat) : Int)) != (((ys.length : Nat) : Int))) = true by simp; omega]
    have : (xs == ys) = false := by
      rw [beq_eq_false_iff_ne]
      exact fun e => hl (by rw [e])
    rw [this]; rfl

theorem climb_app {h : List Int} (hr : inRange h = true) (k : Int) : ∀ (f w : Nat), 1 ≤ w → w ≤ h.length → climb (h ++ [k]) f w = climb h f w
  | 0, w, _, _ => rfl
  | f + 1, w, h1, h2 => by
    have hlt : w - 1 < h.length := by omega
    simp only [climb]
    rw [List.getElem?_append_left hlt, List.getElem?_eq_getElem hlt]
    have := inRange_get hr hlt
    simp only
    split
    · rfl
    · rename_i hne
      rw [climb_app hr k f _ (by omega) (by omega)]

/-- A further word may depend on any word. -/
theorem Tree.add {h : List Int} (T : Tree h) (h7 : h.length < 8) {k : Nat} (hk1 : 1 ≤ k) (hk2 : k ≤ h.length) : Tree (h ++ [(k : Int)]) := by
  refine ⟨by simp, by simp; omega, ?_, ?_, fun j hj => ?_⟩
  · rw [inRange, List.all_eq_true]
    intro x hx
    simp only [List.mem_append, List.mem_singleton] at hx
    simp only [okHead, List.length_append, List.length_cons, List.length_nil, Bool.and_eq_true, decide_eq_true_eq]
    rcases hx with hx | rfl
    · have := List.all_eq_true.1 T.rng x hx
      simp only [okHead, Bool.and_eq_true, decide_eq_true_eq] at this
      omega
    · omega
  · rw [List.count_append, T.one, List.count_singleton]
    have : ((k : Int) == 0) = false := by simp; omega
    simp [this]
  · simp only [List.length_append, List.length_cons, List.length_nil] at hj ⊢
    by_cases e : j < h.length
    · rw [climb_app T.rng _ _ _ (by omega) (by omega), climb_mono (T.climb_some (by omega) (by omega))]
      rfl
    · have e : j = h.length := by omega
      subst e
      simp only [climb]
      rw [show h.length + 1 - 1 = h.length by omega, List.getElem?_append_right (by omega)]
      simp only [Nat.sub_self, List.getElem?_cons_zero]
      rw [if_neg (by omega)]
      simp only [Int.toNat_natCast]
      rw [climb_app T.rng _ _ _ hk1 hk2, T.climb_some hk1 hk2]
      rfl

/-- Trees that are drawn. -/
theorem drawn_tree (x : List Int) (w : ∀ n ∈ x, (Lit.int .u8 n).wf = true) (l : x.length ≤ maxLen) (n : Int) (hn : n ≤ 1000) :
    ∃ h : List Int, h.length ≤ 8 ∧ ((spec_l20Open x).bind fun (v : List Int) => (spec_l20Tree n v 0).bind fun (t : Int × List Int) => some (t.2)) = some h := by
  obtain ⟨b, hb, hB⟩ := open_ok x w l
  obtain ⟨q, h, hq, _, _, h8⟩ := tree_ok hB n hn (p := 0) (by omega) (by omega)
  exact ⟨h, h8, by simp [hb, hq]⟩

end Go.Rv
