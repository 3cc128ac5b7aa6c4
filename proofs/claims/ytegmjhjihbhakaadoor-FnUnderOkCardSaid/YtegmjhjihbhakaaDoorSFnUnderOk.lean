/-
  The law FnUnderOk, in plain words: it is true of every argument. Conditions: none.
-/
import Derived.Test.YtegmjhjihbhakaaDoorMw
import Derived.Test.YtegmjhjihbhakaaDoorMza
import Derived.Test.YtegmjhjihbhakaaDoorMo
set_option linter.unusedVariables false
set_option linter.unusedSimpArgs false
namespace Go.Rv

theorem same_FnUnderOk (x : List Int) (w : ∀ n ∈ x, (Lit.int .u8 n).wf = true) (l : x.length ≤ maxLen) : laws_FnUnderOk x = some true := by
  unfold laws_FnUnderOk laws_FnUnderOk_n3 laws_FnUnderOk_n1
  by_cases hx : x.length ≤ 1048576
  · rw [show decide (((x.length : Nat) : Int) > 1048576) = false from decide_eq_false (by omega)]
    obtain ⟨a, b, h, hdr, h8, a1, a2, b1, b2⟩ := drawn_under x w l
    simp only [cond_false, hdr, Option.bind_some, implUnder_eq, specUnder_eq, bne_self_eq_false, specTree_eq, alive_eq]
    cases hT : treeB h with
    | false => simp [underI, wordB, hT]
    | true =>
      have T := (tree_iff h).1 hT
      simp only [Bool.not_true, cond_false]
      by_cases h1 : b < 1
      · rw [decide_eq_true h1]
        have : wordB h b = false := by
          unfold wordB
          rw [decide_eq_false (show ¬ 1 ≤ b by omega)]; simp
        simp [underI, this]
      · rw [decide_eq_false h1]
        by_cases h2 : b > ((h.length : Nat) : Int)
        · rw [decide_eq_true h2]
          have : wordB h b = false := by
            unfold wordB
            rw [decide_eq_false (show ¬ b ≤ ((h.length : Nat) : Int) by omega)]; simp
          simp [underI, this]
        · rw [decide_eq_false h2]
          simp only [cond_false, Option.bind_some, Sum.elim_inl]
          have hp := T.pos
          have a2' := a2 hp
          obtain ⟨u, rfl⟩ : ∃ u : Nat, a = (u : Int) := ⟨a.toNat, by omega⟩
          obtain ⟨v, rfl⟩ : ∃ v : Nat, b = (v : Int) := ⟨b.toNat, by omega⟩
          have wu : ∀ {k : Nat}, 1 ≤ k → k ≤ h.length → wordB h (k : Int) = true := fun k1 k2 => wordB_iff.2 ⟨_, rfl, T, k1, k2⟩
          have un : ∀ {j k : Nat}, 1 ≤ j → j ≤ h.length → 1 ≤ k → k ≤ h.length → underI h (j : Int) (k : Int) = undB h j k := fun j1 j2 k1 k2 => by
            simp only [underI, wu j1 j2, wu k1 k2, Bool.true_and, Int.toNat_natCast]
          unfold laws_FnUnderOk_n2
          simp only [implUnder_eq, implRoot_eq, rootI, hT, if_true, Option.bind_some]
          rw [un (by omega) (by omega) (by omega) (by omega), un (by omega) (by omega) (top_pos h) T.top_le, un (by omega) (by omega) (by omega) (by omega), un (by omega) (by omega) (by omega) (by omega),
            undB_iff.2 (.refl (by omega) (by omega)), undB_iff.2 (T.und_top (by omega) (by omega))]
          rw [wrap64 (x := (u : Int) - 1) (by omega) (by omega), show (u : Int) - 1 = ((u - 1 : Nat) : Int) by omega, inb_nat (show u - 1 < h.length by omega)]
          simp only [cond_true, Option.bind_some, T.get (w := u) (by omega) (by omega)]
          have last : cond (((hd h u : Nat) : Int) == 0) (some true) (some (underI h (u : Int) ((hd h u : Nat) : Int))) = some true := by
            by_cases e : hd h u = 0
            · rw [e]; rfl
            · have hle := T.hd_le (w := u) (by omega) (by omega)
              rw [show (((hd h u : Nat) : Int) == 0) = false from beq_eq_false_iff_ne.2 (by omega), un (by omega) (by omega) (by omega) hle, undB_iff.2 (T.und_hd (by omega) (by omega) e)]
              rfl
          rw [last]
          cases huv : undB h u v with
          | false => rfl
          | true =>
            cases hvu : undB h v u with
            | false => rfl
            | true =>
              have : u = v := T.und_anti (undB_iff.1 huv) (undB_iff.1 hvu)
              subst this
              simp
  · rw [show decide (((x.length : Nat) : Int) > 1048576) = true from decide_eq_true (by omega)]
    rfl

end Go.Rv
