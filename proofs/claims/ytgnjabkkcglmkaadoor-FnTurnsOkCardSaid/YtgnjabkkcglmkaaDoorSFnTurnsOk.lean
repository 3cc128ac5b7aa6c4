/-
  The law FnTurnsOk, in plain words: it is true of every argument. Conditions: none.
-/
import Derived.Test.YtgnjabkkcglmkaaDoorMge
import Derived.Test.YtgnjabkkcglmkaaDoorMcs
import Derived.Test.YtgnjabkkcglmkaaDoorMgf
import Derived.Test.YtgnjabkkcglmkaaDoorMgb
import Derived.Test.YtgnjabkkcglmkaaDoorMoa
set_option linter.unusedVariables false
set_option linter.unusedSimpArgs false
namespace Go.Rv

theorem core_FnTurnsOk (hM : ∀ h a b, impl_TurnsOk h a b = some (turnsI h a b)) (hG : ∀ h v, impl_GapsOf h v = some (gapsI h v)) (x : List Int) (w : ∀ n ∈ x, (Lit.int .u8 n).wf = true) (l : x.length ≤ maxLen)
    (dr : ∃ h a b, spec_DrawTurnsOk x = some (h, a, b)) : laws_FnTurnsOk x = some true := by
  unfold laws_FnTurnsOk laws_FnTurnsOk_n1
  by_cases hx : x.length ≤ 1048576
  · rw [show decide (((x.length : Nat) : Int) > 1048576) = false from decide_eq_false (by omega)]
    obtain ⟨h, a, b, hd'⟩ := dr
    simp only [hd', cond_false, Option.bind_some, hM, hG, specTurns_eq, bne_self_eq_false, turnsI_comm h a b, beq_self_eq_true, cond_true, implUnder_eq, alive_eq]
    cases t : turnsI h a b with
    | false => rfl
    | true =>
      obtain ⟨u, v, rfl, rfl, T, u1, v1, h0, t'⟩ := turnsI_iff.mp t
      have lu := ymask_lt T.le u
      have lv := ymask_lt T.le v
      have wu : wordB h (u : Int) = true := wordB_iff.2 ⟨u, rfl, T, u1.1, u1.2⟩
      have wv : wordB h (v : Int) = true := wordB_iff.2 ⟨v, rfl, T, v1.1, v1.2⟩
      have dis : ∀ x, Und h x u → ¬ Und h x v := by
        intro x p q
        have r := (T.und_rng p).1
        have p' : (ymask h u).testBit (x - 1) = true := by rw [ymask_bit T, undB_iff, show x - 1 + 1 = x by omega]; exact p
        have q' : (ymask h v).testBit (x - 1) = true := by rw [ymask_bit T, undB_iff, show x - 1 + 1 = x by omega]; exact q
        rw [and_zero_bit h0 _ p'] at q'
        cases q'
      have n1 : undB h u v = false := by
        rw [Bool.eq_false_iff]
        intro y
        exact dis u (.refl u1.1 u1.2) (undB_iff.mp y)
      have n2 : undB h v u = false := by
        rw [Bool.eq_false_iff]
        intro y
        exact dis v (undB_iff.mp y) (.refl v1.1 v1.2)
      have g1 := turnsN_row lu h0 t'
      have g2 := turnsN_row lv (by rw [Nat.and_comm]; exact h0) (by rw [turnsN_comm]; exact t')
      simp only [underI, wu, wv, Bool.true_and, Int.toNat_natCast, n1, n2, Bool.not_false, cond_true, Bool.not_true, cond_false, gaps_at T u1.1 u1.2, gaps_at T v1.1 v1.2]
      rw [decide_eq_true (by omega), decide_eq_true (by omega)]
      rfl
  · rw [show decide (((x.length : Nat) : Int) > 1048576) = true from decide_eq_true (by omega)]
    rfl

theorem same_FnTurnsOk (x : List Int) (w : ∀ n ∈ x, (Lit.int .u8 n).wf = true) (l : x.length ≤ maxLen) : laws_FnTurnsOk x = some true :=
  core_FnTurnsOk implTurns_eq implGaps_eq x w l (drawn_turns x w l)

end Go.Rv
