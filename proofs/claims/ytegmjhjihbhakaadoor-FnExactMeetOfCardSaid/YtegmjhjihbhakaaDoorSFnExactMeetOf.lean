/-
  The law FnExactMeetOf, in plain words: it is true of every argument. Conditions: none.
-/
import Derived.Test.YtegmjhjihbhakaaDoorMx
set_option linter.unusedVariables false
set_option linter.unusedSimpArgs false
namespace Go.Rv

theorem same_FnExactMeetOf (x : List Int) (w : ∀ n ∈ x, (Lit.int .i64 n).wf = true) (l : x.length ≤ maxLen) (a : Int) (wa : (Lit.int .i64 a).wf = true) (b : Int) (wb : (Lit.int .i64 b).wf = true) : laws_FnExactMeetOf x a b = some true := by
  unfold laws_FnExactMeetOf laws_FnExactMeetOf_n1
  by_cases h : x.length ≤ 1048576
  · rw [show decide (((x.length : Nat) : Int) > 1048576) = false from decide_eq_false (by omega)]
    have hm : ∃ m : Int, impl_MeetOf x a b = some m ∧ spec_MeetOf x a b = some m := by
      by_cases hw : wordB x a = true ∧ wordB x b = true
      · obtain ⟨u, rfl, T, u1, u2⟩ := wordB_iff.1 hw.1
        obtain ⟨v, rfl, _, v1, v2⟩ := wordB_iff.1 hw.2
        obtain ⟨m, M⟩ := T.meet_ex v1 v2 u u1 u2
        exact ⟨m, implMeet_eq T u1 u2 v1 v2 M, specMeet_eq T u1 u2 v1 v2 M⟩
      · exact ⟨-1, implMeet_out hw, specMeet_out hw⟩
    obtain ⟨m, h1, h2⟩ := hm
    simp [toIntS_eq x h, h1, h2, eqIntS_eq x x h]
  · rw [show decide (((x.length : Nat) : Int) > 1048576) = true from decide_eq_true (by omega)]
    rfl

end Go.Rv
