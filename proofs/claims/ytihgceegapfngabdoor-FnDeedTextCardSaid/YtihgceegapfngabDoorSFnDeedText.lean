/-
  The law FnDeedText, in plain words: it is true of every argument. Conditions: what the program's DeedText and ReadDeed say.
-/
import Derived.Test.YtihgceegapfngabDoorHFnDeedText
set_option linter.unusedVariables false
set_option linter.unusedSimpArgs false
namespace Go.Rv

theorem core_FnDeedText (hI : ∀ k a b, impl_DeedText k a b = some (deedT k a b)) (hR : ∀ s, s.size ≤ 1048576 → impl_ReadDeed s = some (readI s)) (x : List Int) (w : ∀ n ∈ x, (Lit.int .u8 n).wf = true) (l : x.length ≤ maxLen) : laws_FnDeedText x = some true := by
  unfold laws_FnDeedText laws_FnDeedText_n1
  by_cases c : ((x.length : Nat) : Int) > 1048576
  · rw [decide_eq_true c]
    rfl
  · rw [decide_eq_false c]
    obtain ⟨b, hb, hB⟩ := open_ok x w l
    obtain ⟨q, h, hq, qa, qb, h8⟩ := wild_ok hB 0 (by omega) (p := 0) (by omega) (by omega)
    obtain ⟨s, k, a, d, hs, _, _⟩ := deed_ok hB h (by omega) (p := q) (by omega) (by omega)
    have dr : spec_DrawDeedText x = some (k, a, d) := by
      unfold spec_DrawDeedText spec_DrawDeedText_n1
      simp only [hb, hq, hs, Option.bind_some]
    simp only [cond_false, dr, Option.bind_some, hI, specDeed_eq, seqs_self, Bool.not_true, alive_eq]
    cases e : seqs (deedT k a d) ByteArray.empty with
    | true => rfl
    | false =>
      have ne : deedT k a d ≠ ByteArray.empty := fun z => by rw [z, seqs_self] at e; cases e
      have := deedT_size k a d
      simp only [cond_false, hR _ (show (deedT k a d).size ≤ 1048576 by omega), Option.bind_some, read_deed (deed_iff.mp ne), cond_true, beq_self_eq_true, Bool.and_true]

theorem same_FnDeedText (x : List Int) (w : ∀ n ∈ x, (Lit.int .u8 n).wf = true) (l : x.length ≤ maxLen) : laws_FnDeedText x = some true :=
  core_FnDeedText implDeedText_eq (fun s h => implRead_eq s (by omega)) x w l

end Go.Rv
