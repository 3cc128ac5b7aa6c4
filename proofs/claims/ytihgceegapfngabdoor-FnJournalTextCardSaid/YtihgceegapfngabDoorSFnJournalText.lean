/-
  The law FnJournalText, in plain words: it is true of every argument. Conditions: what the program's JournalText and ReadJournal say.
-/
import Derived.Test.YtihgceegapfngabDoorHFnJournalText
set_option linter.unusedVariables false
set_option linter.unusedSimpArgs false
namespace Go.Rv

theorem core_FnJournalText (hI : ∀ l, l.length ≤ 1048576 → impl_JournalText l = some (journT l)) (hR : ∀ s, s.size ≤ 1048576 → impl_ReadJournal s = some (((readJ s).2 : Int), (readJ s).1)) (x : List Int) (w : ∀ n ∈ x, (Lit.int .u8 n).wf = true) (l : x.length ≤ maxLen) : laws_FnJournalText x = some true := by
  unfold laws_FnJournalText laws_FnJournalText_n1
  by_cases c : ((x.length : Nat) : Int) > 1048576
  · rw [decide_eq_true c]
    rfl
  · rw [decide_eq_false c]
    obtain ⟨b, hb, hB⟩ := open_ok x w l
    obtain ⟨q, t, ht, qa, qb, t6⟩ := written_ok hB (p := 0) (by omega) (by omega)
    obtain ⟨v, s, ho, _, _⟩ := odd_ok hB 12 (by omega) (p := q) (by omega) (by omega)
    have dr : ∃ u, spec_DrawJournalText x = some u ∧ u.length ≤ 20 := by
      unfold spec_DrawJournalText spec_DrawJournalText_n1
      simp only [hb, ht, ho, Option.bind_some]
      cases v with
      | false => exact ⟨t, rfl, by omega⟩
      | true =>
        rw [cond_true, room_le (by simp only [List.length_cons, List.length_nil]; omega)]
        exact ⟨_, rfl, by simp only [List.length_append, List.length_cons, List.length_nil]; omega⟩
    obtain ⟨u, hu, uz⟩ := dr
    simp only [cond_false, hu, Option.bind_some, hI u (by omega), specJournal_eq u (by omega), seqs_self, Bool.not_true, alive_eq]
    cases e : seqs (journT u) ByteArray.empty with
    | true => rfl
    | false =>
      have va : u.all validD = true := by
        cases va : u.all validD with
        | true => rfl
        | false =>
          have : journT u = ByteArray.empty := by unfold journT; rw [va]; rfl
          rw [this, seqs_self] at e
          cases e
      have jt : journT u = journL u := by unfold journT; rw [va]; rfl
      have js := journL_size va
      rw [jt]
      simp only [cond_false, hR _ (show (journL u).size ≤ 1048576 by omega), Option.bind_some, readJ_written va, sameDeeds_refl u (by omega), cond_true, beq_self_eq_true]

theorem same_FnJournalText (x : List Int) (w : ∀ n ∈ x, (Lit.int .u8 n).wf = true) (l : x.length ≤ maxLen) : laws_FnJournalText x = some true :=
  core_FnJournalText implJournal_eq (fun s h => implReadJ_eq s (by omega)) x w l

end Go.Rv
