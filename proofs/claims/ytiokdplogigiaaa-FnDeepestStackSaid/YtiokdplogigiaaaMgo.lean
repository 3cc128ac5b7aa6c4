/-
  Plain mathematics: what the model's rule for the machine with a stack says. Conditions: none.
-/
import Derived.Test.YtiokdplogigiaaaMgn
set_option linter.unusedVariables false
set_option linter.unusedSimpArgs false
namespace Go.Rv

/-- A move as a text. -/
def mvB (m : Nat) : ByteArray := ByteArray.mk #[m.toUInt8]
theorem bytesN_append (a b : ByteArray) : bytesN (a ++ b) = bytesN a ++ bytesN b := by
  simp [bytesN, ByteArray.data_append]

theorem cat_ok {a b : ByteArray} (h : a.size + b.size ≤ 1000) : cat a b = some (a ++ b) := by
  unfold cat
  rw [if_pos (by simp only [maxLen]; omega)]

theorem gone_push (n i : Nat) (st : List Nat) : goneL n (i + 1) (i :: st) = goneL n i st := by
  unfold goneL
  refine List.map_congr_left ?_
  intro k hk
  rw [List.contains_cons]
  by_cases c : k + 1 < i
  · rw [decide_eq_true c, decide_eq_true (show k + 1 < i + 1 by omega), show (k + 1 == i) = false from beq_eq_false_iff_ne.2 (by omega), Bool.false_or]
  · rw [decide_eq_false c]
    by_cases e : k + 1 = i
    · rw [e, beq_self_eq_true]
      simp
    · rw [decide_eq_false (show ¬ k + 1 < i + 1 by omega)]
      rfl

theorem gone_take {n i a g : Nat} {st st' : List Nat} (ha : 1 ≤ a) (ha' : a < i) (nin : a ∉ st') (mem : ∀ x, x ∈ st ↔ x = a ∨ x ∈ st') : (goneL n i st).set (a - 1) true = goneL n i st' := by
  apply List.ext_getElem?
  intro k
  by_cases hk : k < n
  · rw [List.getElem?_set, goneL_length, goneL_get hk, goneL_get hk]
    by_cases e : a - 1 = k
    · rw [if_pos e, if_pos (by omega)]
      have : k + 1 = a := by omega
      rw [this, decide_eq_true ha', show st'.contains a = false from by rw [Bool.eq_false_iff]; exact fun z => nin (List.contains_iff_mem.mp z)]
      rfl
    · rw [if_neg e]
      have : st.contains (k + 1) = st'.contains (k + 1) := by
        rw [Bool.eq_iff_iff, List.contains_iff_mem, List.contains_iff_mem, mem]
        constructor
        · rintro (q | q)
          · omega
          · exact q
        · exact .inr
      rw [this]
  · rw [List.getElem?_eq_none (by rw [List.length_set, goneL_length]; omega), List.getElem?_eq_none (by rw [goneL_length]; omega)]

end Go.Rv
