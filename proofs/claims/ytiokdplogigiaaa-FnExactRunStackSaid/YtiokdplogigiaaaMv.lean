/-
  Plain mathematics: yields, as both sides fill them. Conditions: none.
-/
import Derived.Test.YtiokdplogigiaaaMul
import Derived.Test.YtiokdplogigiaaaMer
import Derived.Test.YtiokdplogigiaaaMs
set_option linter.unusedVariables false
set_option linter.unusedSimpArgs false
namespace Go.Rv

/-- Whether a word is under another one. -/
noncomputable def undB (h : List Int) (a b : Nat) : Bool := @decide (Und h a b) (Classical.propDecidable _)
theorem undB_iff {h : List Int} {a b : Nat} : undB h a b = true ↔ Und h a b := by simp [undB]
theorem undB_false {h : List Int} {a b : Nat} : undB h a b = false ↔ ¬ Und h a b := by simp [undB]

/-- The yield of a word as bits. -/
noncomputable def ymask (h : List Int) (k : Nat) : Nat := maskN (fun i => undB h (i + 1) k) h.length

theorem ymask_lt {h : List Int} (hl : h.length ≤ 8) (k : Nat) : ymask h k < 256 := lt256 hl (maskN_lt _ _)

theorem ymask_bit {h : List Int} {k i : Nat} (T : Tree h) : (ymask h k).testBit i = undB h (i + 1) k := by
  unfold ymask
  rw [maskN_bit]
  by_cases hi : i < h.length
  · simp [hi]
  · have : undB h (i + 1) k = false := undB_false.2 fun u => by have := T.und_rng u; omega
    rw [this]; simp

/-- The words that depend on a word. -/
def kidsL (h : List Int) (w : Nat) : List Int := wordsL (maskN (headB h (w : Int)) h.length)

theorem mem_kids {h : List Int} (T : Tree h) {w : Nat} {x : Int} : x ∈ kidsL h w ↔ ∃ c, 1 ≤ c ∧ c ≤ h.length ∧ hd h c = w ∧ x = (c : Int) := by
  unfold kidsL
  rw [mem_wordsL T.le]
  constructor
  · rintro ⟨i, h1, h2, e⟩
    refine ⟨i + 1, by omega, by omega, ?_, e⟩
    have hg := T.get (w := i + 1) (by omega) (by omega)
    rw [Nat.add_sub_cancel] at hg
    simp only [headB, List.getD_eq_getElem?_getD, hg, Option.getD_some, beq_iff_eq] at h2
    omega
  · rintro ⟨c, h1, h2, h3, rfl⟩
    refine ⟨c - 1, by omega, ?_, by omega⟩
    have hg := T.get (w := c) (by omega) (by omega)
    simp only [headB, List.getD_eq_getElem?_getD, hg, Option.getD_some, beq_iff_eq, h3]

theorem kids_length (h : List Int) (w : Nat) : (kidsL h w).length ≤ 8 := wordsL_length_le _

/-- Words of a yield: the word, and those under what depends on it. -/
noncomputable def partB (h : List Int) (w : Nat) (cs : List Int) (i : Nat) : Bool := (i + 1 == w) || cs.any fun c => undB h (i + 1) c.toNat

theorem part_all {h : List Int} (T : Tree h) {w : Nat} (h1 : 1 ≤ w) (h2 : w ≤ h.length) {i : Nat} (hi : i < h.length) : partB h w (kidsL h w) i = undB h (i + 1) w := by
  rw [Bool.eq_iff_iff, undB_iff, T.und_child]
  simp only [partB, Bool.or_eq_true, beq_iff_eq, List.any_eq_true, undB_iff]
  constructor
  · rintro (e | ⟨x, hx, u⟩)
    · exact .inl ⟨e, by omega, by omega⟩
    · obtain ⟨c, c1, c2, c3, rfl⟩ := (mem_kids T).1 hx
      exact .inr ⟨by omega, c, c1, c2, c3, by simpa using u⟩
  · rintro (⟨e, _⟩ | ⟨_, c, c1, c2, c3, u⟩)
    · exact .inl e
    · exact .inr ⟨(c : Int), (mem_kids T).2 ⟨c, c1, c2, c3, rfl⟩, by simpa using u⟩

theorem part_step (h : List Int) (w : Nat) (cs : List Int) {j : Nat} (hj : j < cs.length) {n : Nat} :
    maskN (partB h w (cs.take (j + 1))) n = maskN (partB h w (cs.take j)) n ||| maskN (fun i => undB h (i + 1) cs[j].toNat) n := by
  refine (eq_maskN (Nat.or_lt_two_pow (maskN_lt _ _) (maskN_lt _ _)) fun i hi => ?_).symm
  rw [Nat.testBit_or, maskN_bit, maskN_bit]
  simp only [hi, decide_true, Bool.true_and, partB]
  rw [List.take_add_one, List.getElem?_eq_getElem hj]
  simp only [Option.toList_some, List.any_append, List.any_cons, List.any_nil, Bool.or_false, Bool.or_assoc]

theorem part_none (h : List Int) {w n : Nat} (h1 : 1 ≤ w) (h2 : w ≤ n) : maskN (partB h w []) n = 2 ^ (w - 1) := by
  refine (eq_maskN (Nat.pow_lt_pow_right (by omega) (by omega)) fun i hi => ?_).symm
  rw [Nat.testBit_two_pow]
  simp only [partB, List.any_nil, Bool.or_false]
  rw [Bool.eq_iff_iff]
  simp only [decide_eq_true_eq, beq_iff_eq]
  omega

/-- The yields, filled for those under some words. -/
noncomputable def fillL (h : List Int) (ys cs : List Int) : List Int := (List.range h.length).map fun i => if (cs.any fun c => undB h (i + 1) c.toNat) = true then ((ymask h (i + 1) : Nat) : Int) else ys.getD i 0

theorem fillL_length (h ys cs : List Int) : (fillL h ys cs).length = h.length := by simp [fillL]
theorem fillL_get (h ys cs : List Int) {i : Nat} (hi : i < h.length) : (fillL h ys cs)[i]? = some (if (cs.any fun c => undB h (i + 1) c.toNat) = true then ((ymask h (i + 1) : Nat) : Int) else ys.getD i 0) := by
  simp [fillL, hi]
theorem fillL_nil {h ys : List Int} (hl : ys.length = h.length) : fillL h ys [] = ys := by
  apply List.ext_getElem?
  intro i
  by_cases hi : i < h.length
  · rw [fillL_get h ys [] hi]
    simp [List.getD, show i < ys.length by omega]
  · rw [List.getElem?_eq_none (by rw [fillL_length]; omega), List.getElem?_eq_none (by omega)]

theorem fillL_step (h ys cs : List Int) {j : Nat} (hj : j < cs.length) : fillL h (fillL h ys (cs.take j)) [cs[j]] = fillL h ys (cs.take (j + 1)) := by
  apply List.ext_getElem?
  intro i
  by_cases hi : i < h.length
  · rw [fillL_get h _ _ hi, fillL_get h _ _ hi, List.getD_eq_getElem?_getD, fillL_get h _ _ hi, List.take_add_one, List.getElem?_eq_getElem hj]
    simp only [List.any_cons, List.any_nil, Bool.or_false, Option.getD_some, Option.toList_some, List.any_append]
    cases undB h (i + 1) cs[j].toNat <;> cases ((List.take j cs).any fun c => undB h (i + 1) c.toNat) <;> simp
  · rw [List.getElem?_eq_none (by rw [fillL_length]; omega), List.getElem?_eq_none (by rw [fillL_length]; omega)]

theorem fillL_set {h ys : List Int} (T : Tree h) {w : Nat} (h1 : 1 ≤ w) (h2 : w ≤ h.length) : (fillL h ys (kidsL h w)).set (w - 1) ((ymask h w : Nat) : Int) = fillL h ys [(w : Int)] := by
  apply List.ext_getElem?
  intro i
  by_cases hi : i < h.length
  · by_cases e : i = w - 1
    · subst e
      rw [List.getElem?_set_self (by rw [fillL_length]; omega), fillL_get h _ _ hi, if_pos]
      · rw [show w - 1 + 1 = w by omega]
      · have : undB h (w - 1 + 1) w = true := undB_iff.2 (by rw [show w - 1 + 1 = w by omega]; exact .refl h1 h2)
        simpa using this
    · rw [List.getElem?_set_ne (fun e' => e e'.symm), fillL_get h _ _ hi, fillL_get h _ _ hi]
      have hp := part_all T h1 h2 hi
      have hne : (i + 1 == w) = false := by rw [beq_eq_false_iff_ne]; omega
      simp only [partB, hne, Bool.false_or] at hp
      rw [hp]
      simp
  · rw [List.getElem?_eq_none (by rw [List.length_set, fillL_length]; omega), List.getElem?_eq_none (by rw [fillL_length]; omega)]

/-- The yields of all words. -/
noncomputable def yieldL (h : List Int) : List Int := (List.range h.length).map fun i => ((ymask h (i + 1) : Nat) : Int)
theorem yieldL_length (h : List Int) : (yieldL h).length = h.length := by simp [yieldL]
theorem yieldL_get (h : List Int) {i : Nat} (hi : i < h.length) : (yieldL h)[i]? = some ((ymask h (i + 1) : Nat) : Int) := by simp [yieldL, hi]

end Go.Rv
