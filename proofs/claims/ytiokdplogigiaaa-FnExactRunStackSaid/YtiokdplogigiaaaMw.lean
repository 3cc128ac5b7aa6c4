/-
  Plain mathematics: yields, as the model has them. Conditions: none.
-/
import Derived.Test.YtiokdplogigiaaaMv
import Derived.Test.YtiokdplogigiaaaMwa
set_option linter.unusedVariables false
set_option linter.unusedSimpArgs false
namespace Go.Rv

noncomputable def stepB (h : List Int) (w k i : Nat) : Bool := (i + 1 == w) || (List.range k).any fun c => (hd h (c + 1) == w) && undB h (i + 1) (c + 1)

theorem step_all {h : List Int} (T : Tree h) {w : Nat} (h1 : 1 ≤ w) (h2 : w ≤ h.length) {i : Nat} (hi : i < h.length) : stepB h w h.length i = undB h (i + 1) w := by
  rw [Bool.eq_iff_iff, undB_iff, T.und_child]
  simp only [stepB, Bool.or_eq_true, beq_iff_eq, List.any_eq_true, undB_iff, Bool.and_eq_true, List.mem_range]
  constructor
  · rintro (e | ⟨c, hc, e, u⟩)
    · exact .inl ⟨e, by omega, by omega⟩
    · exact .inr ⟨by omega, c + 1, by omega, by omega, e, u⟩
  · rintro (⟨e, _⟩ | ⟨_, c, c1, c2, c3, u⟩)
    · exact .inl e
    · exact .inr ⟨c - 1, by omega, by rw [show c - 1 + 1 = c by omega]; exact c3, by rw [show c - 1 + 1 = c by omega]; exact u⟩

theorem step_one (h : List Int) (w : Nat) (k n : Nat) : maskN (stepB h w (k + 1)) n = maskN (stepB h w k) n ||| (if hd h (k + 1) = w then maskN (fun i => undB h (i + 1) (k + 1)) n else 0) := by
  refine (eq_maskN (Nat.or_lt_two_pow (maskN_lt _ _) ?_) fun i hi => ?_).symm
  · split
    · exact maskN_lt _ _
    · exact Nat.two_pow_pos _
  · rw [Nat.testBit_or, maskN_bit]
    simp only [hi, decide_true, Bool.true_and, stepB]
    rw [List.range_succ]
    simp only [List.any_append, List.any_cons, List.any_nil, Bool.or_false, Bool.or_assoc]
    congr 2
    by_cases e : hd h (k + 1) = w
    · rw [if_pos e, maskN_bit]
      simp [hi, e]
    · rw [if_neg e]
      simp [e]

theorem step_none (h : List Int) {w n : Nat} (h1 : 1 ≤ w) (h2 : w ≤ n) : maskN (stepB h w 0) n = 2 ^ (w - 1) := by
  refine (eq_maskN (Nat.pow_lt_pow_right (by omega) (by omega)) fun i hi => ?_).symm
  rw [Nat.testBit_two_pow]
  simp only [stepB, List.range_zero, List.any_nil, Bool.or_false]
  rw [Bool.eq_iff_iff]
  simp only [decide_eq_true_eq, beq_iff_eq]
  omega

theorem shl_tab : ((List.range 8).all fun i => shl .i64 1 (i : Int) == some ((2 ^ i : Nat) : Int)) = true := by decide +kernel
theorem shl_eq {w : Nat} (h1 : 1 ≤ w) (h2 : w ≤ 8) : shl .i64 1 (IntKind.wrap .i64 ((w : Int) - 1)) = some ((2 ^ (w - 1) : Nat) : Int) := by
  rw [wrap64 (by omega) (by omega), show (w : Int) - 1 = ((w - 1 : Nat) : Int) by omega]
  simpa using all_lt shl_tab (i := w - 1) (by omega)

theorem bit_tab : ((List.range 256).all fun m => (List.range 8).all fun i => ((shr .i64 (m : Int) (i : Int)).bind fun v => rem v 2) == some (if m.testBit i then 1 else 0)) = true := by decide +kernel
theorem bit_eq {m : Nat} (h : m < 256) {i : Nat} (hi : i < 8) : ((shr .i64 (m : Int) (i : Int)).bind fun v => rem v 2) = some (if m.testBit i then 1 else 0) := by
  simpa using all_lt (all_lt bit_tab h) hi

/-! Yields, as rows of numbers -/

noncomputable def yieldI (h : List Int) (v : Int) : List Int := if wordB h v then wordsL (ymask h v.toNat) else []

theorem yieldI_length (h : List Int) (v : Int) : (yieldI h v).length ≤ 8 := by
  unfold yieldI
  split
  · exact wordsL_length_le _
  · simp

/-! Under -/

noncomputable def underI (h : List Int) (a b : Int) : Bool := wordB h a && wordB h b && undB h a.toNat b.toNat

theorem hasAll_eq {m n : Nat} (hm : m < 256) (hn : n < 256) : impl_wordSet_hasAll (m : Int) (n : Int) = some (decide (m &&& n = n)) := by
  have e : impl_wordSet_hasAll (m : Int) (n : Int) = impl_wordSet_hasAll_n1 (m : Int) (n : Int) := by unfold impl_wordSet_hasAll; rfl
  rw [e]
  unfold impl_wordSet_hasAll_n1
  rw [iandu (by omega) (by omega)]
  congr 1
  rw [Bool.eq_iff_iff, beq_iff_eq, decide_eq_true_eq]
  omega

theorem has_one (m i : Nat) : (m &&& 2 ^ i = 2 ^ i) ↔ m.testBit i = true := by
  constructor
  · intro e
    have h := congrArg (fun x => x.testBit i) e
    simpa using h
  · intro h
    apply Nat.eq_of_testBit_eq
    intro j
    rw [Nat.testBit_and, Nat.testBit_two_pow]
    by_cases e : i = j
    · subst e; simp [h]
    · simp [e]

end Go.Rv
