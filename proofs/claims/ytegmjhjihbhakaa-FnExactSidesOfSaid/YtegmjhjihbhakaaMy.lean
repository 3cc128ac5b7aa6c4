/-
  Plain mathematics: what depends on a word, to its left and to its right. Conditions: none.
-/
import Derived.Test.YtegmjhjihbhakaaMu
import Derived.Test.YtegmjhjihbhakaaMwa
set_option linter.unusedVariables false
set_option linter.unusedSimpArgs false
namespace Go.Rv

theorem count_tab : ((List.range 256).all fun m => impl_wordSet_count (m : Int) == some (((wordsL m).length : Nat) : Int)) = true := by decide +kernel
theorem count_eq {m : Nat} (h : m < 256) : impl_wordSet_count (m : Int) = some (((wordsL m).length : Nat) : Int) := by simpa using all_lt count_tab h

theorem wordsL_count (p : Nat → Bool) {n : Nat} (h : n ≤ 8) : (wordsL (maskN p n)).length = (List.range n).countP p := by
  rw [wordsL_mask p h, List.length_map, List.countP_eq_length_filter]

theorem before_tab : ((List.range 8).all fun i => impl_before ((i : Int) + 1) == some ((2 ^ i - 1 : Nat) : Int)) = true := by decide +kernel
theorem before_eq {w : Nat} (h1 : 1 ≤ w) (h2 : w ≤ 8) : impl_before (w : Int) = some ((2 ^ (w - 1) - 1 : Nat) : Int) := by
  have h := all_lt before_tab (i := w - 1) (by omega)
  rw [show ((w - 1 : Nat) : Int) + 1 = (w : Int) by omega] at h
  simpa using h

theorem iandnu {a b : Nat} (ha : a < 2 ^ 62) (hb : b < 2 ^ 62) : ∃ c : Nat, iandn .u64 (a : Int) (b : Int) = (c : Int) ∧ c ≤ a ∧ ∀ i, c.testBit i = (a.testBit i && !b.testBit i) := by
  have h : a &&& (2 ^ 64 - 1 - b) ≤ a := Nat.and_le_left
  refine ⟨a &&& (2 ^ 64 - 1 - b), ?_, h, fun i => ?_⟩
  · show IntKind.wrap .u64 ((BitVec.ofInt 64 (a : Int) &&& ~~~BitVec.ofInt 64 (b : Int)).toNat : Int) = _
    rw [BitVec.toNat_and, BitVec.toNat_not, ofInt_nat (by omega), ofInt_nat (by omega), wrapu64 (by omega) (by omega)]
  · rw [Nat.testBit_and]
    by_cases hi : i < 64
    · have e : 2 ^ 64 - 1 - b = 2 ^ 64 - (b + 1) := by omega
      rw [e, Nat.testBit_two_pow_sub_succ (by omega)]
      simp [hi]
    · have : a.testBit i = false := Nat.testBit_lt_two_pow (Nat.lt_of_lt_of_le ha (Nat.pow_le_pow_right (by omega) (by omega)))
      rw [this]; simp

def leftB (h : List Int) (v : Int) (w i : Nat) : Bool := headB h v i && decide (i < w - 1)
def rightB (h : List Int) (v : Int) (w i : Nat) : Bool := headB h v i && !decide (i < w - 1)
def leftN (h : List Int) (w : Nat) : Nat := (List.range h.length).countP (leftB h (w : Int) w)
def rightN (h : List Int) (w : Nat) : Nat := (List.range h.length).countP (rightB h (w : Int) w)

theorem sides_sum (h : List Int) (w : Nat) : leftN h w + rightN h w = (List.range h.length).countP (headB h (w : Int)) := by
  unfold leftN rightN
  generalize List.range h.length = l
  induction l with
  | nil => rfl
  | cons a r ih =>
    rw [List.countP_cons, List.countP_cons, List.countP_cons, ← ih]
    unfold leftB rightB
    cases headB h (w : Int) a <;> cases decide (a < w - 1) <;> simp <;> omega

theorem Tree.headB_iff {h : List Int} (T : Tree h) {w i : Nat} (hi : i < h.length) : headB h (w : Int) i = true ↔ hd h (i + 1) = w := by
  have hg := T.get (w := i + 1) (by omega) (by omega)
  rw [Nat.add_sub_cancel] at hg
  simp only [headB, List.getD_eq_getElem?_getD, hg, Option.getD_some, beq_iff_eq]
  omega

/-- No word is its own head. -/
theorem Tree.hd_ne {h : List Int} (T : Tree h) {w : Nat} (h1 : 1 ≤ w) (h2 : w ≤ h.length) : hd h w ≠ w := by
  intro e
  have := T.dep_step h1 h2 (by omega)
  rw [e] at this
  omega

def sidesI (h : List Int) (v : Int) : Int × Int × Bool := if wordB h v then ((leftN h v.toNat : Int), (rightN h v.toNat : Int), true) else (-1, -1, false)

theorem implSides_eq (h : List Int) (v : Int) : impl_SidesOf h v = some (sidesI h v) := by
  have e : impl_SidesOf h v = impl_SidesOf_n1 h v := by unfold impl_SidesOf; rfl
  rw [e]
  unfold impl_SidesOf_n1 sidesI
  rw [wordOk_eq]
  cases hw : wordB h v with
  | false => rfl
  | true =>
    obtain ⟨w, rfl, T, h1, h2⟩ := wordB_iff.1 hw
    have hle := T.le
    have hp := pow_lt256 (show w ≤ 8 by omega) h1
    have l0 : maskN (headB h (w : Int)) h.length < 256 := lt256 hle (maskN_lt _ _)
    obtain ⟨c, hc, hc1, hc2⟩ := iandnu (a := maskN (headB h (w : Int)) h.length) (b := 2 ^ (w - 1) - 1) (by omega) (by omega)
    simp only [Option.bind_some, Bool.not_true, cond_false, dependents_eq h _ hle, before_eq h1 (show w ≤ 8 by omega), if_true, hc, Int.toNat_natCast]
    rw [iandu (by omega) (by omega)]
    have e1 : maskN (headB h (w : Int)) h.length &&& (2 ^ (w - 1) - 1) = maskN (leftB h (w : Int) w) h.length := by
      refine eq_maskN (Nat.lt_of_le_of_lt Nat.and_le_left (maskN_lt _ _)) fun i hi => ?_
      rw [Nat.testBit_and, maskN_bit, Nat.testBit_two_pow_sub_one]
      simp [hi, leftB]
    have e2 : c = maskN (rightB h (w : Int) w) h.length := by
      refine eq_maskN (Nat.lt_of_le_of_lt hc1 (maskN_lt _ _)) fun i hi => ?_
      rw [hc2, maskN_bit, Nat.testBit_two_pow_sub_one]
      simp [hi, rightB]
    rw [e1, e2, count_eq (lt256 hle (maskN_lt _ _)), count_eq (lt256 hle (maskN_lt _ _)), wordsL_count _ hle, wordsL_count _ hle]
    rfl

theorem specSides_eq (h : List Int) (v : Int) : spec_SidesOf h v = some (sidesI h v) := by
  have e : spec_SidesOf h v = spec_SidesOf_n9 h v := by unfold spec_SidesOf; rfl
  rw [e]
  unfold spec_SidesOf_n9 spec_SidesOf_n1 spec_SidesOf_n8 spec_SidesOf_n6 spec_SidesOf_n2 spec_SidesOf_n5 spec_SidesOf_n4
  rw [specTree_eq, l1In_eq]
  cases hw : wordB h v with
  | false =>
    unfold sidesI
    rw [hw]
    unfold wordB at hw
    cases hT : treeB h with
    | false => rfl
    | true =>
      cases ha : (decide ((1 : Int) ≤ v) && decide (v ≤ ((h.length : Nat) : Int))) with
      | false => rfl
      | true => rw [hT, ha] at hw; cases hw
  | true =>
    obtain ⟨w, rfl, T, h1, h2⟩ := wordB_iff.1 hw
    have hle := T.le
    rw [(tree_iff h).2 T, show (decide ((1 : Int) ≤ (w : Int)) && decide ((w : Int) ≤ ((h.length : Nat) : Int))) = true by simp; omega]
    simp only [Option.bind_some, Bool.not_true, cond_false, Sum.elim_inl, sidesI, hw, if_true, Int.toNat_natCast]
    have hloop := nloop_to (body := fun (s : Int × Int × Int) => ((spec_SidesOf_n3 h w s.1 s.2.1 s.2.2).map (Sum.elim (fun (t : Int × Int × Int) => Sum.inl (t.1, t.2.1, t.2.2)) (fun (t : Int × Int) => Sum.inr t)) : Option ((Int × Int × Int) ⊕ ((Int × Int)))))
      (fun k => ((((List.range k).countP (leftB h (w : Int) w) : Nat) : Int), (((List.range k).countP (rightB h (w : Int) w) : Nat) : Int), (k : Int))) h.length ((leftN h w : Int), (rightN h w : Int))
      (by
        intro k hk
        have hg := T.get (w := k + 1) (by omega) (by omega)
        rw [Nat.add_sub_cancel, List.getElem?_eq_getElem hk] at hg
        have hg' : h[k] = ((hd h (k + 1) : Nat) : Int) := Option.some.inj hg
        have c1 : (List.range k).countP (leftB h (w : Int) w) ≤ k := by simpa using List.countP_le_length (p := leftB h (w : Int) w) (l := List.range k)
        have c2 : (List.range k).countP (rightB h (w : Int) w) ≤ k := by simpa using List.countP_le_length (p := rightB h (w : Int) w) (l := List.range k)
        have hne := T.hd_ne (w := k + 1) (by omega) (by omega)
        have hh := T.headB_iff (w := w) hk
        simp only [spec_SidesOf_n3]
        rw [show decide ((k : Int) < ((h.length : Nat) : Int)) = true from decide_eq_true (by omega), idx_lt hk, hg', wrap64 (x := (k : Int) + 1) (by omega) (by omega)]
        simp only [cond_true, Option.bind_some]
        rw [List.range_succ, List.countP_append, List.countP_append, List.countP_cons, List.countP_cons, List.countP_nil, List.countP_nil]
        rw [wrap64 (by omega) (by omega), wrap64 (by omega) (by omega)]
        by_cases e : hd h (k + 1) = w
        · have hb := hh.2 e
          rw [show (((hd h (k + 1) : Nat) : Int) == (w : Int)) = true by rw [beq_iff_eq]; omega]
          simp only [cond_true]
          by_cases hl : k < w - 1
          · rw [show decide ((k : Int) + 1 < (w : Int)) = true from decide_eq_true (by omega), show decide ((k : Int) + 1 > (w : Int)) = false from decide_eq_false (by omega)]
            have x1 : leftB h (w : Int) w k = true := by simp [leftB, hb, hl]
            have x2 : rightB h (w : Int) w k = false := by simp [rightB, hb, hl]
            rw [x1, x2]
            simp
          · rw [show decide ((k : Int) + 1 < (w : Int)) = false from decide_eq_false (by omega), show decide ((k : Int) + 1 > (w : Int)) = true from decide_eq_true (by omega)]
            have x1 : leftB h (w : Int) w k = false := by simp [leftB, hl]
            have x2 : rightB h (w : Int) w k = true := by simp [rightB, hb, hl]
            rw [x1, x2]
            simp
        · have hb : headB h (w : Int) k = false := by
            cases hx : headB h (w : Int) k with
            | false => rfl
            | true => exact absurd (hh.1 hx) e
          rw [show (((hd h (k + 1) : Nat) : Int) == (w : Int)) = false by rw [beq_eq_false_iff_ne]; omega]
          have x1 : leftB h (w : Int) w k = false := by simp [leftB, hb]
          have x2 : rightB h (w : Int) w k = false := by simp [rightB, hb]
          rw [x1, x2]
          simp)
      (by
        simp only [spec_SidesOf_n3]
        rw [show decide (((h.length : Nat) : Int) < ((h.length : Nat) : Int)) = false from decide_eq_false (by omega)]
        rfl)
    have hl := hloop LL (by simp only [LL]; omega)
    simp only [List.range_zero, List.countP_nil] at hl
    rw [show ((0 : Int), (0 : Int), (0 : Int)) = (((0 : Nat) : Int), ((0 : Nat) : Int), ((0 : Nat) : Int)) from rfl, hl]
    rfl

end Go.Rv
