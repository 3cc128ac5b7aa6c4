/-
  Plain mathematics: rows in sets of words, and gaps between them, as the model has them. Conditions: none.
-/
import Derived.Test.YtgnjabkkcglmkaaDoorMcb
import Derived.Test.YtgnjabkkcglmkaaDoorMga
set_option linter.unusedVariables false
set_option linter.unusedSimpArgs false
namespace Go.Rv

/-- How many rows a set has: how many words are the last ones of theirs. -/
def endsN (m : Nat) : Nat := (List.range 8).countP fun i => m.testBit i && !m.testBit (i + 1)

theorem l5Rows_tab : ((List.range 256).all fun m => spec_l5Rows (m : Int) == some ((endsN m : Nat) : Int)) = true := by decide +kernel
theorem l5Rows_eq {m : Nat} (h : m < 256) : spec_l5Rows (m : Int) = some ((endsN m : Nat) : Int) := by simpa using all_lt l5Rows_tab h

theorem endsN_le (m : Nat) : endsN m ≤ (wordsL m).length := by
  unfold endsN wordsL
  rw [List.length_map, List.countP_eq_length_filter, List.countP_eq_length_filter.symm, List.countP_eq_length_filter.symm]
  exact List.countP_mono_left fun i _ h => by
    simp only [Bool.and_eq_true] at h
    exact h.1

theorem endsN_le8 (m : Nat) : endsN m ≤ 8 := Nat.le_trans (endsN_le m) (wordsL_length_le m)

theorem ends_tab : ((List.range 256).all fun m => (m == 0 || decide (1 ≤ endsN m)) && (rowN m == decide (endsN m ≤ 1))) = true := by decide +kernel
theorem ends_pos {m : Nat} (h : m < 256) (h0 : m ≠ 0) : 1 ≤ endsN m := by
  have := all_lt ends_tab h
  simp only [Bool.and_eq_true, Bool.or_eq_true, beq_iff_eq, decide_eq_true_eq] at this
  rcases this.1 with e | e
  · exact absurd e h0
  · exact e
theorem ends_row {m : Nat} (h : m < 256) : rowN m = true ↔ endsN m ≤ 1 := by
  have := all_lt ends_tab h
  simp only [Bool.and_eq_true, beq_iff_eq] at this
  rw [this.2, decide_eq_true_eq]

/-- Three rows: a word, none, a word, none, a word. -/
def threeB (m : Nat) : Bool := (List.range 8).any fun c => m.testBit c && (List.range c).any fun y => !m.testBit y && (List.range y).any fun b => m.testBit b && (List.range b).any fun x => !m.testBit x && (List.range x).any fun a => m.testBit a
theorem three_tab : ((List.range 256).all fun m => decide (endsN m ≤ 2) || threeB m) = true := by decide +kernel
theorem ends_three {m : Nat} (h : m < 256) (h3 : ¬ endsN m ≤ 2) : ∃ a x b y c, a < x ∧ x < b ∧ b < y ∧ y < c ∧ c < 8 ∧ m.testBit a = true ∧ m.testBit x = false ∧ m.testBit b = true ∧ m.testBit y = false ∧ m.testBit c = true := by
  have := all_lt three_tab h
  simp only [Bool.or_eq_true, decide_eq_true_eq] at this
  have ht := this.resolve_left h3
  simp only [threeB, List.any_eq_true, List.mem_range, Bool.and_eq_true, Bool.not_eq_true'] at ht
  obtain ⟨c, h1, h2, y, h3, h4, b, h5, h6, x, h7, h8, a, h9, h10⟩ := ht
  exact ⟨a, x, b, y, c, h9, h7, h5, h3, h1, h10, h8, h6, h4, h2⟩

/-- A set read from the last of n words. -/
def mirrorN (n m : Nat) : Nat := maskN (fun i => m.testBit (n - 1 - i)) n
theorem mirror_tab : ((List.range 9).all fun n => (List.range (2 ^ n)).all fun m => endsN (mirrorN n m) == endsN m) = true := by decide +kernel
theorem ends_mirror {n m : Nat} (hn : n ≤ 8) (hm : m < 2 ^ n) : endsN (mirrorN n m) = endsN m := by
  have := all_lt (all_lt mirror_tab (i := n) (by omega)) hm
  simpa using this

/-- Two sets go by turns: two words of each, one of the other one between them. -/
def turnsN (x y : Nat) : Bool := (List.range 8).any fun d => (List.range d).any fun c => (List.range c).any fun b => (List.range b).any fun a =>
  (x.testBit a && y.testBit b && x.testBit c && y.testBit d) || (y.testBit a && x.testBit b && y.testBit c && x.testBit d)

theorem turnsN_comm (x y : Nat) : turnsN y x = turnsN x y := by
  unfold turnsN
  congr 1; funext d; congr 1; funext c; congr 1; funext b; congr 1; funext a
  rw [Bool.or_comm]

theorem turnsN_iff (x y : Nat) : turnsN x y = true ↔ ∃ a b c d, a < b ∧ b < c ∧ c < d ∧ d < 8 ∧
    ((x.testBit a = true ∧ y.testBit b = true ∧ x.testBit c = true ∧ y.testBit d = true) ∨ (y.testBit a = true ∧ x.testBit b = true ∧ y.testBit c = true ∧ x.testBit d = true)) := by
  simp only [turnsN, List.any_eq_true, List.mem_range, Bool.or_eq_true, Bool.and_eq_true]
  constructor
  · rintro ⟨d, h1, c, h2, b, h3, a, h4, h⟩
    refine ⟨a, b, c, d, h4, h3, h2, h1, ?_⟩
    rcases h with h | h
    · exact .inl ⟨h.1.1.1, h.1.1.2, h.1.2, h.2⟩
    · exact .inr ⟨h.1.1.1, h.1.1.2, h.1.2, h.2⟩
  · rintro ⟨a, b, c, d, h4, h3, h2, h1, h⟩
    refine ⟨d, h1, c, h2, b, h3, a, h4, ?_⟩
    rcases h with h | h
    · exact .inl ⟨⟨⟨h.1, h.2.1⟩, h.2.2.1⟩, h.2.2.2⟩
    · exact .inr ⟨⟨⟨h.1, h.2.1⟩, h.2.2.1⟩, h.2.2.2⟩

/-- A row of owners, each other than the one before. -/
def Chn (o : Nat → Nat) : Nat → Nat → Nat → Prop
  | 0, _, l => l = 0
  | k + 1, i, l => ∃ a, a < i ∧ o a = l ∧ l ≠ 0 ∧ ∃ l', l' ≠ l ∧ Chn o k a l'

theorem Chn.mono {o : Nat → Nat} : ∀ {k i j l : Nat}, i ≤ j → Chn o k i l → Chn o k j l
  | 0, _, _, _, _, h => h
  | k + 1, i, j, l, hij, ⟨a, h1, h2⟩ => ⟨a, by omega, h2⟩

theorem Chn.less {o : Nat → Nat} {i : Nat} : ∀ {n k l : Nat}, k ≤ n → Chn o n i l → ∃ l', Chn o k i l'
  | 0, k, l, h, c => ⟨l, by rw [show k = 0 by omega]; exact c⟩
  | n + 1, k, l, h, c => by
    by_cases e : k = n + 1
    · exact ⟨l, by rw [e]; exact c⟩
    · obtain ⟨a, h1, h2, h3, l', h4, c'⟩ := c
      exact Chn.less (n := n) (by omega) (Chn.mono (Nat.le_of_lt h1) c')

/-- The owner that was last seen, and how often owners changed. -/
def runN (o : Nat → Nat) : Nat → Nat × Nat
  | 0 => (0, 0)
  | i + 1 => if o i = 0 then runN o i else if o i = (runN o i).1 then runN o i else (o i, (runN o i).2 + 1)

theorem run_ok (o : Nat → Nat) : ∀ i, Chn o (runN o i).2 i (runN o i).1 ∧ (∀ k l', Chn o k i l' → k ≤ (runN o i).2 ∧ (k = (runN o i).2 → l' = (runN o i).1)) ∧ (runN o i).2 ≤ i
  | 0 => by
    refine ⟨rfl, ?_, Nat.le_refl _⟩
    intro k l' c
    cases k with
    | zero => exact ⟨Nat.le_refl _, fun _ => c⟩
    | succ k =>
      obtain ⟨a, h, _⟩ := c
      omega
  | i + 1 => by
    obtain ⟨h1, h2, h3⟩ := run_ok o i
    unfold runN
    by_cases e0 : o i = 0
    · rw [if_pos e0]
      refine ⟨h1.mono (by omega), ?_, by omega⟩
      intro k l' c
      cases k with
      | zero => exact h2 0 l' c
      | succ k =>
        obtain ⟨a, a1, a2, a3, r⟩ := c
        have : a ≠ i := by
          intro e
          subst e
          exact a3 (a2.symm.trans e0)
        exact h2 (k + 1) l' ⟨a, by omega, a2, a3, r⟩
    · rw [if_neg e0]
      by_cases e1 : o i = (runN o i).1
      · rw [if_pos e1]
        refine ⟨h1.mono (by omega), ?_, by omega⟩
        intro k l' c
        cases k with
        | zero => exact h2 0 l' c
        | succ k =>
          obtain ⟨a, a1, a2, a3, l'', r1, r2⟩ := c
          by_cases e : a = i
          · subst e
            have := h2 k l'' r2
            refine ⟨?_, fun _ => a2.symm.trans e1⟩
            have ne : k ≠ (runN o a).2 := fun y => r1 ((this.2 y).trans (e1.symm.trans a2))
            omega
          · exact h2 (k + 1) l' ⟨a, by omega, a2, a3, l'', r1, r2⟩
      · rw [if_neg e1]
        refine ⟨⟨i, by omega, rfl, e0, (runN o i).1, fun y => e1 y.symm, h1⟩, ?_, by simp only; omega⟩
        intro k l' c
        simp only
        cases k with
        | zero => exact ⟨by omega, fun y => by omega⟩
        | succ k =>
          obtain ⟨a, a1, a2, a3, l'', r1, r2⟩ := c
          by_cases e : a = i
          · subst e
            exact ⟨by have := (h2 k l'' r2).1; omega, fun _ => a2.symm⟩
          · have := (h2 (k + 1) l' ⟨a, by omega, a2, a3, l'', r1, r2⟩).1
            exact ⟨by omega, fun y => by omega⟩

theorem run_four (o : Nat → Nat) (i : Nat) : 4 ≤ (runN o i).2 ↔ ∃ l, Chn o 4 i l := by
  obtain ⟨h1, h2, _⟩ := run_ok o i
  constructor
  · intro h
    exact h1.less h
  · rintro ⟨l, c⟩
    exact (h2 4 l c).1

def owN (x y i : Nat) : Nat := (if x.testBit i then 1 else 0) + 2 * (if y.testBit i then 1 else 0)

theorem and_zero_bit {x y : Nat} (h0 : x &&& y = 0) (i : Nat) (hx : x.testBit i = true) : y.testBit i = false := by
  have : (x &&& y).testBit i = false := by rw [h0]; simp
  rw [Nat.testBit_and, hx, Bool.true_and] at this
  exact this

theorem turns_run {x y : Nat} (h0 : x &&& y = 0) : turnsN x y = decide (4 ≤ (runN (owN x y) 8).2) := by
  rw [Bool.eq_iff_iff, decide_eq_true_eq, run_four, turnsN_iff]
  have o1 (i : Nat) : owN x y i = 1 ↔ x.testBit i = true := by
    unfold owN
    cases a : x.testBit i <;> cases b : y.testBit i <;> simp
    rw [and_zero_bit h0 i a] at b
    cases b
  have o2 (i : Nat) : owN x y i = 2 ↔ y.testBit i = true := by
    unfold owN
    cases a : x.testBit i <;> cases b : y.testBit i <;> simp
    rw [and_zero_bit h0 i a] at b
    cases b
  have o3 (i : Nat) : owN x y i = 0 ∨ owN x y i = 1 ∨ owN x y i = 2 := by
    unfold owN
    cases a : x.testBit i <;> cases b : y.testBit i <;> simp
    rw [and_zero_bit h0 i a] at b
    cases b
  constructor
  · rintro ⟨a, b, c, d, h1, h2, h3, h4, h⟩
    rcases h with ⟨q1, q2, q3, q4⟩ | ⟨q1, q2, q3, q4⟩
    · exact ⟨2, d, h4, (o2 d).2 q4, by omega, 1, by omega, c, h3, (o1 c).2 q3, by omega, 2, by omega, b, h2, (o2 b).2 q2, by omega, 1, by omega, a, h1, (o1 a).2 q1, by omega, 0, by omega, rfl⟩
    · exact ⟨1, d, h4, (o1 d).2 q4, by omega, 2, by omega, c, h3, (o2 c).2 q3, by omega, 1, by omega, b, h2, (o1 b).2 q2, by omega, 2, by omega, a, h1, (o2 a).2 q1, by omega, 0, by omega, rfl⟩
  · rintro ⟨l, d, h4, p4, z4, l3, n3, c, h3, p3, z3, l2, n2, b, h2, p2, z2, l1, n1, a, h1, p1, z1, _⟩
    refine ⟨a, b, c, d, h1, h2, h3, h4, ?_⟩
    have r4 := o3 d
    have r3 := o3 c
    have r2 := o3 b
    have r1 := o3 a
    by_cases e : owN x y a = 1
    · exact .inl ⟨(o1 a).1 e, (o2 b).1 (by omega), (o1 c).1 (by omega), (o2 d).1 (by omega)⟩
    · exact .inr ⟨(o2 a).1 (by omega), (o1 b).1 (by omega), (o2 c).1 (by omega), (o1 d).1 (by omega)⟩

theorem l5Turns_eq {x y : Nat} (hx : x < 256) (hy : y < 256) (h0 : x &&& y = 0) : spec_l5Turns (x : Int) (y : Int) = some (turnsN x y) := by
  have e : spec_l5Turns (x : Int) (y : Int) = spec_l5Turns_n9 (x : Int) (y : Int) := by unfold spec_l5Turns; rfl
  rw [e]
  unfold spec_l5Turns_n9 spec_l5Turns_n1 spec_l5Turns_n8 spec_l5Turns_n6 spec_l5Turns_n2 spec_l5Turns_n5 spec_l5Turns_n4
  have hloop := nloop_to (body := fun (s : Int × Int × Int) => ((spec_l5Turns_n3 (x : Int) (y : Int) s.1 s.2.1 s.2.2).map (Sum.elim (fun (t : Int × Int × Int) => Sum.inl (t.1, t.2.1, t.2.2)) (fun (t : Int) => Sum.inr t)) : Option ((Int × Int × Int) ⊕ (Int))))
    (fun i => (((runN (owN x y) i).1 : Int), ((runN (owN x y) i).2 : Int), (i : Int))) 8 ((runN (owN x y) 8).2 : Int)
    (by
      intro i hi
      simp only [spec_l5Turns_n3]
      rw [decide_eq_true (show (i : Int) < 8 by omega)]
      have bx := bit_eq hx hi
      have by' := bit_eq hy hi
      have rl := (run_ok (owN x y) i).2.2
      obtain ⟨v1, a1, a2⟩ := Option.bind_eq_some_iff.mp bx
      obtain ⟨v2, c1, c2⟩ := Option.bind_eq_some_iff.mp by'
      simp only [cond_true, a1, a2, c1, c2, Option.bind_some]
      have hw : IntKind.wrap .i64 ((if x.testBit i then (1 : Int) else 0) + IntKind.wrap .i64 (2 * (if y.testBit i then (1 : Int) else 0))) = (owN x y i : Int) := by
        unfold owN
        cases x.testBit i <;> cases y.testBit i <;> rfl
      rw [hw, wrap64 (x := (i : Int) + 1) (by omega) (by omega), wrap64 (x := ((runN (owN x y) i).2 : Int) + 1) (by omega) (by omega)]
      rw [show runN (owN x y) (i + 1) = if owN x y i = 0 then runN (owN x y) i else if owN x y i = (runN (owN x y) i).1 then runN (owN x y) i else (owN x y i, (runN (owN x y) i).2 + 1) from rfl]
      by_cases e0 : owN x y i = 0
      · rw [if_pos e0, decide_eq_false (by omega)]
        rfl
      · rw [if_neg e0, decide_eq_true (by omega)]
        by_cases e1 : owN x y i = (runN (owN x y) i).1
        · rw [if_pos e1, show (((owN x y i : Nat) : Int) != (((runN (owN x y) i).1 : Nat) : Int)) = false from by rw [e1]; exact bne_self_eq_false _]
          rfl
        · rw [if_neg e1, show (((owN x y i : Nat) : Int) != (((runN (owN x y) i).1 : Nat) : Int)) = true from bne_iff_ne.2 (by omega)]
          rfl)
    (by rfl) LL (by simp only [LL]; omega)
  simp only [Option.bind_some]
  have hloop' := hloop
  rw [show ((runN (owN x y) 0).1 : Int) = 0 from rfl, show ((runN (owN x y) 0).2 : Int) = 0 from rfl, show ((0 : Nat) : Int) = 0 from rfl] at hloop'
  rw [hloop']
  simp only [Option.map_some, Option.bind_some, spec_l5Turns_n7]
  rw [turns_run h0]
  congr 1
  rw [Bool.eq_iff_iff]
  simp only [decide_eq_true_eq]
  omega

/-! Gaps of yields -/

noncomputable def gapsI (h : List Int) (v : Int) : Int := if wordB h v then ((endsN (ymask h v.toNat) : Nat) : Int) - 1 else -1

theorem specGaps_eq (h : List Int) (v : Int) : spec_GapsOf h v = some (gapsI h v) := by
  have e : spec_GapsOf h v = spec_GapsOf_n1 h v := by unfold spec_GapsOf; rfl
  rw [e]
  unfold spec_GapsOf_n1 gapsI
  rw [specTree_eq, l1In_eq]
  simp only [Option.bind_some]
  cases hT : treeB h with
  | false => simp [wordB, hT]
  | true =>
    simp only [Bool.not_true, cond_false]
    cases hw : (decide (1 ≤ v) && decide (v ≤ ((h.length : Nat) : Int))) with
    | false => simp [wordB, hT, hw]
    | true =>
      have hwb : wordB h v = true := by rw [wordB, hT, hw]; rfl
      obtain ⟨w, rfl, T, h1, h2⟩ := wordB_iff.1 hwb
      have h8 := endsN_le8 (ymask h w)
      rw [hwb]
      simp only [Bool.not_true, cond_false, l2Yield_eq T h1 h2, Option.bind_some, l5Rows_eq (ymask_lt T.le w), if_true, Int.toNat_natCast]
      rw [wrap64 (by omega) (by omega)]

theorem ymask_pos {h : List Int} (T : Tree h) {k : Nat} (k1 : 1 ≤ k) (k2 : k ≤ h.length) : ymask h k ≠ 0 := by
  intro e
  have hb : (ymask h k).testBit (k - 1) = true := by
    rw [ymask_bit T, undB_iff, show k - 1 + 1 = k by omega]
    exact .refl k1 k2
  rw [e] at hb
  simp at hb

noncomputable def turnsI (h : List Int) (a b : Int) : Bool := wordB h a && wordB h b && (decide (ymask h a.toNat &&& ymask h b.toNat = 0) && turnsN (ymask h a.toNat) (ymask h b.toNat))

theorem specTurns_eq (h : List Int) (a b : Int) : spec_TurnsOk h a b = some (turnsI h a b) := by
  have e : spec_TurnsOk h a b = spec_TurnsOk_n1 h a b := by unfold spec_TurnsOk; rfl
  rw [e]
  unfold spec_TurnsOk_n1 turnsI
  rw [specTree_eq, l1In_eq, l1In_eq]
  simp only [Option.bind_some]
  cases hT : treeB h with
  | false => simp [wordB, hT]
  | true =>
    simp only [Bool.not_true, cond_false]
    cases ha : (decide (1 ≤ a) && decide (a ≤ ((h.length : Nat) : Int))) with
    | false => simp [wordB, hT, ha]
    | true =>
      have hwa : wordB h a = true := by rw [wordB, hT, ha]; rfl
      cases hb : (decide (1 ≤ b) && decide (b ≤ ((h.length : Nat) : Int))) with
      | false => simp [wordB, hT, hb]
      | true =>
        have hwb : wordB h b = true := by rw [wordB, hT, hb]; rfl
        obtain ⟨u, rfl, T, u1, u2⟩ := wordB_iff.1 hwa
        obtain ⟨v, rfl, _, v1, v2⟩ := wordB_iff.1 hwb
        have lu := ymask_lt T.le u
        have lv := ymask_lt T.le v
        rw [hwa, hwb]
        simp only [Bool.not_true, cond_false, l2Yield_eq T u1 u2, l2Yield_eq T v1 v2, Option.bind_some, Bool.true_and, Int.toNat_natCast]
        rw [iandi (by omega) (by omega)]
        by_cases h0 : ymask h u &&& ymask h v = 0
        · rw [show ((((ymask h u &&& ymask h v : Nat)) : Int) == 0) = true from beq_iff_eq.2 (by omega), decide_eq_true h0]
          simp only [cond_true, l5Turns_eq lu lv h0, Option.bind_some, Bool.true_and]
        · rw [show ((((ymask h u &&& ymask h v : Nat)) : Int) == 0) = false from beq_eq_false_iff_ne.2 (by omega), decide_eq_false h0]
          rfl

end Go.Rv
