/-
  Plain mathematics: yields that are rows. Conditions: none.
-/
import Derived.Test.YtmmfabigcffdfaaDoorMw
set_option linter.unusedVariables false
set_option linter.unusedSimpArgs false
namespace Go.Rv

/-- Whether a set is a row: what is between two of its words is in it. -/
def rowN (m : Nat) : Bool := (List.range 8).all fun c => (List.range c).all fun b => (List.range b).all fun a => !(m.testBit a && m.testBit c) || m.testBit b

theorem rowN_iff (m : Nat) : rowN m = true ↔ ∀ a b c, a < b → b < c → c < 8 → m.testBit a = true → m.testBit c = true → m.testBit b = true := by
  unfold rowN
  simp only [List.all_eq_true, List.mem_range, Bool.or_eq_true, Bool.not_eq_true', Bool.and_eq_false_iff]
  constructor
  · intro h a b c h1 h2 h3 h4 h5
    rcases h c h3 b h2 a h1 with (e | e) | e
    · rw [h4] at e; cases e
    · rw [h5] at e; cases e
    · exact e
  · intro h c h3 b h2 a h1
    cases x : m.testBit a with
    | false => exact .inl (.inl rfl)
    | true =>
      cases y : m.testBit c with
      | false => exact .inl (.inr rfl)
      | true => exact .inr (h a b c h1 h2 h3 x y)

theorem isRow_tab : ((List.range 256).all fun m => impl_wordSet_isRow (m : Int) == some (rowN m)) = true := by decide +kernel
theorem isRow_eq {m : Nat} (h : m < 256) : impl_wordSet_isRow (m : Int) = some (rowN m) := by simpa using all_lt isRow_tab h
theorem l3Row_tab : ((List.range 255).all fun m => spec_l3Row ((m + 1 : Nat) : Int) == some (rowN (m + 1))) = true := by decide +kernel
theorem l3Row_eq {m : Nat} (h0 : 0 < m) (h : m < 256) : spec_l3Row (m : Int) = some (rowN m) := by
  have := all_lt l3Row_tab (i := m - 1) (by omega)
  rw [show m - 1 + 1 = m by omega] at this
  simpa using this

/-- A tree is flat: each yield is a row. -/
def FlatP (h : List Int) : Prop := ∀ k a b c, a < b → b < c → Und h a k → Und h c k → Und h b k

noncomputable def flatB (h : List Int) : Bool := @decide (FlatP h) (Classical.propDecidable _)
theorem flatB_iff {h : List Int} : flatB h = true ↔ FlatP h := by simp [flatB]
noncomputable def flatI (h : List Int) : Bool := treeB h && flatB h

theorem row_iff {h : List Int} (T : Tree h) (k : Nat) : rowN (ymask h k) = true ↔ ∀ a b c, a < b → b < c → Und h a k → Und h c k → Und h b k := by
  rw [rowN_iff]
  simp only [ymask_bit T, undB_iff]
  have hle := T.le
  constructor
  · intro x a b c h1 h2 u v
    have ru := T.und_rng u
    have rv := T.und_rng v
    have := x (a - 1) (b - 1) (c - 1) (by omega) (by omega) (by omega) (by rw [show a - 1 + 1 = a by omega]; exact u) (by rw [show c - 1 + 1 = c by omega]; exact v)
    rw [show b - 1 + 1 = b by omega] at this
    exact this
  · intro x a b c h1 h2 _ u v
    exact x (a + 1) (b + 1) (c + 1) (by omega) (by omega) u v

theorem flat_rows {h : List Int} (T : Tree h) : flatB h = (List.range h.length).all fun i => rowN (ymask h (i + 1)) := by
  rw [Bool.eq_iff_iff, flatB_iff, List.all_eq_true]
  constructor
  · intro F i hi
    exact (row_iff T (i + 1)).2 (F (i + 1))
  · intro x k a b c h1 h2 u v
    have ru := T.und_rng u
    have := (row_iff T (k - 1 + 1)).1 (x (k - 1) (by rw [List.mem_range]; omega))
    rw [show k - 1 + 1 = k by omega] at this
    exact this a b c h1 h2 u v

theorem implFlat_eq (h : List Int) : impl_FlatOk h = some (flatI h) := by
  have e : impl_FlatOk h = impl_FlatOk_n9 h := by unfold impl_FlatOk; rfl
  rw [e]
  unfold impl_FlatOk_n9 impl_FlatOk_n1 impl_FlatOk_n8 impl_FlatOk_n6 impl_FlatOk_n2 impl_FlatOk_n5 impl_FlatOk_n4 impl_FlatOk_n7 flatI
  rw [implTree_eq]
  cases hT : treeB h with
  | false => rfl
  | true =>
    have T := (tree_iff h).1 hT
    have hle := T.le
    simp only [Option.bind_some, Bool.not_true, cond_false, Sum.elim_inl, yields_eq T, yieldL_length, Bool.true_and]
    have hloop := nloop_while (body := fun (s : Int) => ((impl_FlatOk_n3 h.length s (yieldL h)).map (Sum.elim (fun (t : Int) => Sum.inl t) (Sum.elim (fun (t : Bool) => Sum.inr (Sum.inl t)) (fun (t : Unit) => Sum.inr (Sum.inr t)))) : Option ((Int) ⊕ (Bool ⊕ Unit))))
      (fun k => (k : Int)) h.length (fun i => rowN (ymask h (i + 1))) (fun b => cond b (.inr ()) (.inl false))
      (by
        intro k hk hp
        simp only [impl_FlatOk_n3]
        rw [show decide ((k : Int) < ((h.length : Nat) : Int)) = true from decide_eq_true (by omega), inb_nat (by rw [yieldL_length]; exact hk), wrap64 (by omega) (by omega)]
        simp only [cond_true, Option.bind_some, yieldL_get h hk, isRow_eq (ymask_lt hle _), hp]
        rfl)
      (by
        intro k hk hp
        simp only [impl_FlatOk_n3]
        rw [show decide ((k : Int) < ((h.length : Nat) : Int)) = true from decide_eq_true (by omega), inb_nat (by rw [yieldL_length]; exact hk), wrap64 (by omega) (by omega)]
        simp only [cond_true, Option.bind_some, yieldL_get h hk, isRow_eq (ymask_lt hle _), hp]
        rfl)
      (by
        simp only [impl_FlatOk_n3]
        rw [show decide (((h.length : Nat) : Int) < ((h.length : Nat) : Int)) = false from decide_eq_false (by omega)]
        rfl)
    rw [show (0 : Int) = ((0 : Nat) : Int) from rfl, hloop LL (by simp only [LL]; omega), flat_rows T]
    cases (List.range h.length).all fun i => rowN (ymask h (i + 1)) <;> rfl

theorem specFlat_eq (h : List Int) (hl : h.length ≤ 1048576) : spec_FlatOk h = some (flatI h) := by
  have e : spec_FlatOk h = spec_FlatOk_n9 h := by unfold spec_FlatOk; rfl
  rw [e]
  unfold spec_FlatOk_n9 spec_FlatOk_n1 spec_FlatOk_n8 spec_FlatOk_n6 spec_FlatOk_n2 spec_FlatOk_n5 spec_FlatOk_n4 spec_FlatOk_n7 flatI
  rw [specTree_eq]
  cases hT : treeB h with
  | false =>
    have hone : nloop (fun (s : Int) => ((spec_FlatOk_n3 h s).map (Sum.elim (fun (t : Int) => Sum.inl t) (Sum.elim (fun (t : Bool) => Sum.inr (Sum.inl t)) (fun (t : Unit) => Sum.inr (Sum.inr t)))) : Option ((Int) ⊕ (Bool ⊕ Unit)))) LL 1 = some (.inr ()) := by
      refine nloop_to (fun _ => (1 : Int)) 0 (Sum.inr () : Bool ⊕ Unit) (fun k hk => by omega) ?_ LL (by simp only [LL]; omega)
      simp only [spec_FlatOk_n3, specTree_eq, hT]
      cases decide ((1 : Int) ≤ ((h.length : Nat) : Int)) <;> rfl
    simp only [Option.bind_some]
    rw [hone]
    rfl
  | true =>
    have T := (tree_iff h).1 hT
    have hle := T.le
    have hloop := nloop_while (body := fun (s : Int) => ((spec_FlatOk_n3 h s).map (Sum.elim (fun (t : Int) => Sum.inl t) (Sum.elim (fun (t : Bool) => Sum.inr (Sum.inl t)) (fun (t : Unit) => Sum.inr (Sum.inr t)))) : Option ((Int) ⊕ (Bool ⊕ Unit))))
      (fun k => ((k + 1 : Nat) : Int)) h.length (fun i => rowN (ymask h (i + 1))) (fun b => cond b (.inr ()) (.inl false))
      (by
        intro k hk hp
        have h0 : 0 < ymask h (k + 1) := by
          have hb : (ymask h (k + 1)).testBit k = true := by rw [ymask_bit T, undB_iff]; exact .refl (by omega) (by omega)
          exact Nat.pos_of_ne_zero fun e => by rw [e] at hb; simp at hb
        simp only [spec_FlatOk_n3, specTree_eq, hT]
        rw [show decide (((k + 1 : Nat) : Int) ≤ ((h.length : Nat) : Int)) = true from decide_eq_true (by omega), wrap64 (by omega) (by omega), l2Yield_eq T (by omega) (by omega)]
        simp only [cond_true, Option.bind_some, l3Row_eq h0 (ymask_lt hle _), hp]
        rfl)
      (by
        intro k hk hp
        have h0 : 0 < ymask h (k + 1) := by
          have hb : (ymask h (k + 1)).testBit k = true := by rw [ymask_bit T, undB_iff]; exact .refl (by omega) (by omega)
          exact Nat.pos_of_ne_zero fun e => by rw [e] at hb; simp at hb
        simp only [spec_FlatOk_n3, specTree_eq, hT]
        rw [show decide (((k + 1 : Nat) : Int) ≤ ((h.length : Nat) : Int)) = true from decide_eq_true (by omega), wrap64 (by omega) (by omega), l2Yield_eq T (by omega) (by omega)]
        simp only [cond_true, Option.bind_some, l3Row_eq h0 (ymask_lt hle _), hp]
        rfl)
      (by
        simp only [spec_FlatOk_n3]
        rw [show decide (((h.length + 1 : Nat) : Int) ≤ ((h.length : Nat) : Int)) = false from decide_eq_false (by omega)]
        rfl)
    simp only [Option.bind_some]
    rw [show (1 : Int) = ((0 + 1 : Nat) : Int) from rfl, hloop LL (by simp only [LL]; omega), flat_rows T]
    cases (List.range h.length).all fun i => rowN (ymask h (i + 1)) <;> rfl

end Go.Rv
