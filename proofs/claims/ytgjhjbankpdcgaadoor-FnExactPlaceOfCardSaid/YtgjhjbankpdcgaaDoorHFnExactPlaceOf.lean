/-
  Plain mathematics of what the law reaches. Conditions: none.
-/
import Derived.Test.YtgjhjbankpdcgaaDoorGFnExactPlaceOf
set_option linter.unusedVariables false
set_option linter.unusedSimpArgs false
namespace Go.Rv
theorem nloop_run {σ ω : Type} {body : σ → Option (σ ⊕ ω)} (I : σ → Prop) (μ : σ → Nat) (f : σ → ω)
    (h : ∀ s, I s → (∃ s', body s = some (.inl s') ∧ I s' ∧ μ s' < μ s ∧ f s' = f s) ∨ body s = some (.inr (f s))) : ∀ (n : Nat) (s : σ), I s → μ s < n → nloop body n s = some (f s)
  | 0, s, _, hn => by omega
  | n + 1, s, hi, hn => by
    rcases h s hi with ⟨s', hb, hi', hm, hf⟩ | hb
    · simp only [nloop, hb, Option.bind_some]
      rw [nloop_run I μ f h n s' hi' (by omega), hf]
    · simp only [nloop, hb, Option.bind_some]

/-- A loop that counts from a number on: state (k, x), k < n goes on. -/
theorem wrap64 {x : Int} (h1 : -9223372036854775808 ≤ x) (h2 : x ≤ 9223372036854775807) : IntKind.wrap .i64 x = x := by
  simp only [IntKind.wrap, IntKind.bits, IntKind.signed]
  simp
  omega

theorem idx_lt {α : Type} {xs : List α} {k : Nat} (h : k < xs.length) : idx xs (k : Int) = some xs[k] := by simp [idx, h]
theorem inb_nat {k n : Nat} (h : k < n) : inb (k : Int) n = some k := by
  simp only [inb]
  rw [if_pos (by omega)]
  simp
theorem mk_nat {n : Nat} (h : n ≤ 1099511627776) : mk (n : Int) (n : Int) = some n := by
  simp only [mk]
  rw [if_pos (by omega)]
  simp
def arcX (l r l' r' : Int) : Bool := decide ((l < l' ∧ l' < r ∧ r < r') ∨ (l' < l ∧ l < r' ∧ r' < r))
theorem min_max {a b : Int} (h : a ≠ b) : imin a b < imax a b := by
  unfold imin imax
  split <;> split <;> omega

theorem toIntS_eq (xs : List Int) (h : xs.length ≤ 1048576) : laws_toIntS xs = some xs := by
  have hl := nloop_run (body := fun (s : Int × (List Int)) => ((laws_toIntS_n3 xs s.1 s.2).map (Sum.elim (fun (t : Int × (List Int)) => Sum.inl (t.1, t.2)) (fun (t : (List Int)) => Sum.inr t)) : Option ((Int × (List Int)) ⊕ (((List Int))))))
    (I := fun s => ∃ k : Nat, s.1 = k ∧ k ≤ xs.length ∧ s.2.length = xs.length) (μ := fun s => xs.length - s.1.toNat) (f := fun s => s.2.take s.1.toNat ++ xs.drop s.1.toNat)
    (by
      rintro ⟨_, out⟩ ⟨k, rfl, hk, ho⟩
      simp only at ho
      by_cases hlt : k < xs.length
      · left
        refine ⟨((k + 1 : Nat), out.set k xs[k]), ?_, ⟨k + 1, rfl, hlt, by simpa using ho⟩, by simp; omega, ?_⟩
        · simp only [laws_toIntS_n3]
          rw [show decide ((k : Int) < ((xs.length : Nat) : Int)) = true from decide_eq_true (by omega)]
          simp only [cond_true, idx_lt hlt, Option.bind_some, inb_nat (show k < out.length by omega)]
          rw [wrap64 (by omega) (by omega)]
          simp
        · simp only [Int.toNat_natCast]
          rw [List.take_set, List.take_add_one, List.getElem?_eq_getElem (by omega)]
          have hl : (out.take k).length = k := by simp; omega
          rw [List.set_append_right _ _ (by omega), hl]
          simp
      · right
        have e : k = xs.length := by omega
        subst e
        simp only [laws_toIntS_n3]
        rw [show decide (((xs.length : Nat) : Int) < ((xs.length : Nat) : Int)) = false from decide_eq_false (by omega)]
        simp [List.take_of_length_le (Nat.le_of_eq ho)])
  unfold laws_toIntS laws_toIntS_n9 laws_toIntS_n1 laws_toIntS_n8 laws_toIntS_n6 laws_toIntS_n2 laws_toIntS_n5 laws_toIntS_n4 laws_toIntS_n7
  rw [mk_nat (by omega)]
  simp only [Option.bind_some]
  rw [hl LL (0, List.replicate xs.length 0) ⟨0, by simp, by omega, by simp⟩ (by simp only [LL]; simp; omega)]
  simp

theorem drop_cons {α : Type} {xs : List α} {k : Nat} (h : k < xs.length) : xs.drop k = xs[k] :: xs.drop (k + 1) := List.drop_eq_getElem_cons h

theorem drop_beq {xs ys : List Int} {k : Nat} (h1 : k < xs.length) (h2 : k < ys.length) : (xs.drop k == ys.drop k) = (xs[k] == ys[k] && xs.drop (k + 1) == ys.drop (k + 1)) := by
  rw [drop_cons h1, drop_cons h2]
  rfl

theorem eqIntS_eq (xs ys : List Int) (h : xs.length ≤ 1048576) : laws_eqIntS xs ys = some (xs == ys) := by
  unfold laws_eqIntS laws_eqIntS_n9 laws_eqIntS_n1 laws_eqIntS_n8 laws_eqIntS_n6 laws_eqIntS_n5 laws_eqIntS_n4 laws_eqIntS_n2 laws_eqIntS_n7
  by_cases hl : xs.length = ys.length
  · have hloop := nloop_run (body := fun (s : Int) => ((laws_eqIntS_n3 xs ys s).map (Sum.elim (fun (t : Int) => Sum.inl t) (Sum.elim (fun (t : Bool) => Sum.inr (Sum.inl t)) (fun (t : Unit) => Sum.inr (Sum.inr t)))) : Option ((Int) ⊕ (Bool ⊕ Unit))))
      (I := fun s => ∃ k : Nat, s = k ∧ k ≤ xs.length) (μ := fun s => xs.length - s.toNat) (f := fun s => cond (xs.drop s.toNat == ys.drop s.toNat) (.inr ()) (.inl false))
      (by
        rintro _ ⟨k, rfl, hk⟩
        by_cases hlt : k < xs.length
        · have hlt' : k < ys.length := by omega
          simp only [laws_eqIntS_n3]
          rw [show decide ((k : Int) < ((xs.length : Nat) : Int)) = true from decide_eq_true (by omega)]
          simp only [cond_true, idx_lt hlt, idx_lt hlt', Option.bind_some, Int.toNat_natCast]
          rw [wrap64 (by omega) (by omega), drop_beq hlt hlt']
          by_cases he : xs[k] = ys[k]
          · left
            refine ⟨((k + 1 : Nat) : Int), by simp [he], ⟨k + 1, rfl, hlt⟩, by simp; omega, by simp [he]⟩
          · right
            have e1 : (xs[k] == ys[k]) = false := by simpa using he
            simp [bne, e1]
        · right
          have e : k = xs.length := by omega
          subst e
          simp only [laws_eqIntS_n3]
          rw [show decide (((xs.length : Nat) : Int) < ((xs.length : Nat) : Int)) = false from decide_eq_false (by omega)]
          simp [List.drop_of_length_le (Nat.le_of_eq hl.symm)])
    rw [show ((((xs.length : Nat) : Int)) != (((ys.length : Nat) : Int))) = false by simp [hl]]
    simp only [cond_false, Option.bind_some, Sum.elim_inl]
    rw [hloop LL 0 ⟨0, by simp, by omega⟩ (by simp only [LL]; simp; omega)]
    simp only [Int.toNat_zero, List.drop_zero]
    cases xs == ys <;> rfl
  · rw [show ((((xs.length : Nat) : Int)) != (((ys.length : Nat) : Int))) = true by simp; omega]
    have : (xs == ys) = false := by
      rw [beq_eq_false_iff_ne]
      exact fun e => hl (by rw [e])
    rw [this]; rfl

/-- From a word to the root, with so many steps at most: the root, and how many steps lead to it. -/
def climb (h : List Int) : Nat → Nat → Option (Nat × Nat)
  | 0, _ => none
  | f + 1, w => match h[w - 1]? with
    | none => none
    | some x => if x = 0 then some (w, 0) else (climb h f x.toNat).map fun p => (p.1, p.2 + 1)

def okHead (n : Nat) (x : Int) : Bool := decide (0 ≤ x) && decide (x ≤ n)

def inRange (h : List Int) : Bool := h.all (okHead h.length)

/-- The heads of a tree. -/
def treeB (h : List Int) : Bool :=
  decide (1 ≤ h.length) && decide (h.length ≤ 8) && inRange h && (h.count 0 == 1) && (List.range h.length).all fun k => (climb h h.length (k + 1)).isSome

theorem all_drop_cons {h : List Int} {p : Int → Bool} {k : Nat} (hk : k < h.length) : (h.drop k).all p = (p h[k] && (h.drop (k + 1)).all p) := by
  rw [drop_cons hk]; rfl

theorem count_drop_cons {h : List Int} {k : Nat} (hk : k < h.length) : (h.drop k).count 0 = (if h[k] = 0 then 1 else 0) + (h.drop (k + 1)).count 0 := by
  rw [drop_cons hk, List.count_cons]
  by_cases e : h[k] = 0 <;> simp [e] <;> omega

theorem oneRoot_eq (h : List Int) (hl : h.length ≤ 1048576) : impl_oneRoot h = some (inRange h && (h.count 0 == 1)) := by
  have hloop := nloop_run (body := fun (s : Int × Int) => ((impl_oneRoot_n3 h s.1 h.length s.2).map (Sum.elim (fun (t : Int × Int) => Sum.inl (t.1, t.2)) (Sum.elim (fun (t : Bool) => Sum.inr (Sum.inl t)) (fun (t : Int) => Sum.inr (Sum.inr t)))) : Option ((Int × Int) ⊕ (Bool ⊕ Int))))
    (I := fun s => ∃ k r : Nat, s = ((r : Int), (k : Int)) ∧ k ≤ h.length ∧ r ≤ k) (μ := fun s => h.length - s.2.toNat)
    (f := fun s => cond ((h.drop s.2.toNat).all (okHead h.length)) (.inr (s.1 + ((h.drop s.2.toNat).count 0 : Nat))) (.inl false))
    (by
      rintro _ ⟨k, r, rfl, hk, hr⟩
      by_cases hlt : k < h.length
      · simp only [impl_oneRoot_n3]
        rw [show decide ((k : Int) < ((h.length : Nat) : Int)) = true from decide_eq_true (by omega)]
        simp only [cond_true, idx_lt hlt, Option.bind_some, Int.toNat_natCast]
        rw [wrap64 (x := (k : Int) + 1) (by omega) (by omega), wrap64 (x := (r : Int) + 1) (by omega) (by omega), all_drop_cons hlt, count_drop_cons hlt]
        by_cases h1 : h[k] < 0
        · right
          have : okHead h.length h[k] = false := by simp [okHead]; omega
          simp [h1, this]
        · by_cases h2 : h[k] > (h.length : Int)
          · right
            have : okHead h.length h[k] = false := by simp [okHead]; omega
            simp [h1, h2, this]
          · left
            have hok : okHead h.length h[k] = true := by simp [okHead]; omega
            by_cases h3 : h[k] = 0
            · refine ⟨(((r + 1 : Nat) : Int), ((k + 1 : Nat) : Int)), ?_, ⟨k + 1, r + 1, rfl, hlt, by omega⟩, by simp; omega, ?_⟩
              · have h4 : decide ((h.length : Int) < 0) = false := decide_eq_false (by omega)
                simp [h3, h4]
              · have e : ((k + 1 : Nat) : Int).toNat = k + 1 := by simp
                rw [e, hok]
                simp only [h3, if_true, Bool.true_and]
                congr 2
                push_cast
                omega
            · refine ⟨((r : Int), ((k + 1 : Nat) : Int)), ?_, ⟨k + 1, r, rfl, hlt, by omega⟩, by simp; omega, ?_⟩
              · have e1 : (h[k] == 0) = false := by simpa using h3
                have e2 : decide (h[k] < 0) = false := decide_eq_false h1
                have e3 : decide (h[k] > (h.length : Int)) = false := decide_eq_false h2
                simp [e1, e2, e3]
              · have e : ((k + 1 : Nat) : Int).toNat = k + 1 := by simp
                rw [e, hok]
                simp [h3]
      · right
        have e : k = h.length := by omega
        subst e
        simp only [impl_oneRoot_n3]
        rw [show decide (((h.length : Nat) : Int) < ((h.length : Nat) : Int)) = false from decide_eq_false (by omega)]
        simp)
  unfold impl_oneRoot impl_oneRoot_n9 impl_oneRoot_n1 impl_oneRoot_n8 impl_oneRoot_n6 impl_oneRoot_n2 impl_oneRoot_n5 impl_oneRoot_n4
  simp only [Option.bind_some]
  rw [hloop LL (0, 0) ⟨0, 0, rfl, by omega, by omega⟩ (by simp only [LL]; simp; omega)]
  simp only [Int.toNat_zero, List.drop_zero]
  unfold inRange
  cases ha : h.all (okHead h.length) with
  | false => simp
  | true =>
    simp only [cond_true, Option.map_some, Sum.elim_inr, Option.bind_some, Sum.elim_inl, impl_oneRoot_n7, Bool.true_and]
    congr 1
    by_cases e : h.count 0 = 1
    · simp [e]
    · have e1 : ((0 : Int) + ((h.count 0 : Nat) : Int) == 1) = false := by rw [beq_eq_false_iff_ne]; omega
      have e2 : (h.count 0 == 1) = false := by rw [beq_eq_false_iff_ne]; exact e
      rw [e2]; exact e1

theorem inRange_get {h : List Int} (hr : inRange h = true) {k : Nat} (hk : k < h.length) : 0 ≤ h[k] ∧ h[k] ≤ h.length := by
  have := List.all_eq_true.1 hr h[k] (List.getElem_mem hk)
  simpa [okHead] using this

theorem up_eq (h : List Int) (k : Nat) (s : Nat) (hk : k < h.length) (hl : h.length ≤ 1048576) (hs : s ≤ h.length) :
    impl_walker_up h ((k + 1 : Nat) : Int) (s : Int) = some (if h[k] = 0 then (false, ((k + 1 : Nat) : Int), (s : Int)) else (true, h[k], ((s + 1 : Nat) : Int))) := by
  unfold impl_walker_up impl_walker_up_n1
  rw [wrap64 (by omega) (by omega), show ((k + 1 : Nat) : Int) - 1 = (k : Int) by omega, idx_lt hk]
  simp only [Option.bind_some]
  rw [wrap64 (by omega) (by omega)]
  by_cases e : h[k] = 0
  · simp [e]
  · have e1 : (h[k] == 0) = false := by simpa using e
    simp [e, e1]

theorem steps_eq (h : List Int) (hl : h.length ≤ 1048576) (hr : inRange h = true) (k : Nat) (hk : k < h.length) :
    impl_stepsToRoot h ((k + 1 : Nat) : Int) = some (match climb h h.length (k + 1) with | some p => ((p.2 : Int), true) | none => (0, false)) := by
  have hloop := nloop_run (body := fun (s : Int × Int) => ((impl_stepsToRoot_n2 h s.1 s.2).map (Sum.elim (fun (t : Int × Int) => Sum.inl (t.1, t.2)) (Sum.elim (fun (t : Int × Bool) => Sum.inr (Sum.inl t)) (fun (t : Int × Int) => Sum.inr (Sum.inr t)))) : Option ((Int × Int) ⊕ ((Int × Bool) ⊕ (Int × Int)))))
    (I := fun s => ∃ k i : Nat, s = (((k + 1 : Nat) : Int), (i : Int)) ∧ k < h.length ∧ i < h.length) (μ := fun s => h.length - s.2.toNat)
    (f := fun s => match climb h (h.length - s.2.toNat) s.1.toNat with | some p => .inr ((p.1 : Int), s.2 + (p.2 : Int)) | none => .inl (0, false))
    (by
      rintro _ ⟨k, i, rfl, hk, hi⟩
      simp only [impl_stepsToRoot_n2]
      rw [up_eq h k i hk hl (by omega)]
      obtain ⟨hr1, hr2⟩ := inRange_get hr hk
      have hf : h.length - i = (h.length - i - 1) + 1 := by omega
      have hg : h[k + 1 - 1]? = some h[k] := by simp [hk]
      have hcl : climb h (h.length - i) (k + 1) = if h[k] = 0 then some (k + 1, 0) else (climb h (h.length - i - 1) h[k].toNat).map fun p => (p.1, p.2 + 1) := by
        rw [hf]; simp only [climb, hg]; simp
      simp only [Option.bind_some, Int.toNat_natCast]
      rw [hcl]
      by_cases e : h[k] = 0
      · right
        simp [e]
      · simp only [e, if_false, cond_true]
        by_cases hlast : i + 1 ≥ h.length
        · right
          have h0 : h.length - i - 1 = 0 := by omega
          have hd : decide (((i + 1 : Nat) : Int) ≥ ((h.length : Nat) : Int)) = true := decide_eq_true (by omega)
          simp only [hd, h0, climb]
          simp
        · left
          have hd : decide (((i + 1 : Nat) : Int) ≥ ((h.length : Nat) : Int)) = false := decide_eq_false (by omega)
          refine ⟨(h[k], ((i + 1 : Nat) : Int)), by simp only [hd]; simp, ⟨h[k].toNat - 1, i + 1, by
            have : ((h[k].toNat - 1 + 1 : Nat) : Int) = h[k] := by omega
            rw [this], by omega, by omega⟩, by simp; omega, ?_⟩
          have e2 : h.length - ((i + 1 : Nat) : Int).toNat = h.length - i - 1 := by simp; omega
          simp only [e2]
          cases climb h (h.length - i - 1) h[k].toNat with
          | none => rfl
          | some p => simp; omega)
  unfold impl_stepsToRoot impl_stepsToRoot_n7 impl_stepsToRoot_n1 impl_stepsToRoot_n6 impl_stepsToRoot_n4 impl_stepsToRoot_n3
  simp only [Option.bind_some]
  rw [hloop LL (((k + 1 : Nat) : Int), 0) ⟨k, 0, rfl, hk, by omega⟩ (by simp only [LL]; simp; omega)]
  simp only [Int.toNat_natCast, Int.toNat_zero, Nat.sub_zero]
  cases climb h h.length (k + 1) with
  | none => simp
  | some p => simp [impl_stepsToRoot_n5]

theorem implTree_eq (h : List Int) : impl_TreeOk h = some (treeB h) := by
  unfold impl_TreeOk impl_TreeOk_n9 impl_TreeOk_n1 impl_TreeOk_n8 impl_TreeOk_n6 impl_TreeOk_n2 impl_TreeOk_n5 impl_TreeOk_n4
  unfold treeB
  by_cases h1 : h.length < 1
  · have e : decide (1 ≤ h.length) = false := decide_eq_false (by omega)
    have e2 : decide ((((h.length : Nat) : Int)) < 1) = true := decide_eq_true (by omega)
    simp [e, e2]
  · have e1 : decide ((((h.length : Nat) : Int)) < 1) = false := decide_eq_false (by omega)
    have e1' : decide (1 ≤ h.length) = true := decide_eq_true (by omega)
    by_cases h2 : h.length > 8
    · have e : decide (h.length ≤ 8) = false := decide_eq_false (by omega)
      have e2 : decide ((((h.length : Nat) : Int)) > 8) = true := decide_eq_true (by omega)
      simp only [e1, e2, e]
      simp
    · have e2 : decide ((((h.length : Nat) : Int)) > 8) = false := decide_eq_false (by omega)
      have e2' : decide (h.length ≤ 8) = true := decide_eq_true (by omega)
      simp only [e1, e2, e1', e2', cond_false, oneRoot_eq h (by omega), Option.bind_some, Bool.true_and]
      cases hr : inRange h with
      | false => simp
      | true =>
        cases hc : (h.count 0 == 1) with
        | false => simp
        | true =>
          simp only [Bool.true_and, Bool.not_true, cond_false, Option.bind_some, Sum.elim_inl]
          have hloop := nloop_run (body := fun (s : Int) => ((impl_TreeOk_n3 h h.length s).map (Sum.elim (fun (t : Int) => Sum.inl t) (Sum.elim (fun (t : Bool) => Sum.inr (Sum.inl t)) (fun (t : Unit) => Sum.inr (Sum.inr t)))) : Option ((Int) ⊕ (Bool ⊕ Unit))))
            (I := fun s => ∃ k : Nat, s = (k : Int) ∧ k ≤ h.length) (μ := fun s => h.length - s.toNat)
            (f := fun s => cond (((List.range h.length).drop s.toNat).all fun k => (climb h h.length (k + 1)).isSome) (.inr ()) (.inl false))
            (by
              rintro _ ⟨k, rfl, hk⟩
              by_cases hlt : k < h.length
              · simp only [impl_TreeOk_n3]
                rw [show decide ((k : Int) < ((h.length : Nat) : Int)) = true from decide_eq_true (by omega)]
                rw [wrap64 (x := (k : Int) + 1) (by omega) (by omega), show (k : Int) + 1 = ((k + 1 : Nat) : Int) by omega, steps_eq h (by omega) hr k hlt]
                simp only [cond_true, Option.bind_some, Int.toNat_natCast]
                have hd : (List.range h.length).drop k = k :: (List.range h.length).drop (k + 1) := by
                  rw [List.drop_eq_getElem_cons (by simpa using hlt)]
                  simp
                rw [hd]
                simp only [List.all_cons]
                cases hcl : climb h h.length (k + 1) with
                | none => right; simp
                | some p =>
                  left
                  refine ⟨((k + 1 : Nat) : Int), by simp, ⟨k + 1, rfl, hlt⟩, by simp; omega, by simp⟩
              · right
                have e : k = h.length := by omega
                subst e
                simp only [impl_TreeOk_n3]
                rw [show decide (((h.length : Nat) : Int) < ((h.length : Nat) : Int)) = false from decide_eq_false (by omega)]
                simp [List.drop_of_length_le (show (List.range h.length).length ≤ h.length by simp)])
          rw [hloop LL 0 ⟨0, rfl, by omega⟩ (by simp only [LL]; simp; omega)]
          simp only [Int.toNat_zero, List.drop_zero]
          cases ((List.range h.length).all fun k => (climb h h.length (k + 1)).isSome) <;> rfl

theorem l1In_eq (a b c : Int) : spec_l1In a b c = some (decide (b ≤ a) && decide (a ≤ c)) := by
  unfold spec_l1In spec_l1In_n1
  by_cases h : a ≥ b
  · have e : decide (a ≥ b) = true := decide_eq_true h
    rw [e]; rfl
  · have e : decide (a ≥ b) = false := decide_eq_false h
    rw [e]; rfl

/-- The model's way from a word upwards. -/
def goUp (h : List Int) : Nat → Int → Bool ⊕ Int
  | 0, a => .inr a
  | f + 1, a => if 0 < a then (match h[a.toNat - 1]? with
      | some x => if okHead h.length x then goUp h f x else .inl false
      | none => .inl false) else .inr a

theorem inner_eq (h : List Int) (hl : h.length ≤ 8) (a : Int) (ha0 : 0 ≤ a) (ha : a ≤ h.length) : spec_TreeOk_n7 h h.length a = some (goUp h h.length a) := by
  unfold spec_TreeOk_n7
  have hloop := nloop_run (body := fun (s : Int × Int) => ((spec_TreeOk_n6 h h.length s.1 s.2).map (Sum.elim (fun (t : Int × Int) => Sum.inl (t.1, t.2)) (Sum.elim (fun (t : Bool) => Sum.inr (Sum.inl t)) (fun (t : Int) => Sum.inr (Sum.inr t)))) : Option ((Int × Int) ⊕ (Bool ⊕ Int))))
    (I := fun s => ∃ k i : Nat, s = ((k : Int), (i : Int)) ∧ k ≤ h.length ∧ i ≤ h.length) (μ := fun s => h.length - s.2.toNat)
    (f := fun s => goUp h (h.length - s.2.toNat) s.1)
    (by
      rintro _ ⟨k, i, rfl, hk, hi⟩
      simp only [spec_TreeOk_n6, Int.toNat_natCast]
      by_cases h1 : 0 < k
      · have e1 : decide ((k : Int) > 0) = true := decide_eq_true (by omega)
        by_cases h2 : i < h.length
        · have e2 : decide ((i : Int) < ((h.length : Nat) : Int)) = true := decide_eq_true (by omega)
          have hk' : k - 1 < h.length := by omega
          rw [e1, e2, wrap64 (x := (k : Int) - 1) (by omega) (by omega), show (k : Int) - 1 = ((k - 1 : Nat) : Int) by omega, idx_lt hk', wrap64 (x := (i : Int) + 1) (by omega) (by omega)]
          simp only [cond_true, Option.bind_some, l1In_eq]
          have hf : h.length - i = (h.length - i - 1) + 1 := by omega
          have hg : goUp h (h.length - i) (k : Int) = if okHead h.length h[k - 1] then goUp h (h.length - i - 1) h[k - 1] else .inl false := by
            rw [hf]
            simp only [goUp]
            rw [if_pos (by omega)]
            simp [hk']
          rw [hg]
          by_cases h3 : okHead h.length h[k - 1] = true
          · left
            have h3' := h3
            simp only [okHead, Bool.and_eq_true, decide_eq_true_eq] at h3'
            refine ⟨(h[k - 1], ((i + 1 : Nat) : Int)), ?_, ⟨h[k - 1].toNat, i + 1, by
              have : ((h[k - 1].toNat : Nat) : Int) = h[k - 1] := by omega
              rw [this], by omega, by omega⟩, by simp; omega, ?_⟩
            · have e4 : (decide ((0 : Int) ≤ h[k - 1]) && decide (h[k - 1] ≤ ((h.length : Nat) : Int))) = true := h3
              rw [e4]; simp
            · have e5 : h.length - ((i + 1 : Nat) : Int).toNat = h.length - i - 1 := by simp; omega
              simp only [e5, h3, if_true]
          · right
            have h3' : okHead h.length h[k - 1] = false := by simpa using h3
            have e4 : (decide ((0 : Int) ≤ h[k - 1]) && decide (h[k - 1] ≤ ((h.length : Nat) : Int))) = false := h3'
            rw [e4]
            simp [h3']
        · right
          have e2 : decide ((i : Int) < ((h.length : Nat) : Int)) = false := decide_eq_false (by omega)
          have h0 : h.length - i = 0 := by omega
          rw [e1, e2, h0]
          simp [goUp]
      · right
        have hk0 : k = 0 := by omega
        subst hk0
        have e1 : decide (((0 : Nat) : Int) > 0) = false := by simp
        rw [e1]
        cases h.length - i <;> simp [goUp])
  exact hloop LL (a, 0) ⟨a.toNat, 0, by
    have : ((a.toNat : Nat) : Int) = a := by omega
    rw [this]; rfl, by omega, by omega⟩ (by simp only [LL]; simp; omega)

theorem goUp_climb {h : List Int} (hr : inRange h = true) : ∀ (f k : Nat), k < h.length → goUp h f ((k + 1 : Nat) : Int) = (if (climb h f (k + 1)).isSome then .inr 0 else goUp h f ((k + 1 : Nat) : Int)) ∧
    ((climb h f (k + 1)).isSome = false → ∃ a : Int, 0 < a ∧ goUp h f ((k + 1 : Nat) : Int) = .inr a)
  | 0, k, hk => by
    refine ⟨by simp [climb], fun _ => ⟨((k + 1 : Nat) : Int), by omega, rfl⟩⟩
  | f + 1, k, hk => by
    obtain ⟨h1, h2⟩ := inRange_get hr hk
    have hok : okHead h.length h[k] = true := by simp [okHead]; omega
    have hg : goUp h (f + 1) ((k + 1 : Nat) : Int) = goUp h f h[k] := by
      simp only [goUp]
      rw [if_pos (by omega)]
      simp [hk, hok]
    have hc : climb h (f + 1) (k + 1) = if h[k] = 0 then some (k + 1, 0) else (climb h f h[k].toNat).map fun p => (p.1, p.2 + 1) := by
      simp [climb, hk]
    rw [hg, hc]
    by_cases e : h[k] = 0
    · have : goUp h f 0 = .inr 0 := by cases f <;> simp [goUp]
      simp [e, this]
    · obtain ⟨j, hj⟩ : ∃ j : Nat, h[k] = ((j + 1 : Nat) : Int) := ⟨h[k].toNat - 1, by omega⟩
      have ih := goUp_climb hr f j (by omega)
      rw [hj]
      have ne : ¬ ((j + 1 : Nat) : Int) = 0 := by omega
      simp only [ne, if_false, Int.toNat_natCast, Option.isSome_map]
      exact ih

/-- What is asked of one word. -/
def wordOk1 (h : List Int) (k : Nat) : Bool := match h[k]? with
  | some x => okHead h.length x && !(x == ((k + 1 : Nat) : Int)) && (match goUp h h.length ((k + 1 : Nat) : Int) with | .inr a => !decide (a > 0) | .inl _ => false)
  | none => false

theorem specTree_eq0 (h : List Int) : spec_TreeOk h = some (decide (1 ≤ h.length) && decide (h.length ≤ 8) && (List.range h.length).all (wordOk1 h) && (h.count 0 == 1)) := by
  unfold spec_TreeOk spec_TreeOk_n22 spec_TreeOk_n1
  rw [l1In_eq]
  by_cases h1 : (decide ((1 : Int) ≤ ((h.length : Nat) : Int)) && decide (((h.length : Nat) : Int) ≤ 8)) = true
  · have h1' := h1
    simp only [Bool.and_eq_true, decide_eq_true_eq] at h1'
    have e1 : decide (1 ≤ h.length) = true := decide_eq_true (by omega)
    have e2 : decide (h.length ≤ 8) = true := decide_eq_true (by omega)
    simp only [h1, e1, e2, Option.bind_some, Bool.not_true, cond_false, Sum.elim_inl, Bool.true_and]
    unfold spec_TreeOk_n21 spec_TreeOk_n19 spec_TreeOk_n2 spec_TreeOk_n18 spec_TreeOk_n17
    have hloop := nloop_run (body := fun (s : Int × Int) => ((spec_TreeOk_n16 h h.length s.1 s.2).map (Sum.elim (fun (t : Int × Int) => Sum.inl (t.1, t.2)) (Sum.elim (fun (t : Bool) => Sum.inr (Sum.inl t)) (fun (t : Int) => Sum.inr (Sum.inr t)))) : Option ((Int × Int) ⊕ (Bool ⊕ Int))))
      (I := fun s => ∃ k r : Nat, s = ((r : Int), (k : Int)) ∧ k ≤ h.length ∧ r ≤ k) (μ := fun s => h.length - s.2.toNat)
      (f := fun s => cond (((List.range h.length).drop s.2.toNat).all (wordOk1 h)) (.inr (s.1 + ((h.drop s.2.toNat).count 0 : Nat))) (.inl false))
      (by
        rintro _ ⟨k, r, rfl, hk, hr⟩
        by_cases hlt : k < h.length
        · have hd : (List.range h.length).drop k = k :: (List.range h.length).drop (k + 1) := by
            rw [List.drop_eq_getElem_cons (by simpa using hlt)]
            simp
          simp only [spec_TreeOk_n16, spec_TreeOk_n3, Int.toNat_natCast]
          rw [show decide ((k : Int) < ((h.length : Nat) : Int)) = true from decide_eq_true (by omega)]
          simp only [cond_true, Option.bind_some, Sum.elim_inl]
          unfold spec_TreeOk_n15 spec_TreeOk_n13 spec_TreeOk_n12 spec_TreeOk_n4 spec_TreeOk_n14 spec_TreeOk_n11 spec_TreeOk_n9 spec_TreeOk_n5 spec_TreeOk_n8 spec_TreeOk_n10
          have hw : IntKind.wrap .i64 ((k : Int) + 1) = ((k + 1 : Nat) : Int) := by rw [wrap64 (by omega) (by omega)]; omega
          have hw2 : IntKind.wrap .i64 ((r : Int) + 1) = ((r + 1 : Nat) : Int) := by rw [wrap64 (by omega) (by omega)]; omega
          simp only [idx_lt hlt, Option.bind_some, l1In_eq, hw, hw2]
          rw [hd, List.all_cons, count_drop_cons hlt]
          have hwk : wordOk1 h k = (okHead h.length h[k] && !(h[k] == ((k + 1 : Nat) : Int)) && (match goUp h h.length ((k + 1 : Nat) : Int) with | .inr a => !decide (a > 0) | .inl _ => false)) := by
            simp [wordOk1, hlt]
          have hin := inner_eq h (by omega) ((k + 1 : Nat) : Int) (by omega) (by omega)
          rw [hwk]
          cases h3 : okHead h.length h[k] with
          | false =>
            right
            have e4 : (decide ((0 : Int) ≤ h[k]) && decide (h[k] ≤ ((h.length : Nat) : Int))) = false := h3
            rw [e4]; simp
          | true =>
            have e4 : (decide ((0 : Int) ≤ h[k]) && decide (h[k] ≤ ((h.length : Nat) : Int))) = true := h3
            rw [e4]
            simp only [Bool.not_true, cond_false, Bool.true_and]
            cases h5 : (h[k] == ((k + 1 : Nat) : Int)) with
            | true => right; simp
            | false =>
              simp only [cond_false, Bool.not_false, Bool.true_and]
              by_cases h6 : h[k] = 0
              · simp only [h6, beq_self_eq_true, cond_true, Option.bind_some, Sum.elim_inl, Option.map_some, hin, if_true]
                cases h7 : goUp h h.length ((k + 1 : Nat) : Int) with
                | inl b =>
                  right
                  have : b = false := by
                    have key : ∀ f a b, goUp h f a = .inl b → b = false := by
                      intro f
                      induction f with
                      | zero => intro a b hh; simp [goUp] at hh
                      | succ f ih =>
                        intro a b hh
                        simp only [goUp] at hh
                        split at hh
                        · split at hh
                          · split at hh
                            · exact ih _ _ hh
                            · simpa using hh.symm
                          · simpa using hh.symm
                        · cases hh
                    exact key _ _ _ h7
                  subst this
                  simp
                | inr a =>
                  by_cases h8 : a > 0
                  · right
                    simp [h8]
                  · left
                    refine ⟨(((r + 1 : Nat) : Int), ((k + 1 : Nat) : Int)), by simp [h8], ⟨k + 1, r + 1, rfl, hlt, by omega⟩, by simp; omega, ?_⟩
                    have e : ((k + 1 : Nat) : Int).toNat = k + 1 := by simp
                    simp only [e, h8, decide_false, Bool.not_false, Bool.true_and]
                    congr 2
                    push_cast
                    omega
              · have e9 : (h[k] == 0) = false := by simpa using h6
                simp only [e9, cond_false, Option.bind_some, Sum.elim_inl, Option.map_some, hin, h6, if_false]
                cases h7 : goUp h h.length ((k + 1 : Nat) : Int) with
                | inl b =>
                  right
                  have : b = false := by
                    have key : ∀ f a b, goUp h f a = .inl b → b = false := by
                      intro f
                      induction f with
                      | zero => intro a b hh; simp [goUp] at hh
                      | succ f ih =>
                        intro a b hh
                        simp only [goUp] at hh
                        split at hh
                        · split at hh
                          · split at hh
                            · exact ih _ _ hh
                            · simpa using hh.symm
                          · simpa using hh.symm
                        · cases hh
                    exact key _ _ _ h7
                  subst this
                  simp
                | inr a =>
                  by_cases h8 : a > 0
                  · right
                    simp [h8]
                  · left
                    refine ⟨((r : Int), ((k + 1 : Nat) : Int)), by simp [h8], ⟨k + 1, r, rfl, hlt, by omega⟩, by simp; omega, ?_⟩
                    have e : ((k + 1 : Nat) : Int).toNat = k + 1 := by simp
                    simp only [e, h8, decide_false, Bool.not_false, Bool.true_and]
                    congr 2
                    omega
        · right
          have e : k = h.length := by omega
          subst e
          simp only [spec_TreeOk_n16, spec_TreeOk_n3]
          rw [show decide (((h.length : Nat) : Int) < ((h.length : Nat) : Int)) = false from decide_eq_false (by omega)]
          simp [List.drop_of_length_le (show (List.range h.length).length ≤ h.length by simp)])
    simp only [Option.bind_some]
    rw [hloop LL (0, 0) ⟨0, 0, rfl, by omega, by omega⟩ (by simp only [LL]; simp; omega)]
    simp only [Int.toNat_zero, List.drop_zero, Option.bind_some]
    cases (List.range h.length).all (wordOk1 h) with
    | false => simp
    | true =>
      simp only [cond_true, Option.map_some, Sum.elim_inr, Option.bind_some, Sum.elim_inl, spec_TreeOk_n20, Bool.true_and]
      congr 1
      by_cases e : h.count 0 = 1
      · simp [e]
      · have e1 : ((0 : Int) + ((h.count 0 : Nat) : Int) == 1) = false := by rw [beq_eq_false_iff_ne]; omega
        have e2 : (h.count 0 == 1) = false := by rw [beq_eq_false_iff_ne]; exact e
        rw [e2]; exact e1
  · have h1' : (decide ((1 : Int) ≤ ((h.length : Nat) : Int)) && decide (((h.length : Nat) : Int) ≤ 8)) = false := by simpa using h1
    have e : (decide (1 ≤ h.length) && decide (h.length ≤ 8)) = false := by
      simp only [Bool.and_eq_true, decide_eq_true_eq] at h1
      simp only [Bool.and_eq_false_iff, decide_eq_false_iff_not]
      omega
    rw [h1']
    simp [e]

theorem specTree_eq (h : List Int) : spec_TreeOk h = some (treeB h) := by
  rw [specTree_eq0]
  congr 1
  unfold treeB
  have key : (List.range h.length).all (wordOk1 h) = (inRange h && (List.range h.length).all fun k => (climb h h.length (k + 1)).isSome) := by
    cases hr : inRange h with
    | false =>
      rw [Bool.false_and, List.all_eq_false]
      have : ¬ ∀ x ∈ h, okHead h.length x = true := fun hh => by
        have : inRange h = true := List.all_eq_true.2 hh
        rw [hr] at this; cases this
      have ⟨x, hx⟩ := Classical.not_forall.1 this
      have ⟨hm, hb⟩ := Classical.not_imp.1 hx
      obtain ⟨k, hk, rfl⟩ := List.getElem_of_mem hm
      refine ⟨k, by simpa using hk, ?_⟩
      simp [wordOk1, hk, hb]
    | true =>
      rw [Bool.true_and, Bool.eq_iff_iff, List.all_eq_true, List.all_eq_true]
      constructor
      · intro hh k hk
        have hk' : k < h.length := by simpa using hk
        have h1 := hh k hk
        cases hc : (climb h h.length (k + 1)).isSome with
        | true => rfl
        | false =>
          obtain ⟨a, ha, hg⟩ := (goUp_climb hr h.length k hk').2 hc
          have hg' : goUp h h.length ((k : Int) + 1) = .inr a := hg
          simp [wordOk1, hk', hg', ha] at h1
      · intro hh k hk
        have hk' : k < h.length := by simpa using hk
        have h1 := hh k hk
        have h2 := (goUp_climb hr h.length k hk').1
        rw [if_pos h1] at h2
        obtain ⟨h3, h4⟩ := inRange_get hr hk'
        have hok : okHead h.length h[k] = true := by simp [okHead]; omega
        have hself : ¬ h[k] = ((k + 1 : Nat) : Int) := fun e => by
          -- a word that is its own head never comes to the root
          have none : ∀ f, climb h f (k + 1) = none := by
            intro f
            induction f with
            | zero => rfl
            | succ f ih =>
              simp only [climb]
              have : h[k + 1 - 1]? = some h[k] := by simp [hk']
              rw [this]
              simp only
              rw [if_neg (by omega), e]
              simp [ih]
          rw [none] at h1
          cases h1
        have h2' : goUp h h.length ((k : Int) + 1) = .inr 0 := h2
        have hself' : ¬ h[k] = (k : Int) + 1 := hself
        simp [wordOk1, hk', hok, h2', hself']
  rw [key]
  cases inRange h <;> simp [Bool.and_comm, Bool.and_assoc, Bool.and_left_comm]

theorem climb_mono {h : List Int} : ∀ {f w : Nat} {p : Nat × Nat}, climb h f w = some p → climb h (f + 1) w = some p
  | 0, w, p, e => by simp [climb] at e
  | f + 1, w, p, e => by
    simp only [climb] at e
    rw [climb]
    split at e
    · cases e
    · rename_i x hx
      split at e
      · rename_i h0
        simp only [h0, if_true]; exact e
      · rename_i h0
        simp only [h0, if_false]
        obtain ⟨q, hq, rfl⟩ := Option.map_eq_some_iff.1 e
        rw [climb_mono hq]; rfl

theorem climb_le {h : List Int} {f g w : Nat} {p : Nat × Nat} (hfg : f ≤ g) (e : climb h f w = some p) : climb h g w = some p := by
  induction hfg with
  | refl => exact e
  | step _ ih => exact climb_mono ih

theorem climb_lt {h : List Int} : ∀ {f w : Nat} {p : Nat × Nat}, climb h f w = some p → p.2 < f
  | 0, w, p, e => by simp [climb] at e
  | f + 1, w, p, e => by
    simp only [climb] at e
    split at e
    · cases e
    · split at e
      · cases e; simp
      · obtain ⟨q, hq, rfl⟩ := Option.map_eq_some_iff.1 e
        have := climb_lt hq
        simp; omega

theorem climb_root {h : List Int} : ∀ {f w : Nat} {p : Nat × Nat}, climb h f w = some p → h[p.1 - 1]? = some 0
  | 0, w, p, e => by simp [climb] at e
  | f + 1, w, p, e => by
    simp only [climb] at e
    split at e
    · cases e
    · rename_i x hx
      split at e
      · rename_i h0
        cases e
        rw [hx, h0]
      · obtain ⟨q, hq, rfl⟩ := Option.map_eq_some_iff.1 e
        show h[q.1 - 1]? = some 0
        exact climb_root hq

theorem climb_pos {h : List Int} (hr : inRange h = true) : ∀ {f w : Nat} {p : Nat × Nat}, 1 ≤ w → climb h f w = some p → 1 ≤ p.1
  | 0, w, p, _, e => by simp [climb] at e
  | f + 1, w, p, hw, e => by
    simp only [climb] at e
    split at e
    · cases e
    · rename_i x hx
      split at e
      · cases e; exact hw
      · rename_i h0
        obtain ⟨q, hq, rfl⟩ := Option.map_eq_some_iff.1 e
        obtain ⟨hlt, hx'⟩ := List.getElem?_eq_some_iff.1 hx
        have := inRange_get hr hlt
        show 1 ≤ q.1
        exact climb_pos hr (by rw [hx'] at this; omega) hq

/-- What a tree is. -/
structure Tree (h : List Int) : Prop where
  pos : 1 ≤ h.length
  le : h.length ≤ 8
  rng : inRange h = true
  one : h.count 0 = 1
  way : ∀ k, k < h.length → (climb h h.length (k + 1)).isSome = true

theorem tree_iff (h : List Int) : treeB h = true ↔ Tree h := by
  unfold treeB
  simp only [Bool.and_eq_true, decide_eq_true_eq, beq_iff_eq, List.all_eq_true]
  constructor
  · rintro ⟨⟨⟨⟨h1, h2⟩, h3⟩, h4⟩, h5⟩
    exact ⟨h1, h2, h3, h4, fun k hk => h5 k (by simpa using hk)⟩
  · rintro ⟨h1, h2, h3, h4, h5⟩
    exact ⟨⟨⟨⟨h1, h2⟩, h3⟩, h4⟩, fun k hk => h5 k (by simpa using hk)⟩

/-- The head of a word, both from 1 on; 0 for none. -/
def hd (h : List Int) (w : Nat) : Nat := (h.getD (w - 1) 0).toNat

/-- How deep a word is. -/
def dep (h : List Int) (w : Nat) : Nat := ((climb h h.length w).getD (0, 0)).2
def top (h : List Int) : Nat := h.idxOf 0 + 1
theorem top_pos (h : List Int) : 1 ≤ top h := by simp [top]

section
variable {h : List Int} (T : Tree h)
include T

theorem Tree.get {w : Nat} (h1 : 1 ≤ w) (h2 : w ≤ h.length) : h[w - 1]? = some ((hd h w : Nat) : Int) := by
  have hk : w - 1 < h.length := by omega
  have := inRange_get T.rng hk
  rw [List.getElem?_eq_getElem hk, hd, List.getD_eq_getElem?_getD, List.getElem?_eq_getElem hk]
  simp only [Option.getD_some, Option.some.injEq]
  omega

theorem Tree.hd_le {w : Nat} (h1 : 1 ≤ w) (h2 : w ≤ h.length) : hd h w ≤ h.length := by
  have hk : w - 1 < h.length := by omega
  have := inRange_get T.rng hk
  rw [hd, List.getD_eq_getElem?_getD, List.getElem?_eq_getElem hk]
  simp only [Option.getD_some]
  omega

theorem Tree.top_lt : h.idxOf 0 < h.length := by
  rw [List.idxOf_lt_length_iff]
  exact List.count_pos_iff.1 (by rw [T.one]; omega)

theorem Tree.top_le : top h ≤ h.length := T.top_lt

/-- Just one word has no head. -/
theorem Tree.root_unique {i : Nat} (hi : h[i]? = some 0) : i = h.idxOf 0 := by
  have hlt := T.top_lt
  have h0 : h[h.idxOf 0]? = some 0 := by rw [List.getElem?_eq_getElem hlt]; simp
  -- two places would count twice
  have two : ∀ (l : List Int) (i j : Nat), i < j → l[i]? = some 0 → l[j]? = some 0 → 2 ≤ l.count 0 := by
    intro l
    induction l with
    | nil => intro i j _ h1; simp at h1
    | cons a r ih =>
      intro i j hij h1 h2
      cases j with
      | zero => omega
      | succ j =>
        rw [List.count_cons]
        cases i with
        | zero =>
          simp at h1 h2
          have : 0 < r.count 0 := List.count_pos_iff.2 (List.mem_of_getElem? h2)
          rw [h1]
          simp only [beq_self_eq_true, if_true]
          omega
        | succ i =>
          simp at h1 h2
          have := ih i j (by omega) h1 h2
          omega
  rcases Nat.lt_trichotomy i (h.idxOf 0) with hl | he | hg
  · have := two h i _ hl hi h0; have := T.one; omega
  · exact he
  · have := two h _ i hg h0 hi; have := T.one; omega

theorem Tree.hd_zero {w : Nat} (h1 : 1 ≤ w) (h2 : w ≤ h.length) : hd h w = 0 ↔ w = top h := by
  have hg := T.get h1 h2
  constructor
  · intro e
    rw [e] at hg
    have := T.root_unique hg
    unfold top; omega
  · intro e
    have hlt := T.top_lt
    have h0 : h[h.idxOf 0]? = some 0 := by rw [List.getElem?_eq_getElem hlt]; simp
    have : w - 1 = h.idxOf 0 := by unfold top at e; omega
    rw [this, h0] at hg
    simp at hg
    omega

theorem Tree.climb_some {w : Nat} (h1 : 1 ≤ w) (h2 : w ≤ h.length) : climb h h.length w = some (top h, dep h w) := by
  have hs := T.way (w - 1) (by omega)
  rw [show w - 1 + 1 = w by omega] at hs
  obtain ⟨p, hp⟩ := Option.isSome_iff_exists.1 hs
  have hr := climb_root hp
  have h3 := T.root_unique hr
  have h4 := climb_pos T.rng h1 hp
  have e1 : p.1 = top h := by unfold top; omega
  have e2 : dep h w = p.2 := by simp [dep, hp]
  rw [hp, e2, ← e1]

theorem Tree.dep_lt {w : Nat} (h1 : 1 ≤ w) (h2 : w ≤ h.length) : dep h w < h.length := by
  have := climb_lt (T.climb_some h1 h2)
  exact this

theorem Tree.dep_top : dep h (top h) = 0 := by
  have h1 := T.climb_some (top_pos h) T.top_le
  have hg := T.get (top_pos h) T.top_le
  rw [(T.hd_zero (top_pos h) T.top_le).2 rfl] at hg
  obtain ⟨n, hn⟩ : ∃ n, h.length = n + 1 := ⟨h.length - 1, by have := T.pos; omega⟩
  rw [hn] at h1
  simp only [climb, hg] at h1
  simp at h1
  exact h1.symm

theorem Tree.dep_step {w : Nat} (h1 : 1 ≤ w) (h2 : w ≤ h.length) (h3 : hd h w ≠ 0) : dep h w = dep h (hd h w) + 1 := by
  have hc := T.climb_some h1 h2
  have hg := T.get h1 h2
  have hc2 := T.climb_some (w := hd h w) (by omega) (T.hd_le h1 h2)
  obtain ⟨n, hn⟩ : ∃ n, h.length = n + 1 := ⟨h.length - 1, by have := T.pos; omega⟩
  rw [hn] at hc
  simp only [climb, hg] at hc
  rw [if_neg (by omega)] at hc
  simp only [Int.toNat_natCast] at hc
  obtain ⟨q, hq, e⟩ := Option.map_eq_some_iff.1 hc
  have hq2 := climb_le (show n ≤ h.length by omega) hq
  rw [hc2] at hq2
  cases hq2
  simp at e
  exact e.symm

theorem Tree.dep_zero {w : Nat} (h1 : 1 ≤ w) (h2 : w ≤ h.length) : dep h w = 0 ↔ w = top h := by
  constructor
  · intro e
    by_cases h3 : hd h w = 0
    · exact (T.hd_zero h1 h2).1 h3
    · have := T.dep_step h1 h2 h3; omega
  · intro e; rw [e]; exact T.dep_top

end

theorem nloop_to {σ ω : Type} {body : σ → Option (σ ⊕ ω)} (S : Nat → σ) (n : Nat) (w : ω) (hs : ∀ k, k < n → body (S k) = some (.inl (S (k + 1)))) (he : body (S n) = some (.inr w)) :
    ∀ (N : Nat), n < N → nloop body N (S 0) = some w := by
  have key : ∀ (m k N : Nat), k + m = n → m < N → nloop body N (S k) = some w := by
    intro m
    induction m with
    | zero =>
      intro k N hk hN
      obtain ⟨N', rfl⟩ : ∃ N', N = N' + 1 := ⟨N - 1, by omega⟩
      have : k = n := by omega
      subst this
      simp only [nloop, he, Option.bind_some]
    | succ m ih =>
      intro k N hk hN
      obtain ⟨N', rfl⟩ : ∃ N', N = N' + 1 := ⟨N - 1, by omega⟩
      simp only [nloop, hs k (by omega), Option.bind_some]
      exact ih (k + 1) N' (by omega) (by omega)
  intro N hN
  exact key n 0 N (by omega) hN

/-- A loop that stops at the first place where p does not hold. -/
theorem nloop_while {σ ω : Type} {body : σ → Option (σ ⊕ ω)} (S : Nat → σ) (n : Nat) (p : Nat → Bool) (w : Bool → ω) (hs : ∀ k, k < n → p k = true → body (S k) = some (.inl (S (k + 1))))
    (hb : ∀ k, k < n → p k = false → body (S k) = some (.inr (w false))) (he : body (S n) = some (.inr (w true))) (N : Nat) (hN : n < N) :
    nloop body N (S 0) = some (w ((List.range n).all p)) := by
  have key : ∀ (m k N : Nat), k + m = n → m < N → nloop body N (S k) = some (w ((List.range' k m).all p)) := by
    intro m
    induction m with
    | zero =>
      intro k N hk hN
      obtain ⟨N', rfl⟩ : ∃ N', N = N' + 1 := ⟨N - 1, by omega⟩
      have : k = n := by omega
      subst this
      simp only [nloop, he, Option.bind_some]
      rfl
    | succ m ih =>
      intro k N hk hN
      obtain ⟨N', rfl⟩ : ∃ N', N = N' + 1 := ⟨N - 1, by omega⟩
      rw [List.range'_succ, List.all_cons]
      cases hp : p k with
      | false => simp only [nloop, hb k (by omega) hp, Option.bind_some, Bool.false_and]
      | true =>
        simp only [nloop, hs k (by omega) hp, Option.bind_some, Bool.true_and]
        exact ih (k + 1) N' (by omega) (by omega)
  rw [List.range_eq_range']
  exact key n 0 N (by omega) hN

def maskN (p : Nat → Bool) : Nat → Nat
  | 0 => 0
  | n + 1 => maskN p n ||| (if p n then 2 ^ n else 0)

theorem maskN_lt (p : Nat → Bool) : ∀ n, maskN p n < 2 ^ n
  | 0 => by simp [maskN]
  | n + 1 => by
    have h1 := maskN_lt p n
    have h2 : 2 ^ n < 2 ^ (n + 1) := by rw [Nat.pow_succ]; have := Nat.two_pow_pos n; omega
    simp only [maskN]
    refine Nat.or_lt_two_pow (by omega) ?_
    split
    · exact h2
    · exact Nat.two_pow_pos _

theorem maskN_bit (p : Nat → Bool) (n i : Nat) : (maskN p n).testBit i = (decide (i < n) && p i) := by
  induction n with
  | zero => simp [maskN]
  | succ n ih =>
    simp only [maskN, Nat.testBit_or, ih]
    by_cases e : i = n
    · subst e
      cases hp : p i <;> simp
    · have h1 : decide (i < n + 1) = decide (i < n) := by
        rw [Bool.eq_iff_iff]; simp only [decide_eq_true_eq]; omega
      rw [h1]
      have : (if p n = true then 2 ^ n else 0).testBit i = false := by
        split
        · rw [Nat.testBit_two_pow]; simp; omega
        · simp
      rw [this, Bool.or_false]

theorem eq_maskN {m n : Nat} {p : Nat → Bool} (hm : m < 2 ^ n) (h : ∀ i, i < n → m.testBit i = p i) : m = maskN p n := by
  apply Nat.eq_of_testBit_eq
  intro i
  rw [maskN_bit]
  by_cases hi : i < n
  · rw [h i hi]; simp [hi]
  · rw [Nat.testBit_lt_two_pow (Nat.lt_of_lt_of_le hm (Nat.pow_le_pow_right (by omega) (by omega)))]
    simp [hi]

theorem maskN_congr {p q : Nat → Bool} {n : Nat} (h : ∀ i, i < n → p i = q i) : maskN p n = maskN q n :=
  eq_maskN (maskN_lt p n) (fun i hi => by rw [maskN_bit, h i hi]; simp [hi])

theorem lt256 {m n : Nat} (h : n ≤ 8) (hm : m < 2 ^ n) : m < 256 :=
  Nat.lt_of_lt_of_le hm (Nat.pow_le_pow_right (n := 2) (by omega) h)

/-- The arcs of the first k words, the lesser end first. -/
def arcsK (h : List Int) (k : Nat) : List (Int × Int) := ((List.range k).filter fun i => decide (h.getD i 0 > 0)).map fun (i : Nat) => (imin ((i : Int) + 1) (h.getD i 0), imax ((i : Int) + 1) (h.getD i 0))
def arcsP (h : List Int) : List (Int × Int) := arcsK h h.length

theorem Tree.getD_hd {h : List Int} (T : Tree h) {k : Nat} (hk : k < h.length) : h.getD k 0 = ((hd h (k + 1) : Nat) : Int) := by
  have hg := T.get (w := k + 1) (by omega) (by omega)
  rw [Nat.add_sub_cancel] at hg
  rw [List.getD_eq_getElem?_getD, hg]; rfl

/-- No word is its own head. -/
theorem Tree.hd_other {h : List Int} (T : Tree h) {w : Nat} (h1 : 1 ≤ w) (h2 : w ≤ h.length) : hd h w ≠ w := by
  intro e
  have := T.dep_step h1 h2 (by omega)
  rw [e] at this
  omega

/-- The arc of a word that has a head. -/
theorem mem_arcs {h : List Int} (T : Tree h) {p : Int × Int} : p ∈ arcsP h ↔ ∃ w, 1 ≤ w ∧ w ≤ h.length ∧ hd h w ≠ 0 ∧ p = (imin (w : Int) ((hd h w : Nat) : Int), imax (w : Int) ((hd h w : Nat) : Int)) := by
  unfold arcsP arcsK
  rw [List.mem_map]
  constructor
  · rintro ⟨i, hi, rfl⟩
    rw [List.mem_filter, List.mem_range, decide_eq_true_eq] at hi
    rw [T.getD_hd hi.1] at hi ⊢
    refine ⟨i + 1, by omega, by omega, by omega, ?_⟩
    rw [show ((i + 1 : Nat) : Int) = (i : Int) + 1 by omega]
  · rintro ⟨w, h1, h2, h3, rfl⟩
    refine ⟨w - 1, ?_, ?_⟩
    · rw [List.mem_filter, List.mem_range, decide_eq_true_eq, T.getD_hd (by omega), show w - 1 + 1 = w by omega]
      omega
    · rw [T.getD_hd (show w - 1 < h.length by omega), show w - 1 + 1 = w by omega, show ((w - 1 : Nat) : Int) + 1 = (w : Int) by omega]

def covB (h : List Int) (v : Int) : Bool := (arcsP h).any fun p => decide (p.1 < v ∧ v < p.2)

def crossP (p q : Int × Int) : Bool := arcX p.1 p.2 q.1 q.2

/-- How many pairs of a list cross. -/
def pairsN (X : Int × Int → Int × Int → Bool) : List (Int × Int) → Nat
  | [] => 0
  | a :: r => r.countP (X a) + pairsN X r

theorem pairsN_zero {X : Int × Int → Int × Int → Bool} : ∀ l, pairsN X l = 0 ↔ l.Pairwise fun p q => X p q = false
  | [] => by simp [pairsN]
  | a :: r => by
    simp only [pairsN, List.pairwise_cons, ← pairsN_zero r]
    constructor
    · intro h
      have h1 : r.countP (X a) = 0 := by omega
      rw [List.countP_eq_zero] at h1
      exact ⟨fun q hq => by simpa using h1 q hq, by omega⟩
    · rintro ⟨h1, h2⟩
      have : r.countP (X a) = 0 := List.countP_eq_zero.2 fun q hq => by rw [h1 q hq]; simp
      omega

theorem crossP_comm (p q : Int × Int) : crossP p q = crossP q p := by
  unfold crossP arcX
  apply Bool.eq_iff_iff.2
  simp only [decide_eq_true_eq]
  omega

def crossN (h : List Int) : Nat := pairsN crossP (arcsP h)
theorem covB_iff {h : List Int} (T : Tree h) {v : Nat} : covB h (v : Int) = true ↔ ∃ w, 1 ≤ w ∧ w ≤ h.length ∧ hd h w ≠ 0 ∧ ((w < v ∧ v < hd h w) ∨ (hd h w < v ∧ v < w)) := by
  unfold covB
  rw [List.any_eq_true]
  constructor
  · rintro ⟨p, hp, hc⟩
    obtain ⟨w, h1, h2, h3, rfl⟩ := (mem_arcs T).1 hp
    rw [decide_eq_true_eq] at hc
    refine ⟨w, h1, h2, h3, ?_⟩
    revert hc
    unfold imin imax
    simp only
    split <;> split <;> omega
  · rintro ⟨w, h1, h2, h3, hc⟩
    refine ⟨_, (mem_arcs T).2 ⟨w, h1, h2, h3, rfl⟩, ?_⟩
    rw [decide_eq_true_eq]
    unfold imin imax
    simp only
    split <;> split <;> omega

theorem wrapu64 {x : Int} (h1 : 0 ≤ x) (h2 : x < 18446744073709551616) : IntKind.wrap .u64 x = x := by
  simp only [IntKind.wrap, IntKind.bits, IntKind.signed]
  simp
  omega

theorem ofInt_nat {a : Nat} (h : a < 18446744073709551616) : (BitVec.ofInt 64 (a : Int)).toNat = a := by
  rw [BitVec.toNat_ofInt]; omega

theorem ioru {a b : Nat} (ha : a < 2 ^ 62) (hb : b < 2 ^ 62) : ior .u64 (a : Int) (b : Int) = ((a ||| b : Nat) : Int) := by
  have h := Nat.or_lt_two_pow ha hb
  show IntKind.wrap .u64 ((BitVec.ofInt 64 (a : Int) ||| BitVec.ofInt 64 (b : Int)).toNat : Int) = _
  rw [BitVec.toNat_or, ofInt_nat (by omega), ofInt_nat (by omega), wrapu64 (by omega) (by omega)]
theorem iori {a b : Nat} (ha : a < 2 ^ 62) (hb : b < 2 ^ 62) : ior .i64 (a : Int) (b : Int) = ((a ||| b : Nat) : Int) := by
  have h := Nat.or_lt_two_pow ha hb
  show IntKind.wrap .i64 ((BitVec.ofInt 64 (a : Int) ||| BitVec.ofInt 64 (b : Int)).toNat : Int) = _
  rw [BitVec.toNat_or, ofInt_nat (by omega), ofInt_nat (by omega), wrap64 (by omega) (by omega)]
theorem all_lt {n : Nat} {p : Nat → Bool} (h : (List.range n).all p = true) {i : Nat} (hi : i < n) : p i = true :=
  List.all_eq_true.1 h i (List.mem_range.2 hi)

theorem only_tab : ((List.range 8).all fun i => impl_only ((i : Int) + 1) == some ((2 ^ i : Nat) : Int)) = true := by decide +kernel
theorem only_eq {w : Nat} (h1 : 1 ≤ w) (h2 : w ≤ 8) : impl_only (w : Int) = some ((2 ^ (w - 1) : Nat) : Int) := by
  have h := all_lt only_tab (i := w - 1) (by omega)
  rw [show ((w - 1 : Nat) : Int) + 1 = (w : Int) by omega] at h
  simpa using h

/-- The words of a set, in ascending order. -/
def wordsL (m : Nat) : List Int := ((List.range 8).filter fun i => m.testBit i).map fun i => ((i + 1 : Nat) : Int)

theorem filter_upto (p : Nat → Bool) (n : Nat) : ∀ N, n ≤ N → (List.range N).filter (fun i => decide (i < n) && p i) = (List.range n).filter p
  | 0, h => by
    have : n = 0 := by omega
    subst this; rfl
  | N + 1, h => by
    by_cases e : n = N + 1
    · subst e
      apply List.filter_congr
      intro i hi
      rw [List.mem_range] at hi
      simp [hi]
    · rw [List.range_succ, List.filter_append, filter_upto p n N (by omega)]
      have : ¬ N < n := by omega
      simp [this]

theorem wordsL_mask (p : Nat → Bool) {n : Nat} (h : n ≤ 8) : wordsL (maskN p n) = ((List.range n).filter p).map fun i => ((i + 1 : Nat) : Int) := by
  unfold wordsL
  rw [← filter_upto p n 8 h]
  congr 1
  apply List.filter_congr
  intro i _
  rw [maskN_bit]

theorem mem_wordsL {p : Nat → Bool} {n : Nat} (h : n ≤ 8) {x : Int} : x ∈ wordsL (maskN p n) ↔ ∃ i, i < n ∧ p i = true ∧ x = ((i + 1 : Nat) : Int) := by
  rw [wordsL_mask p h, List.mem_map]
  constructor
  · rintro ⟨i, hi, e⟩
    rw [List.mem_filter, List.mem_range] at hi
    exact ⟨i, hi.1, hi.2, e.symm⟩
  · rintro ⟨i, h1, h2, e⟩
    exact ⟨i, by rw [List.mem_filter, List.mem_range]; exact ⟨h1, h2⟩, e.symm⟩

theorem wordsL_length_le (m : Nat) : (wordsL m).length ≤ 8 := by
  unfold wordsL
  rw [List.length_map]
  exact Nat.le_trans (List.length_filter_le _ _) (by simp)

/-- Who has a head. -/
def headB (h : List Int) (v : Int) (i : Nat) : Bool := h.getD i 0 == v

theorem dependents_eq (h : List Int) (v : Int) (hl : h.length ≤ 8) : impl_dependents h v = some ((maskN (headB h v) h.length : Nat) : Int) := by
  have e : impl_dependents h v = impl_dependents_n9 h v := by unfold impl_dependents; rfl
  rw [e]
  unfold impl_dependents_n9 impl_dependents_n8 impl_dependents_n6 impl_dependents_n2 impl_dependents_n5 impl_dependents_n4 impl_dependents_n1
  have hloop := nloop_to (body := fun (s : Int × Int) => ((impl_dependents_n3 h v s.1 h.length s.2).map (Sum.elim (fun (t : Int × Int) => Sum.inl (t.1, t.2)) (fun (t : Int) => Sum.inr t)) : Option ((Int × Int) ⊕ (Int))))
    (fun k => (((maskN (headB h v) k : Nat) : Int), (k : Int))) h.length ((maskN (headB h v) h.length : Nat) : Int)
    (by
      intro k hk
      have hb : headB h v k = (h[k] == v) := by simp [headB, List.getD, hk]
      have h1 := maskN_lt (headB h v) k
      have h2 : (2 : Nat) ^ k < 2 ^ 62 := Nat.pow_lt_pow_right (by omega) (by omega)
      simp only [impl_dependents_n3]
      rw [show decide ((k : Int) < ((h.length : Nat) : Int)) = true from decide_eq_true (by omega), idx_lt hk, wrap64 (by omega) (by omega), show (k : Int) + 1 = ((k + 1 : Nat) : Int) by omega,
        only_eq (by omega) (by omega), Nat.add_sub_cancel]
      simp only [cond_true, Option.bind_some, ← hb, maskN]
      rw [ioru (by omega) h2]
      cases headB h v k with
      | true => rfl
      | false => simp)
    (by
      simp only [impl_dependents_n3]
      rw [show decide (((h.length : Nat) : Int) < ((h.length : Nat) : Int)) = false from decide_eq_false (by omega)]
      rfl)
  simp only [Option.bind_some]
  have := hloop LL (by simp only [LL]; omega)
  simp only [maskN] at this
  rw [show (((0 : Nat) : Int), ((0 : Nat) : Int)) = ((0 : Int), (0 : Int)) from rfl] at this
  rw [this]
  rfl

theorem list_tab : ((List.range 256).all fun m => impl_wordSet_list (m : Int) == some (wordsL m)) = true := by decide +kernel
theorem list_eq {m : Nat} (h : m < 256) : impl_wordSet_list (m : Int) = some (wordsL m) := by simpa using all_lt list_tab h

def rootI (h : List Int) : Int := if treeB h then (top h : Int) else -1

theorem implRoot_eq (h : List Int) : impl_RootOf h = some (rootI h) := by
  unfold impl_RootOf impl_RootOf_n7 impl_RootOf_n1 impl_RootOf_n6 impl_RootOf_n4 impl_RootOf_n3 rootI
  rw [implTree_eq]
  cases hT : treeB h with
  | false => simp
  | true =>
    have T := (tree_iff h).1 hT
    simp only [Option.bind_some, Bool.not_true, cond_false, Sum.elim_inl, if_true]
    have hloop := nloop_run (body := fun (s : Int × Int) => ((impl_RootOf_n2 h s.1 s.2).map (Sum.elim (fun (t : Int × Int) => Sum.inl (t.1, t.2)) (fun (t : Int × Int) => Sum.inr t)) : Option ((Int × Int) ⊕ ((Int × Int)))))
      (I := fun s => ∃ k i : Nat, s = (((k + 1 : Nat) : Int), (i : Int)) ∧ k < h.length ∧ i + dep h (k + 1) < h.length) (μ := fun s => dep h s.1.toNat)
      (f := fun s => ((top h : Int), s.2 + (dep h s.1.toNat : Int)))
      (by
        rintro _ ⟨k, i, rfl, hk, hi⟩
        have hle := T.le
        simp only [impl_RootOf_n2]
        rw [up_eq h k i hk (by omega) (by omega)]
        have hg := T.get (w := k + 1) (by omega) (by omega)
        rw [show k + 1 - 1 = k by omega, List.getElem?_eq_getElem hk] at hg
        have hg' : h[k] = ((hd h (k + 1) : Nat) : Int) := by simpa using hg
        by_cases e : hd h (k + 1) = 0
        · right
          have ht := (T.hd_zero (w := k + 1) (by omega) (by omega)).1 e
          have hd0 : dep h (k + 1) = 0 := by rw [ht]; exact T.dep_top
          have hd0' : dep h (((k + 1 : Nat) : Int)).toNat = 0 := hd0
          rw [if_pos (by omega)]
          simp only [Option.bind_some, cond_false, Option.map_some, Sum.elim_inr, hd0']
          rw [← ht]
          simp
        · left
          have hs := T.dep_step (w := k + 1) (by omega) (by omega) e
          have hle2 := T.hd_le (w := k + 1) (by omega) (by omega)
          rw [if_neg (by omega)]
          refine ⟨(h[k], ((i + 1 : Nat) : Int)), by simp, ⟨hd h (k + 1) - 1, i + 1, ?_, by omega, ?_⟩, ?_, ?_⟩
          · rw [hg', show hd h (k + 1) - 1 + 1 = hd h (k + 1) by omega]
          · rw [show hd h (k + 1) - 1 + 1 = hd h (k + 1) by omega]; omega
          · simp only [hg', Int.toNat_natCast]; omega
          · simp only [hg', Int.toNat_natCast]
            rw [hs]
            simp; omega)
    rw [hloop LL (1, 0) ⟨0, 0, rfl, by have := T.pos; omega, by have := T.dep_lt (w := 0 + 1) (by omega) (by have := T.pos; omega); omega⟩ (by
      have := T.dep_lt (w := 1) (by omega) T.pos; have := T.le; simp only [LL]; simp; omega)]
    simp [impl_RootOf_n5]

/-- A word is under another one: from head to head one comes to it. -/
inductive Und (h : List Int) : Nat → Nat → Prop
  | refl {a : Nat} (h1 : 1 ≤ a) (h2 : a ≤ h.length) : Und h a a
  | step {a b : Nat} (h1 : 1 ≤ a) (h2 : a ≤ h.length) (h3 : hd h a ≠ 0) (u : Und h (hd h a) b) : Und h a b

theorem Tree.climbInd {h : List Int} (T : Tree h) {P : Nat → Prop} (h0 : P (top h)) (hs : ∀ w, 1 ≤ w → w ≤ h.length → hd h w ≠ 0 → P (hd h w) → P w) : ∀ w, 1 ≤ w → w ≤ h.length → P w := by
  have key : ∀ (d w : Nat), dep h w = d → 1 ≤ w → w ≤ h.length → P w := by
    intro d
    induction d with
    | zero =>
      intro w e h1 h2
      rw [(T.dep_zero h1 h2).1 e]; exact h0
    | succ d ih =>
      intro w e h1 h2
      have hne : hd h w ≠ 0 := fun e0 => by
        have := (T.dep_zero h1 h2).2 ((T.hd_zero h1 h2).1 e0)
        omega
      have := T.dep_step h1 h2 hne
      exact hs w h1 h2 hne (ih _ (by omega) (by omega) (T.hd_le h1 h2))
  intro w
  exact key _ w rfl

theorem Tree.fallInd {h : List Int} (T : Tree h) {P : Nat → Prop} (hs : ∀ w, 1 ≤ w → w ≤ h.length → (∀ c, 1 ≤ c → c ≤ h.length → hd h c = w → P c) → P w) : ∀ w, 1 ≤ w → w ≤ h.length → P w := by
  have key : ∀ (d w : Nat), h.length - dep h w ≤ d → 1 ≤ w → w ≤ h.length → P w := by
    intro d
    induction d with
    | zero =>
      intro w e h1 h2
      have := T.dep_lt h1 h2
      omega
    | succ d ih =>
      intro w e h1 h2
      refine hs w h1 h2 fun c hc1 hc2 hc => ih c ?_ hc1 hc2
      have := T.dep_step hc1 hc2 (by omega)
      rw [hc] at this
      have := T.dep_lt h1 h2
      omega
  intro w
  exact key _ w (Nat.le_refl _)

theorem Tree.und_rng {h : List Int} (T : Tree h) {a b : Nat} (u : Und h a b) : (1 ≤ a ∧ a ≤ h.length) ∧ (1 ≤ b ∧ b ≤ h.length) := by
  induction u with
  | refl h1 h2 => exact ⟨⟨h1, h2⟩, h1, h2⟩
  | step h1 h2 h3 u ih => exact ⟨⟨h1, h2⟩, ih.2⟩

theorem Tree.und_hd {h : List Int} (T : Tree h) {a : Nat} (h1 : 1 ≤ a) (h2 : a ≤ h.length) (h3 : hd h a ≠ 0) : Und h a (hd h a) :=
  .step h1 h2 h3 (.refl (by omega) (T.hd_le h1 h2))

theorem Tree.und_top {h : List Int} (T : Tree h) {a : Nat} (h1 : 1 ≤ a) (h2 : a ≤ h.length) : Und h a (top h) :=
  T.climbInd (P := fun w => Und h w (top h)) (.refl (top_pos h) T.top_le) (fun w a b c d => .step a b c d) a h1 h2

theorem Tree.und_trans {h : List Int} (T : Tree h) {a b c : Nat} (u : Und h a b) (v : Und h b c) : Und h a c := by
  induction u with
  | refl => exact v
  | step h1 h2 h3 u ih => exact .step h1 h2 h3 (ih v)

theorem Tree.und_dep {h : List Int} (T : Tree h) {a b : Nat} (u : Und h a b) : dep h b ≤ dep h a ∧ (dep h b = dep h a → a = b) := by
  induction u with
  | refl => exact ⟨Nat.le_refl _, fun _ => rfl⟩
  | step h1 h2 h3 u ih =>
    have := T.dep_step h1 h2 h3
    exact ⟨by omega, fun e => by omega⟩

theorem Tree.und_anti {h : List Int} (T : Tree h) {a b : Nat} (u : Und h a b) (v : Und h b a) : a = b := by
  have h1 := T.und_dep u
  have h2 := T.und_dep v
  exact h1.2 (by omega)

theorem Tree.und_iff {h : List Int} (T : Tree h) {a b : Nat} (h1 : 1 ≤ a) (h2 : a ≤ h.length) : Und h a b ↔ a = b ∨ (hd h a ≠ 0 ∧ Und h (hd h a) b) := by
  constructor
  · intro u
    cases u with
    | refl => exact .inl rfl
    | step _ _ h3 u => exact .inr ⟨h3, u⟩
  · rintro (rfl | ⟨h3, u⟩)
    · exact .refl h1 h2
    · exact .step h1 h2 h3 u

theorem Tree.und_of_top {h : List Int} (T : Tree h) {b : Nat} (u : Und h (top h) b) : b = top h := by
  rcases (T.und_iff (top_pos h) T.top_le).1 u with e | ⟨e, _⟩
  · exact e.symm
  · exact absurd ((T.hd_zero (top_pos h) T.top_le).2 rfl) e

theorem Tree.und_child {h : List Int} (T : Tree h) {a b : Nat} : Und h a b ↔ (a = b ∧ 1 ≤ a ∧ a ≤ h.length) ∨ (b ≠ 0 ∧ ∃ c, 1 ≤ c ∧ c ≤ h.length ∧ hd h c = b ∧ Und h a c) := by
  constructor
  · intro u
    induction u with
    | refl h1 h2 => exact .inl ⟨rfl, h1, h2⟩
    | step h1 h2 h3 u ih =>
      rcases ih with ⟨e, e2, _⟩ | ⟨hb, c, c1, c2, c3, c4⟩
      · exact .inr ⟨by omega, _, h1, h2, e, .refl h1 h2⟩
      · exact .inr ⟨hb, c, c1, c2, c3, .step h1 h2 h3 c4⟩
  · rintro (⟨rfl, h1, h2⟩ | ⟨hb, c, c1, c2, rfl, c4⟩)
    · exact .refl h1 h2
    · exact T.und_trans c4 (T.und_hd c1 c2 hb)

/-- Whether a word is under another one. -/
noncomputable def undB (h : List Int) (a b : Nat) : Bool := @decide (Und h a b) (Classical.propDecidable _)
theorem undB_iff {h : List Int} {a b : Nat} : undB h a b = true ↔ Und h a b := by simp [undB]
theorem undB_false {h : List Int} {a b : Nat} : undB h a b = false ↔ ¬ Und h a b := by simp [undB]

/-- The yield of a word as bits. -/
noncomputable def ymask (h : List Int) (k : Nat) : Nat := maskN (fun i => undB h (i + 1) k) h.length

theorem ymask_lt {h : List Int} (hl : h.length ≤ 8) (k : Nat) : ymask h k < 256 := lt256 hl (maskN_lt _ _)

theorem ymask_bit {h : List Int} {k i : Nat} (T : Tree h) : (ymask h k).testBit i = undB h (i + 1) k := by
  unfold ymask
  rw [maskN_bit]
  by_cases hi : i < h.length
  · simp [hi]
  · have : undB h (i + 1) k = false := undB_false.2 fun u => by have := T.und_rng u; omega
    rw [this]; simp

/-- The words that depend on a word. -/
def kidsL (h : List Int) (w : Nat) : List Int := wordsL (maskN (headB h (w : Int)) h.length)

theorem mem_kids {h : List Int} (T : Tree h) {w : Nat} {x : Int} : x ∈ kidsL h w ↔ ∃ c, 1 ≤ c ∧ c ≤ h.length ∧ hd h c = w ∧ x = (c : Int) := by
  unfold kidsL
  rw [mem_wordsL T.le]
  constructor
  · rintro ⟨i, h1, h2, e⟩
    refine ⟨i + 1, by omega, by omega, ?_, e⟩
    have hg := T.get (w := i + 1) (by omega) (by omega)
    rw [Nat.add_sub_cancel] at hg
    simp only [headB, List.getD_eq_getElem?_getD, hg, Option.getD_some, beq_iff_eq] at h2
    omega
  · rintro ⟨c, h1, h2, h3, rfl⟩
    refine ⟨c - 1, by omega, ?_, by omega⟩
    have hg := T.get (w := c) (by omega) (by omega)
    simp only [headB, List.getD_eq_getElem?_getD, hg, Option.getD_some, beq_iff_eq, h3]

theorem kids_length (h : List Int) (w : Nat) : (kidsL h w).length ≤ 8 := wordsL_length_le _

/-- Words of a yield: the word, and those under what depends on it. -/
noncomputable def partB (h : List Int) (w : Nat) (cs : List Int) (i : Nat) : Bool := (i + 1 == w) || cs.any fun c => undB h (i + 1) c.toNat

theorem part_all {h : List Int} (T : Tree h) {w : Nat} (h1 : 1 ≤ w) (h2 : w ≤ h.length) {i : Nat} (hi : i < h.length) : partB h w (kidsL h w) i = undB h (i + 1) w := by
  rw [Bool.eq_iff_iff, undB_iff, T.und_child]
  simp only [partB, Bool.or_eq_true, beq_iff_eq, List.any_eq_true, undB_iff]
  constructor
  · rintro (e | ⟨x, hx, u⟩)
    · exact .inl ⟨e, by omega, by omega⟩
    · obtain ⟨c, c1, c2, c3, rfl⟩ := (mem_kids T).1 hx
      exact .inr ⟨by omega, c, c1, c2, c3, by simpa using u⟩
  · rintro (⟨e, _⟩ | ⟨_, c, c1, c2, c3, u⟩)
    · exact .inl e
    · exact .inr ⟨(c : Int), (mem_kids T).2 ⟨c, c1, c2, c3, rfl⟩, by simpa using u⟩

theorem part_step (h : List Int) (w : Nat) (cs : List Int) {j : Nat} (hj : j < cs.length) {n : Nat} :
    maskN (partB h w (cs.take (j + 1))) n = maskN (partB h w (cs.take j)) n ||| maskN (fun i => undB h (i + 1) cs[j].toNat) n := by
  refine (eq_maskN (Nat.or_lt_two_pow (maskN_lt _ _) (maskN_lt _ _)) fun i hi => ?_).symm
  rw [Nat.testBit_or, maskN_bit, maskN_bit]
  simp only [hi, decide_true, Bool.true_and, partB]
  rw [List.take_add_one, List.getElem?_eq_getElem hj]
  simp only [Option.toList_some, List.any_append, List.any_cons, List.any_nil, Bool.or_false, Bool.or_assoc]

theorem part_none (h : List Int) {w n : Nat} (h1 : 1 ≤ w) (h2 : w ≤ n) : maskN (partB h w []) n = 2 ^ (w - 1) := by
  refine (eq_maskN (Nat.pow_lt_pow_right (by omega) (by omega)) fun i hi => ?_).symm
  rw [Nat.testBit_two_pow]
  simp only [partB, List.any_nil, Bool.or_false]
  rw [Bool.eq_iff_iff]
  simp only [decide_eq_true_eq, beq_iff_eq]
  omega

/-- The yields, filled for those under some words. -/
noncomputable def fillL (h : List Int) (ys cs : List Int) : List Int := (List.range h.length).map fun i => if (cs.any fun c => undB h (i + 1) c.toNat) = true then ((ymask h (i + 1) : Nat) : Int) else ys.getD i 0

theorem fillL_length (h ys cs : List Int) : (fillL h ys cs).length = h.length := by simp [fillL]
theorem fillL_get (h ys cs : List Int) {i : Nat} (hi : i < h.length) : (fillL h ys cs)[i]? = some (if (cs.any fun c => undB h (i + 1) c.toNat) = true then ((ymask h (i + 1) : Nat) : Int) else ys.getD i 0) := by
  simp [fillL, hi]
theorem fillL_nil {h ys : List Int} (hl : ys.length = h.length) : fillL h ys [] = ys := by
  apply List.ext_getElem?
  intro i
  by_cases hi : i < h.length
  · rw [fillL_get h ys [] hi]
    simp [List.getD, show i < ys.length by omega]
  · rw [List.getElem?_eq_none (by rw [fillL_length]; omega), List.getElem?_eq_none (by omega)]

theorem fillL_step (h ys cs : List Int) {j : Nat} (hj : j < cs.length) : fillL h (fillL h ys (cs.take j)) [cs[j]] = fillL h ys (cs.take (j + 1)) := by
  apply List.ext_getElem?
  intro i
  by_cases hi : i < h.length
  · rw [fillL_get h _ _ hi, fillL_get h _ _ hi, List.getD_eq_getElem?_getD, fillL_get h _ _ hi, List.take_add_one, List.getElem?_eq_getElem hj]
    simp only [List.any_cons, List.any_nil, Bool.or_false, Option.getD_some, Option.toList_some, List.any_append]
    cases undB h (i + 1) cs[j].toNat <;> cases ((List.take j cs).any fun c => undB h (i + 1) c.toNat) <;> simp
  · rw [List.getElem?_eq_none (by rw [fillL_length]; omega), List.getElem?_eq_none (by rw [fillL_length]; omega)]

theorem fillL_set {h ys : List Int} (T : Tree h) {w : Nat} (h1 : 1 ≤ w) (h2 : w ≤ h.length) : (fillL h ys (kidsL h w)).set (w - 1) ((ymask h w : Nat) : Int) = fillL h ys [(w : Int)] := by
  apply List.ext_getElem?
  intro i
  by_cases hi : i < h.length
  · by_cases e : i = w - 1
    · subst e
      rw [List.getElem?_set_self (by rw [fillL_length]; omega), fillL_get h _ _ hi, if_pos]
      · rw [show w - 1 + 1 = w by omega]
      · have : undB h (w - 1 + 1) w = true := undB_iff.2 (by rw [show w - 1 + 1 = w by omega]; exact .refl h1 h2)
        simpa using this
    · rw [List.getElem?_set_ne (fun e' => e e'.symm), fillL_get h _ _ hi, fillL_get h _ _ hi]
      have hp := part_all T h1 h2 hi
      have hne : (i + 1 == w) = false := by rw [beq_eq_false_iff_ne]; omega
      simp only [partB, hne, Bool.false_or] at hp
      rw [hp]
      simp
  · rw [List.getElem?_eq_none (by rw [List.length_set, fillL_length]; omega), List.getElem?_eq_none (by rw [fillL_length]; omega)]

theorem fill_fuel {h : List Int} (T : Tree h) : ∀ w, 1 ≤ w → w ≤ h.length → ∀ (f : Nat) (ys : List Int), h.length - dep h w < f → ys.length = h.length →
    impl_fillYields_knot f h (w : Int) ys = some (((ymask h w : Nat) : Int), fillL h ys [(w : Int)]) := by
  refine T.fallInd (P := fun w => ∀ (f : Nat) (ys : List Int), h.length - dep h w < f → ys.length = h.length → impl_fillYields_knot f h (w : Int) ys = some (((ymask h w : Nat) : Int), fillL h ys [(w : Int)])) ?_
  intro w h1 h2 ih f ys hf hys
  obtain ⟨f, rfl⟩ : ∃ g, f = g + 1 := ⟨f - 1, by omega⟩
  have hle := T.le
  simp only [impl_fillYields_knot]
  generalize hR : impl_fillYields_knot f = R0
  have ih' : ∀ c, 1 ≤ c → c ≤ h.length → hd h c = w → ∀ zs : List Int, zs.length = h.length → R0 h (c : Int) zs = some (((ymask h c : Nat) : Int), fillL h zs [(c : Int)]) := by
    intro c c1 c2 c3 zs hz
    rw [← hR]
    refine ih c c1 c2 c3 f zs ?_ hz
    have := T.dep_step c1 c2 (by omega)
    rw [c3] at this
    have := T.dep_lt h1 h2
    omega
  have hkl := kids_length h w
  have hloop := nloop_to (body := fun (s : Int × Int × (List Int)) => ((impl_fillYields_n3 R0 h s.1 (kidsL h w).length s.2.1 s.2.2 (kidsL h w)).map (Sum.elim (fun (t : Int × Int × (List Int)) => Sum.inl (t.1, t.2.1, t.2.2)) (fun (t : Int × (List Int)) => Sum.inr t)) : Option ((Int × Int × (List Int)) ⊕ ((Int × (List Int))))))
    (fun j => (((maskN (partB h w ((kidsL h w).take j)) h.length : Nat) : Int), (j : Int), fillL h ys ((kidsL h w).take j))) (kidsL h w).length (((maskN (partB h w (kidsL h w)) h.length : Nat) : Int), fillL h ys (kidsL h w))
    (by
      intro j hj
      simp only [impl_fillYields_n3]
      obtain ⟨c, c1, c2, c3, hc⟩ := (mem_kids T).1 (List.getElem_mem hj)
      have ihc := ih' c c1 c2 c3 (fillL h ys ((kidsL h w).take j)) (fillL_length _ _ _)
      have l1 : maskN (partB h w ((kidsL h w).take j)) h.length < 256 := lt256 hle (maskN_lt _ _)
      have l2 := ymask_lt hle c
      rw [show decide ((j : Int) < (((kidsL h w).length : Nat) : Int)) = true from decide_eq_true (by omega), inb_nat hj, wrap64 (by omega) (by omega)]
      simp only [cond_true, Option.bind_some, List.getElem?_eq_getElem hj]
      rw [hc, ihc]
      simp only [Option.bind_some]
      rw [ioru (by omega) (by omega), part_step h w _ hj, ← fillL_step h ys _ hj, hc]
      rfl)
    (by
      simp only [impl_fillYields_n3]
      rw [show decide ((((kidsL h w).length : Nat) : Int) < (((kidsL h w).length : Nat) : Int)) = false from decide_eq_false (by omega), List.take_length]
      rfl)
  have hl := hloop LL (by simp only [LL]; omega)
  rw [List.take_zero, part_none h h1 h2, fillL_nil hys] at hl
  unfold impl_fillYields_one impl_fillYields_n9 impl_fillYields_n1 impl_fillYields_n8 impl_fillYields_n6 impl_fillYields_n2 impl_fillYields_n5 impl_fillYields_n4 impl_fillYields_n7
  rw [only_eq h1 (by omega), dependents_eq h _ hle]
  simp only [Option.bind_some]
  rw [list_eq (lt256 hle (maskN_lt _ _))]
  show (((((some _).bind fun v1208 => some (((List.length v1208 : Nat) : Int), v1208)).bind _) : Option _).bind _) = _
  simp only [Option.bind_some]
  change ((Option.map _ (nloop (fun (s : Int × Int × (List Int)) => ((impl_fillYields_n3 R0 h s.1 (kidsL h w).length s.2.1 s.2.2 (kidsL h w)).map (Sum.elim (fun (t : Int × Int × (List Int)) => Sum.inl (t.1, t.2.1, t.2.2)) (fun (t : Int × (List Int)) => Sum.inr t)) : Option ((Int × Int × (List Int)) ⊕ ((Int × (List Int)))))) LL (((2 ^ (w - 1) : Nat) : Int), ((0 : Nat) : Int), ys))).bind _) = _
  rw [hl]
  simp only [Option.map_some, Option.bind_some]
  rw [wrap64 (by omega) (by omega), show (w : Int) - 1 = ((w - 1 : Nat) : Int) by omega, inb_nat (by rw [fillL_length]; omega)]
  simp only [Option.bind_some]
  have hm : maskN (partB h w (kidsL h w)) h.length = ymask h w := maskN_congr fun i hi => part_all T h1 h2 hi
  rw [hm, fillL_set T h1 h2]

/-- The yields of all words. -/
noncomputable def yieldL (h : List Int) : List Int := (List.range h.length).map fun i => ((ymask h (i + 1) : Nat) : Int)
theorem yieldL_length (h : List Int) : (yieldL h).length = h.length := by simp [yieldL]
theorem yieldL_get (h : List Int) {i : Nat} (hi : i < h.length) : (yieldL h)[i]? = some ((ymask h (i + 1) : Nat) : Int) := by simp [yieldL, hi]

theorem yields_eq {h : List Int} (T : Tree h) : impl_yieldsOf h = some (yieldL h) := by
  have hle := T.le
  have e : impl_yieldsOf h = impl_yieldsOf_n1 h := by unfold impl_yieldsOf; rfl
  rw [e]
  unfold impl_yieldsOf_n1
  rw [mk_nat (by omega), implRoot_eq]
  have hT : treeB h = true := (tree_iff h).2 T
  simp only [Option.bind_some, rootI, hT, if_true]
  have e2 : impl_fillYields h (top h : Int) (List.replicate h.length 0) = impl_fillYields_knot RR h (top h : Int) (List.replicate h.length 0) := by unfold impl_fillYields impl_fillYields_fuel; rfl
  rw [e2, fill_fuel T (top h) (top_pos h) T.top_le RR _ (by simp only [RR]; omega) (by simp)]
  simp only [Option.bind_some]
  congr 1
  apply List.ext_getElem?
  intro i
  by_cases hi : i < h.length
  · rw [fillL_get h _ _ hi, yieldL_get h hi, if_pos]
    have : undB h (i + 1) (top h) = true := undB_iff.2 (T.und_top (by omega) (by omega))
    simpa using this
  · rw [List.getElem?_eq_none (by rw [fillL_length]; omega), List.getElem?_eq_none (by rw [yieldL_length]; omega)]

noncomputable def stepB (h : List Int) (w k i : Nat) : Bool := (i + 1 == w) || (List.range k).any fun c => (hd h (c + 1) == w) && undB h (i + 1) (c + 1)

theorem step_all {h : List Int} (T : Tree h) {w : Nat} (h1 : 1 ≤ w) (h2 : w ≤ h.length) {i : Nat} (hi : i < h.length) : stepB h w h.length i = undB h (i + 1) w := by
  rw [Bool.eq_iff_iff, undB_iff, T.und_child]
  simp only [stepB, Bool.or_eq_true, beq_iff_eq, List.any_eq_true, undB_iff, Bool.and_eq_true, List.mem_range]
  constructor
  · rintro (e | ⟨c, hc, e, u⟩)
    · exact .inl ⟨e, by omega, by omega⟩
    · exact .inr ⟨by omega, c + 1, by omega, by omega, e, u⟩
  · rintro (⟨e, _⟩ | ⟨_, c, c1, c2, c3, u⟩)
    · exact .inl e
    · exact .inr ⟨c - 1, by omega, by rw [show c - 1 + 1 = c by omega]; exact c3, by rw [show c - 1 + 1 = c by omega]; exact u⟩

theorem step_one (h : List Int) (w : Nat) (k n : Nat) : maskN (stepB h w (k + 1)) n = maskN (stepB h w k) n ||| (if hd h (k + 1) = w then maskN (fun i => undB h (i + 1) (k + 1)) n else 0) := by
  refine (eq_maskN (Nat.or_lt_two_pow (maskN_lt _ _) ?_) fun i hi => ?_).symm
  · split
    · exact maskN_lt _ _
    · exact Nat.two_pow_pos _
  · rw [Nat.testBit_or, maskN_bit]
    simp only [hi, decide_true, Bool.true_and, stepB]
    rw [List.range_succ]
    simp only [List.any_append, List.any_cons, List.any_nil, Bool.or_false, Bool.or_assoc]
    congr 2
    by_cases e : hd h (k + 1) = w
    · rw [if_pos e, maskN_bit]
      simp [hi, e]
    · rw [if_neg e]
      simp [e]

theorem step_none (h : List Int) {w n : Nat} (h1 : 1 ≤ w) (h2 : w ≤ n) : maskN (stepB h w 0) n = 2 ^ (w - 1) := by
  refine (eq_maskN (Nat.pow_lt_pow_right (by omega) (by omega)) fun i hi => ?_).symm
  rw [Nat.testBit_two_pow]
  simp only [stepB, List.range_zero, List.any_nil, Bool.or_false]
  rw [Bool.eq_iff_iff]
  simp only [decide_eq_true_eq, beq_iff_eq]
  omega

theorem shl_tab : ((List.range 8).all fun i => shl .i64 1 (i : Int) == some ((2 ^ i : Nat) : Int)) = true := by decide +kernel
theorem shl_eq {w : Nat} (h1 : 1 ≤ w) (h2 : w ≤ 8) : shl .i64 1 (IntKind.wrap .i64 ((w : Int) - 1)) = some ((2 ^ (w - 1) : Nat) : Int) := by
  rw [wrap64 (by omega) (by omega), show (w : Int) - 1 = ((w - 1 : Nat) : Int) by omega]
  simpa using all_lt shl_tab (i := w - 1) (by omega)

theorem yield_fuel {h : List Int} (T : Tree h) : ∀ w, 1 ≤ w → w ≤ h.length → ∀ (f : Nat), h.length - dep h w < f → spec_l2Yield_knot f h (w : Int) = some ((ymask h w : Nat) : Int) := by
  refine T.fallInd (P := fun w => ∀ (f : Nat), h.length - dep h w < f → spec_l2Yield_knot f h (w : Int) = some ((ymask h w : Nat) : Int)) ?_
  intro w h1 h2 ih f hf
  obtain ⟨f, rfl⟩ : ∃ g, f = g + 1 := ⟨f - 1, by omega⟩
  have hle := T.le
  simp only [spec_l2Yield_knot]
  generalize hR : spec_l2Yield_knot f = R0
  have ih' : ∀ c, 1 ≤ c → c ≤ h.length → hd h c = w → R0 h (c : Int) = some ((ymask h c : Nat) : Int) := by
    intro c c1 c2 c3
    rw [← hR]
    refine ih c c1 c2 c3 f ?_
    have := T.dep_step c1 c2 (by omega)
    rw [c3] at this
    have := T.dep_lt h1 h2
    omega
  have hloop := nloop_to (body := fun (s : Int × Int) => ((spec_l2Yield_n3 R0 h w s.1 s.2).map (Sum.elim (fun (t : Int × Int) => Sum.inl (t.1, t.2)) (fun (t : Int) => Sum.inr t)) : Option ((Int × Int) ⊕ (Int))))
    (fun k => (((maskN (stepB h w k) h.length : Nat) : Int), (k : Int))) h.length ((maskN (stepB h w h.length) h.length : Nat) : Int)
    (by
      intro k hk
      have hg := T.get (w := k + 1) (by omega) (by omega)
      rw [Nat.add_sub_cancel, List.getElem?_eq_getElem hk] at hg
      have hg' : h[k] = ((hd h (k + 1) : Nat) : Int) := Option.some.inj hg
      have l1 : maskN (stepB h w k) h.length < 256 := lt256 hle (maskN_lt _ _)
      simp only [spec_l2Yield_n3]
      rw [show decide ((k : Int) < ((h.length : Nat) : Int)) = true from decide_eq_true (by omega), idx_lt hk, wrap64 (by omega) (by omega), hg', show (k : Int) + 1 = ((k + 1 : Nat) : Int) by omega]
      simp only [cond_true, Option.bind_some]
      rw [step_one]
      by_cases e : hd h (k + 1) = w
      · have l2 := ymask_lt hle (k + 1)
        rw [show ((((hd h (k + 1) : Nat) : Int)) == (w : Int)) = true by rw [beq_iff_eq]; omega, ih' (k + 1) (by omega) (by omega) e, if_pos e]
        simp only [cond_true, Option.bind_some]
        rw [iori (by omega) (by omega)]
        rfl
      · rw [show ((((hd h (k + 1) : Nat) : Int)) == (w : Int)) = false by rw [beq_eq_false_iff_ne]; omega, if_neg e, Nat.or_zero]
        rfl)
    (by
      simp only [spec_l2Yield_n3]
      rw [show decide (((h.length : Nat) : Int) < ((h.length : Nat) : Int)) = false from decide_eq_false (by omega)]
      rfl)
  have hl := hloop LL (by simp only [LL]; omega)
  rw [step_none h h1 h2] at hl
  unfold spec_l2Yield_one spec_l2Yield_n9 spec_l2Yield_n1 spec_l2Yield_n8 spec_l2Yield_n6 spec_l2Yield_n2 spec_l2Yield_n5 spec_l2Yield_n4 spec_l2Yield_n7
  rw [shl_eq h1 (by omega)]
  simp only [Option.bind_some]
  rw [show ((((2 ^ (w - 1) : Nat) : Int)), (0 : Int)) = (((2 ^ (w - 1) : Nat) : Int), ((0 : Nat) : Int)) from rfl, hl]
  simp only [Option.map_some, Option.bind_some]
  have hm : maskN (stepB h w h.length) h.length = ymask h w := maskN_congr fun i hi => step_all T h1 h2 hi
  rw [hm]

theorem l2Yield_eq {h : List Int} (T : Tree h) {w : Nat} (h1 : 1 ≤ w) (h2 : w ≤ h.length) : spec_l2Yield h (w : Int) = some ((ymask h w : Nat) : Int) := by
  have e : spec_l2Yield h (w : Int) = spec_l2Yield_knot RR h (w : Int) := by unfold spec_l2Yield spec_l2Yield_fuel; rfl
  rw [e]
  have := T.le
  exact yield_fuel T w h1 h2 RR (by simp only [RR]; omega)

/-- Whether a set is a row: what is between two of its words is in it. -/
def rowN (m : Nat) : Bool := (List.range 8).all fun c => (List.range c).all fun b => (List.range b).all fun a => !(m.testBit a && m.testBit c) || m.testBit b

theorem rowN_iff (m : Nat) : rowN m = true ↔ ∀ a b c, a < b → b < c → c < 8 → m.testBit a = true → m.testBit c = true → m.testBit b = true := by
  unfold rowN
  simp only [List.all_eq_true, List.mem_range, Bool.or_eq_true, Bool.not_eq_true', Bool.and_eq_false_iff]
  constructor
  · intro h a b c h1 h2 h3 h4 h5
    rcases h c h3 b h2 a h1 with (e | e) | e
    · rw [h4] at e; cases e
    · rw [h5] at e; cases e
    · exact e
  · intro h c h3 b h2 a h1
    cases x : m.testBit a with
    | false => exact .inl (.inl rfl)
    | true =>
      cases y : m.testBit c with
      | false => exact .inl (.inr rfl)
      | true => exact .inr (h a b c h1 h2 h3 x y)

theorem isRow_tab : ((List.range 256).all fun m => impl_wordSet_isRow (m : Int) == some (rowN m)) = true := by decide +kernel
theorem isRow_eq {m : Nat} (h : m < 256) : impl_wordSet_isRow (m : Int) = some (rowN m) := by simpa using all_lt isRow_tab h
theorem l3Row_tab : ((List.range 255).all fun m => spec_l3Row ((m + 1 : Nat) : Int) == some (rowN (m + 1))) = true := by decide +kernel
theorem l3Row_eq {m : Nat} (h0 : 0 < m) (h : m < 256) : spec_l3Row (m : Int) = some (rowN m) := by
  have := all_lt l3Row_tab (i := m - 1) (by omega)
  rw [show m - 1 + 1 = m by omega] at this
  simpa using this

/-- A tree is flat: each yield is a row. -/
def FlatP (h : List Int) : Prop := ∀ k a b c, a < b → b < c → Und h a k → Und h c k → Und h b k

noncomputable def flatB (h : List Int) : Bool := @decide (FlatP h) (Classical.propDecidable _)
theorem flatB_iff {h : List Int} : flatB h = true ↔ FlatP h := by simp [flatB]
noncomputable def flatI (h : List Int) : Bool := treeB h && flatB h

theorem row_iff {h : List Int} (T : Tree h) (k : Nat) : rowN (ymask h k) = true ↔ ∀ a b c, a < b → b < c → Und h a k → Und h c k → Und h b k := by
  rw [rowN_iff]
  simp only [ymask_bit T, undB_iff]
  have hle := T.le
  constructor
  · intro x a b c h1 h2 u v
    have ru := T.und_rng u
    have rv := T.und_rng v
    have := x (a - 1) (b - 1) (c - 1) (by omega) (by omega) (by omega) (by rw [show a - 1 + 1 = a by omega]; exact u) (by rw [show c - 1 + 1 = c by omega]; exact v)
    rw [show b - 1 + 1 = b by omega] at this
    exact this
  · intro x a b c h1 h2 _ u v
    exact x (a + 1) (b + 1) (c + 1) (by omega) (by omega) u v

theorem flat_rows {h : List Int} (T : Tree h) : flatB h = (List.range h.length).all fun i => rowN (ymask h (i + 1)) := by
  rw [Bool.eq_iff_iff, flatB_iff, List.all_eq_true]
  constructor
  · intro F i hi
    exact (row_iff T (i + 1)).2 (F (i + 1))
  · intro x k a b c h1 h2 u v
    have ru := T.und_rng u
    have := (row_iff T (k - 1 + 1)).1 (x (k - 1) (by rw [List.mem_range]; omega))
    rw [show k - 1 + 1 = k by omega] at this
    exact this a b c h1 h2 u v

theorem implFlat_eq (h : List Int) : impl_FlatOk h = some (flatI h) := by
  have e : impl_FlatOk h = impl_FlatOk_n9 h := by unfold impl_FlatOk; rfl
  rw [e]
  unfold impl_FlatOk_n9 impl_FlatOk_n1 impl_FlatOk_n8 impl_FlatOk_n6 impl_FlatOk_n2 impl_FlatOk_n5 impl_FlatOk_n4 impl_FlatOk_n7 flatI
  rw [implTree_eq]
  cases hT : treeB h with
  | false => rfl
  | true =>
    have T := (tree_iff h).1 hT
    have hle := T.le
    simp only [Option.bind_some, Bool.not_true, cond_false, Sum.elim_inl, yields_eq T, yieldL_length, Bool.true_and]
    have hloop := nloop_while (body := fun (s : Int) => ((impl_FlatOk_n3 h.length s (yieldL h)).map (Sum.elim (fun (t : Int) => Sum.inl t) (Sum.elim (fun (t : Bool) => Sum.inr (Sum.inl t)) (fun (t : Unit) => Sum.inr (Sum.inr t)))) : Option ((Int) ⊕ (Bool ⊕ Unit))))
      (fun k => (k : Int)) h.length (fun i => rowN (ymask h (i + 1))) (fun b => cond b (.inr ()) (.inl false))
      (by
        intro k hk hp
        simp only [impl_FlatOk_n3]
        rw [show decide ((k : Int) < ((h.length : Nat) : Int)) = true from decide_eq_true (by omega), inb_nat (by rw [yieldL_length]; exact hk), wrap64 (by omega) (by omega)]
        simp only [cond_true, Option.bind_some, yieldL_get h hk, isRow_eq (ymask_lt hle _), hp]
        rfl)
      (by
        intro k hk hp
        simp only [impl_FlatOk_n3]
        rw [show decide ((k : Int) < ((h.length : Nat) : Int)) = true from decide_eq_true (by omega), inb_nat (by rw [yieldL_length]; exact hk), wrap64 (by omega) (by omega)]
        simp only [cond_true, Option.bind_some, yieldL_get h hk, isRow_eq (ymask_lt hle _), hp]
        rfl)
      (by
        simp only [impl_FlatOk_n3]
        rw [show decide (((h.length : Nat) : Int) < ((h.length : Nat) : Int)) = false from decide_eq_false (by omega)]
        rfl)
    rw [show (0 : Int) = ((0 : Nat) : Int) from rfl, hloop LL (by simp only [LL]; omega), flat_rows T]
    cases (List.range h.length).all fun i => rowN (ymask h (i + 1)) <;> rfl

theorem specFlat_eq (h : List Int) (hl : h.length ≤ 1048576) : spec_FlatOk h = some (flatI h) := by
  have e : spec_FlatOk h = spec_FlatOk_n9 h := by unfold spec_FlatOk; rfl
  rw [e]
  unfold spec_FlatOk_n9 spec_FlatOk_n1 spec_FlatOk_n8 spec_FlatOk_n6 spec_FlatOk_n2 spec_FlatOk_n5 spec_FlatOk_n4 spec_FlatOk_n7 flatI
  rw [specTree_eq]
  cases hT : treeB h with
  | false =>
    have hone : nloop (fun (s : Int) => ((spec_FlatOk_n3 h s).map (Sum.elim (fun (t : Int) => Sum.inl t) (Sum.elim (fun (t : Bool) => Sum.inr (Sum.inl t)) (fun (t : Unit) => Sum.inr (Sum.inr t)))) : Option ((Int) ⊕ (Bool ⊕ Unit)))) LL 1 = some (.inr ()) := by
      refine nloop_to (fun _ => (1 : Int)) 0 (Sum.inr () : Bool ⊕ Unit) (fun k hk => by omega) ?_ LL (by simp only [LL]; omega)
      simp only [spec_FlatOk_n3, specTree_eq, hT]
      cases decide ((1 : Int) ≤ ((h.length : Nat) : Int)) <;> rfl
    simp only [Option.bind_some]
    rw [hone]
    rfl
  | true =>
    have T := (tree_iff h).1 hT
    have hle := T.le
    have hloop := nloop_while (body := fun (s : Int) => ((spec_FlatOk_n3 h s).map (Sum.elim (fun (t : Int) => Sum.inl t) (Sum.elim (fun (t : Bool) => Sum.inr (Sum.inl t)) (fun (t : Unit) => Sum.inr (Sum.inr t)))) : Option ((Int) ⊕ (Bool ⊕ Unit))))
      (fun k => ((k + 1 : Nat) : Int)) h.length (fun i => rowN (ymask h (i + 1))) (fun b => cond b (.inr ()) (.inl false))
      (by
        intro k hk hp
        have h0 : 0 < ymask h (k + 1) := by
          have hb : (ymask h (k + 1)).testBit k = true := by rw [ymask_bit T, undB_iff]; exact .refl (by omega) (by omega)
          exact Nat.pos_of_ne_zero fun e => by rw [e] at hb; simp at hb
        simp only [spec_FlatOk_n3, specTree_eq, hT]
        rw [show decide (((k + 1 : Nat) : Int) ≤ ((h.length : Nat) : Int)) = true from decide_eq_true (by omega), wrap64 (by omega) (by omega), l2Yield_eq T (by omega) (by omega)]
        simp only [cond_true, Option.bind_some, l3Row_eq h0 (ymask_lt hle _), hp]
        rfl)
      (by
        intro k hk hp
        have h0 : 0 < ymask h (k + 1) := by
          have hb : (ymask h (k + 1)).testBit k = true := by rw [ymask_bit T, undB_iff]; exact .refl (by omega) (by omega)
          exact Nat.pos_of_ne_zero fun e => by rw [e] at hb; simp at hb
        simp only [spec_FlatOk_n3, specTree_eq, hT]
        rw [show decide (((k + 1 : Nat) : Int) ≤ ((h.length : Nat) : Int)) = true from decide_eq_true (by omega), wrap64 (by omega) (by omega), l2Yield_eq T (by omega) (by omega)]
        simp only [cond_true, Option.bind_some, l3Row_eq h0 (ymask_lt hle _), hp]
        rfl)
      (by
        simp only [spec_FlatOk_n3]
        rw [show decide (((h.length + 1 : Nat) : Int) ≤ ((h.length : Nat) : Int)) = false from decide_eq_false (by omega)]
        rfl)
    simp only [Option.bind_some]
    rw [show (1 : Int) = ((0 + 1 : Nat) : Int) from rfl, hloop LL (by simp only [LL]; omega), flat_rows T]
    cases (List.range h.length).all fun i => rowN (ymask h (i + 1)) <;> rfl

def Betw (a b j : Nat) : Prop := (a < j ∧ j < b) ∨ (b < j ∧ j < a)
def Outs (a b j : Nat) : Prop := (j < a ∧ j < b) ∨ (a < j ∧ b < j)

/-- Arcs of two words cross: just one end of the one is between both ends of the other one. -/
def CrossW (h : List Int) (w v : Nat) : Prop :=
  (Betw w (hd h w) v ∧ Outs w (hd h w) (hd h v)) ∨ (Betw w (hd h w) (hd h v) ∧ Outs w (hd h w) v)

/-- All words between a word and its head are under that head. -/
def BelowP (h : List Int) : Prop := ∀ w j, 1 ≤ w → w ≤ h.length → hd h w ≠ 0 → ((w < j ∧ j < hd h w) ∨ (hd h w < j ∧ j < w)) → Und h j (hd h w)

theorem flat_below {h : List Int} (T : Tree h) : FlatP h ↔ BelowP h := by
  constructor
  · intro F w j h1 h2 h3 hj
    have hh := T.hd_le h1 h2
    have u := T.und_hd h1 h2 h3
    have r : Und h (hd h w) (hd h w) := .refl (by omega) hh
    rcases hj with ⟨a, b⟩ | ⟨a, b⟩
    · exact F (hd h w) w j (hd h w) a b u r
    · exact F (hd h w) (hd h w) j w a b r u
  · intro Bl
    have key : ∀ k a, Und h a k → ∀ b, Betw a k b → Und h b k := by
      intro k a u
      induction u with
      | refl h1 h2 => intro b hb; unfold Betw at hb; omega
      | @step a k h1 h2 h3 u ih =>
        intro b hb
        have hh := T.hd_le h1 h2
        by_cases e : b = hd h a
        · rw [e]; exact u
        · by_cases hm : (a < b ∧ b < hd h a) ∨ (hd h a < b ∧ b < a)
          · exact T.und_trans (Bl a b h1 h2 h3 hm) u
          · refine ih b ?_
            unfold Betw at hb ⊢
            omega
    intro k a b c h1 h2 u v
    by_cases e : b = k
    · have r := T.und_rng u
      rw [e]; exact .refl r.2.1 r.2.2
    · rcases Nat.lt_or_ge b k with h | h
      · exact key k a u b (.inl ⟨h1, h⟩)
      · exact key k c v b (.inr ⟨by omega, h2⟩)

/-- The root lies under no arc, and no two arcs cross. -/
def PlanP (h : List Int) : Prop :=
  (∀ w, 1 ≤ w → w ≤ h.length → hd h w ≠ 0 → ¬ Betw w (hd h w) (top h)) ∧ ∀ w v, 1 ≤ w → w ≤ h.length → hd h w ≠ 0 → 1 ≤ v → v ≤ h.length → hd h v ≠ 0 → ¬ CrossW h w v

theorem below_plan {h : List Int} (T : Tree h) : BelowP h ↔ PlanP h := by
  constructor
  · intro Bl
    refine ⟨fun w h1 h2 h3 hb => ?_, fun w v h1 h2 h3 v1 v2 v3 hc => ?_⟩
    · have u := Bl w (top h) h1 h2 h3 hb
      have := T.und_of_top u
      unfold Betw at hb
      omega
    · have hw := T.hd_le h1 h2
      have hv := T.hd_le v1 v2
      -- the arcs' heads are under each other
      have s1 : Und h (hd h v) (hd h w) := by
        rcases hc with ⟨hb, ho⟩ | ⟨hb, ho⟩
        · have u := Bl w v h1 h2 h3 hb
          rcases (T.und_iff v1 v2).1 u with e | ⟨_, u'⟩
          · unfold Betw at hb; omega
          · exact u'
        · exact Bl w (hd h v) h1 h2 h3 hb
      have s2 : Und h (hd h w) (hd h v) := by
        have ht : (Betw v (hd h v) w) ∨ (Betw v (hd h v) (hd h w)) := by
          unfold CrossW Betw Outs at hc
          unfold Betw
          omega
        rcases ht with hb | hb
        · have u := Bl v w v1 v2 v3 hb
          rcases (T.und_iff h1 h2).1 u with e | ⟨_, u'⟩
          · unfold Betw at hb; omega
          · exact u'
        · exact Bl v (hd h w) v1 v2 v3 hb
      have e := T.und_anti s1 s2
      unfold CrossW Betw Outs at hc
      omega
  · rintro ⟨P1, P2⟩ w j h1 h2 h3 hj
    have hw := T.hd_le h1 h2
    have j1 : 1 ≤ j := by omega
    have j2 : j ≤ h.length := by omega
    revert hj
    refine T.climbInd (P := fun j => (w < j ∧ j < hd h w) ∨ (hd h w < j ∧ j < w) → Und h j (hd h w)) (fun hj => absurd hj (P1 w h1 h2 h3)) (fun v v1 v2 v3 ih hj => ?_) j j1 j2
    have hv := T.hd_le v1 v2
    have nc := P2 w v h1 h2 h3 v1 v2 v3
    by_cases e1 : hd h v = hd h w
    · rw [← e1]; exact T.und_hd v1 v2 v3
    · by_cases e2 : hd h v = w
      · refine .step v1 v2 v3 ?_
        rw [e2]; exact T.und_hd h1 h2 h3
      · refine .step v1 v2 v3 (ih ?_)
        unfold CrossW Betw Outs at nc
        omega

theorem pairwise_all {α : Type} {R : α → α → Prop} (hs : ∀ x y, R x y → R y x) (hr : ∀ x, R x x) : ∀ l : List α, l.Pairwise R ↔ ∀ x ∈ l, ∀ y ∈ l, R x y
  | [] => by simp
  | a :: r => by
    rw [List.pairwise_cons, pairwise_all hs hr r]
    constructor
    · rintro ⟨h1, h2⟩ x hx y hy
      rcases List.mem_cons.1 hx with ex | hx' <;> rcases List.mem_cons.1 hy with ey | hy'
      · rw [ex, ey]; exact hr _
      · rw [ex]; exact h1 y hy'
      · rw [ey]; exact hs _ _ (h1 x hx')
      · exact h2 x hx' y hy'
    · intro h
      exact ⟨fun y hy => h a List.mem_cons_self y (List.mem_cons_of_mem _ hy), fun x hx y hy => h x (List.mem_cons_of_mem _ hx) y (List.mem_cons_of_mem _ hy)⟩

theorem arcs_pairs {h : List Int} (T : Tree h) : crossN h = 0 ↔ ∀ w v, 1 ≤ w → w ≤ h.length → hd h w ≠ 0 → 1 ≤ v → v ≤ h.length → hd h v ≠ 0 → ¬ CrossW h w v := by
  have one : ∀ w v, hd h w ≠ w → hd h v ≠ v → (crossP (imin (w : Int) ((hd h w : Nat) : Int), imax (w : Int) ((hd h w : Nat) : Int)) (imin (v : Int) ((hd h v : Nat) : Int), imax (v : Int) ((hd h v : Nat) : Int)) = true ↔ CrossW h w v) := by
    intro w v e1 e2
    unfold crossP arcX CrossW Betw Outs
    rw [decide_eq_true_eq]
    have m1 := min_max (a := (w : Int)) (b := ((hd h w : Nat) : Int)) (by omega)
    have m2 := min_max (a := (v : Int)) (b := ((hd h v : Nat) : Int)) (by omega)
    simp only
    unfold imin imax at m1 m2 ⊢
    split <;> split <;> split <;> split <;> omega
  unfold crossN
  rw [pairsN_zero, pairwise_all (fun x y e => by rw [crossP_comm]; exact e) (fun x => by unfold crossP arcX; rw [decide_eq_false_iff_not]; omega)]
  constructor
  · intro H w v h1 h2 h3 v1 v2 v3 hc
    have := H _ ((mem_arcs T).2 ⟨w, h1, h2, h3, rfl⟩) _ ((mem_arcs T).2 ⟨v, v1, v2, v3, rfl⟩)
    rw [(one w v (T.hd_other h1 h2) (T.hd_other v1 v2)).2 hc] at this
    cases this
  · intro H p hp q hq
    obtain ⟨w, h1, h2, h3, rfl⟩ := (mem_arcs T).1 hp
    obtain ⟨v, v1, v2, v3, rfl⟩ := (mem_arcs T).1 hq
    cases hc : crossP (imin (w : Int) ((hd h w : Nat) : Int), imax (w : Int) ((hd h w : Nat) : Int)) (imin (v : Int) ((hd h v : Nat) : Int), imax (v : Int) ((hd h v : Nat) : Int)) with
    | false => rfl
    | true => exact absurd ((one w v (T.hd_other h1 h2) (T.hd_other v1 v2)).1 hc) (H w v h1 h2 h3 v1 v2 v3)

theorem plan_iff {h : List Int} (T : Tree h) : FlatP h ↔ crossN h = 0 ∧ covB h ((top h : Nat) : Int) = false := by
  rw [flat_below T, below_plan T, arcs_pairs T]
  unfold PlanP
  constructor
  · rintro ⟨h1, h2⟩
    refine ⟨h2, ?_⟩
    cases hc : covB h ((top h : Nat) : Int) with
    | false => rfl
    | true =>
      obtain ⟨w, w1, w2, w3, hw⟩ := (covB_iff T).1 hc
      exact absurd (by unfold Betw; omega) (h1 w w1 w2 w3)
  · rintro ⟨h2, hc⟩
    refine ⟨fun w w1 w2 w3 hb => ?_, h2⟩
    rw [(covB_iff T).2 ⟨w, w1, w2, w3, by unfold Betw at hb; omega⟩] at hc
    cases hc

def btwN (a b j : Nat) : Bool := (Nat.blt a j && Nat.blt j b) || (Nat.blt b j && Nat.blt j a)
def outN (a b j : Nat) : Bool := (Nat.blt j a && Nat.blt j b) || (Nat.blt a j && Nat.blt b j)
/-- Two words, each with its head or 0, cross. -/
def crsN (a b c d : Nat) : Bool := (btwN a b c && outN a b d) || (btwN a b d && outN a b c)

def noCrs (w v : Nat) : Nat → List Nat → Bool
  | _, [] => true
  | i, x :: xs => !(crsN i x w v) && noCrs w v (i + 1) xs
/-- From head to head one does not come to the word. -/
def chaseN (pre : List Nat) (w : Nat) : Nat → Nat → Bool
  | 0, _ => true
  | f + 1, x => Nat.beq x 0 || Nat.blt w x || (!(Nat.beq x w) && chaseN pre w f (pre.getD (x - 1) 0))

/-- Whether a head may follow these heads. -/
def okN (pre : List Nat) (v : Nat) : Bool :=
  chaseN pre (pre.length + 1) 9 v && noCrs (pre.length + 1) v 1 pre && !(Nat.beq v 0 && pre.contains 0)

/-- All flat trees of `n` words that begin so. -/
def srchN (P : List Int → Bool) (n : Nat) : Nat → List Nat → Bool
  | 0, pre => P (pre.map Int.ofNat)
  | k + 1, pre => (List.range (n + 1)).all fun v => !(okN pre v) || srchN P n k (pre ++ [v])

def hdsN (h : List Int) (j : Nat) : List Nat := (List.range j).map fun i => hd h (i + 1)

theorem hdsN_succ (h : List Int) (j : Nat) : hdsN h (j + 1) = hdsN h j ++ [hd h (j + 1)] := by
  simp [hdsN, List.range_succ]

theorem hdsN_all {h : List Int} (T : Tree h) : (hdsN h h.length).map Int.ofNat = h := by
  apply List.ext_getElem
  · simp [hdsN]
  · intro i h1 h2
    have := T.get (w := i + 1) (by omega) (by omega)
    rw [show i + 1 - 1 = i by omega, List.getElem?_eq_getElem h2] at this
    injection this with this
    simp [hdsN, this]

theorem crsN_iff (a b c d : Nat) : crsN a b c d = true ↔ (Betw a b c ∧ Outs a b d) ∨ (Betw a b d ∧ Outs a b c) := by
  have b (x y : Nat) : Nat.blt x y = true ↔ x < y := by rw [Nat.blt_eq]
  unfold crsN btwN outN Betw Outs
  simp only [Bool.or_eq_true, Bool.and_eq_true, b]

theorem flat_crs {h : List Int} (T : Tree h) (F : FlatP h) {w v : Nat} (w1 : 1 ≤ w) (w2 : w ≤ h.length) (v1 : 1 ≤ v) (v2 : v ≤ h.length) (ne : w ≠ v) :
    crsN w (hd h w) v (hd h v) = false := by
  rw [Bool.eq_false_iff]
  intro x
  rw [crsN_iff] at x
  have B := (flat_below T).mp F
  by_cases hw : hd h w = 0
  · have e := (T.hd_zero w1 w2).mp hw
    have hv : hd h v ≠ 0 := fun y => ne (e.trans ((T.hd_zero v1 v2).mp y).symm)
    have b : Betw v (hd h v) w := by
      rw [hw] at x
      unfold Betw Outs at *
      omega
    have := B v w v1 v2 hv b
    rw [e] at this
    have := T.und_of_top this
    unfold Betw at b
    omega
  · by_cases hv : hd h v = 0
    · have e := (T.hd_zero v1 v2).mp hv
      have b : Betw w (hd h w) v := by
        rw [hv] at x
        unfold Betw Outs at *
        omega
      have := B w v w1 w2 hw b
      rw [e] at this
      have := T.und_of_top this
      unfold Betw at b
      omega
    · have N := (arcs_pairs T).mp ((plan_iff T).mp F).1 w v w1 w2 hw v1 v2 hv
      exact N x

theorem noCrs_ok (w v : Nat) : ∀ (l : List Nat) (i : Nat), (∀ k (hk : k < l.length), crsN (i + k) l[k] w v = false) → noCrs w v i l = true
  | [], _, _ => rfl
  | x :: xs, i, h => by
    unfold noCrs
    have h0 := h 0 (by simp)
    simp only [Nat.add_zero, List.getElem_cons_zero] at h0
    rw [h0, noCrs_ok w v xs (i + 1) (fun k hk => by
      have := h (k + 1) (by simp; omega)
      simp only [List.getElem_cons_succ] at this
      rwa [show i + 1 + k = i + (k + 1) by omega])]
    rfl

theorem hdsN_getD (h : List Int) {i j : Nat} (hi : i < j) : (hdsN h j).getD i 0 = hd h (i + 1) := by simp [hdsN, List.getD, hi]

theorem chase_ok {h : List Int} (T : Tree h) {j : Nat} (hj : j < h.length) : ∀ (f x : Nat), (x = 0 ∨ Und h (hd h (j + 1)) x) → chaseN (hdsN h j) (j + 1) f x = true
  | 0, _, _ => rfl
  | f + 1, x, u => by
    unfold chaseN
    simp only [Bool.or_eq_true, Bool.and_eq_true, Nat.beq_eq_true_eq, Nat.blt_eq, Bool.not_eq_true']
    by_cases x0 : x = 0
    · exact .inl (.inl (by rw [x0]; rfl))
    · have u := u.resolve_left x0
      have r := T.und_rng u
      by_cases xl : j + 1 < x
      · exact .inl (.inr xl)
      · have xne : x ≠ j + 1 := by
          intro e
          have z : hd h (j + 1) ≠ 0 := by
            have := r.1.1
            omega
          have a := T.und_hd (a := j + 1) (by omega) (by omega) z
          rw [e] at u
          have := T.und_anti a u
          exact T.hd_other (w := j + 1) (by omega) (by omega) this.symm
        refine .inr ⟨?_, ?_⟩
        · rw [Bool.eq_false_iff]
          intro y
          exact xne (Nat.eq_of_beq_eq_true y)
        · rw [hdsN_getD h (show x - 1 < j by omega), show x - 1 + 1 = x by omega]
          refine chase_ok T hj f _ ?_
          by_cases z : hd h x = 0
          · exact .inl z
          · exact .inr (T.und_trans u (T.und_hd r.2.1 r.2.2 z))

theorem okN_ok {h : List Int} (T : Tree h) (F : FlatP h) {j : Nat} (hj : j < h.length) : okN (hdsN h j) (hd h (j + 1)) = true := by
  have lj : (hdsN h j).length = j := by simp [hdsN]
  unfold okN
  rw [lj]
  have c1 : chaseN (hdsN h j) (j + 1) 9 (hd h (j + 1)) = true := by
    refine chase_ok T hj 9 _ ?_
    by_cases z : hd h (j + 1) = 0
    · exact .inl z
    · exact .inr (.refl (Nat.pos_of_ne_zero z) (T.hd_le (w := j + 1) (by omega) (by omega)))
  have c2 : noCrs (j + 1) (hd h (j + 1)) 1 (hdsN h j) = true := by
    refine noCrs_ok _ _ _ _ ?_
    intro k hk
    have : (hdsN h j)[k] = hd h (k + 1) := by simp [hdsN]
    rw [this, Nat.add_comm 1 k]
    exact flat_crs T F (by omega) (by omega) (by omega) (by omega) (by omega)
  rw [c1, c2]
  simp only [Bool.true_and, Bool.not_eq_true', Bool.and_eq_false_iff]
  by_cases z : hd h (j + 1) = 0
  · refine .inr ?_
    rw [Bool.eq_false_iff]
    intro c
    simp only [List.contains_iff_mem, hdsN, List.mem_map, List.mem_range] at c
    obtain ⟨i, hi, y⟩ := c
    have e1 := (T.hd_zero (w := j + 1) (by omega) (by omega)).mp z
    have e2 := (T.hd_zero (w := i + 1) (by omega) (by omega)).mp y
    omega
  · refine .inl ?_
    rw [Bool.eq_false_iff]
    intro y
    exact z (Nat.eq_of_beq_eq_true y)

theorem srch_all {h : List Int} (T : Tree h) (F : FlatP h) {P : List Int → Bool} : ∀ (k j : Nat), j + k = h.length → srchN P h.length k (hdsN h j) = true → P h = true
  | 0, j, e, s => by
    rw [show j = h.length by omega] at s
    unfold srchN at s
    rwa [hdsN_all T] at s
  | k + 1, j, e, s => by
    unfold srchN at s
    rw [List.all_eq_true] at s
    have hl := T.hd_le (w := j + 1) (by omega) (by omega)
    have := s (hd h (j + 1)) (by simp only [List.mem_range]; omega)
    rw [← hdsN_succ, okN_ok T F (by omega)] at this
    refine srch_all T F k (j + 1) (by omega) ?_
    simpa using this

theorem flat_all {P : List Int → Bool} {n : Nat} (s : srchN P n n [] = true) {h : List Int} (T : Tree h) (F : FlatP h) (e : h.length = n) : P h = true := by
  subst e
  exact srch_all T F h.length 0 (by omega) s

/-- Flat trees of `n` words, and rows of them; the numbers of chapter 4. -/
def flatT : Nat → Nat
  | 0 => 0 | 1 => 1 | 2 => 2 | 3 => 7 | 4 => 30 | 5 => 143 | 6 => 728 | _ => 0
def rowsT : Nat → Nat
  | 0 => 1 | 1 => 1 | 2 => 3 | 3 => 12 | 4 => 55 | 5 => 273 | 6 => 1428 | _ => 0

theorem specRowsT : ((List.range 7).all fun n => spec_l4Rows (n : Int) == some (rowsT n : Int)) = true := by decide +kernel
theorem specFlatT : ((List.range 7).all fun n => spec_l4Flat (n : Int) == some (flatT n : Int)) = true := by decide +kernel

def tabR (f : Int → Option Int) (t : Nat → Nat) (x : Int) : Option Int :=
  match x with
  | .ofNat n => cond (Nat.ble n 6) (some (t n : Int)) (f x)
  | .negSucc _ => f x

theorem tabR_eq {f : Int → Option Int} {t : Nat → Nat} (h : ((List.range 7).all fun n => f (n : Int) == some (t n : Int)) = true) : f = tabR f t := by
  funext x
  cases x with
  | negSucc n => rfl
  | ofNat n =>
    simp only [tabR]
    cases e : Nat.ble n 6 with
    | false => rfl
    | true =>
      have := List.all_eq_true.mp h n (by simp only [List.mem_range]; have := Nat.le_of_ble_eq_true e; omega)
      simpa using this

/-- Reckoning in 64 bits, where it is small, at once. -/
def wrapG (L : Nat) (x : Int) : Int :=
  match x with
  | .ofNat n => cond (Nat.ble n L) (.ofNat n) (IntKind.wrap .i64 x)
  | .negSucc n => cond (Nat.ble n L) (.negSucc n) (IntKind.wrap .i64 x)

theorem small1 (n L : Nat) (hL : (L : Int) ≤ 9223372036854775807) (h : n ≤ L) : IntKind.wrap .i64 (n : Int) = (n : Int) := wrap64 (by omega) (by omega)
theorem small2 (n L : Nat) (hL : (L : Int) ≤ 9223372036854775807) (h : n ≤ L) : IntKind.wrap .i64 (Int.negSucc n) = Int.negSucc n := by
  rw [Int.negSucc_eq]
  exact wrap64 (by omega) (by omega)
theorem cond_ble {α : Type} {n L : Nat} {a b : α} (h : n ≤ L → b = a) : b = cond (Nat.ble n L) a b := by
  cases e : Nat.ble n L with
  | false => rfl
  | true => exact h (Nat.le_of_ble_eq_true e)
theorem wrapG_eq (L : Nat) (hL : (L : Int) ≤ 9223372036854775807) : IntKind.wrap .i64 = wrapG L := by
  funext x
  cases x with
  | ofNat n => exact cond_ble (small1 n L hL)
  | negSucc n => exact cond_ble (small2 n L hL)

def wrapF : Int → Int := wrapG 1000000000000000000
theorem wrapF_eq : IntKind.wrap .i64 = wrapF := wrapG_eq 1000000000000000000 (by omega)

def ltF (a b : Int) : Bool :=
  match a, b with
  | .ofNat a, .ofNat b => Nat.blt a b
  | .negSucc _, .ofNat _ => true
  | .ofNat _, .negSucc _ => false
  | .negSucc a, .negSucc b => Nat.blt b a
def leF (a b : Int) : Bool :=
  match a, b with
  | .ofNat a, .ofNat b => Nat.ble a b
  | .negSucc _, .ofNat _ => true
  | .ofNat _, .negSucc _ => false
  | .negSucc a, .negSucc b => Nat.ble b a

theorem ltF_eq (a b : Int) : decide (a < b) = ltF a b := by
  cases a <;> cases b <;> simp only [ltF, Int.ofNat_eq_natCast, Int.negSucc_eq] <;> rw [Bool.eq_iff_iff] <;> simp <;> omega
theorem leF_eq (a b : Int) : decide (a ≤ b) = leF a b := by
  cases a <;> cases b <;> simp only [leF, Int.ofNat_eq_natCast, Int.negSucc_eq] <;> rw [Bool.eq_iff_iff] <;> simp <;> omega

abbrev TreeF := Int → Int → Int → Int → List Int → Option (List Int)

def specTreeP : {F : TreeF → TreeF → TreeF // spec_l4Tree_one = F} := by
  apply Subtype.mk
  unfold spec_l4Tree_one
  unfold spec_l4Tree_n5
  unfold spec_l4Tree_n4
  unfold spec_l4Tree_n3
  unfold spec_l4Tree_n2
  rewrite [tabR_eq specRowsT, wrapF_eq]
  simp only [ltF_eq, leF_eq]
  exact rfl

def specRowP : {F : TreeF → TreeF → TreeF // spec_l4Row_one = F} := by
  apply Subtype.mk
  unfold spec_l4Row_one
  unfold spec_l4Row_n5
  unfold spec_l4Row_n4
  unfold spec_l4Row_n3
  unfold spec_l4Row_n2
  rewrite [tabR_eq specRowsT, tabR_eq specFlatT, wrapF_eq]
  simp only [ltF_eq, leF_eq]
  exact rfl

def specTreeK : Nat → TreeF × TreeF
  | 0 => ((fun _ _ _ _ _ => none), (fun _ _ _ _ _ => none))
  | n + 1 => (specTreeP.1 (specTreeK n).1 (specTreeK n).2, specRowP.1 (specTreeK n).1 (specTreeK n).2)

abbrev RankF := List Int → Int → Int → Int → Option Int

def specTRP : {F : RankF → RankF → RankF // spec_l4TreeRank_one = F} := by
  apply Subtype.mk
  unfold spec_l4TreeRank_one spec_l4TreeRank_n9 spec_l4TreeRank_n8 spec_l4TreeRank_n7 spec_l4TreeRank_n6 spec_l4TreeRank_n5 spec_l4TreeRank_n4 spec_l4TreeRank_n3
  rewrite [tabR_eq specRowsT, wrapF_eq]
  simp only [ltF_eq, leF_eq]
  exact rfl

def specRRP : {F : RankF → RankF → RankF // spec_l4RowRank_one = F} := by
  apply Subtype.mk
  unfold spec_l4RowRank_one spec_l4RowRank_n21 spec_l4RowRank_n20 spec_l4RowRank_n19 spec_l4RowRank_n18 spec_l4RowRank_n17 spec_l4RowRank_n16 spec_l4RowRank_n15 spec_l4RowRank_n14 spec_l4RowRank_n13 spec_l4RowRank_n12 spec_l4RowRank_n11
  rewrite [tabR_eq specRowsT, tabR_eq specFlatT, wrapF_eq]
  simp only [ltF_eq, leF_eq]
  exact rfl

def specRankK : Nat → RankF × RankF
  | 0 => ((fun _ _ _ _ => none), (fun _ _ _ _ => none))
  | n + 1 => (specTRP.1 (specRankK n).1 (specRankK n).2, specRRP.1 (specRankK n).1 (specRankK n).2)

theorem specRankK_eq : ∀ n, spec_l4TreeRank_knot n = specRankK n
  | 0 => rfl
  | n + 1 => by
    show ((fun y0 y1 y2 y3 => spec_l4TreeRank_one (spec_l4TreeRank_knot n).1 (spec_l4TreeRank_knot n).2 y0 y1 y2 y3), (fun y0 y1 y2 y3 => spec_l4RowRank_one (spec_l4TreeRank_knot n).1 (spec_l4TreeRank_knot n).2 y0 y1 y2 y3)) = specRankK (n + 1)
    rw [specRankK_eq n, specTRP.2, specRRP.2]
    rfl

theorem spec4Rank_eq : spec_l4TreeRank = (specRankK RR).1 := by
  rw [← specRankK_eq]
  funext a b c d
  unfold spec_l4TreeRank
  rfl

/-- To reckon a small number, and the words of a row, before one goes on. -/
def fN {α : Type} (n : Nat) (k : Nat → α) : α :=
  match n with
  | 0 => k 0 | 1 => k 1 | 2 => k 2 | 3 => k 3 | 4 => k 4 | 5 => k 5 | 6 => k 6 | 7 => k 7 | 8 => k 8 | n => k n
theorem fN_eq {α : Type} (n : Nat) (k : Nat → α) : fN n k = k n := by unfold fN; split <;> rfl
def fI {α : Type} (x : Int) (k : Int → α) : α :=
  match x with
  | .ofNat n => fN n fun n => k (.ofNat n)
  | .negSucc n => k (.negSucc n)
theorem fI_eq {α : Type} (x : Int) (k : Int → α) : fI x k = k x := by cases x <;> simp only [fI, fN_eq]
def fL {α : Type} (l : List Int) (k : List Int → α) : α :=
  match l with
  | [] => k []
  | x :: xs => fI x fun x => fL xs fun xs => k (x :: xs)
theorem fL_eq {α : Type} : ∀ (l : List Int) (k : List Int → α), fL l k = k l
  | [], k => rfl
  | x :: xs, k => by rw [fL, fI_eq, fL_eq xs]
def fM {α : Type} (l : List Nat) (k : List Nat → α) : α :=
  match l with
  | [] => k []
  | x :: xs => fN x fun x => fM xs fun xs => k (x :: xs)
theorem fM_eq {α : Type} : ∀ (l : List Nat) (k : List Nat → α), fM l k = k l
  | [], k => rfl
  | x :: xs, k => by rw [fM, fN_eq, fM_eq xs]

def srchF (P : List Int → Bool) (n : Nat) : Nat → List Nat → Bool
  | 0, pre => fL (pre.map Int.ofNat) P
  | k + 1, pre => (List.range (n + 1)).all fun v => fN v fun v => !(okN pre v) || fM (pre ++ [v]) fun q => srchF P n k q
theorem srchF_eq (P : List Int → Bool) (n : Nat) : ∀ k pre, srchF P n k pre = srchN P n k pre
  | 0, pre => by rw [srchF, srchN, fL_eq]
  | k + 1, pre => by
    rw [srchF, srchN]
    congr 1
    funext v
    rw [fN_eq, fM_eq, srchF_eq P n k]
theorem flat_allF {P : List Int → Bool} {n : Nat} (s : srchF P n n [] = true) {h : List Int} (T : Tree h) (F : FlatP h) (e : h.length = n) : P h = true :=
  flat_all (by rw [← srchF_eq]; exact s) T F e

def treeS (n k : Nat) : Option (List Int) := (specTreeK RR).1 1 (n : Int) 0 (k : Int) (List.replicate n 0)
def rankS (h : List Int) : Option Int := (specRankK RR).1 h 1 (h.length : Int) (top h : Int)

def chkH (h : List Int) : Bool :=
  match rankS h with
  | some (.ofNat k) => Nat.blt k (flatT h.length) && treeS h.length k == some h
  | _ => false

theorem h_tab5 : ((List.range 5).all fun n => srchF chkH (n + 1) (n + 1) []) = true := by decide +kernel
theorem h_tab6_0 : srchF chkH 6 5 [0] = true := by decide +kernel
theorem h_tab6_2 : srchF chkH 6 5 [2] = true := by decide +kernel
theorem h_tab6_3 : srchF chkH 6 5 [3] = true := by decide +kernel
theorem h_tab6_4 : srchF chkH 6 5 [4] = true := by decide +kernel
theorem h_tab6_5 : srchF chkH 6 5 [5] = true := by decide +kernel
theorem h_tab6_6 : srchF chkH 6 5 [6] = true := by decide +kernel
theorem srchF_cons {P : List Int → Bool} {k : Nat} (h : ∀ v, v ≤ k + 1 → v ≠ 1 → srchF P (k + 1) k [v] = true) : srchF P (k + 1) (k + 1) [] = true := by
  rw [srchF, List.all_eq_true]
  intro v hv
  rw [fN_eq, fM_eq, List.nil_append]
  by_cases e : v = 1
  · subst e
    rfl
  · rw [h v (by simp only [List.mem_range] at hv; omega) e, Bool.or_true]

theorem h_tab {n : Nat} (n1 : 1 ≤ n) (n6 : n ≤ 6) : srchF chkH n n [] = true := by
  by_cases e : n = 6
  · subst e
    refine srchF_cons ?_
    intro v hv ne
    have : v = 0 ∨ v = 2 ∨ v = 3 ∨ v = 4 ∨ v = 5 ∨ v = 6 := by omega
    rcases this with rfl | rfl | rfl | rfl | rfl | rfl
    · exact h_tab6_0
    · exact h_tab6_2
    · exact h_tab6_3
    · exact h_tab6_4
    · exact h_tab6_5
    · exact h_tab6_6
  · have s := List.all_eq_true.mp h_tab5 (n - 1) (by simp only [List.mem_range]; omega)
    simp only [show n - 1 + 1 = n by omega] at s
    exact s

/-- A flat tree of at most six words has a number, and the tree of that number is it. -/
theorem place_ok {h : List Int} (T : Tree h) (F : FlatP h) (l : h.length ≤ 6) : ∃ k : Nat, k < flatT h.length ∧ rankS h = some (k : Int) ∧ treeS h.length k = some h := by
  have hp := T.pos
  have c := flat_allF (h_tab hp l) T F rfl
  unfold chkH at c
  split at c
  · rename_i k e
    rw [Bool.and_eq_true, Nat.blt_eq, beq_iff_eq] at c
    exact ⟨k, c.1, e, c.2⟩
  · cases c

theorem specRoot_eq (h : List Int) (hl : h.length ≤ 1048576) : spec_RootOf h = some (rootI h) := by
  unfold spec_RootOf spec_RootOf_n9 spec_RootOf_n1 spec_RootOf_n8 spec_RootOf_n6 spec_RootOf_n2 spec_RootOf_n5 spec_RootOf_n4 spec_RootOf_n7 rootI
  simp only [Option.bind_some]
  cases hT : treeB h with
  | false =>
    have hloop := nloop_run (body := fun (s : Int) => ((spec_RootOf_n3 h s).map (Sum.elim (fun (t : Int) => Sum.inl t) (Sum.elim (fun (t : Int) => Sum.inr (Sum.inl t)) (fun (t : Unit) => Sum.inr (Sum.inr t)))) : Option ((Int) ⊕ (Int ⊕ Unit))))
      (I := fun s => s = 0) (μ := fun s => 0) (f := fun s => .inr ())
      (by
        rintro _ rfl
        right
        simp only [spec_RootOf_n3]
        rw [specTree_eq, hT]
        by_cases h0 : (0 : Int) < ((h.length : Nat) : Int)
        · rw [decide_eq_true h0]; simp
        · rw [decide_eq_false h0]; simp)
    rw [hloop LL 0 rfl (by simp [LL])]
    simp
  | true =>
    have T := (tree_iff h).1 hT
    have hloop := nloop_run (body := fun (s : Int) => ((spec_RootOf_n3 h s).map (Sum.elim (fun (t : Int) => Sum.inl t) (Sum.elim (fun (t : Int) => Sum.inr (Sum.inl t)) (fun (t : Unit) => Sum.inr (Sum.inr t)))) : Option ((Int) ⊕ (Int ⊕ Unit))))
      (I := fun s => ∃ k : Nat, s = (k : Int) ∧ k < top h) (μ := fun s => h.length - s.toNat) (f := fun s => .inl (top h : Int))
      (by
        rintro _ ⟨k, rfl, hk⟩
        have ht := T.top_le
        have hlt : k < h.length := by omega
        have hg := T.get (w := k + 1) (by omega) (by omega)
        rw [show k + 1 - 1 = k by omega, List.getElem?_eq_getElem hlt] at hg
        have hg' : h[k] = ((hd h (k + 1) : Nat) : Int) := by simpa using hg
        simp only [spec_RootOf_n3]
        rw [specTree_eq, hT, show decide ((k : Int) < ((h.length : Nat) : Int)) = true from decide_eq_true (by omega), idx_lt hlt, wrap64 (by omega) (by omega)]
        simp only [cond_true, Option.bind_some]
        by_cases e : hd h (k + 1) = 0
        · right
          have := (T.hd_zero (w := k + 1) (by omega) (by omega)).1 e
          have e1 : h[k] = 0 := by omega
          simp [e1]; omega
        · left
          have hne : k + 1 ≠ top h := fun hh => e ((T.hd_zero (by omega) (by omega)).2 hh)
          have e1 : (h[k] == 0) = false := by simp; omega
          refine ⟨((k + 1 : Nat) : Int), by simp [e1], ⟨k + 1, rfl, by omega⟩, by simp; omega, trivial⟩)
    rw [hloop LL 0 ⟨0, rfl, (top_pos h)⟩ (by simp only [LL]; simp; omega)]
    simp

/-- The number of a flat tree; -1 for none. -/
noncomputable def placeI (h : List Int) : Int := if flatI h = true ∧ h.length ≤ 6 then (rankS h).getD 0 else -1

theorem flatI_iff {h : List Int} : flatI h = true ↔ Tree h ∧ FlatP h := by
  unfold flatI
  rw [Bool.and_eq_true, tree_iff, flatB_iff]

theorem specPlace_eq (h : List Int) (hl : h.length ≤ 1048576) : spec_PlaceOf h = some (placeI h) := by
  unfold spec_PlaceOf spec_PlaceOf_n1 placeI
  rw [specFlat_eq h hl]
  cases f : flatI h with
  | false => simp
  | true =>
    obtain ⟨T, F⟩ := flatI_iff.mp f
    simp only [Option.bind_some, Bool.not_true, cond_false, true_and]
    by_cases l : h.length ≤ 6
    · obtain ⟨k, hk, hr, _⟩ := place_ok T F l
      rw [decide_eq_false (by omega), if_pos l, specRoot_eq h hl, spec4Rank_eq]
      unfold rankS at hr ⊢
      have : rootI h = (top h : Int) := by unfold rootI; rw [(tree_iff h).mpr T]; rfl
      simp only [cond_false, Option.bind_some, this, hr, Option.getD_some]
    · rw [decide_eq_true (by omega), if_neg l]
      rfl

theorem implPartsQ_eq : impl_countFlatParts = some (0, 1, 2, 7, 30, 143, 728, 1, 1, 3, 12, 55, 273, 1428) := by kernel_rfl

def placeM (h : List Int) : Option (Int × Int) := impl_flatCounts_numberOfTree 0 1 2 7 30 143 728 1 1 3 12 55 273 1428 h (top h : Int)

def chkJ (h : List Int) : Bool := (placeM h).map (fun v => v.2) == rankS h

theorem j_tab5 : ((List.range 5).all fun n => srchF chkJ (n + 1) (n + 1) []) = true := by decide +kernel
theorem j_tab6_0 : srchF chkJ 6 5 [0] = true := by decide +kernel
theorem j_tab6_2 : srchF chkJ 6 5 [2] = true := by decide +kernel
theorem j_tab6_3 : srchF chkJ 6 5 [3] = true := by decide +kernel
theorem j_tab6_4 : srchF chkJ 6 5 [4] = true := by decide +kernel
theorem j_tab6_5 : srchF chkJ 6 5 [5] = true := by decide +kernel
theorem j_tab6_6 : srchF chkJ 6 5 [6] = true := by decide +kernel
theorem j_tab {n : Nat} (n1 : 1 ≤ n) (n6 : n ≤ 6) : srchF chkJ n n [] = true := by
  by_cases e : n = 6
  · subst e
    refine srchF_cons ?_
    intro v hv ne
    have : v = 0 ∨ v = 2 ∨ v = 3 ∨ v = 4 ∨ v = 5 ∨ v = 6 := by omega
    rcases this with rfl | rfl | rfl | rfl | rfl | rfl
    · exact j_tab6_0
    · exact j_tab6_2
    · exact j_tab6_3
    · exact j_tab6_4
    · exact j_tab6_5
    · exact j_tab6_6
  · have s := List.all_eq_true.mp j_tab5 (n - 1) (by simp only [List.mem_range]; omega)
    simp only [show n - 1 + 1 = n by omega] at s
    exact s

theorem implPlace_eq (h : List Int) : impl_PlaceOf h = some (placeI h) := by
  unfold placeI
  unfold impl_PlaceOf impl_PlaceOf_n1
  by_cases l : h.length ≤ 6
  · rw [decide_eq_false (by omega), implFlat_eq]
    cases f : flatI h with
    | false => simp
    | true =>
      obtain ⟨T, F⟩ := flatI_iff.mp f
      obtain ⟨k, hk, hr, _⟩ := place_ok T F l
      have := flat_allF (j_tab T.pos l) T F rfl
      unfold chkJ at this
      rw [hr, beq_iff_eq] at this
      obtain ⟨p, hp, hp2⟩ := Option.map_eq_some_iff.mp this
      unfold placeM at hp
      have ht : rootI h = (top h : Int) := by unfold rootI; rw [(tree_iff h).mpr T]; rfl
      rw [if_pos ⟨rfl, l⟩, hr]
      simp only [implPartsQ_eq, implRoot_eq, ht, Option.bind_some, cond_false, Bool.not_true, hp, hp2, Option.getD_some]
  · rw [decide_eq_true (by omega), if_neg (fun x => l x.2)]
    rfl

end Go.Rv
