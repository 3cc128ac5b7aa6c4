/-
  Plain mathematics of what the law reaches. Conditions: none.
-/
import Derived.Test.YteafjhhkdekagaaDoorGFnExactLeastLength
set_option linter.unusedVariables false
set_option linter.unusedSimpArgs false
namespace Go.Rv
theorem nloop_run {σ ω : Type} {body : σ → Option (σ ⊕ ω)} (I : σ → Prop) (μ : σ → Nat) (f : σ → ω)
    (h : ∀ s, I s → (∃ s', body s = some (.inl s') ∧ I s' ∧ μ s' < μ s ∧ f s' = f s) ∨ body s = some (.inr (f s))) : ∀ (n : Nat) (s : σ), I s → μ s < n → nloop body n s = some (f s)
  | 0, s, _, hn => by omega
  | n + 1, s, hi, hn => by
    rcases h s hi with ⟨s', hb, hi', hm, hf⟩ | hb
    · simp only [nloop, hb, Option.bind_some]
      rw [nloop_run I μ f h n s' hi' (by omega), hf]
    · simp only [nloop, hb, Option.bind_some]

/-- A loop that counts from a number on: state (k, x), k < n goes on. -/
theorem wrap64 {x : Int} (h1 : -9223372036854775808 ≤ x) (h2 : x ≤ 9223372036854775807) : IntKind.wrap .i64 x = x := by
  simp only [IntKind.wrap, IntKind.bits, IntKind.signed]
  simp
  omega

theorem idx_nat {α : Type} (xs : List α) (k : Nat) : idx xs (k : Int) = xs[k]? := by simp [idx]
theorem idx_lt {α : Type} {xs : List α} {k : Nat} (h : k < xs.length) : idx xs (k : Int) = some xs[k] := by simp [idx, h]
theorem inb_nat {k n : Nat} (h : k < n) : inb (k : Int) n = some k := by
  simp only [inb]
  rw [if_pos (by omega)]
  simp
theorem mk_nat {n : Nat} (h : n ≤ 1099511627776) : mk (n : Int) (n : Int) = some n := by
  simp only [mk]
  rw [if_pos (by omega)]
  simp
theorem room_le {n : Nat} (h : n ≤ 1099511627776) : room n = some () := by simp [room, h]

theorem toIntS_eq (xs : List Int) (h : xs.length ≤ 1048576) : laws_toIntS xs = some xs := by
  have hl := nloop_run (body := fun (s : Int × (List Int)) => ((laws_toIntS_n3 xs s.1 s.2).map (Sum.elim (fun (t : Int × (List Int)) => Sum.inl (t.1, t.2)) (fun (t : (List Int)) => Sum.inr t)) : Option ((Int × (List Int)) ⊕ (((List Int))))))
    (I := fun s => ∃ k : Nat, s.1 = k ∧ k ≤ xs.length ∧ s.2.length = xs.length) (μ := fun s => xs.length - s.1.toNat) (f := fun s => s.2.take s.1.toNat ++ xs.drop s.1.toNat)
    (by
      rintro ⟨_, out⟩ ⟨k, rfl, hk, ho⟩
      simp only at ho
      by_cases hlt : k < xs.length
      · left
        refine ⟨((k + 1 : Nat), out.set k xs[k]), ?_, ⟨k + 1, rfl, hlt, by simpa using ho⟩, by simp; omega, ?_⟩
        · simp only [laws_toIntS_n3]
          rw [show decide ((k : Int) < ((xs.length : Nat) : Int)) = true from decide_eq_true (by omega)]
          simp only [cond_true, idx_lt hlt, Option.bind_some, inb_nat (show k < out.length by omega)]
          rw [wrap64 (by omega) (by omega)]
          simp
        · simp only [Int.toNat_natCast]
          rw [List.take_set, List.take_add_one, List.getElem?_eq_getElem (by omega)]
          have hl : (out.take k).length = k := by simp; omega
          rw [List.set_append_right _ _ (by omega), hl]
          simp
      · right
        have e : k = xs.length := by omega
        subst e
        simp only [laws_toIntS_n3]
        rw [show decide (((xs.length : Nat) : Int) < ((xs.length : Nat) : Int)) = false from decide_eq_false (by omega)]
        simp [List.take_of_length_le (Nat.le_of_eq ho)])
  unfold laws_toIntS laws_toIntS_n9 laws_toIntS_n1 laws_toIntS_n8 laws_toIntS_n6 laws_toIntS_n2 laws_toIntS_n5 laws_toIntS_n4 laws_toIntS_n7
  rw [mk_nat (by omega)]
  simp only [Option.bind_some]
  rw [hl LL (0, List.replicate xs.length 0) ⟨0, by simp, by omega, by simp⟩ (by simp only [LL]; simp; omega)]
  simp

theorem drop_cons {α : Type} {xs : List α} {k : Nat} (h : k < xs.length) : xs.drop k = xs[k] :: xs.drop (k + 1) := List.drop_eq_getElem_cons h

theorem drop_beq {xs ys : List Int} {k : Nat} (h1 : k < xs.length) (h2 : k < ys.length) : (xs.drop k == ys.drop k) = (xs[k] == ys[k] && xs.drop (k + 1) == ys.drop (k + 1)) := by
  rw [drop_cons h1, drop_cons h2]
  rfl

theorem eqIntS_eq (xs ys : List Int) (h : xs.length ≤ 1048576) : laws_eqIntS xs ys = some (xs == ys) := by
  unfold laws_eqIntS laws_eqIntS_n9 laws_eqIntS_n1 laws_eqIntS_n8 laws_eqIntS_n6 laws_eqIntS_n5 laws_eqIntS_n4 laws_eqIntS_n2 laws_eqIntS_n7
  by_cases hl : xs.length = ys.length
  · have hloop := nloop_run (body := fun (s : Int) => ((laws_eqIntS_n3 xs ys s).map (Sum.elim (fun (t : Int) => Sum.inl t) (Sum.elim (fun (t : Bool) => Sum.inr (Sum.inl t)) (fun (t : Unit) => Sum.inr (Sum.inr t)))) : Option ((Int) ⊕ (Bool ⊕ Unit))))
      (I := fun s => ∃ k : Nat, s = k ∧ k ≤ xs.length) (μ := fun s => xs.length - s.toNat) (f := fun s => cond (xs.drop s.toNat == ys.drop s.toNat) (.inr ()) (.inl false))
      (by
        rintro _ ⟨k, rfl, hk⟩
        by_cases hlt : k < xs.length
        · have hlt' : k < ys.length := by omega
          simp only [laws_eqIntS_n3]
          rw [show decide ((k : Int) < ((xs.length : Nat) : Int)) = true from decide_eq_true (by omega)]
          simp only [cond_true, idx_lt hlt, idx_lt hlt', Option.bind_some, Int.toNat_natCast]
          rw [wrap64 (by omega) (by omega), drop_beq hlt hlt']
          by_cases he : xs[k] = ys[k]
          · left
            refine ⟨((k + 1 : Nat) : Int), by simp [he], ⟨k + 1, rfl, hlt⟩, by simp; omega, by simp [he]⟩
          · right
            have e1 : (xs[k] == ys[k]) = false := by simpa using he
            simp [bne, e1]
        · right
          have e : k = xs.length := by omega
          subst e
          simp only [laws_eqIntS_n3]
          rw [show decide (((xs.length : Nat) : Int) < ((xs.length : Nat) : Int)) = false from decide_eq_false (by omega)]
          simp [List.drop_of_length_le (Nat.le_of_eq hl.symm)])
    rw [show ((((xs.length : Nat) : Int)) != (((ys.length : Nat) : Int))) = false by simp [hl]]
    simp only [cond_false, Option.bind_some, Sum.elim_inl]
    rw [hloop LL 0 ⟨0, by simp, by omega⟩ (by simp only [LL]; simp; omega)]
    simp only [Int.toNat_zero, List.drop_zero]
    cases xs == ys <;> rfl
  · rw [show ((((xs.length : Nat) : Int)) != (((ys.length : Nat) : Int))) = true by simp; omega]
    have : (xs == ys) = false := by
      rw [beq_eq_false_iff_ne]
      exact fun e => hl (by rw [e])
    rw [this]; rfl

/-- From a word to the root, with so many steps at most: the root, and how many steps lead to it. -/
def climb (h : List Int) : Nat → Nat → Option (Nat × Nat)
  | 0, _ => none
  | f + 1, w => match h[w - 1]? with
    | none => none
    | some x => if x = 0 then some (w, 0) else (climb h f x.toNat).map fun p => (p.1, p.2 + 1)

def okHead (n : Nat) (x : Int) : Bool := decide (0 ≤ x) && decide (x ≤ n)

def inRange (h : List Int) : Bool := h.all (okHead h.length)

/-- The heads of a tree. -/
def treeB (h : List Int) : Bool :=
  decide (1 ≤ h.length) && decide (h.length ≤ 8) && inRange h && (h.count 0 == 1) && (List.range h.length).all fun k => (climb h h.length (k + 1)).isSome

theorem all_drop_cons {h : List Int} {p : Int → Bool} {k : Nat} (hk : k < h.length) : (h.drop k).all p = (p h[k] && (h.drop (k + 1)).all p) := by
  rw [drop_cons hk]; rfl

theorem count_drop_cons {h : List Int} {k : Nat} (hk : k < h.length) : (h.drop k).count 0 = (if h[k] = 0 then 1 else 0) + (h.drop (k + 1)).count 0 := by
  rw [drop_cons hk, List.count_cons]
  by_cases e : h[k] = 0 <;> simp [e] <;> omega

theorem oneRoot_eq (h : List Int) (hl : h.length ≤ 1048576) : impl_oneRoot h = some (inRange h && (h.count 0 == 1)) := by
  have hloop := nloop_run (body := fun (s : Int × Int) => ((impl_oneRoot_n3 h s.1 h.length s.2).map (Sum.elim (fun (t : Int × Int) => Sum.inl (t.1, t.2)) (Sum.elim (fun (t : Bool) => Sum.inr (Sum.inl t)) (fun (t : Int) => Sum.inr (Sum.inr t)))) : Option ((Int × Int) ⊕ (Bool ⊕ Int))))
    (I := fun s => ∃ k r : Nat, s = ((r : Int), (k : Int)) ∧ k ≤ h.length ∧ r ≤ k) (μ := fun s => h.length - s.2.toNat)
    (f := fun s => cond ((h.drop s.2.toNat).all (okHead h.length)) (.inr (s.1 + ((h.drop s.2.toNat).count 0 : Nat))) (.inl false))
    (by
      rintro _ ⟨k, r, rfl, hk, hr⟩
      by_cases hlt : k < h.length
      · simp only [impl_oneRoot_n3]
        rw [show decide ((k : Int) < ((h.length : Nat) : Int)) = true from decide_eq_true (by omega)]
        simp only [cond_true, idx_lt hlt, Option.bind_some, Int.toNat_natCast]
        rw [wrap64 (x := (k : Int) + 1) (by omega) (by omega), wrap64 (x := (r : Int) + 1) (by omega) (by omega), all_drop_cons hlt, count_drop_cons hlt]
        by_cases h1 : h[k] < 0
        · right
          have : okHead h.length h[k] = false := by simp [okHead]; omega
          simp [h1, this]
        · by_cases h2 : h[k] > (h.length : Int)
          · right
            have : okHead h.length h[k] = false := by simp [okHead]; omega
            simp [h1, h2, this]
          · left
            have hok : okHead h.length h[k] = true := by simp [okHead]; omega
            by_cases h3 : h[k] = 0
            · refine ⟨(((r + 1 : Nat) : Int), ((k + 1 : Nat) : Int)), ?_, ⟨k + 1, r + 1, rfl, hlt, by omega⟩, by simp; omega, ?_⟩
              · have h4 : decide ((h.length : Int) < 0) = false := decide_eq_false (by omega)
                simp [h3, h4]
              · have e : ((k + 1 : Nat) : Int).toNat = k + 1 := by simp
                rw [e, hok]
                simp only [h3, if_true, Bool.true_and]
                congr 2
                push_cast
                omega
            · refine ⟨((r : Int), ((k + 1 : Nat) : Int)), ?_, ⟨k + 1, r, rfl, hlt, by omega⟩, by simp; omega, ?_⟩
              · have e1 : (h[k] == 0) = false := by simpa using h3
                have e2 : decide (h[k] < 0) = false := decide_eq_false h1
                have e3 : decide (h[k] > (h.length : Int)) = false := decide_eq_false h2
                simp [e1, e2, e3]
              · have e : ((k + 1 : Nat) : Int).toNat = k + 1 := by simp
                rw [e, hok]
                simp [h3]
      · right
        have e : k = h.length := by omega
        subst e
        simp only [impl_oneRoot_n3]
        rw [show decide (((h.length : Nat) : Int) < ((h.length : Nat) : Int)) = false from decide_eq_false (by omega)]
        simp)
  unfold impl_oneRoot impl_oneRoot_n9 impl_oneRoot_n1 impl_oneRoot_n8 impl_oneRoot_n6 impl_oneRoot_n2 impl_oneRoot_n5 impl_oneRoot_n4
  simp only [Option.bind_some]
  rw [hloop LL (0, 0) ⟨0, 0, rfl, by omega, by omega⟩ (by simp only [LL]; simp; omega)]
  simp only [Int.toNat_zero, List.drop_zero]
  unfold inRange
  cases ha : h.all (okHead h.length) with
  | false => simp
  | true =>
    simp only [cond_true, Option.map_some, Sum.elim_inr, Option.bind_some, Sum.elim_inl, impl_oneRoot_n7, Bool.true_and]
    congr 1
    by_cases e : h.count 0 = 1
    · simp [e]
    · have e1 : ((0 : Int) + ((h.count 0 : Nat) : Int) == 1) = false := by rw [beq_eq_false_iff_ne]; omega
      have e2 : (h.count 0 == 1) = false := by rw [beq_eq_false_iff_ne]; exact e
      rw [e2]; exact e1

theorem inRange_get {h : List Int} (hr : inRange h = true) {k : Nat} (hk : k < h.length) : 0 ≤ h[k] ∧ h[k] ≤ h.length := by
  have := List.all_eq_true.1 hr h[k] (List.getElem_mem hk)
  simpa [okHead] using this

theorem up_eq (h : List Int) (k : Nat) (s : Nat) (hk : k < h.length) (hl : h.length ≤ 1048576) (hs : s ≤ h.length) :
    impl_walker_up h ((k + 1 : Nat) : Int) (s : Int) = some (if h[k] = 0 then (false, ((k + 1 : Nat) : Int), (s : Int)) else (true, h[k], ((s + 1 : Nat) : Int))) := by
  unfold impl_walker_up impl_walker_up_n1
  rw [wrap64 (by omega) (by omega), show ((k + 1 : Nat) : Int) - 1 = (k : Int) by omega, idx_lt hk]
  simp only [Option.bind_some]
  rw [wrap64 (by omega) (by omega)]
  by_cases e : h[k] = 0
  · simp [e]
  · have e1 : (h[k] == 0) = false := by simpa using e
    simp [e, e1]

theorem steps_eq (h : List Int) (hl : h.length ≤ 1048576) (hr : inRange h = true) (k : Nat) (hk : k < h.length) :
    impl_stepsToRoot h ((k + 1 : Nat) : Int) = some (match climb h h.length (k + 1) with | some p => ((p.2 : Int), true) | none => (0, false)) := by
  have hloop := nloop_run (body := fun (s : Int × Int) => ((impl_stepsToRoot_n2 h s.1 s.2).map (Sum.elim (fun (t : Int × Int) => Sum.inl (t.1, t.2)) (Sum.elim (fun (t : Int × Bool) => Sum.inr (Sum.inl t)) (fun (t : Int × Int) => Sum.inr (Sum.inr t)))) : Option ((Int × Int) ⊕ ((Int × Bool) ⊕ (Int × Int)))))
    (I := fun s => ∃ k i : Nat, s = (((k + 1 : Nat) : Int), (i : Int)) ∧ k < h.length ∧ i < h.length) (μ := fun s => h.length - s.2.toNat)
    (f := fun s => match climb h (h.length - s.2.toNat) s.1.toNat with | some p => .inr ((p.1 : Int), s.2 + (p.2 : Int)) | none => .inl (0, false))
    (by
      rintro _ ⟨k, i, rfl, hk, hi⟩
      simp only [impl_stepsToRoot_n2]
      rw [up_eq h k i hk hl (by omega)]
      obtain ⟨hr1, hr2⟩ := inRange_get hr hk
      have hf : h.length - i = (h.length - i - 1) + 1 := by omega
      have hg : h[k + 1 - 1]? = some h[k] := by simp [hk]
      have hcl : climb h (h.length - i) (k + 1) = if h[k] = 0 then some (k + 1, 0) else (climb h (h.length - i - 1) h[k].toNat).map fun p => (p.1, p.2 + 1) := by
        rw [hf]; simp only [climb, hg]; simp
      simp only [Option.bind_some, Int.toNat_natCast]
      rw [hcl]
      by_cases e : h[k] = 0
      · right
        simp [e]
      · simp only [e, if_false, cond_true]
        by_cases hlast : i + 1 ≥ h.length
        · right
          have h0 : h.length - i - 1 = 0 := by omega
          have hd : decide (((i + 1 : Nat) : Int) ≥ ((h.length : Nat) : Int)) = true := decide_eq_true (by omega)
          simp only [hd, h0, climb]
          simp
        · left
          have hd : decide (((i + 1 : Nat) : Int) ≥ ((h.length : Nat) : Int)) = false := decide_eq_false (by omega)
          refine ⟨(h[k], ((i + 1 : Nat) : Int)), by simp only [hd]; simp, ⟨h[k].toNat - 1, i + 1, by
            have : ((h[k].toNat - 1 + 1 : Nat) : Int) = h[k] := by omega
            rw [this], by omega, by omega⟩, by simp; omega, ?_⟩
          have e2 : h.length - ((i + 1 : Nat) : Int).toNat = h.length - i - 1 := by simp; omega
          simp only [e2]
          cases climb h (h.length - i - 1) h[k].toNat with
          | none => rfl
          | some p => simp; omega)
  unfold impl_stepsToRoot impl_stepsToRoot_n7 impl_stepsToRoot_n1 impl_stepsToRoot_n6 impl_stepsToRoot_n4 impl_stepsToRoot_n3
  simp only [Option.bind_some]
  rw [hloop LL (((k + 1 : Nat) : Int), 0) ⟨k, 0, rfl, hk, by omega⟩ (by simp only [LL]; simp; omega)]
  simp only [Int.toNat_natCast, Int.toNat_zero, Nat.sub_zero]
  cases climb h h.length (k + 1) with
  | none => simp
  | some p => simp [impl_stepsToRoot_n5]

theorem implTree_eq (h : List Int) : impl_TreeOk h = some (treeB h) := by
  unfold impl_TreeOk impl_TreeOk_n9 impl_TreeOk_n1 impl_TreeOk_n8 impl_TreeOk_n6 impl_TreeOk_n2 impl_TreeOk_n5 impl_TreeOk_n4
  unfold treeB
  by_cases h1 : h.length < 1
  · have e : decide (1 ≤ h.length) = false := decide_eq_false (by omega)
    have e2 : decide ((((h.length : Nat) : Int)) < 1) = true := decide_eq_true (by omega)
    simp [e, e2]
  · have e1 : decide ((((h.length : Nat) : Int)) < 1) = false := decide_eq_false (by omega)
    have e1' : decide (1 ≤ h.length) = true := decide_eq_true (by omega)
    by_cases h2 : h.length > 8
    · have e : decide (h.length ≤ 8) = false := decide_eq_false (by omega)
      have e2 : decide ((((h.length : Nat) : Int)) > 8) = true := decide_eq_true (by omega)
      simp only [e1, e2, e]
      simp
    · have e2 : decide ((((h.length : Nat) : Int)) > 8) = false := decide_eq_false (by omega)
      have e2' : decide (h.length ≤ 8) = true := decide_eq_true (by omega)
      simp only [e1, e2, e1', e2', cond_false, oneRoot_eq h (by omega), Option.bind_some, Bool.true_and]
      cases hr : inRange h with
      | false => simp
      | true =>
        cases hc : (h.count 0 == 1) with
        | false => simp
        | true =>
          simp only [Bool.true_and, Bool.not_true, cond_false, Option.bind_some, Sum.elim_inl]
          have hloop := nloop_run (body := fun (s : Int) => ((impl_TreeOk_n3 h h.length s).map (Sum.elim (fun (t : Int) => Sum.inl t) (Sum.elim (fun (t : Bool) => Sum.inr (Sum.inl t)) (fun (t : Unit) => Sum.inr (Sum.inr t)))) : Option ((Int) ⊕ (Bool ⊕ Unit))))
            (I := fun s => ∃ k : Nat, s = (k : Int) ∧ k ≤ h.length) (μ := fun s => h.length - s.toNat)
            (f := fun s => cond (((List.range h.length).drop s.toNat).all fun k => (climb h h.length (k + 1)).isSome) (.inr ()) (.inl false))
            (by
              rintro _ ⟨k, rfl, hk⟩
              by_cases hlt : k < h.length
              · simp only [impl_TreeOk_n3]
                rw [show decide ((k : Int) < ((h.length : Nat) : Int)) = true from decide_eq_true (by omega)]
                rw [wrap64 (x := (k : Int) + 1) (by omega) (by omega), show (k : Int) + 1 = ((k + 1 : Nat) : Int) by omega, steps_eq h (by omega) hr k hlt]
                simp only [cond_true, Option.bind_some, Int.toNat_natCast]
                have hd : (List.range h.length).drop k = k :: (List.range h.length).drop (k + 1) := by
                  rw [List.drop_eq_getElem_cons (by simpa using hlt)]
                  simp
                rw [hd]
                simp only [List.all_cons]
                cases hcl : climb h h.length (k + 1) with
                | none => right; simp
                | some p =>
                  left
                  refine ⟨((k + 1 : Nat) : Int), by simp, ⟨k + 1, rfl, hlt⟩, by simp; omega, by simp⟩
              · right
                have e : k = h.length := by omega
                subst e
                simp only [impl_TreeOk_n3]
                rw [show decide (((h.length : Nat) : Int) < ((h.length : Nat) : Int)) = false from decide_eq_false (by omega)]
                simp [List.drop_of_length_le (show (List.range h.length).length ≤ h.length by simp)])
          rw [hloop LL 0 ⟨0, rfl, by omega⟩ (by simp only [LL]; simp; omega)]
          simp only [Int.toNat_zero, List.drop_zero]
          cases ((List.range h.length).all fun k => (climb h h.length (k + 1)).isSome) <;> rfl

theorem l1In_eq (a b c : Int) : spec_l1In a b c = some (decide (b ≤ a) && decide (a ≤ c)) := by
  unfold spec_l1In spec_l1In_n1
  by_cases h : a ≥ b
  · have e : decide (a ≥ b) = true := decide_eq_true h
    rw [e]; rfl
  · have e : decide (a ≥ b) = false := decide_eq_false h
    rw [e]; rfl

/-- The model's way from a word upwards. -/
def goUp (h : List Int) : Nat → Int → Bool ⊕ Int
  | 0, a => .inr a
  | f + 1, a => if 0 < a then (match h[a.toNat - 1]? with
      | some x => if okHead h.length x then goUp h f x else .inl false
      | none => .inl false) else .inr a

theorem inner_eq (h : List Int) (hl : h.length ≤ 8) (a : Int) (ha0 : 0 ≤ a) (ha : a ≤ h.length) : spec_TreeOk_n7 h h.length a = some (goUp h h.length a) := by
  unfold spec_TreeOk_n7
  have hloop := nloop_run (body := fun (s : Int × Int) => ((spec_TreeOk_n6 h h.length s.1 s.2).map (Sum.elim (fun (t : Int × Int) => Sum.inl (t.1, t.2)) (Sum.elim (fun (t : Bool) => Sum.inr (Sum.inl t)) (fun (t : Int) => Sum.inr (Sum.inr t)))) : Option ((Int × Int) ⊕ (Bool ⊕ Int))))
    (I := fun s => ∃ k i : Nat, s = ((k : Int), (i : Int)) ∧ k ≤ h.length ∧ i ≤ h.length) (μ := fun s => h.length - s.2.toNat)
    (f := fun s => goUp h (h.length - s.2.toNat) s.1)
    (by
      rintro _ ⟨k, i, rfl, hk, hi⟩
      simp only [spec_TreeOk_n6, Int.toNat_natCast]
      by_cases h1 : 0 < k
      · have e1 : decide ((k : Int) > 0) = true := decide_eq_true (by omega)
        by_cases h2 : i < h.length
        · have e2 : decide ((i : Int) < ((h.length : Nat) : Int)) = true := decide_eq_true (by omega)
          have hk' : k - 1 < h.length := by omega
          rw [e1, e2, wrap64 (x := (k : Int) - 1) (by omega) (by omega), show (k : Int) - 1 = ((k - 1 : Nat) : Int) by omega, idx_lt hk', wrap64 (x := (i : Int) + 1) (by omega) (by omega)]
          simp only [cond_true, Option.bind_some, l1In_eq]
          have hf : h.length - i = (h.length - i - 1) + 1 := by omega
          have hg : goUp h (h.length - i) (k : Int) = if okHead h.length h[k - 1] then goUp h (h.length - i - 1) h[k - 1] else .inl false := by
            rw [hf]
            simp only [goUp]
            rw [if_pos (by omega)]
            simp [hk']
          rw [hg]
          by_cases h3 : okHead h.length h[k - 1] = true
          · left
            have h3' := h3
            simp only [okHead, Bool.and_eq_true, decide_eq_true_eq] at h3'
            refine ⟨(h[k - 1], ((i + 1 : Nat) : Int)), ?_, ⟨h[k - 1].toNat, i + 1, by
              have : ((h[k - 1].toNat : Nat) : Int) = h[k - 1] := by omega
              rw [this], by omega, by omega⟩, by simp; omega, ?_⟩
            · have e4 : (decide ((0 : Int) ≤ h[k - 1]) && decide (h[k - 1] ≤ ((h.length : Nat) : Int))) = true := h3
              rw [e4]; simp
            · have e5 : h.length - ((i + 1 : Nat) : Int).toNat = h.length - i - 1 := by simp; omega
              simp only [e5, h3, if_true]
          · right
            have h3' : okHead h.length h[k - 1] = false := by simpa using h3
            have e4 : (decide ((0 : Int) ≤ h[k - 1]) && decide (h[k - 1] ≤ ((h.length : Nat) : Int))) = false := h3'
            rw [e4]
            simp [h3']
        · right
          have e2 : decide ((i : Int) < ((h.length : Nat) : Int)) = false := decide_eq_false (by omega)
          have h0 : h.length - i = 0 := by omega
          rw [e1, e2, h0]
          simp [goUp]
      · right
        have hk0 : k = 0 := by omega
        subst hk0
        have e1 : decide (((0 : Nat) : Int) > 0) = false := by simp
        rw [e1]
        cases h.length - i <;> simp [goUp])
  exact hloop LL (a, 0) ⟨a.toNat, 0, by
    have : ((a.toNat : Nat) : Int) = a := by omega
    rw [this]; rfl, by omega, by omega⟩ (by simp only [LL]; simp; omega)

theorem goUp_climb {h : List Int} (hr : inRange h = true) : ∀ (f k : Nat), k < h.length → goUp h f ((k + 1 : Nat) : Int) = (if (climb h f (k + 1)).isSome then .inr 0 else goUp h f ((k + 1 : Nat) : Int)) ∧
    ((climb h f (k + 1)).isSome = false → ∃ a : Int, 0 < a ∧ goUp h f ((k + 1 : Nat) : Int) = .inr a)
  | 0, k, hk => by
    refine ⟨by simp [climb], fun _ => ⟨((k + 1 : Nat) : Int), by omega, rfl⟩⟩
  | f + 1, k, hk => by
    obtain ⟨h1, h2⟩ := inRange_get hr hk
    have hok : okHead h.length h[k] = true := by simp [okHead]; omega
    have hg : goUp h (f + 1) ((k + 1 : Nat) : Int) = goUp h f h[k] := by
      simp only [goUp]
      rw [if_pos (by omega)]
      simp [hk, hok]
    have hc : climb h (f + 1) (k + 1) = if h[k] = 0 then some (k + 1, 0) else (climb h f h[k].toNat).map fun p => (p.1, p.2 + 1) := by
      simp [climb, hk]
    rw [hg, hc]
    by_cases e : h[k] = 0
    · have : goUp h f 0 = .inr 0 := by cases f <;> simp [goUp]
      simp [e, this]
    · obtain ⟨j, hj⟩ : ∃ j : Nat, h[k] = ((j + 1 : Nat) : Int) := ⟨h[k].toNat - 1, by omega⟩
      have ih := goUp_climb hr f j (by omega)
      rw [hj]
      have ne : ¬ ((j + 1 : Nat) : Int) = 0 := by omega
      simp only [ne, if_false, Int.toNat_natCast, Option.isSome_map]
      exact ih

/-- What is asked of one word. -/
def wordOk1 (h : List Int) (k : Nat) : Bool := match h[k]? with
  | some x => okHead h.length x && !(x == ((k + 1 : Nat) : Int)) && (match goUp h h.length ((k + 1 : Nat) : Int) with | .inr a => !decide (a > 0) | .inl _ => false)
  | none => false

theorem specTree_eq0 (h : List Int) : spec_TreeOk h = some (decide (1 ≤ h.length) && decide (h.length ≤ 8) && (List.range h.length).all (wordOk1 h) && (h.count 0 == 1)) := by
  unfold spec_TreeOk spec_TreeOk_n22 spec_TreeOk_n1
  rw [l1In_eq]
  by_cases h1 : (decide ((1 : Int) ≤ ((h.length : Nat) : Int)) && decide (((h.length : Nat) : Int) ≤ 8)) = true
  · have h1' := h1
    simp only [Bool.and_eq_true, decide_eq_true_eq] at h1'
    have e1 : decide (1 ≤ h.length) = true := decide_eq_true (by omega)
    have e2 : decide (h.length ≤ 8) = true := decide_eq_true (by omega)
    simp only [h1, e1, e2, Option.bind_some, Bool.not_true, cond_false, Sum.elim_inl, Bool.true_and]
    unfold spec_TreeOk_n21 spec_TreeOk_n19 spec_TreeOk_n2 spec_TreeOk_n18 spec_TreeOk_n17
    have hloop := nloop_run (body := fun (s : Int × Int) => ((spec_TreeOk_n16 h h.length s.1 s.2).map (Sum.elim (fun (t : Int × Int) => Sum.inl (t.1, t.2)) (Sum.elim (fun (t : Bool) => Sum.inr (Sum.inl t)) (fun (t : Int) => Sum.inr (Sum.inr t)))) : Option ((Int × Int) ⊕ (Bool ⊕ Int))))
      (I := fun s => ∃ k r : Nat, s = ((r : Int), (k : Int)) ∧ k ≤ h.length ∧ r ≤ k) (μ := fun s => h.length - s.2.toNat)
      (f := fun s => cond (((List.range h.length).drop s.2.toNat).all (wordOk1 h)) (.inr (s.1 + ((h.drop s.2.toNat).count 0 : Nat))) (.inl false))
      (by
        rintro _ ⟨k, r, rfl, hk, hr⟩
        by_cases hlt : k < h.length
        · have hd : (List.range h.length).drop k = k :: (List.range h.length).drop (k + 1) := by
            rw [List.drop_eq_getElem_cons (by simpa using hlt)]
            simp
          simp only [spec_TreeOk_n16, spec_TreeOk_n3, Int.toNat_natCast]
          rw [show decide ((k : Int) < ((h.length : Nat) : Int)) = true from decide_eq_true (by omega)]
          simp only [cond_true, Option.bind_some, Sum.elim_inl]
          unfold spec_TreeOk_n15 spec_TreeOk_n13 spec_TreeOk_n12 spec_TreeOk_n4 spec_TreeOk_n14 spec_TreeOk_n11 spec_TreeOk_n9 spec_TreeOk_n5 spec_TreeOk_n8 spec_TreeOk_n10
          have hw : IntKind.wrap .i64 ((k : Int) + 1) = ((k + 1 : Nat) : Int) := by rw [wrap64 (by omega) (by omega)]; omega
          have hw2 : IntKind.wrap .i64 ((r : Int) + 1) = ((r + 1 : Nat) : Int) := by rw [wrap64 (by omega) (by omega)]; omega
          simp only [idx_lt hlt, Option.bind_some, l1In_eq, hw, hw2]
          rw [hd, List.all_cons, count_drop_cons hlt]
          have hwk : wordOk1 h k = (okHead h.length h[k] && !(h[k] == ((k + 1 : Nat) : Int)) && (match goUp h h.length ((k + 1 : Nat) : Int) with | .inr a => !decide (a > 0) | .inl _ => false)) := by
            simp [wordOk1, hlt]
          have hin := inner_eq h (by omega) ((k + 1 : Nat) : Int) (by omega) (by omega)
          rw [hwk]
          cases h3 : okHead h.length h[k] with
          | false =>
            right
            have e4 : (decide ((0 : Int) ≤ h[k]) && decide (h[k] ≤ ((h.length : Nat) : Int))) = false := h3
            rw [e4]; simp
          | true =>
            have e4 : (decide ((0 : Int) ≤ h[k]) && decide (h[k] ≤ ((h.length : Nat) : Int))) = true := h3
            rw [e4]
            simp only [Bool.not_true, cond_false, Bool.true_and]
            cases h5 : (h[k] == ((k + 1 : Nat) : Int)) with
            | true => right; simp
            | false =>
              simp only [cond_false, Bool.not_false, Bool.true_and]
              by_cases h6 : h[k] = 0
              · simp only [h6, beq_self_eq_true, cond_true, Option.bind_some, Sum.elim_inl, Option.map_some, hin, if_true]
                cases h7 : goUp h h.length ((k + 1 : Nat) : Int) with
                | inl b =>
                  right
                  have : b = false := by
                    have key : ∀ f a b, goUp h f a = .inl b → b = false := by
                      intro f
                      induction f with
                      | zero => intro a b hh; simp [goUp] at hh
                      | succ f ih =>
                        intro a b hh
                        simp only [goUp] at hh
                        split at hh
                        · split at hh
                          · split at hh
                            · exact ih _ _ hh
                            · simpa using hh.symm
                          · simpa using hh.symm
                        · cases hh
                    exact key _ _ _ h7
                  subst this
                  simp
                | inr a =>
                  by_cases h8 : a > 0
                  · right
                    simp [h8]
                  · left
                    refine ⟨(((r + 1 : Nat) : Int), ((k + 1 : Nat) : Int)), by simp [h8], ⟨k + 1, r + 1, rfl, hlt, by omega⟩, by simp; omega, ?_⟩
                    have e : ((k + 1 : Nat) : Int).toNat = k + 1 := by simp
                    simp only [e, h8, decide_false, Bool.not_false, Bool.true_and]
                    congr 2
                    push_cast
                    omega
              · have e9 : (h[k] == 0) = false := by simpa using h6
                simp only [e9, cond_false, Option.bind_some, Sum.elim_inl, Option.map_some, hin, h6, if_false]
                cases h7 : goUp h h.length ((k + 1 : Nat) : Int) with
                | inl b =>
                  right
                  have : b = false := by
                    have key : ∀ f a b, goUp h f a = .inl b → b = false := by
                      intro f
                      induction f with
                      | zero => intro a b hh; simp [goUp] at hh
                      | succ f ih =>
                        intro a b hh
                        simp only [goUp] at hh
                        split at hh
                        · split at hh
                          · split at hh
                            · exact ih _ _ hh
                            · simpa using hh.symm
                          · simpa using hh.symm
                        · cases hh
                    exact key _ _ _ h7
                  subst this
                  simp
                | inr a =>
                  by_cases h8 : a > 0
                  · right
                    simp [h8]
                  · left
                    refine ⟨((r : Int), ((k + 1 : Nat) : Int)), by simp [h8], ⟨k + 1, r, rfl, hlt, by omega⟩, by simp; omega, ?_⟩
                    have e : ((k + 1 : Nat) : Int).toNat = k + 1 := by simp
                    simp only [e, h8, decide_false, Bool.not_false, Bool.true_and]
                    congr 2
                    omega
        · right
          have e : k = h.length := by omega
          subst e
          simp only [spec_TreeOk_n16, spec_TreeOk_n3]
          rw [show decide (((h.length : Nat) : Int) < ((h.length : Nat) : Int)) = false from decide_eq_false (by omega)]
          simp [List.drop_of_length_le (show (List.range h.length).length ≤ h.length by simp)])
    simp only [Option.bind_some]
    rw [hloop LL (0, 0) ⟨0, 0, rfl, by omega, by omega⟩ (by simp only [LL]; simp; omega)]
    simp only [Int.toNat_zero, List.drop_zero, Option.bind_some]
    cases (List.range h.length).all (wordOk1 h) with
    | false => simp
    | true =>
      simp only [cond_true, Option.map_some, Sum.elim_inr, Option.bind_some, Sum.elim_inl, spec_TreeOk_n20, Bool.true_and]
      congr 1
      by_cases e : h.count 0 = 1
      · simp [e]
      · have e1 : ((0 : Int) + ((h.count 0 : Nat) : Int) == 1) = false := by rw [beq_eq_false_iff_ne]; omega
        have e2 : (h.count 0 == 1) = false := by rw [beq_eq_false_iff_ne]; exact e
        rw [e2]; exact e1
  · have h1' : (decide ((1 : Int) ≤ ((h.length : Nat) : Int)) && decide (((h.length : Nat) : Int) ≤ 8)) = false := by simpa using h1
    have e : (decide (1 ≤ h.length) && decide (h.length ≤ 8)) = false := by
      simp only [Bool.and_eq_true, decide_eq_true_eq] at h1
      simp only [Bool.and_eq_false_iff, decide_eq_false_iff_not]
      omega
    rw [h1']
    simp [e]

theorem specTree_eq (h : List Int) : spec_TreeOk h = some (treeB h) := by
  rw [specTree_eq0]
  congr 1
  unfold treeB
  have key : (List.range h.length).all (wordOk1 h) = (inRange h && (List.range h.length).all fun k => (climb h h.length (k + 1)).isSome) := by
    cases hr : inRange h with
    | false =>
      rw [Bool.false_and, List.all_eq_false]
      have : ¬ ∀ x ∈ h, okHead h.length x = true := fun hh => by
        have : inRange h = true := List.all_eq_true.2 hh
        rw [hr] at this; cases this
      have ⟨x, hx⟩ := Classical.not_forall.1 this
      have ⟨hm, hb⟩ := Classical.not_imp.1 hx
      obtain ⟨k, hk, rfl⟩ := List.getElem_of_mem hm
      refine ⟨k, by simpa using hk, ?_⟩
      simp [wordOk1, hk, hb]
    | true =>
      rw [Bool.true_and, Bool.eq_iff_iff, List.all_eq_true, List.all_eq_true]
      constructor
      · intro hh k hk
        have hk' : k < h.length := by simpa using hk
        have h1 := hh k hk
        cases hc : (climb h h.length (k + 1)).isSome with
        | true => rfl
        | false =>
          obtain ⟨a, ha, hg⟩ := (goUp_climb hr h.length k hk').2 hc
          have hg' : goUp h h.length ((k : Int) + 1) = .inr a := hg
          simp [wordOk1, hk', hg', ha] at h1
      · intro hh k hk
        have hk' : k < h.length := by simpa using hk
        have h1 := hh k hk
        have h2 := (goUp_climb hr h.length k hk').1
        rw [if_pos h1] at h2
        obtain ⟨h3, h4⟩ := inRange_get hr hk'
        have hok : okHead h.length h[k] = true := by simp [okHead]; omega
        have hself : ¬ h[k] = ((k + 1 : Nat) : Int) := fun e => by
          -- a word that is its own head never comes to the root
          have none : ∀ f, climb h f (k + 1) = none := by
            intro f
            induction f with
            | zero => rfl
            | succ f ih =>
              simp only [climb]
              have : h[k + 1 - 1]? = some h[k] := by simp [hk']
              rw [this]
              simp only
              rw [if_neg (by omega), e]
              simp [ih]
          rw [none] at h1
          cases h1
        have h2' : goUp h h.length ((k : Int) + 1) = .inr 0 := h2
        have hself' : ¬ h[k] = (k : Int) + 1 := hself
        simp [wordOk1, hk', hok, h2', hself']
  rw [key]
  cases inRange h <;> simp [Bool.and_comm, Bool.and_assoc, Bool.and_left_comm]

theorem climb_mono {h : List Int} : ∀ {f w : Nat} {p : Nat × Nat}, climb h f w = some p → climb h (f + 1) w = some p
  | 0, w, p, e => by simp [climb] at e
  | f + 1, w, p, e => by
    simp only [climb] at e
    rw [climb]
    split at e
    · cases e
    · rename_i x hx
      split at e
      · rename_i h0
        simp only [h0, if_true]; exact e
      · rename_i h0
        simp only [h0, if_false]
        obtain ⟨q, hq, rfl⟩ := Option.map_eq_some_iff.1 e
        rw [climb_mono hq]; rfl

theorem climb_le {h : List Int} {f g w : Nat} {p : Nat × Nat} (hfg : f ≤ g) (e : climb h f w = some p) : climb h g w = some p := by
  induction hfg with
  | refl => exact e
  | step _ ih => exact climb_mono ih

theorem climb_lt {h : List Int} : ∀ {f w : Nat} {p : Nat × Nat}, climb h f w = some p → p.2 < f
  | 0, w, p, e => by simp [climb] at e
  | f + 1, w, p, e => by
    simp only [climb] at e
    split at e
    · cases e
    · split at e
      · cases e; simp
      · obtain ⟨q, hq, rfl⟩ := Option.map_eq_some_iff.1 e
        have := climb_lt hq
        simp; omega

theorem climb_root {h : List Int} : ∀ {f w : Nat} {p : Nat × Nat}, climb h f w = some p → h[p.1 - 1]? = some 0
  | 0, w, p, e => by simp [climb] at e
  | f + 1, w, p, e => by
    simp only [climb] at e
    split at e
    · cases e
    · rename_i x hx
      split at e
      · rename_i h0
        cases e
        rw [hx, h0]
      · obtain ⟨q, hq, rfl⟩ := Option.map_eq_some_iff.1 e
        show h[q.1 - 1]? = some 0
        exact climb_root hq

theorem climb_pos {h : List Int} (hr : inRange h = true) : ∀ {f w : Nat} {p : Nat × Nat}, 1 ≤ w → climb h f w = some p → 1 ≤ p.1
  | 0, w, p, _, e => by simp [climb] at e
  | f + 1, w, p, hw, e => by
    simp only [climb] at e
    split at e
    · cases e
    · rename_i x hx
      split at e
      · cases e; exact hw
      · rename_i h0
        obtain ⟨q, hq, rfl⟩ := Option.map_eq_some_iff.1 e
        obtain ⟨hlt, hx'⟩ := List.getElem?_eq_some_iff.1 hx
        have := inRange_get hr hlt
        show 1 ≤ q.1
        exact climb_pos hr (by rw [hx'] at this; omega) hq

/-- What a tree is. -/
structure Tree (h : List Int) : Prop where
  pos : 1 ≤ h.length
  le : h.length ≤ 8
  rng : inRange h = true
  one : h.count 0 = 1
  way : ∀ k, k < h.length → (climb h h.length (k + 1)).isSome = true

theorem tree_iff (h : List Int) : treeB h = true ↔ Tree h := by
  unfold treeB
  simp only [Bool.and_eq_true, decide_eq_true_eq, beq_iff_eq, List.all_eq_true]
  constructor
  · rintro ⟨⟨⟨⟨h1, h2⟩, h3⟩, h4⟩, h5⟩
    exact ⟨h1, h2, h3, h4, fun k hk => h5 k (by simpa using hk)⟩
  · rintro ⟨h1, h2, h3, h4, h5⟩
    exact ⟨⟨⟨⟨h1, h2⟩, h3⟩, h4⟩, fun k hk => h5 k (by simpa using hk)⟩

/-- The head of a word, both from 1 on; 0 for none. -/
def hd (h : List Int) (w : Nat) : Nat := (h.getD (w - 1) 0).toNat

/-- How deep a word is. -/
def dep (h : List Int) (w : Nat) : Nat := ((climb h h.length w).getD (0, 0)).2
def top (h : List Int) : Nat := h.idxOf 0 + 1
theorem top_pos (h : List Int) : 1 ≤ top h := by simp [top]

section
variable {h : List Int} (T : Tree h)
include T

theorem Tree.get {w : Nat} (h1 : 1 ≤ w) (h2 : w ≤ h.length) : h[w - 1]? = some ((hd h w : Nat) : Int) := by
  have hk : w - 1 < h.length := by omega
  have := inRange_get T.rng hk
  rw [List.getElem?_eq_getElem hk, hd, List.getD_eq_getElem?_getD, List.getElem?_eq_getElem hk]
  simp only [Option.getD_some, Option.some.injEq]
  omega

theorem Tree.hd_le {w : Nat} (h1 : 1 ≤ w) (h2 : w ≤ h.length) : hd h w ≤ h.length := by
  have hk : w - 1 < h.length := by omega
  have := inRange_get T.rng hk
  rw [hd, List.getD_eq_getElem?_getD, List.getElem?_eq_getElem hk]
  simp only [Option.getD_some]
  omega

theorem Tree.top_lt : h.idxOf 0 < h.length := by
  rw [List.idxOf_lt_length_iff]
  exact List.count_pos_iff.1 (by rw [T.one]; omega)

theorem Tree.top_le : top h ≤ h.length := T.top_lt

/-- Just one word has no head. -/
theorem Tree.root_unique {i : Nat} (hi : h[i]? = some 0) : i = h.idxOf 0 := by
  have hlt := T.top_lt
  have h0 : h[h.idxOf 0]? = some 0 := by rw [List.getElem?_eq_getElem hlt]; simp
  -- two places would count twice
  have two : ∀ (l : List Int) (i j : Nat), i < j → l[i]? = some 0 → l[j]? = some 0 → 2 ≤ l.count 0 := by
    intro l
    induction l with
    | nil => intro i j _ h1; simp at h1
    | cons a r ih =>
      intro i j hij h1 h2
      cases j with
      | zero => omega
      | succ j =>
        rw [List.count_cons]
        cases i with
        | zero =>
          simp at h1 h2
          have : 0 < r.count 0 := List.count_pos_iff.2 (List.mem_of_getElem? h2)
          rw [h1]
          simp only [beq_self_eq_true, if_true]
          omega
        | succ i =>
          simp at h1 h2
          have := ih i j (by omega) h1 h2
          omega
  rcases Nat.lt_trichotomy i (h.idxOf 0) with hl | he | hg
  · have := two h i _ hl hi h0; have := T.one; omega
  · exact he
  · have := two h _ i hg h0 hi; have := T.one; omega

theorem Tree.hd_zero {w : Nat} (h1 : 1 ≤ w) (h2 : w ≤ h.length) : hd h w = 0 ↔ w = top h := by
  have hg := T.get h1 h2
  constructor
  · intro e
    rw [e] at hg
    have := T.root_unique hg
    unfold top; omega
  · intro e
    have hlt := T.top_lt
    have h0 : h[h.idxOf 0]? = some 0 := by rw [List.getElem?_eq_getElem hlt]; simp
    have : w - 1 = h.idxOf 0 := by unfold top at e; omega
    rw [this, h0] at hg
    simp at hg
    omega

theorem Tree.climb_some {w : Nat} (h1 : 1 ≤ w) (h2 : w ≤ h.length) : climb h h.length w = some (top h, dep h w) := by
  have hs := T.way (w - 1) (by omega)
  rw [show w - 1 + 1 = w by omega] at hs
  obtain ⟨p, hp⟩ := Option.isSome_iff_exists.1 hs
  have hr := climb_root hp
  have h3 := T.root_unique hr
  have h4 := climb_pos T.rng h1 hp
  have e1 : p.1 = top h := by unfold top; omega
  have e2 : dep h w = p.2 := by simp [dep, hp]
  rw [hp, e2, ← e1]

theorem Tree.dep_lt {w : Nat} (h1 : 1 ≤ w) (h2 : w ≤ h.length) : dep h w < h.length := by
  have := climb_lt (T.climb_some h1 h2)
  exact this

theorem Tree.dep_top : dep h (top h) = 0 := by
  have h1 := T.climb_some (top_pos h) T.top_le
  have hg := T.get (top_pos h) T.top_le
  rw [(T.hd_zero (top_pos h) T.top_le).2 rfl] at hg
  obtain ⟨n, hn⟩ : ∃ n, h.length = n + 1 := ⟨h.length - 1, by have := T.pos; omega⟩
  rw [hn] at h1
  simp only [climb, hg] at h1
  simp at h1
  exact h1.symm

theorem Tree.dep_step {w : Nat} (h1 : 1 ≤ w) (h2 : w ≤ h.length) (h3 : hd h w ≠ 0) : dep h w = dep h (hd h w) + 1 := by
  have hc := T.climb_some h1 h2
  have hg := T.get h1 h2
  have hc2 := T.climb_some (w := hd h w) (by omega) (T.hd_le h1 h2)
  obtain ⟨n, hn⟩ : ∃ n, h.length = n + 1 := ⟨h.length - 1, by have := T.pos; omega⟩
  rw [hn] at hc
  simp only [climb, hg] at hc
  rw [if_neg (by omega)] at hc
  simp only [Int.toNat_natCast] at hc
  obtain ⟨q, hq, e⟩ := Option.map_eq_some_iff.1 hc
  have hq2 := climb_le (show n ≤ h.length by omega) hq
  rw [hc2] at hq2
  cases hq2
  simp at e
  exact e.symm

theorem Tree.dep_zero {w : Nat} (h1 : 1 ≤ w) (h2 : w ≤ h.length) : dep h w = 0 ↔ w = top h := by
  constructor
  · intro e
    by_cases h3 : hd h w = 0
    · exact (T.hd_zero h1 h2).1 h3
    · have := T.dep_step h1 h2 h3; omega
  · intro e; rw [e]; exact T.dep_top

end

theorem nloop_to {σ ω : Type} {body : σ → Option (σ ⊕ ω)} (S : Nat → σ) (n : Nat) (w : ω) (hs : ∀ k, k < n → body (S k) = some (.inl (S (k + 1)))) (he : body (S n) = some (.inr w)) :
    ∀ (N : Nat), n < N → nloop body N (S 0) = some w := by
  have key : ∀ (m k N : Nat), k + m = n → m < N → nloop body N (S k) = some w := by
    intro m
    induction m with
    | zero =>
      intro k N hk hN
      obtain ⟨N', rfl⟩ : ∃ N', N = N' + 1 := ⟨N - 1, by omega⟩
      have : k = n := by omega
      subst this
      simp only [nloop, he, Option.bind_some]
    | succ m ih =>
      intro k N hk hN
      obtain ⟨N', rfl⟩ : ∃ N', N = N' + 1 := ⟨N - 1, by omega⟩
      simp only [nloop, hs k (by omega), Option.bind_some]
      exact ih (k + 1) N' (by omega) (by omega)
  intro N hN
  exact key n 0 N (by omega) hN

def maskN (p : Nat → Bool) : Nat → Nat
  | 0 => 0
  | n + 1 => maskN p n ||| (if p n then 2 ^ n else 0)

theorem maskN_lt (p : Nat → Bool) : ∀ n, maskN p n < 2 ^ n
  | 0 => by simp [maskN]
  | n + 1 => by
    have h1 := maskN_lt p n
    have h2 : 2 ^ n < 2 ^ (n + 1) := by rw [Nat.pow_succ]; have := Nat.two_pow_pos n; omega
    simp only [maskN]
    refine Nat.or_lt_two_pow (by omega) ?_
    split
    · exact h2
    · exact Nat.two_pow_pos _

theorem maskN_bit (p : Nat → Bool) (n i : Nat) : (maskN p n).testBit i = (decide (i < n) && p i) := by
  induction n with
  | zero => simp [maskN]
  | succ n ih =>
    simp only [maskN, Nat.testBit_or, ih]
    by_cases e : i = n
    · subst e
      cases hp : p i <;> simp
    · have h1 : decide (i < n + 1) = decide (i < n) := by
        rw [Bool.eq_iff_iff]; simp only [decide_eq_true_eq]; omega
      rw [h1]
      have : (if p n = true then 2 ^ n else 0).testBit i = false := by
        split
        · rw [Nat.testBit_two_pow]; simp; omega
        · simp
      rw [this, Bool.or_false]

theorem eq_maskN {m n : Nat} {p : Nat → Bool} (hm : m < 2 ^ n) (h : ∀ i, i < n → m.testBit i = p i) : m = maskN p n := by
  apply Nat.eq_of_testBit_eq
  intro i
  rw [maskN_bit]
  by_cases hi : i < n
  · rw [h i hi]; simp [hi]
  · rw [Nat.testBit_lt_two_pow (Nat.lt_of_lt_of_le hm (Nat.pow_le_pow_right (by omega) (by omega)))]
    simp [hi]

theorem maskN_congr {p q : Nat → Bool} {n : Nat} (h : ∀ i, i < n → p i = q i) : maskN p n = maskN q n :=
  eq_maskN (maskN_lt p n) (fun i hi => by rw [maskN_bit, h i hi]; simp [hi])

theorem lt256 {m n : Nat} (h : n ≤ 8) (hm : m < 2 ^ n) : m < 256 :=
  Nat.lt_of_lt_of_le hm (Nat.pow_le_pow_right (n := 2) (by omega) h)

theorem Tree.getD_hd {h : List Int} (T : Tree h) {k : Nat} (hk : k < h.length) : h.getD k 0 = ((hd h (k + 1) : Nat) : Int) := by
  have hg := T.get (w := k + 1) (by omega) (by omega)
  rw [Nat.add_sub_cancel] at hg
  rw [List.getD_eq_getElem?_getD, hg]; rfl

theorem wrapu64 {x : Int} (h1 : 0 ≤ x) (h2 : x < 18446744073709551616) : IntKind.wrap .u64 x = x := by
  simp only [IntKind.wrap, IntKind.bits, IntKind.signed]
  simp
  omega

theorem ofInt_nat {a : Nat} (h : a < 18446744073709551616) : (BitVec.ofInt 64 (a : Int)).toNat = a := by
  rw [BitVec.toNat_ofInt]; omega

theorem ioru {a b : Nat} (ha : a < 2 ^ 62) (hb : b < 2 ^ 62) : ior .u64 (a : Int) (b : Int) = ((a ||| b : Nat) : Int) := by
  have h := Nat.or_lt_two_pow ha hb
  show IntKind.wrap .u64 ((BitVec.ofInt 64 (a : Int) ||| BitVec.ofInt 64 (b : Int)).toNat : Int) = _
  rw [BitVec.toNat_or, ofInt_nat (by omega), ofInt_nat (by omega), wrapu64 (by omega) (by omega)]
theorem iori {a b : Nat} (ha : a < 2 ^ 62) (hb : b < 2 ^ 62) : ior .i64 (a : Int) (b : Int) = ((a ||| b : Nat) : Int) := by
  have h := Nat.or_lt_two_pow ha hb
  show IntKind.wrap .i64 ((BitVec.ofInt 64 (a : Int) ||| BitVec.ofInt 64 (b : Int)).toNat : Int) = _
  rw [BitVec.toNat_or, ofInt_nat (by omega), ofInt_nat (by omega), wrap64 (by omega) (by omega)]
theorem iandu {a b : Nat} (ha : a < 2 ^ 62) (hb : b < 2 ^ 62) : iand .u64 (a : Int) (b : Int) = ((a &&& b : Nat) : Int) := by
  have h : a &&& b < 2 ^ 62 := Nat.and_lt_two_pow a hb
  show IntKind.wrap .u64 ((BitVec.ofInt 64 (a : Int) &&& BitVec.ofInt 64 (b : Int)).toNat : Int) = _
  rw [BitVec.toNat_and, ofInt_nat (by omega), ofInt_nat (by omega), wrapu64 (by omega) (by omega)]
theorem all_lt {n : Nat} {p : Nat → Bool} (h : (List.range n).all p = true) {i : Nat} (hi : i < n) : p i = true :=
  List.all_eq_true.1 h i (List.mem_range.2 hi)

theorem only_tab : ((List.range 8).all fun i => impl_only ((i : Int) + 1) == some ((2 ^ i : Nat) : Int)) = true := by decide +kernel
theorem only_eq {w : Nat} (h1 : 1 ≤ w) (h2 : w ≤ 8) : impl_only (w : Int) = some ((2 ^ (w - 1) : Nat) : Int) := by
  have h := all_lt only_tab (i := w - 1) (by omega)
  rw [show ((w - 1 : Nat) : Int) + 1 = (w : Int) by omega] at h
  simpa using h

/-- The words of a set, in ascending order. -/
def wordsL (m : Nat) : List Int := ((List.range 8).filter fun i => m.testBit i).map fun i => ((i + 1 : Nat) : Int)

theorem filter_upto (p : Nat → Bool) (n : Nat) : ∀ N, n ≤ N → (List.range N).filter (fun i => decide (i < n) && p i) = (List.range n).filter p
  | 0, h => by
    have : n = 0 := by omega
    subst this; rfl
  | N + 1, h => by
    by_cases e : n = N + 1
    · subst e
      apply List.filter_congr
      intro i hi
      rw [List.mem_range] at hi
      simp [hi]
    · rw [List.range_succ, List.filter_append, filter_upto p n N (by omega)]
      have : ¬ N < n := by omega
      simp [this]

theorem wordsL_mask (p : Nat → Bool) {n : Nat} (h : n ≤ 8) : wordsL (maskN p n) = ((List.range n).filter p).map fun i => ((i + 1 : Nat) : Int) := by
  unfold wordsL
  rw [← filter_upto p n 8 h]
  congr 1
  apply List.filter_congr
  intro i _
  rw [maskN_bit]

theorem mem_wordsL {p : Nat → Bool} {n : Nat} (h : n ≤ 8) {x : Int} : x ∈ wordsL (maskN p n) ↔ ∃ i, i < n ∧ p i = true ∧ x = ((i + 1 : Nat) : Int) := by
  rw [wordsL_mask p h, List.mem_map]
  constructor
  · rintro ⟨i, hi, e⟩
    rw [List.mem_filter, List.mem_range] at hi
    exact ⟨i, hi.1, hi.2, e.symm⟩
  · rintro ⟨i, h1, h2, e⟩
    exact ⟨i, by rw [List.mem_filter, List.mem_range]; exact ⟨h1, h2⟩, e.symm⟩

theorem wordsL_length_le (m : Nat) : (wordsL m).length ≤ 8 := by
  unfold wordsL
  rw [List.length_map]
  exact Nat.le_trans (List.length_filter_le _ _) (by simp)

/-- Who has a head. -/
def headB (h : List Int) (v : Int) (i : Nat) : Bool := h.getD i 0 == v

theorem dependents_eq (h : List Int) (v : Int) (hl : h.length ≤ 8) : impl_dependents h v = some ((maskN (headB h v) h.length : Nat) : Int) := by
  have e : impl_dependents h v = impl_dependents_n9 h v := by unfold impl_dependents; rfl
  rw [e]
  unfold impl_dependents_n9 impl_dependents_n8 impl_dependents_n6 impl_dependents_n2 impl_dependents_n5 impl_dependents_n4 impl_dependents_n1
  have hloop := nloop_to (body := fun (s : Int × Int) => ((impl_dependents_n3 h v s.1 h.length s.2).map (Sum.elim (fun (t : Int × Int) => Sum.inl (t.1, t.2)) (fun (t : Int) => Sum.inr t)) : Option ((Int × Int) ⊕ (Int))))
    (fun k => (((maskN (headB h v) k : Nat) : Int), (k : Int))) h.length ((maskN (headB h v) h.length : Nat) : Int)
    (by
      intro k hk
      have hb : headB h v k = (h[k] == v) := by simp [headB, List.getD, hk]
      have h1 := maskN_lt (headB h v) k
      have h2 : (2 : Nat) ^ k < 2 ^ 62 := Nat.pow_lt_pow_right (by omega) (by omega)
      simp only [impl_dependents_n3]
      rw [show decide ((k : Int) < ((h.length : Nat) : Int)) = true from decide_eq_true (by omega), idx_lt hk, wrap64 (by omega) (by omega), show (k : Int) + 1 = ((k + 1 : Nat) : Int) by omega,
        only_eq (by omega) (by omega), Nat.add_sub_cancel]
      simp only [cond_true, Option.bind_some, ← hb, maskN]
      rw [ioru (by omega) h2]
      cases headB h v k with
      | true => rfl
      | false => simp)
    (by
      simp only [impl_dependents_n3]
      rw [show decide (((h.length : Nat) : Int) < ((h.length : Nat) : Int)) = false from decide_eq_false (by omega)]
      rfl)
  simp only [Option.bind_some]
  have := hloop LL (by simp only [LL]; omega)
  simp only [maskN] at this
  rw [show (((0 : Nat) : Int), ((0 : Nat) : Int)) = ((0 : Int), (0 : Int)) from rfl] at this
  rw [this]
  rfl

theorem list_tab : ((List.range 256).all fun m => impl_wordSet_list (m : Int) == some (wordsL m)) = true := by decide +kernel
theorem list_eq {m : Nat} (h : m < 256) : impl_wordSet_list (m : Int) = some (wordsL m) := by simpa using all_lt list_tab h

def rootI (h : List Int) : Int := if treeB h then (top h : Int) else -1

theorem implRoot_eq (h : List Int) : impl_RootOf h = some (rootI h) := by
  unfold impl_RootOf impl_RootOf_n7 impl_RootOf_n1 impl_RootOf_n6 impl_RootOf_n4 impl_RootOf_n3 rootI
  rw [implTree_eq]
  cases hT : treeB h with
  | false => simp
  | true =>
    have T := (tree_iff h).1 hT
    simp only [Option.bind_some, Bool.not_true, cond_false, Sum.elim_inl, if_true]
    have hloop := nloop_run (body := fun (s : Int × Int) => ((impl_RootOf_n2 h s.1 s.2).map (Sum.elim (fun (t : Int × Int) => Sum.inl (t.1, t.2)) (fun (t : Int × Int) => Sum.inr t)) : Option ((Int × Int) ⊕ ((Int × Int)))))
      (I := fun s => ∃ k i : Nat, s = (((k + 1 : Nat) : Int), (i : Int)) ∧ k < h.length ∧ i + dep h (k + 1) < h.length) (μ := fun s => dep h s.1.toNat)
      (f := fun s => ((top h : Int), s.2 + (dep h s.1.toNat : Int)))
      (by
        rintro _ ⟨k, i, rfl, hk, hi⟩
        have hle := T.le
        simp only [impl_RootOf_n2]
        rw [up_eq h k i hk (by omega) (by omega)]
        have hg := T.get (w := k + 1) (by omega) (by omega)
        rw [show k + 1 - 1 = k by omega, List.getElem?_eq_getElem hk] at hg
        have hg' : h[k] = ((hd h (k + 1) : Nat) : Int) := by simpa using hg
        by_cases e : hd h (k + 1) = 0
        · right
          have ht := (T.hd_zero (w := k + 1) (by omega) (by omega)).1 e
          have hd0 : dep h (k + 1) = 0 := by rw [ht]; exact T.dep_top
          have hd0' : dep h (((k + 1 : Nat) : Int)).toNat = 0 := hd0
          rw [if_pos (by omega)]
          simp only [Option.bind_some, cond_false, Option.map_some, Sum.elim_inr, hd0']
          rw [← ht]
          simp
        · left
          have hs := T.dep_step (w := k + 1) (by omega) (by omega) e
          have hle2 := T.hd_le (w := k + 1) (by omega) (by omega)
          rw [if_neg (by omega)]
          refine ⟨(h[k], ((i + 1 : Nat) : Int)), by simp, ⟨hd h (k + 1) - 1, i + 1, ?_, by omega, ?_⟩, ?_, ?_⟩
          · rw [hg', show hd h (k + 1) - 1 + 1 = hd h (k + 1) by omega]
          · rw [show hd h (k + 1) - 1 + 1 = hd h (k + 1) by omega]; omega
          · simp only [hg', Int.toNat_natCast]; omega
          · simp only [hg', Int.toNat_natCast]
            rw [hs]
            simp; omega)
    rw [hloop LL (1, 0) ⟨0, 0, rfl, by have := T.pos; omega, by have := T.dep_lt (w := 0 + 1) (by omega) (by have := T.pos; omega); omega⟩ (by
      have := T.dep_lt (w := 1) (by omega) T.pos; have := T.le; simp only [LL]; simp; omega)]
    simp [impl_RootOf_n5]

/-- A word is under another one: from head to head one comes to it. -/
inductive Und (h : List Int) : Nat → Nat → Prop
  | refl {a : Nat} (h1 : 1 ≤ a) (h2 : a ≤ h.length) : Und h a a
  | step {a b : Nat} (h1 : 1 ≤ a) (h2 : a ≤ h.length) (h3 : hd h a ≠ 0) (u : Und h (hd h a) b) : Und h a b

theorem Tree.climbInd {h : List Int} (T : Tree h) {P : Nat → Prop} (h0 : P (top h)) (hs : ∀ w, 1 ≤ w → w ≤ h.length → hd h w ≠ 0 → P (hd h w) → P w) : ∀ w, 1 ≤ w → w ≤ h.length → P w := by
  have key : ∀ (d w : Nat), dep h w = d → 1 ≤ w → w ≤ h.length → P w := by
    intro d
    induction d with
    | zero =>
      intro w e h1 h2
      rw [(T.dep_zero h1 h2).1 e]; exact h0
    | succ d ih =>
      intro w e h1 h2
      have hne : hd h w ≠ 0 := fun e0 => by
        have := (T.dep_zero h1 h2).2 ((T.hd_zero h1 h2).1 e0)
        omega
      have := T.dep_step h1 h2 hne
      exact hs w h1 h2 hne (ih _ (by omega) (by omega) (T.hd_le h1 h2))
  intro w
  exact key _ w rfl

theorem Tree.fallInd {h : List Int} (T : Tree h) {P : Nat → Prop} (hs : ∀ w, 1 ≤ w → w ≤ h.length → (∀ c, 1 ≤ c → c ≤ h.length → hd h c = w → P c) → P w) : ∀ w, 1 ≤ w → w ≤ h.length → P w := by
  have key : ∀ (d w : Nat), h.length - dep h w ≤ d → 1 ≤ w → w ≤ h.length → P w := by
    intro d
    induction d with
    | zero =>
      intro w e h1 h2
      have := T.dep_lt h1 h2
      omega
    | succ d ih =>
      intro w e h1 h2
      refine hs w h1 h2 fun c hc1 hc2 hc => ih c ?_ hc1 hc2
      have := T.dep_step hc1 hc2 (by omega)
      rw [hc] at this
      have := T.dep_lt h1 h2
      omega
  intro w
  exact key _ w (Nat.le_refl _)

theorem Tree.und_hd {h : List Int} (T : Tree h) {a : Nat} (h1 : 1 ≤ a) (h2 : a ≤ h.length) (h3 : hd h a ≠ 0) : Und h a (hd h a) :=
  .step h1 h2 h3 (.refl (by omega) (T.hd_le h1 h2))

theorem Tree.und_top {h : List Int} (T : Tree h) {a : Nat} (h1 : 1 ≤ a) (h2 : a ≤ h.length) : Und h a (top h) :=
  T.climbInd (P := fun w => Und h w (top h)) (.refl (top_pos h) T.top_le) (fun w a b c d => .step a b c d) a h1 h2

theorem Tree.und_trans {h : List Int} (T : Tree h) {a b c : Nat} (u : Und h a b) (v : Und h b c) : Und h a c := by
  induction u with
  | refl => exact v
  | step h1 h2 h3 u ih => exact .step h1 h2 h3 (ih v)

theorem Tree.und_child {h : List Int} (T : Tree h) {a b : Nat} : Und h a b ↔ (a = b ∧ 1 ≤ a ∧ a ≤ h.length) ∨ (b ≠ 0 ∧ ∃ c, 1 ≤ c ∧ c ≤ h.length ∧ hd h c = b ∧ Und h a c) := by
  constructor
  · intro u
    induction u with
    | refl h1 h2 => exact .inl ⟨rfl, h1, h2⟩
    | step h1 h2 h3 u ih =>
      rcases ih with ⟨e, e2, _⟩ | ⟨hb, c, c1, c2, c3, c4⟩
      · exact .inr ⟨by omega, _, h1, h2, e, .refl h1 h2⟩
      · exact .inr ⟨hb, c, c1, c2, c3, .step h1 h2 h3 c4⟩
  · rintro (⟨rfl, h1, h2⟩ | ⟨hb, c, c1, c2, rfl, c4⟩)
    · exact .refl h1 h2
    · exact T.und_trans c4 (T.und_hd c1 c2 hb)

/-- Whether a word is under another one. -/
noncomputable def undB (h : List Int) (a b : Nat) : Bool := @decide (Und h a b) (Classical.propDecidable _)
theorem undB_iff {h : List Int} {a b : Nat} : undB h a b = true ↔ Und h a b := by simp [undB]
/-- The yield of a word as bits. -/
noncomputable def ymask (h : List Int) (k : Nat) : Nat := maskN (fun i => undB h (i + 1) k) h.length

theorem ymask_lt {h : List Int} (hl : h.length ≤ 8) (k : Nat) : ymask h k < 256 := lt256 hl (maskN_lt _ _)

/-- The words that depend on a word. -/
def kidsL (h : List Int) (w : Nat) : List Int := wordsL (maskN (headB h (w : Int)) h.length)

theorem mem_kids {h : List Int} (T : Tree h) {w : Nat} {x : Int} : x ∈ kidsL h w ↔ ∃ c, 1 ≤ c ∧ c ≤ h.length ∧ hd h c = w ∧ x = (c : Int) := by
  unfold kidsL
  rw [mem_wordsL T.le]
  constructor
  · rintro ⟨i, h1, h2, e⟩
    refine ⟨i + 1, by omega, by omega, ?_, e⟩
    have hg := T.get (w := i + 1) (by omega) (by omega)
    rw [Nat.add_sub_cancel] at hg
    simp only [headB, List.getD_eq_getElem?_getD, hg, Option.getD_some, beq_iff_eq] at h2
    omega
  · rintro ⟨c, h1, h2, h3, rfl⟩
    refine ⟨c - 1, by omega, ?_, by omega⟩
    have hg := T.get (w := c) (by omega) (by omega)
    simp only [headB, List.getD_eq_getElem?_getD, hg, Option.getD_some, beq_iff_eq, h3]

theorem kids_length (h : List Int) (w : Nat) : (kidsL h w).length ≤ 8 := wordsL_length_le _

/-- Words of a yield: the word, and those under what depends on it. -/
noncomputable def partB (h : List Int) (w : Nat) (cs : List Int) (i : Nat) : Bool := (i + 1 == w) || cs.any fun c => undB h (i + 1) c.toNat

theorem part_all {h : List Int} (T : Tree h) {w : Nat} (h1 : 1 ≤ w) (h2 : w ≤ h.length) {i : Nat} (hi : i < h.length) : partB h w (kidsL h w) i = undB h (i + 1) w := by
  rw [Bool.eq_iff_iff, undB_iff, T.und_child]
  simp only [partB, Bool.or_eq_true, beq_iff_eq, List.any_eq_true, undB_iff]
  constructor
  · rintro (e | ⟨x, hx, u⟩)
    · exact .inl ⟨e, by omega, by omega⟩
    · obtain ⟨c, c1, c2, c3, rfl⟩ := (mem_kids T).1 hx
      exact .inr ⟨by omega, c, c1, c2, c3, by simpa using u⟩
  · rintro (⟨e, _⟩ | ⟨_, c, c1, c2, c3, u⟩)
    · exact .inl e
    · exact .inr ⟨(c : Int), (mem_kids T).2 ⟨c, c1, c2, c3, rfl⟩, by simpa using u⟩

theorem part_step (h : List Int) (w : Nat) (cs : List Int) {j : Nat} (hj : j < cs.length) {n : Nat} :
    maskN (partB h w (cs.take (j + 1))) n = maskN (partB h w (cs.take j)) n ||| maskN (fun i => undB h (i + 1) cs[j].toNat) n := by
  refine (eq_maskN (Nat.or_lt_two_pow (maskN_lt _ _) (maskN_lt _ _)) fun i hi => ?_).symm
  rw [Nat.testBit_or, maskN_bit, maskN_bit]
  simp only [hi, decide_true, Bool.true_and, partB]
  rw [List.take_add_one, List.getElem?_eq_getElem hj]
  simp only [Option.toList_some, List.any_append, List.any_cons, List.any_nil, Bool.or_false, Bool.or_assoc]

theorem part_none (h : List Int) {w n : Nat} (h1 : 1 ≤ w) (h2 : w ≤ n) : maskN (partB h w []) n = 2 ^ (w - 1) := by
  refine (eq_maskN (Nat.pow_lt_pow_right (by omega) (by omega)) fun i hi => ?_).symm
  rw [Nat.testBit_two_pow]
  simp only [partB, List.any_nil, Bool.or_false]
  rw [Bool.eq_iff_iff]
  simp only [decide_eq_true_eq, beq_iff_eq]
  omega

/-- The yields, filled for those under some words. -/
noncomputable def fillL (h : List Int) (ys cs : List Int) : List Int := (List.range h.length).map fun i => if (cs.any fun c => undB h (i + 1) c.toNat) = true then ((ymask h (i + 1) : Nat) : Int) else ys.getD i 0

theorem fillL_length (h ys cs : List Int) : (fillL h ys cs).length = h.length := by simp [fillL]
theorem fillL_get (h ys cs : List Int) {i : Nat} (hi : i < h.length) : (fillL h ys cs)[i]? = some (if (cs.any fun c => undB h (i + 1) c.toNat) = true then ((ymask h (i + 1) : Nat) : Int) else ys.getD i 0) := by
  simp [fillL, hi]
theorem fillL_nil {h ys : List Int} (hl : ys.length = h.length) : fillL h ys [] = ys := by
  apply List.ext_getElem?
  intro i
  by_cases hi : i < h.length
  · rw [fillL_get h ys [] hi]
    simp [List.getD, show i < ys.length by omega]
  · rw [List.getElem?_eq_none (by rw [fillL_length]; omega), List.getElem?_eq_none (by omega)]

theorem fillL_step (h ys cs : List Int) {j : Nat} (hj : j < cs.length) : fillL h (fillL h ys (cs.take j)) [cs[j]] = fillL h ys (cs.take (j + 1)) := by
  apply List.ext_getElem?
  intro i
  by_cases hi : i < h.length
  · rw [fillL_get h _ _ hi, fillL_get h _ _ hi, List.getD_eq_getElem?_getD, fillL_get h _ _ hi, List.take_add_one, List.getElem?_eq_getElem hj]
    simp only [List.any_cons, List.any_nil, Bool.or_false, Option.getD_some, Option.toList_some, List.any_append]
    cases undB h (i + 1) cs[j].toNat <;> cases ((List.take j cs).any fun c => undB h (i + 1) c.toNat) <;> simp
  · rw [List.getElem?_eq_none (by rw [fillL_length]; omega), List.getElem?_eq_none (by rw [fillL_length]; omega)]

theorem fillL_set {h ys : List Int} (T : Tree h) {w : Nat} (h1 : 1 ≤ w) (h2 : w ≤ h.length) : (fillL h ys (kidsL h w)).set (w - 1) ((ymask h w : Nat) : Int) = fillL h ys [(w : Int)] := by
  apply List.ext_getElem?
  intro i
  by_cases hi : i < h.length
  · by_cases e : i = w - 1
    · subst e
      rw [List.getElem?_set_self (by rw [fillL_length]; omega), fillL_get h _ _ hi, if_pos]
      · rw [show w - 1 + 1 = w by omega]
      · have : undB h (w - 1 + 1) w = true := undB_iff.2 (by rw [show w - 1 + 1 = w by omega]; exact .refl h1 h2)
        simpa using this
    · rw [List.getElem?_set_ne (fun e' => e e'.symm), fillL_get h _ _ hi, fillL_get h _ _ hi]
      have hp := part_all T h1 h2 hi
      have hne : (i + 1 == w) = false := by rw [beq_eq_false_iff_ne]; omega
      simp only [partB, hne, Bool.false_or] at hp
      rw [hp]
      simp
  · rw [List.getElem?_eq_none (by rw [List.length_set, fillL_length]; omega), List.getElem?_eq_none (by rw [fillL_length]; omega)]

theorem fill_fuel {h : List Int} (T : Tree h) : ∀ w, 1 ≤ w → w ≤ h.length → ∀ (f : Nat) (ys : List Int), h.length - dep h w < f → ys.length = h.length →
    impl_fillYields_knot f h (w : Int) ys = some (((ymask h w : Nat) : Int), fillL h ys [(w : Int)]) := by
  refine T.fallInd (P := fun w => ∀ (f : Nat) (ys : List Int), h.length - dep h w < f → ys.length = h.length → impl_fillYields_knot f h (w : Int) ys = some (((ymask h w : Nat) : Int), fillL h ys [(w : Int)])) ?_
  intro w h1 h2 ih f ys hf hys
  obtain ⟨f, rfl⟩ : ∃ g, f = g + 1 := ⟨f - 1, by omega⟩
  have hle := T.le
  simp only [impl_fillYields_knot]
  generalize hR : impl_fillYields_knot f = R0
  have ih' : ∀ c, 1 ≤ c → c ≤ h.length → hd h c = w → ∀ zs : List Int, zs.length = h.length → R0 h (c : Int) zs = some (((ymask h c : Nat) : Int), fillL h zs [(c : Int)]) := by
    intro c c1 c2 c3 zs hz
    rw [← hR]
    refine ih c c1 c2 c3 f zs ?_ hz
    have := T.dep_step c1 c2 (by omega)
    rw [c3] at this
    have := T.dep_lt h1 h2
    omega
  have hkl := kids_length h w
  have hloop := nloop_to (body := fun (s : Int × Int × (List Int)) => ((impl_fillYields_n3 R0 h s.1 (kidsL h w).length s.2.1 s.2.2 (kidsL h w)).map (Sum.elim (fun (t : Int × Int × (List Int)) => Sum.inl (t.1, t.2.1, t.2.2)) (fun (t : Int × (List Int)) => Sum.inr t)) : Option ((Int × Int × (List Int)) ⊕ ((Int × (List Int))))))
    (fun j => (((maskN (partB h w ((kidsL h w).take j)) h.length : Nat) : Int), (j : Int), fillL h ys ((kidsL h w).take j))) (kidsL h w).length (((maskN (partB h w (kidsL h w)) h.length : Nat) : Int), fillL h ys (kidsL h w))
    (by
      intro j hj
      simp only [impl_fillYields_n3]
      obtain ⟨c, c1, c2, c3, hc⟩ := (mem_kids T).1 (List.getElem_mem hj)
      have ihc := ih' c c1 c2 c3 (fillL h ys ((kidsL h w).take j)) (fillL_length _ _ _)
      have l1 : maskN (partB h w ((kidsL h w).take j)) h.length < 256 := lt256 hle (maskN_lt _ _)
      have l2 := ymask_lt hle c
      rw [show decide ((j : Int) < (((kidsL h w).length : Nat) : Int)) = true from decide_eq_true (by omega), inb_nat hj, wrap64 (by omega) (by omega)]
      simp only [cond_true, Option.bind_some, List.getElem?_eq_getElem hj]
      rw [hc, ihc]
      simp only [Option.bind_some]
      rw [ioru (by omega) (by omega), part_step h w _ hj, ← fillL_step h ys _ hj, hc]
      rfl)
    (by
      simp only [impl_fillYields_n3]
      rw [show decide ((((kidsL h w).length : Nat) : Int) < (((kidsL h w).length : Nat) : Int)) = false from decide_eq_false (by omega), List.take_length]
      rfl)
  have hl := hloop LL (by simp only [LL]; omega)
  rw [List.take_zero, part_none h h1 h2, fillL_nil hys] at hl
  unfold impl_fillYields_one impl_fillYields_n9 impl_fillYields_n1 impl_fillYields_n8 impl_fillYields_n6 impl_fillYields_n2 impl_fillYields_n5 impl_fillYields_n4 impl_fillYields_n7
  rw [only_eq h1 (by omega), dependents_eq h _ hle]
  simp only [Option.bind_some]
  rw [list_eq (lt256 hle (maskN_lt _ _))]
  show (((((some _).bind fun v1208 => some (((List.length v1208 : Nat) : Int), v1208)).bind _) : Option _).bind _) = _
  simp only [Option.bind_some]
  change ((Option.map _ (nloop (fun (s : Int × Int × (List Int)) => ((impl_fillYields_n3 R0 h s.1 (kidsL h w).length s.2.1 s.2.2 (kidsL h w)).map (Sum.elim (fun (t : Int × Int × (List Int)) => Sum.inl (t.1, t.2.1, t.2.2)) (fun (t : Int × (List Int)) => Sum.inr t)) : Option ((Int × Int × (List Int)) ⊕ ((Int × (List Int)))))) LL (((2 ^ (w - 1) : Nat) : Int), ((0 : Nat) : Int), ys))).bind _) = _
  rw [hl]
  simp only [Option.map_some, Option.bind_some]
  rw [wrap64 (by omega) (by omega), show (w : Int) - 1 = ((w - 1 : Nat) : Int) by omega, inb_nat (by rw [fillL_length]; omega)]
  simp only [Option.bind_some]
  have hm : maskN (partB h w (kidsL h w)) h.length = ymask h w := maskN_congr fun i hi => part_all T h1 h2 hi
  rw [hm, fillL_set T h1 h2]

/-- The yields of all words. -/
noncomputable def yieldL (h : List Int) : List Int := (List.range h.length).map fun i => ((ymask h (i + 1) : Nat) : Int)
theorem yieldL_length (h : List Int) : (yieldL h).length = h.length := by simp [yieldL]
theorem yieldL_get (h : List Int) {i : Nat} (hi : i < h.length) : (yieldL h)[i]? = some ((ymask h (i + 1) : Nat) : Int) := by simp [yieldL, hi]

theorem yields_eq {h : List Int} (T : Tree h) : impl_yieldsOf h = some (yieldL h) := by
  have hle := T.le
  have e : impl_yieldsOf h = impl_yieldsOf_n1 h := by unfold impl_yieldsOf; rfl
  rw [e]
  unfold impl_yieldsOf_n1
  rw [mk_nat (by omega), implRoot_eq]
  have hT : treeB h = true := (tree_iff h).2 T
  simp only [Option.bind_some, rootI, hT, if_true]
  have e2 : impl_fillYields h (top h : Int) (List.replicate h.length 0) = impl_fillYields_knot RR h (top h : Int) (List.replicate h.length 0) := by unfold impl_fillYields impl_fillYields_fuel; rfl
  rw [e2, fill_fuel T (top h) (top_pos h) T.top_le RR _ (by simp only [RR]; omega) (by simp)]
  simp only [Option.bind_some]
  congr 1
  apply List.ext_getElem?
  intro i
  by_cases hi : i < h.length
  · rw [fillL_get h _ _ hi, yieldL_get h hi, if_pos]
    have : undB h (i + 1) (top h) = true := undB_iff.2 (T.und_top (by omega) (by omega))
    simpa using this
  · rw [List.getElem?_eq_none (by rw [fillL_length]; omega), List.getElem?_eq_none (by rw [yieldL_length]; omega)]

noncomputable def stepB (h : List Int) (w k i : Nat) : Bool := (i + 1 == w) || (List.range k).any fun c => (hd h (c + 1) == w) && undB h (i + 1) (c + 1)

theorem step_all {h : List Int} (T : Tree h) {w : Nat} (h1 : 1 ≤ w) (h2 : w ≤ h.length) {i : Nat} (hi : i < h.length) : stepB h w h.length i = undB h (i + 1) w := by
  rw [Bool.eq_iff_iff, undB_iff, T.und_child]
  simp only [stepB, Bool.or_eq_true, beq_iff_eq, List.any_eq_true, undB_iff, Bool.and_eq_true, List.mem_range]
  constructor
  · rintro (e | ⟨c, hc, e, u⟩)
    · exact .inl ⟨e, by omega, by omega⟩
    · exact .inr ⟨by omega, c + 1, by omega, by omega, e, u⟩
  · rintro (⟨e, _⟩ | ⟨_, c, c1, c2, c3, u⟩)
    · exact .inl e
    · exact .inr ⟨c - 1, by omega, by rw [show c - 1 + 1 = c by omega]; exact c3, by rw [show c - 1 + 1 = c by omega]; exact u⟩

theorem step_one (h : List Int) (w : Nat) (k n : Nat) : maskN (stepB h w (k + 1)) n = maskN (stepB h w k) n ||| (if hd h (k + 1) = w then maskN (fun i => undB h (i + 1) (k + 1)) n else 0) := by
  refine (eq_maskN (Nat.or_lt_two_pow (maskN_lt _ _) ?_) fun i hi => ?_).symm
  · split
    · exact maskN_lt _ _
    · exact Nat.two_pow_pos _
  · rw [Nat.testBit_or, maskN_bit]
    simp only [hi, decide_true, Bool.true_and, stepB]
    rw [List.range_succ]
    simp only [List.any_append, List.any_cons, List.any_nil, Bool.or_false, Bool.or_assoc]
    congr 2
    by_cases e : hd h (k + 1) = w
    · rw [if_pos e, maskN_bit]
      simp [hi, e]
    · rw [if_neg e]
      simp [e]

theorem step_none (h : List Int) {w n : Nat} (h1 : 1 ≤ w) (h2 : w ≤ n) : maskN (stepB h w 0) n = 2 ^ (w - 1) := by
  refine (eq_maskN (Nat.pow_lt_pow_right (by omega) (by omega)) fun i hi => ?_).symm
  rw [Nat.testBit_two_pow]
  simp only [stepB, List.range_zero, List.any_nil, Bool.or_false]
  rw [Bool.eq_iff_iff]
  simp only [decide_eq_true_eq, beq_iff_eq]
  omega

theorem shl_tab : ((List.range 8).all fun i => shl .i64 1 (i : Int) == some ((2 ^ i : Nat) : Int)) = true := by decide +kernel
theorem shl_eq {w : Nat} (h1 : 1 ≤ w) (h2 : w ≤ 8) : shl .i64 1 (IntKind.wrap .i64 ((w : Int) - 1)) = some ((2 ^ (w - 1) : Nat) : Int) := by
  rw [wrap64 (by omega) (by omega), show (w : Int) - 1 = ((w - 1 : Nat) : Int) by omega]
  simpa using all_lt shl_tab (i := w - 1) (by omega)

theorem yield_fuel {h : List Int} (T : Tree h) : ∀ w, 1 ≤ w → w ≤ h.length → ∀ (f : Nat), h.length - dep h w < f → spec_l2Yield_knot f h (w : Int) = some ((ymask h w : Nat) : Int) := by
  refine T.fallInd (P := fun w => ∀ (f : Nat), h.length - dep h w < f → spec_l2Yield_knot f h (w : Int) = some ((ymask h w : Nat) : Int)) ?_
  intro w h1 h2 ih f hf
  obtain ⟨f, rfl⟩ : ∃ g, f = g + 1 := ⟨f - 1, by omega⟩
  have hle := T.le
  simp only [spec_l2Yield_knot]
  generalize hR : spec_l2Yield_knot f = R0
  have ih' : ∀ c, 1 ≤ c → c ≤ h.length → hd h c = w → R0 h (c : Int) = some ((ymask h c : Nat) : Int) := by
    intro c c1 c2 c3
    rw [← hR]
    refine ih c c1 c2 c3 f ?_
    have := T.dep_step c1 c2 (by omega)
    rw [c3] at this
    have := T.dep_lt h1 h2
    omega
  have hloop := nloop_to (body := fun (s : Int × Int) => ((spec_l2Yield_n3 R0 h w s.1 s.2).map (Sum.elim (fun (t : Int × Int) => Sum.inl (t.1, t.2)) (fun (t : Int) => Sum.inr t)) : Option ((Int × Int) ⊕ (Int))))
    (fun k => (((maskN (stepB h w k) h.length : Nat) : Int), (k : Int))) h.length ((maskN (stepB h w h.length) h.length : Nat) : Int)
    (by
      intro k hk
      have hg := T.get (w := k + 1) (by omega) (by omega)
      rw [Nat.add_sub_cancel, List.getElem?_eq_getElem hk] at hg
      have hg' : h[k] = ((hd h (k + 1) : Nat) : Int) := Option.some.inj hg
      have l1 : maskN (stepB h w k) h.length < 256 := lt256 hle (maskN_lt _ _)
      simp only [spec_l2Yield_n3]
      rw [show decide ((k : Int) < ((h.length : Nat) : Int)) = true from decide_eq_true (by omega), idx_lt hk, wrap64 (by omega) (by omega), hg', show (k : Int) + 1 = ((k + 1 : Nat) : Int) by omega]
      simp only [cond_true, Option.bind_some]
      rw [step_one]
      by_cases e : hd h (k + 1) = w
      · have l2 := ymask_lt hle (k + 1)
        rw [show ((((hd h (k + 1) : Nat) : Int)) == (w : Int)) = true by rw [beq_iff_eq]; omega, ih' (k + 1) (by omega) (by omega) e, if_pos e]
        simp only [cond_true, Option.bind_some]
        rw [iori (by omega) (by omega)]
        rfl
      · rw [show ((((hd h (k + 1) : Nat) : Int)) == (w : Int)) = false by rw [beq_eq_false_iff_ne]; omega, if_neg e, Nat.or_zero]
        rfl)
    (by
      simp only [spec_l2Yield_n3]
      rw [show decide (((h.length : Nat) : Int) < ((h.length : Nat) : Int)) = false from decide_eq_false (by omega)]
      rfl)
  have hl := hloop LL (by simp only [LL]; omega)
  rw [step_none h h1 h2] at hl
  unfold spec_l2Yield_one spec_l2Yield_n9 spec_l2Yield_n1 spec_l2Yield_n8 spec_l2Yield_n6 spec_l2Yield_n2 spec_l2Yield_n5 spec_l2Yield_n4 spec_l2Yield_n7
  rw [shl_eq h1 (by omega)]
  simp only [Option.bind_some]
  rw [show ((((2 ^ (w - 1) : Nat) : Int)), (0 : Int)) = (((2 ^ (w - 1) : Nat) : Int), ((0 : Nat) : Int)) from rfl, hl]
  simp only [Option.map_some, Option.bind_some]
  have hm : maskN (stepB h w h.length) h.length = ymask h w := maskN_congr fun i hi => step_all T h1 h2 hi
  rw [hm]

theorem l2Yield_eq {h : List Int} (T : Tree h) {w : Nat} (h1 : 1 ≤ w) (h2 : w ≤ h.length) : spec_l2Yield h (w : Int) = some ((ymask h w : Nat) : Int) := by
  have e : spec_l2Yield h (w : Int) = spec_l2Yield_knot RR h (w : Int) := by unfold spec_l2Yield spec_l2Yield_fuel; rfl
  rw [e]
  have := T.le
  exact yield_fuel T w h1 h2 RR (by simp only [RR]; omega)

theorem l2Words_tab : ((List.range 256).all fun m => spec_l2Words (m : Int) == some (wordsL m)) = true := by decide +kernel
theorem l2Words_eq {m : Nat} (h : m < 256) : spec_l2Words (m : Int) = some (wordsL m) := by simpa using all_lt l2Words_tab h

def Betw (a b j : Nat) : Prop := (a < j ∧ j < b) ∨ (b < j ∧ j < a)
/-- The sum of what belongs to each number below n. -/
def sumR (f : Nat → Nat) : Nat → Nat
  | 0 => 0
  | n + 1 => sumR f n + f n

theorem sumR_congr {f g : Nat → Nat} : ∀ {n : Nat}, (∀ i, i < n → f i = g i) → sumR f n = sumR g n
  | 0, _ => rfl
  | n + 1, h => by rw [sumR, sumR, sumR_congr fun i hi => h i (by omega), h n (by omega)]

theorem sumR_le {f g : Nat → Nat} : ∀ {n : Nat}, (∀ i, i < n → f i ≤ g i) → sumR f n ≤ sumR g n
  | 0, _ => Nat.le_refl _
  | n + 1, h => by
    have := sumR_le fun i (hi : i < n) => h i (by omega)
    have := h n (by omega)
    rw [sumR, sumR]
    omega

theorem sumR_add (f g : Nat → Nat) : ∀ n, sumR (fun i => f i + g i) n = sumR f n + sumR g n
  | 0 => rfl
  | n + 1 => by
    rw [sumR, sumR, sumR, sumR_add f g n]
    omega

theorem sumR_const (c : Nat) : ∀ n, sumR (fun _ => c) n = n * c
  | 0 => by simp [sumR]
  | n + 1 => by rw [sumR, sumR_const c n, Nat.succ_mul]

theorem sumR_swap (f : Nat → Nat → Nat) (m : Nat) : ∀ n, sumR (fun i => sumR (f i) m) n = sumR (fun j => sumR (fun i => f i j) n) m
  | 0 => by
    simp only [sumR]
    rw [sumR_const]
    rfl
  | n + 1 => by
    rw [sumR, sumR_swap f m n, ← sumR_add]
    exact sumR_congr fun j _ => rfl

/-- One for what holds, none for what does not. -/
def ind (b : Bool) : Nat := if b then 1 else 0
theorem ind_le (b : Bool) : ind b ≤ 1 := by cases b <;> simp [ind]

theorem sumR_ind (p : Nat → Bool) : ∀ n, sumR (fun i => ind (p i)) n = (List.range n).countP p
  | 0 => rfl
  | n + 1 => by
    rw [sumR, sumR_ind p n, List.range_succ, List.countP_append]
    cases h : p n <;> simp [ind, h]

theorem sumR_zero {f : Nat → Nat} : ∀ {n : Nat}, sumR f n = 0 ↔ ∀ i, i < n → f i = 0
  | 0 => by simp [sumR]
  | n + 1 => by
    rw [sumR]
    constructor
    · intro h i hi
      by_cases e : i = n
      · subst e; omega
      · exact (sumR_zero (n := n)).mp (by omega) i (by omega)
    · intro h
      have := (sumR_zero (n := n)).mpr fun i hi => h i (by omega)
      have := h n (by omega)
      omega

/-- All but one are nothing. -/
theorem sumR_single {f : Nat → Nat} : ∀ {n k : Nat}, k < n → (∀ i, i < n → i ≠ k → f i = 0) → sumR f n = f k
  | n + 1, k, hk, h => by
    rw [sumR]
    by_cases e : k = n
    · subst e
      rw [sumR_zero.mpr fun i hi => h i (by omega) (by omega)]
      omega
    · rw [sumR_single (n := n) (k := k) (by omega) fun i hi ne => h i (by omega) ne, h n (by omega) (by omega)]
      omega

/-- How many words depend on a word. -/
def kidsN (h : List Int) (w : Nat) : Nat := (List.range h.length).countP fun i => hd h (i + 1) == w

theorem kidsN_sum (h : List Int) (w : Nat) : kidsN h w = sumR (fun i => ind (hd h (i + 1) == w)) h.length := by rw [sumR_ind]; rfl

section
variable {h : List Int} (T : Tree h)
include T

/-- Each word but the root depends on a word. -/
theorem kids_total : sumR (fun i => kidsN h (i + 1)) h.length = h.length - 1 := by
  have e : sumR (fun i => kidsN h (i + 1)) h.length = sumR (fun j => ind (hd h (j + 1) != 0)) h.length := by
    rw [sumR_congr fun i _ => kidsN_sum h (i + 1), sumR_swap]
    refine sumR_congr fun j hj => ?_
    have l := T.hd_le (show 1 ≤ j + 1 by omega) (by omega)
    by_cases z : hd h (j + 1) = 0
    · rw [z, (sumR_zero (f := fun i => ind (0 == i + 1))).mpr fun i _ => rfl]
      rfl
    · rw [sumR_single (k := hd h (j + 1) - 1) (by omega) fun i _ ne => by
        rw [show (hd h (j + 1) == i + 1) = false from beq_eq_false_iff_ne.mpr (by omega)]
        rfl]
      rw [show (hd h (j + 1) == hd h (j + 1) - 1 + 1) = true from beq_iff_eq.mpr (by omega), show (hd h (j + 1) != 0) = true from bne_iff_ne.mpr z]
  have e2 : sumR (fun j => ind (hd h (j + 1) != 0)) h.length + sumR (fun j => ind (hd h (j + 1) == 0)) h.length = h.length := by
    rw [← sumR_add, sumR_congr (g := fun _ => 1), sumR_const]
    · omega
    · intro i _
      by_cases z : hd h (i + 1) = 0
      · rw [z]; rfl
      · rw [show (hd h (i + 1) != 0) = true from bne_iff_ne.mpr z, show (hd h (i + 1) == 0) = false from beq_eq_false_iff_ne.mpr z]
        rfl
  have e3 : sumR (fun j => ind (hd h (j + 1) == 0)) h.length = 1 := by
    have t1 := top_pos h
    have t2 := T.top_le
    rw [sumR_single (k := top h - 1) (by omega) fun i hi ne => ?_]
    · rw [show top h - 1 + 1 = top h by omega, (T.hd_zero t1 t2).mpr rfl]
      rfl
    · rw [show (hd h (i + 1) == 0) = false from beq_eq_false_iff_ne.mpr fun z => ne (by
        have := (T.hd_zero (show 1 ≤ i + 1 by omega) (by omega)).mp z
        omega)]
      rfl
  omega

end

section
variable {h : List Int} (T : Tree h)
include T

theorem hd_self {w : Nat} (w1 : 1 ≤ w) (w2 : w ≤ h.length) : hd h w ≠ w := by
  intro e
  have := T.dep_step w1 w2 (by omega)
  rw [e] at this
  omega

end

/-- How many words a yield has. -/
noncomputable def sizeW (h : List Int) (w : Nat) : Nat := sumR (fun i => ind (undB h (i + 1) w)) h.length

theorem size_le (h : List Int) (w : Nat) : sizeW h w ≤ h.length := by
  have := sumR_le (f := fun i => ind (undB h (i + 1) w)) (g := fun _ => 1) (n := h.length) fun i _ => ind_le _
  rw [sumR_const] at this
  unfold sizeW
  omega
/-- Rows one behind the other, the nearest first: each is stepped over by the arcs to those farther away. -/
def costL : List Nat → Nat
  | [] => 0
  | x :: r => x * r.length + costL r

/-- The two parts of a list, told by the bits of a number. -/
def selL : List Nat → Nat → List Nat × List Nat
  | [], _ => ([], [])
  | x :: r, s => if s % 2 = 1 then (x :: (selL r (s / 2)).1, (selL r (s / 2)).2) else ((selL r (s / 2)).1, x :: (selL r (s / 2)).2)

theorem selL_sub : ∀ (l : List Nat) (s : Nat), (selL l s).1.Sublist l ∧ (selL l s).2.Sublist l
  | [], _ => ⟨List.Sublist.refl _, List.Sublist.refl _⟩
  | x :: r, s => by
    have ih := selL_sub r (s / 2)
    unfold selL
    split
    · exact ⟨ih.1.cons_cons x, ih.2.cons x⟩
    · exact ⟨ih.1.cons x, ih.2.cons_cons x⟩

/-- The cost of a word, if those that depend on it are parted so. -/
def costS (l : List Nat) (root : Bool) (s : Nat) : Nat := costL (selL l s).2 + costL (selL l s).1 + if root = true then 0 else (selL l s).1.sum

def minN (f : Nat → Nat) : Nat → Nat
  | 0 => f 0
  | n + 1 => min (minN f n) (f (n + 1))

theorem minN_le {f : Nat → Nat} : ∀ {n k : Nat}, k ≤ n → minN f n ≤ f k
  | 0, k, h => by
    have : k = 0 := by omega
    subst this
    exact Nat.le_refl _
  | n + 1, k, h => by
    unfold minN
    by_cases e : k = n + 1
    · subst e
      exact Nat.min_le_right _ _
    · exact Nat.le_trans (Nat.min_le_left _ _) (minN_le (by omega))

theorem minN_at {f : Nat → Nat} : ∀ n, ∃ k, k ≤ n ∧ minN f n = f k
  | 0 => ⟨0, Nat.le_refl _, rfl⟩
  | n + 1 => by
    obtain ⟨k, hk, e⟩ := minN_at (f := f) n
    unfold minN
    by_cases q : minN f n ≤ f (n + 1)
    · exact ⟨k, by omega, by rw [Nat.min_eq_left q, e]⟩
    · exact ⟨n + 1, Nat.le_refl _, Nat.min_eq_right (by omega)⟩

/-- The least cost of a word on which so large yields hang. -/
def leastC (l : List Nat) (root : Bool) : Nat := minN (costS l root) (2 ^ l.length - 1)

theorem leastC_le {l : List Nat} {root : Bool} {s : Nat} (hs : s < 2 ^ l.length) : leastC l root ≤ costS l root s := minN_le (by omega)

def insS (out : List Nat) (x : Nat) : List Nat := out.takeWhile (fun y => decide (y < x)) ++ x :: out.dropWhile (fun y => decide (y < x))

theorem insS_perm (out : List Nat) (x : Nat) : (insS out x).Perm (x :: out) := by
  have := List.perm_middle (a := x) (l₁ := out.takeWhile (fun y => decide (y < x))) (l₂ := out.dropWhile (fun y => decide (y < x)))
  rw [List.takeWhile_append_dropWhile] at this
  exact this

theorem insS_sorted {out : List Nat} (so : out.Pairwise (· ≤ ·)) (x : Nat) : (insS out x).Pairwise (· ≤ ·) := by
  induction out with
  | nil => simp [insS]
  | cons y r ih =>
    rw [List.pairwise_cons] at so
    unfold insS
    by_cases q : y < x
    · rw [List.takeWhile_cons_of_pos (by simpa using q), List.dropWhile_cons_of_pos (by simpa using q), List.cons_append, List.pairwise_cons]
      refine ⟨fun z hz => ?_, ih so.2⟩
      have := (insS_perm r x).subset hz
      rcases List.mem_cons.mp this with rfl | h
      · omega
      · exact so.1 z h
    · rw [List.takeWhile_cons_of_neg (by simpa using q), List.dropWhile_cons_of_neg (by simpa using q), List.nil_append, List.pairwise_cons]
      refine ⟨fun z hz => ?_, List.pairwise_cons.mpr so⟩
      rcases List.mem_cons.mp hz with rfl | h
      · omega
      · have := so.1 z h
        omega

def sortS (l : List Nat) : List Nat := l.foldl insS []

theorem fold_ins : ∀ (l out : List Nat), out.Pairwise (· ≤ ·) → (l.foldl insS out).Pairwise (· ≤ ·) ∧ (l.foldl insS out).Perm (l ++ out)
  | [], out, so => ⟨so, List.Perm.refl _⟩
  | x :: l, out, so => by
    have ih := fold_ins l (insS out x) (insS_sorted so x)
    rw [List.foldl_cons]
    refine ⟨ih.1, ih.2.trans ?_⟩
    rw [List.cons_append]
    exact ((insS_perm out x).append_left l).trans List.perm_middle

theorem sortS_sorted (l : List Nat) : (sortS l).Pairwise (· ≤ ·) := (fold_ins l [] List.Pairwise.nil).1
theorem sortS_perm (l : List Nat) : (sortS l).Perm l := by
  have := (fold_ins l [] List.Pairwise.nil).2
  rwa [List.append_nil] at this

theorem sorted_eq : ∀ {l l' : List Nat}, l.Pairwise (· ≤ ·) → l'.Pairwise (· ≤ ·) → l.Perm l' → l = l'
  | [], l', _, _, p => (List.nil_perm.mp p).symm
  | x :: r, [], _, _, p => absurd p.length_eq (by simp)
  | x :: r, y :: r', s, s', p => by
    rw [List.pairwise_cons] at s s'
    have hx := p.subset (List.mem_cons_self ..)
    have hy := p.symm.subset (List.mem_cons_self ..)
    have e : x = y := by
      rcases List.mem_cons.mp hx with h | h
      · exact h
      · rcases List.mem_cons.mp hy with h' | h'
        · exact h'.symm
        · have := s.1 y h'
          have := s'.1 x h
          omega
    subst e
    rw [sorted_eq s.2 s'.2 p.cons_inv]

/-- The words that depend on a word. -/
def kidW (h : List Int) (w : Nat) : List Nat := ((List.range h.length).map (· + 1)).filter fun k => hd h k == w
noncomputable def sizesW (h : List Int) (w : Nat) : List Nat := sortS ((kidW h w).map (sizeW h))
noncomputable def leastW (h : List Int) (w : Nat) : Nat := leastC (sizesW h w) (hd h w == 0)
noncomputable def leastN (h : List Int) : Nat := (h.length - 1) + sumR (fun i => leastW h (i + 1)) h.length

theorem iminN (y z : Nat) : imin (y : Int) (z : Int) = ((min y z : Nat) : Int) := by unfold imin; split <;> omega

/-- What holds of the machine: the next word, the stack from its top, the heads. -/
structure MInv (n i : Nat) (st : List Nat) (h : List Int) : Prop where
  len : h.length = n
  lo : 1 ≤ i
  hi : i ≤ n + 1
  ne : st = [] → i = 1
  dec : st.Pairwise (· > ·)
  rng : ∀ s ∈ st, 1 ≤ s ∧ s < i ∧ hd h s = 0
  num : ∀ x ∈ h, 0 ≤ x ∧ x ≤ (n : Int)
  rank : ∃ (m : Nat) (ρ : Nat → Nat), m + st.length + 1 = i ∧ ∀ w, 1 ≤ w → w < i → w ∉ st → ρ w < m ∧ 1 ≤ hd h w ∧ hd h w < i ∧ (hd h w ∈ st ∨ ρ w < ρ (hd h w))
  near : ∀ j, 1 ≤ j → j < i → ∃ s ∈ st, Und h j s ∧ ∀ t ∈ st, ¬ Betw j s t
  below : ∀ w j, 1 ≤ w → w < i → hd h w ≠ 0 → Betw w (hd h w) j → Und h j (hd h w)

theorem MInv.get {n i : Nat} {st : List Nat} {h : List Int} (M : MInv n i st h) {w : Nat} (w1 : 1 ≤ w) (w2 : w ≤ n) : h[w - 1]? = some ((hd h w : Nat) : Int) := by
  have hl := M.len
  have lt : w - 1 < h.length := by omega
  have := M.num _ (List.getElem_mem lt)
  rw [List.getElem?_eq_getElem lt]
  unfold hd
  rw [List.getD_eq_getElem?_getD, List.getElem?_eq_getElem lt, Option.getD_some]
  congr 1
  omega

theorem room_ok {n : Nat} (h : n ≤ 1099511627776) : room n = some () := by unfold room; rw [if_pos h]

def cstL (l : List Nat) : List Int := l.map fun (x : Nat) => (x : Int)
theorem cstL_length (l : List Nat) : (cstL l).length = l.length := by simp [cstL]
theorem castL_get (l : List Nat) (k : Nat) : (cstL l)[k]? = (l[k]?).map fun (x : Nat) => (x : Int) := by simp [cstL]

theorem size_words {h : List Int} (T : Tree h) {w : Nat} : (wordsL (ymask h w)).length = sizeW h w := by
  unfold ymask sizeW
  rw [wordsL_mask _ T.le, List.length_map, sumR_ind, List.countP_eq_length_filter]

theorem at_loop (x : Nat) (l : List Nat) (hl : l.length ≤ 100) : spec_l10Sizes_n6 (x : Int) (cstL l) = some (((l.takeWhile (fun y => decide (y < x))).length : Nat) : Int) := by
  unfold spec_l10Sizes_n6
  have cl := cstL_length l
  have tl : (l.takeWhile (fun y => decide (y < x))).length ≤ l.length := (List.takeWhile_sublist _).length_le
  have key : ∀ k, k < (l.takeWhile (fun y => decide (y < x))).length → ∃ y, l[k]? = some y ∧ y < x := fun k hk => by
    have hm : (l.takeWhile (fun y => decide (y < x)))[k] ∈ l.takeWhile (fun y => decide (y < x)) := List.getElem_mem hk
    have hp : ((l.takeWhile (fun y => decide (y < x))).all fun y => decide (y < x)) = true := List.all_takeWhile
    have hp := List.all_eq_true.mp hp _ hm
    refine ⟨(l.takeWhile (fun y => decide (y < x)))[k], ?_, by simpa using hp⟩
    have pre := List.takeWhile_prefix (fun y => decide (y < x)) (l := l)
    obtain ⟨t, ht⟩ := pre
    have : l[k]? = (l.takeWhile (fun y => decide (y < x)) ++ t)[k]? := by rw [ht]
    rw [this, List.getElem?_append_left hk, List.getElem?_eq_getElem hk]
  have stop : (l.takeWhile (fun y => decide (y < x))).length < l.length → ∃ y, l[(l.takeWhile (fun y => decide (y < x))).length]? = some y ∧ ¬ y < x := fun hk => by
    have e := List.takeWhile_append_dropWhile (p := fun y => decide (y < x)) (l := l)
    cases hd : l.dropWhile (fun y => decide (y < x)) with
    | nil =>
      rw [hd, List.append_nil] at e
      rw [e] at hk
      omega
    | cons y r =>
      refine ⟨y, ?_, ?_⟩
      · have : l[(l.takeWhile (fun y => decide (y < x))).length]? = (l.takeWhile (fun y => decide (y < x)) ++ (y :: r))[(l.takeWhile (fun y => decide (y < x))).length]? := by rw [← hd, e]
        rw [this]
        simp
      · have := List.head?_dropWhile_not (fun y => decide (y < x)) l
        rw [hd] at this
        simpa using this
  have lp := nloop_to (body := fun (s : Int) => ((spec_l10Sizes_n5 (x : Int) s (cstL l)).map (Sum.elim (fun (t : Int) => Sum.inl t) (fun (t : Int) => Sum.inr t)) : Option ((Int) ⊕ (Int))))
    (fun k => (k : Int)) (l.takeWhile (fun y => decide (y < x))).length (((l.takeWhile (fun y => decide (y < x))).length : Nat) : Int)
    (by
      intro k hk
      obtain ⟨y, hy, hyx⟩ := key k hk
      have w : IntKind.wrap .i64 ((k : Int) + 1) = ((k + 1 : Nat) : Int) := by rw [wrap64 (by omega) (by omega)]; omega
      simp only [spec_l10Sizes_n5]
      rw [cl, decide_eq_true (show (k : Int) < ((l.length : Nat) : Int) by omega), inb_nat (by omega), w]
      simp only [cond_true, Option.bind_some, castL_get, hy, Option.map_some]
      rw [decide_eq_true (show ((y : Nat) : Int) < (x : Int) by omega)]
      rfl)
    (by
      simp only [spec_l10Sizes_n5]
      by_cases lt : (l.takeWhile (fun y => decide (y < x))).length < l.length
      · obtain ⟨y, hy, hyx⟩ := stop lt
        rw [cl, decide_eq_true (show (((l.takeWhile (fun y => decide (y < x))).length : Nat) : Int) < ((l.length : Nat) : Int) by omega), inb_nat lt]
        simp only [cond_true, Option.bind_some, castL_get, hy, Option.map_some]
        rw [decide_eq_false (show ¬ ((y : Nat) : Int) < (x : Int) by omega)]
        rfl
      · rw [cl, decide_eq_false (show ¬ (((l.takeWhile (fun y => decide (y < x))).length : Nat) : Int) < ((l.length : Nat) : Int) by omega)]
        rfl) LL (by simp only [LL]; omega)
  exact lp

theorem ins_native (x : Nat) (l : List Nat) (hl : l.length ≤ 100) : spec_l10Sizes_n9 (x : Int) (cstL l) = some (cstL (insS l x)) := by
  unfold spec_l10Sizes_n9 spec_l10Sizes_n7
  rw [at_loop x l hl]
  have cl := cstL_length l
  have tl : (l.takeWhile (fun y => decide (y < x))).length ≤ l.length := (List.takeWhile_sublist _).length_le
  have i : inc (((l.takeWhile (fun y => decide (y < x))).length : Nat) : Int) (cstL l).length = some (l.takeWhile (fun y => decide (y < x))).length := by
    unfold inc
    rw [if_pos (by omega), Int.toNat_natCast]
  simp only [Option.map_some, Option.bind_some, spec_l10Sizes_n8, i]
  rw [room_ok (by simp; omega), room_ok (by simp; omega), room_ok (by simp; omega)]
  simp only [Option.bind_some]
  congr 1
  have e := List.takeWhile_append_dropWhile (p := fun y => decide (y < x)) (l := l)
  have e1 : (cstL l).take (l.takeWhile (fun y => decide (y < x))).length = cstL (l.takeWhile (fun y => decide (y < x))) := by
    unfold cstL
    rw [← List.map_take]
    congr 1
    have z : (l.takeWhile (fun y => decide (y < x)) ++ l.dropWhile (fun y => decide (y < x))).take (l.takeWhile (fun y => decide (y < x))).length = l.takeWhile (fun y => decide (y < x)) := List.take_left' rfl
    rw [e] at z
    exact z
  have e2 : (cstL l).drop (l.takeWhile (fun y => decide (y < x))).length = cstL (l.dropWhile (fun y => decide (y < x))) := by
    unfold cstL
    rw [← List.map_drop]
    congr 1
    have z : (l.takeWhile (fun y => decide (y < x)) ++ l.dropWhile (fun y => decide (y < x))).drop (l.takeWhile (fun y => decide (y < x))).length = l.dropWhile (fun y => decide (y < x)) := List.drop_left' rfl
    rw [e] at z
    exact z
  rw [List.drop_zero, Nat.sub_zero, List.nil_append, e1, e2, List.take_of_length_le (by simp only [cstL_length]; have := congrArg List.length e; simp only [List.length_append] at this; omega)]
  unfold insS cstL
  simp

def kidsUp (h : List Int) (w k : Nat) : List Nat := ((List.range k).map (· + 1)).filter fun c => hd h c == w

theorem kidsUp_succ (h : List Int) (w k : Nat) : kidsUp h w (k + 1) = kidsUp h w k ++ if (hd h (k + 1) == w) = true then [k + 1] else [] := by
  unfold kidsUp
  rw [List.range_succ, List.map_append, List.filter_append]
  congr 1
  simp only [List.map_cons, List.map_nil, List.filter_cons, List.filter_nil]

theorem kidsUp_le (h : List Int) (w k : Nat) : (kidsUp h w k).length ≤ k := by
  unfold kidsUp
  exact Nat.le_trans (List.length_filter_le _ _) (by simp)

theorem sortS_snoc (l : List Nat) (x : Nat) : sortS (l ++ [x]) = insS (sortS l) x := by unfold sortS; rw [List.foldl_append]; rfl

theorem specSizes_eq {h : List Int} (T : Tree h) {w : Nat} (w1 : 1 ≤ w) (w2 : w ≤ h.length) : spec_l10Sizes h (w : Int) = some (cstL (sizesW h w)) := by
  have e : spec_l10Sizes h (w : Int) = spec_l10Sizes_n20 h (w : Int) := by unfold spec_l10Sizes; rfl
  have l8 := T.le
  rw [e]
  unfold spec_l10Sizes_n20 spec_l10Sizes_n1 spec_l10Sizes_n19 spec_l10Sizes_n17 spec_l10Sizes_n2 spec_l10Sizes_n16 spec_l10Sizes_n15 spec_l10Sizes_n18
  have lp := nloop_to (body := fun (s : Int × (List Int)) => ((spec_l10Sizes_n14 h (w : Int) s.1 s.2).map (Sum.elim (fun (t : Int × (List Int)) => Sum.inl (t.1, t.2)) (fun (t : (List Int)) => Sum.inr t)) : Option ((Int × (List Int)) ⊕ (((List Int))))))
    (fun k => ((k : Int), cstL (sortS ((kidsUp h w k).map (sizeW h))))) h.length (cstL (sizesW h w))
    (by
      intro k hk
      have g := T.get (w := k + 1) (by omega) (by omega)
      rw [Nat.add_sub_cancel] at g
      have wk : IntKind.wrap .i64 ((k : Int) + 1) = ((k + 1 : Nat) : Int) := by rw [wrap64 (by omega) (by omega)]; omega
      have kl := kidsUp_le h w k
      have sl : (sortS ((kidsUp h w k).map (sizeW h))).length ≤ 100 := by rw [(sortS_perm _).length_eq, List.length_map]; omega
      simp only [spec_l10Sizes_n14, spec_l10Sizes_n3, spec_l10Sizes_n13, spec_l10Sizes_n11, spec_l10Sizes_n10, spec_l10Sizes_n4, spec_l10Sizes_n12]
      rw [decide_eq_true (show (k : Int) < ((h.length : Nat) : Int) by omega), idx_nat, g, wk]
      simp only [cond_true, Option.bind_some, Sum.elim_inl]
      rw [kidsUp_succ, List.map_append]
      by_cases q : hd h (k + 1) = w
      · rw [show (((hd h (k + 1) : Nat) : Int) != (w : Int)) = false by rw [q]; simp, if_pos (beq_iff_eq.mpr q), List.map_cons, List.map_nil, sortS_snoc]
        simp only [cond_false, l2Yield_eq T (show 1 ≤ k + 1 by omega) (show k + 1 ≤ h.length by omega), Option.bind_some, l2Words_eq (ymask_lt l8 (k + 1)), size_words T, Sum.elim_inl, ins_native _ _ sl, Option.map_some]
      · rw [show (((hd h (k + 1) : Nat) : Int) != (w : Int)) = true by simpa using fun z => q (by omega), if_neg (fun z => q (beq_iff_eq.mp z)), List.map_nil, List.append_nil]
        simp only [cond_true, Option.bind_some, Sum.elim_inr, Option.map_some, Sum.elim_inl])
    (by
      simp only [spec_l10Sizes_n14, spec_l10Sizes_n3]
      rw [decide_eq_false (show ¬ ((h.length : Nat) : Int) < ((h.length : Nat) : Int) by omega)]
      rfl) LL (by simp only [LL]; omega)
  have lp' := lp
  rw [show ((0 : Nat) : Int) = 0 from rfl, show cstL (sortS ((kidsUp h w 0).map (sizeW h))) = [] from rfl] at lp'
  simp only [Option.bind_some]
  rw [lp']
  rfl

def selP (side : Nat) (l : List Nat) (s : Nat) : List Nat := if side = 1 then (selL l s).1 else (selL l s).2

theorem selP_cons {side : Nat} (hs : side ≤ 1) (x : Nat) (r : List Nat) (s : Nat) : selP side (x :: r) s = if s % 2 = side then x :: selP side r (s / 2) else selP side r (s / 2) := by
  unfold selP
  have hb : s % 2 = 0 ∨ s % 2 = 1 := by omega
  have : side = 0 ∨ side = 1 := by omega
  rcases this with rfl | rfl <;> rcases hb with e | e <;> simp [selL, e]

theorem selP_sub {side : Nat} (l : List Nat) (s : Nat) : (selP side l s).Sublist l := by
  unfold selP
  split
  · exact (selL_sub l s).1
  · exact (selL_sub l s).2

theorem costL_le {M : Nat} : ∀ {l : List Nat}, (∀ x ∈ l, x ≤ M) → costL l ≤ M * l.length * l.length
  | [], _ => by simp [costL]
  | x :: r, h => by
    have ih := costL_le (l := r) fun y hy => h y (List.mem_cons_of_mem _ hy)
    have hx := h x (List.mem_cons_self ..)
    rw [costL, List.length_cons]
    have a : x * r.length ≤ M * r.length := Nat.mul_le_mul_right _ hx
    have b : M * (r.length + 1) * (r.length + 1) = M * r.length * r.length + M * r.length + (M * r.length + M) := by
      rw [Nat.mul_succ M, Nat.mul_succ, Nat.add_mul]
    rw [b]
    generalize M * r.length * r.length = p at ih ⊢
    generalize M * r.length = q at a ⊢
    generalize x * r.length = t at a ⊢
    omega

theorem sum_leM {M : Nat} : ∀ {l : List Nat}, (∀ x ∈ l, x ≤ M) → l.sum ≤ M * l.length
  | [], _ => by simp
  | x :: r, h => by
    have ih := sum_leM (l := r) fun y hy => h y (List.mem_cons_of_mem _ hy)
    have hx := h x (List.mem_cons_self ..)
    rw [List.sum_cons, List.length_cons, Nat.mul_succ]
    omega

/-- What one side adds to the cost. -/
def sideC (root : Bool) (side : Nat) (l : List Nat) : Nat := costL l + if side = 1 ∧ root = false then l.sum else 0

theorem sideC_cons (root : Bool) (side x : Nat) (r : List Nat) : sideC root side (x :: r) = sideC root side r + x * r.length + if side = 1 ∧ root = false then x else 0 := by
  unfold sideC
  rw [costL, List.sum_cons]
  split <;> omega

theorem sideC_le {root : Bool} {side : Nat} {l : List Nat} (h : ∀ x ∈ l, x ≤ 8) (hl : l.length ≤ 8) : sideC root side l ≤ 576 := by
  unfold sideC
  have a := costL_le h
  have b := sum_leM h
  have c : 8 * l.length * l.length ≤ 8 * 8 * 8 := Nat.mul_le_mul (Nat.mul_le_mul_left _ hl) hl
  split <;> omega

theorem side_loop {L : List Nat} (h8 : ∀ x ∈ L, x ≤ 8) (hl : L.length ≤ 7) {s base side : Nat} (hs : s < 2 ^ L.length) (hb : base ≤ 10000) (hside : side ≤ 1) (root : Bool) :
    spec_l10Least_n9 (cstL L) root (s : Int) (base : Int) (side : Int) (((L.length : Nat) : Int) - 1) = some ((base + sideC root side (selP side L s) : Nat) : Int) := by
  unfold spec_l10Least_n9
  have s128 : s < 128 := Nat.lt_of_lt_of_le hs (Nat.pow_le_pow_right (by omega) hl)
  have cl := cstL_length L
  have mem : ∀ j, ∀ x ∈ selP side (L.drop j) (s / 2 ^ j), x ≤ 8 := fun j x hx => h8 x (List.mem_of_mem_drop ((selP_sub _ _).subset hx))
  have len : ∀ j, (selP side (L.drop j) (s / 2 ^ j)).length ≤ 8 := fun j => by
    have := (selP_sub (side := side) (L.drop j) (s / 2 ^ j)).length_le
    rw [List.length_drop] at this
    omega
  have sc : ∀ j, sideC root side (selP side (L.drop j) (s / 2 ^ j)) ≤ 576 := fun j => sideC_le (mem j) (len j)
  have lp := nloop_to (body := fun (t : Int × Int × Int) => ((spec_l10Least_n8 (cstL L) root (s : Int) t.1 (side : Int) t.2.1 t.2.2).map (Sum.elim (fun (t : Int × Int × Int) => Sum.inl (t.1, t.2.1, t.2.2)) (fun (t : Int) => Sum.inr t)) : Option ((Int × Int × Int) ⊕ (Int))))
    (fun j => (((base + sideC root side (selP side (L.drop (L.length - j)) (s / 2 ^ (L.length - j))) : Nat) : Int), (((selP side (L.drop (L.length - j)) (s / 2 ^ (L.length - j))).length : Nat) : Int), ((L.length : Nat) : Int) - 1 - (j : Int)))
    L.length ((base + sideC root side (selP side L s) : Nat) : Int)
    (by
      intro j hj
      have hk : L.length - (j + 1) < L.length := by omega
      have ek : L.length - j = L.length - (j + 1) + 1 := by omega
      generalize hkk : L.length - (j + 1) = k at hk ek
      have dk : L.drop k = L[k] :: L.drop (k + 1) := List.drop_eq_getElem_cons hk
      have hx := h8 L[k] (List.getElem_mem hk)
      have pw : s / 2 ^ (k + 1) = s / 2 ^ k / 2 := by rw [Nat.pow_succ, Nat.div_div_eq_div_mul]
      have kk : ((L.length : Nat) : Int) - 1 - (j : Int) = (k : Int) := by omega
      have sh : shr .i64 (s : Int) (k : Int) = some ((s / 2 ^ k : Nat) : Int) := by
        unfold shr
        rw [if_neg (by omega), Int.toNat_natCast, Nat.min_eq_left (show k ≤ IntKind.i64.bits by show k ≤ 64; omega)]
        congr 1
        rw [show ((2 : Int) ^ k) = ((2 ^ k : Nat) : Int) by rw [Int.natCast_pow]; rfl, Int.fdiv_eq_ediv_of_nonneg _ (Int.natCast_nonneg _), ← Int.natCast_ediv]
      have rm : rem ((s / 2 ^ k : Nat) : Int) 2 = some ((s / 2 ^ k % 2 : Nat) : Int) := by
        unfold rem
        rw [if_neg (by omega)]
        rfl
      have ix : idx (cstL L) (k : Int) = some ((L[k] : Nat) : Int) := by rw [idx_nat, castL_get, List.getElem?_eq_getElem hk]; rfl
      have s1 := sc (k + 1)
      have l1 := len (k + 1)
      have w1 : IntKind.wrap .i64 ((k : Int) - 1) = ((L.length : Nat) : Int) - 1 - ((j + 1 : Nat) : Int) := by rw [wrap64 (by omega) (by omega)]; omega
      simp only [spec_l10Least_n8]
      rw [ek, kk, decide_eq_true (show (k : Int) ≥ 0 by omega), sh, dk, selP_cons hside, ← pw, w1]
      simp only [cond_true, Option.bind_some, rm, ix]
      generalize selP side (L.drop (k + 1)) (s / 2 ^ (k + 1)) = r at s1 l1
      have mb : L[k] * r.length ≤ 64 := Nat.le_trans (Nat.mul_le_mul hx l1) (by omega)
      have wm : IntKind.wrap .i64 (((r.length : Nat) : Int) * ((L[k] : Nat) : Int)) = ((L[k] * r.length : Nat) : Int) := by
        rw [← Int.natCast_mul, Nat.mul_comm r.length]
        generalize L[k] * r.length = m at mb
        rw [wrap64 (by omega) (by omega)]
      have wl : IntKind.wrap .i64 (((r.length : Nat) : Int) + 1) = ((r.length + 1 : Nat) : Int) := by rw [wrap64 (by omega) (by omega)]; omega
      rw [wm, wl]
      by_cases q : s / 2 ^ k % 2 = side
      · rw [show (((s / 2 ^ k % 2 : Nat) : Int) == (side : Int)) = true from beq_iff_eq.mpr (by omega), if_pos q, sideC_cons, List.length_cons]
        simp only [cond_true]
        generalize L[k] * r.length = m at mb
        have wc : IntKind.wrap .i64 (((base + sideC root side r : Nat) : Int) + ((m : Nat) : Int)) = ((base + sideC root side r + m : Nat) : Int) := by rw [wrap64 (by omega) (by omega)]; omega
        rw [wc]
        by_cases sd : side = 1
        · rw [show ((side : Int) == 1) = true from beq_iff_eq.mpr (by omega)]
          cases root with
          | true =>
            rw [if_neg (fun z => by cases z.2)]
            simp only [cond_true, Bool.not_true, cond_false, Option.map_some, Sum.elim_inl]
            congr 3
            omega
          | false =>
            have wc2 : IntKind.wrap .i64 (((base + sideC false side r + m : Nat) : Int) + ((L[k] : Nat) : Int)) = ((base + sideC false side r + m + L[k] : Nat) : Int) := by rw [wrap64 (by omega) (by omega)]; omega
            rw [if_pos ⟨sd, rfl⟩]
            simp only [cond_true, Bool.not_false, Option.bind_some, wc2, Option.map_some, Sum.elim_inl]
            congr 3
            omega
        · rw [show ((side : Int) == 1) = false from beq_eq_false_iff_ne.mpr (by omega), if_neg (fun z => sd z.1)]
          simp only [cond_false, Option.map_some, Sum.elim_inl]
          congr 3
          omega
      · rw [show (((s / 2 ^ k % 2 : Nat) : Int) == (side : Int)) = false from beq_eq_false_iff_ne.mpr (by omega), if_neg q]
        rfl)
    (by
      simp only [spec_l10Least_n8]
      rw [decide_eq_false (show ¬ (((L.length : Nat) : Int) - 1 - ((L.length : Nat) : Int)) ≥ 0 by omega), Nat.sub_self]
      simp) LL (by simp only [LL]; omega)
  have lp' := lp
  have z0 : selP side (L.drop (L.length - 0)) (s / 2 ^ (L.length - 0)) = [] := by
    rw [Nat.sub_zero, List.drop_length]
    unfold selP selL
    split <;> rfl
  rw [z0, show sideC root side [] = 0 by unfold sideC costL; simp, Nat.add_zero, show (((([] : List Nat).length : Nat) : Int)) = 0 from rfl, show ((L.length : Nat) : Int) - 1 - ((0 : Nat) : Int) = ((L.length : Nat) : Int) - 1 by omega] at lp'
  exact lp'

theorem sides_cost (l : List Nat) (root : Bool) (s : Nat) : sideC root 0 (selP 0 l s) + sideC root 1 (selP 1 l s) = costS l root s := by
  unfold sideC costS selP
  cases root <;> simp <;> omega

theorem costS_le {L : List Nat} (h8 : ∀ x ∈ L, x ≤ 8) (hl : L.length ≤ 7) (root : Bool) (s : Nat) : costS L root s ≤ 1152 := by
  rw [← sides_cost]
  have a := sideC_le (root := root) (side := 0) (l := selP 0 L s) (fun x hx => h8 x ((selP_sub _ _).subset hx)) (by have := (selP_sub (side := 0) L s).length_le; omega)
  have b := sideC_le (root := root) (side := 1) (l := selP 1 L s) (fun x hx => h8 x ((selP_sub _ _).subset hx)) (by have := (selP_sub (side := 1) L s).length_le; omega)
  omega

theorem sides_loop {L : List Nat} (h8 : ∀ x ∈ L, x ≤ 8) (hl : L.length ≤ 7) {s : Nat} (hs : s < 2 ^ L.length) (root : Bool) :
    spec_l10Least_n16 (cstL L) root (s : Int) = some ((costS L root s : Nat) : Int) := by
  unfold spec_l10Least_n16
  have cb := costS_le h8 hl root s
  rw [← sides_cost] at cb ⊢
  have w7 : IntKind.wrap .i64 ((((cstL L).length : Nat) : Int) - 1) = ((L.length : Nat) : Int) - 1 := by rw [cstL_length, wrap64 (by omega) (by omega)]
  have lp := nloop_to (body := fun (t : Int × Int) => ((spec_l10Least_n15 (cstL L) root (s : Int) t.1 t.2).map (Sum.elim (fun (t : Int × Int) => Sum.inl (t.1, t.2)) (fun (t : Int) => Sum.inr t)) : Option ((Int × Int) ⊕ (Int))))
    (fun k => (((sumR (fun i => sideC root i (selP i L s)) k : Nat) : Int), (k : Int))) 2 ((sideC root 0 (selP 0 L s) + sideC root 1 (selP 1 L s) : Nat) : Int)
    (by
      intro k hk
      have b0 : sumR (fun i => sideC root i (selP i L s)) k ≤ 1152 := by
        have : k = 0 ∨ k = 1 := by omega
        rcases this with rfl | rfl
        · simp [sumR]
        · simp only [sumR]; omega
      have wk : IntKind.wrap .i64 ((k : Int) + 1) = ((k + 1 : Nat) : Int) := by rw [wrap64 (by omega) (by omega)]; omega
      simp only [spec_l10Least_n15, spec_l10Least_n6, spec_l10Least_n14, spec_l10Least_n12, spec_l10Least_n11, spec_l10Least_n7, spec_l10Least_n10, spec_l10Least_n13]
      rw [decide_eq_true (show (k : Int) < 2 by omega), w7, wk]
      simp only [cond_true, Option.bind_some, Sum.elim_inl]
      rw [side_loop h8 hl hs (by omega) (by omega) root]
      rfl)
    (by
      simp only [spec_l10Least_n15, spec_l10Least_n6]
      rw [decide_eq_false (show ¬ ((2 : Nat) : Int) < 2 by omega)]
      simp only [cond_false, Option.bind_some, Sum.elim_inr, Option.map_some, sumR, Nat.zero_add]) LL (by simp only [LL]; omega)
  exact lp

theorem shl_one {k : Nat} (hk : k ≤ 7) : shl .i64 1 (k : Int) = some ((2 ^ k : Nat) : Int) := by
  simpa using all_lt shl_tab (i := k) (by omega)

theorem least_loop {L : List Nat} (h8 : ∀ x ∈ L, x ≤ 8) (hl : L.length ≤ 7) (root : Bool) : spec_l10Least (cstL L) root = some ((leastC L root : Nat) : Int) := by
  have e : spec_l10Least (cstL L) root = spec_l10Least_n31 (cstL L) root := by unfold spec_l10Least; rfl
  rw [e]
  unfold spec_l10Least_n31 spec_l10Least_n1 spec_l10Least_n30 spec_l10Least_n28 spec_l10Least_n2 spec_l10Least_n27 spec_l10Least_n26 spec_l10Least_n29
  have p1 : 1 ≤ 2 ^ L.length := Nat.one_le_two_pow
  have p128 : 2 ^ L.length ≤ 128 := Nat.pow_le_pow_right (j := 7) (by omega) hl
  have sh := shl_one hl
  have lp := nloop_to (body := fun (s : Int × Int) => ((spec_l10Least_n25 (cstL L) root s.1 s.2).map (Sum.elim (fun (t : Int × Int) => Sum.inl (t.1, t.2)) (fun (t : Int) => Sum.inr t)) : Option ((Int × Int) ⊕ (Int))))
    (fun k => ((if k = 0 then (-1 : Int) else ((minN (costS L root) (k - 1) : Nat) : Int)), (k : Int))) (2 ^ L.length) ((leastC L root : Nat) : Int)
    (by
      intro k hk
      have wk : IntKind.wrap .i64 ((k : Int) + 1) = ((k + 1 : Nat) : Int) := by rw [wrap64 (by omega) (by omega)]; omega
      simp only [spec_l10Least_n25, spec_l10Least_n3, spec_l10Least_n24, spec_l10Least_n22, spec_l10Least_n21, spec_l10Least_n4, spec_l10Least_n20, spec_l10Least_n18, spec_l10Least_n5, spec_l10Least_n17, spec_l10Least_n23]
      rw [cstL_length, sh, wk]
      simp only [Option.bind_some]
      rw [decide_eq_true (show (k : Int) < ((2 ^ L.length : Nat) : Int) by omega)]
      simp only [cond_true, Option.bind_some, Sum.elim_inl]
      rw [sides_loop h8 hl hk root]
      simp only [Option.map_some, Option.bind_some, spec_l10Least_n19]
      by_cases z : k = 0
      · subst z
        rw [if_pos rfl, if_neg (by omega)]
        rfl
      · obtain ⟨j, rfl⟩ : ∃ j, k = j + 1 := ⟨k - 1, by omega⟩
        rw [if_neg (by omega), if_neg (by omega), Nat.add_sub_cancel, Nat.add_sub_cancel, decide_eq_false (show ¬ ((minN (costS L root) j : Nat) : Int) < 0 by omega)]
        simp only [cond_false]
        by_cases lt : costS L root (j + 1) < minN (costS L root) j
        · rw [decide_eq_true (show ((costS L root (j + 1) : Nat) : Int) < ((minN (costS L root) j : Nat) : Int) by omega), minN, Nat.min_eq_right (by omega)]
          rfl
        · rw [decide_eq_false (show ¬ ((costS L root (j + 1) : Nat) : Int) < ((minN (costS L root) j : Nat) : Int) by omega), minN, Nat.min_eq_left (by omega)]
          rfl)
    (by
      simp only [spec_l10Least_n25, spec_l10Least_n3]
      rw [cstL_length, sh]
      simp only [Option.bind_some]
      rw [decide_eq_false (show ¬ ((2 ^ L.length : Nat) : Int) < ((2 ^ L.length : Nat) : Int) by omega), if_neg (by omega)]
      rfl) LL (by simp only [LL]; omega)
  have lp' := lp
  rw [if_pos rfl, show ((0 : Nat) : Int) = 0 from rfl] at lp'
  simp only [Option.bind_some]
  rw [lp']
  rfl

theorem kidW_le {h : List Int} (T : Tree h) {w : Nat} (w1 : 1 ≤ w) (w2 : w ≤ h.length) : (kidW h w).length ≤ 7 := by
  have l8 := T.le
  unfold kidW
  have : (((List.range h.length).map (· + 1)).filter fun k => hd h k == w).length < ((List.range h.length).map (· + 1)).length := by
    rw [List.length_filter_lt_length_iff_exists]
    refine ⟨w, List.mem_map.mpr ⟨w - 1, List.mem_range.mpr (by omega), by omega⟩, ?_⟩
    simpa using hd_self T w1 w2
  simp only [List.length_map, List.length_range] at this
  omega

theorem sizesW_mem {h : List Int} (T : Tree h) {w : Nat} : ∀ x ∈ sizesW h w, x ≤ 8 := fun x hx => by
  unfold sizesW at hx
  obtain ⟨k, hk, e⟩ := List.mem_map.mp ((sortS_perm _).mem_iff.mp hx)
  have := size_le h k
  have := T.le
  omega

theorem sizesW_len {h : List Int} (T : Tree h) {w : Nat} (w1 : 1 ≤ w) (w2 : w ≤ h.length) : (sizesW h w).length ≤ 7 := by
  unfold sizesW
  rw [(sortS_perm _).length_eq, List.length_map]
  exact kidW_le T w1 w2

theorem leastW_le {h : List Int} (T : Tree h) {w : Nat} (w1 : 1 ≤ w) (w2 : w ≤ h.length) : leastW h w ≤ 1152 := by
  unfold leastW leastC
  obtain ⟨k, hk, e⟩ := minN_at (f := costS (sizesW h w) (hd h w == 0)) (2 ^ (sizesW h w).length - 1)
  rw [e]
  exact costS_le (sizesW_mem T) (sizesW_len T w1 w2) _ _

noncomputable def leastI (h : List Int) : Int := if treeB h then ((leastN h : Nat) : Int) else -1

theorem specLeast_eq (h : List Int) : spec_LeastLength h = some (leastI h) := by
  have e : spec_LeastLength h = spec_LeastLength_n9 h := by unfold spec_LeastLength; rfl
  rw [e]
  unfold spec_LeastLength_n9 spec_LeastLength_n1 leastI
  rw [specTree_eq h]
  cases t : treeB h with
  | false => rfl
  | true =>
    have T := (tree_iff h).mp t
    have l8 := T.le
    have l1 := T.pos
    have sb : ∀ k, k ≤ h.length → sumR (fun i => leastW h (i + 1)) k ≤ 1152 * k := by
      intro k
      induction k with
      | zero => intro _; simp [sumR]
      | succ k ih =>
        intro hk
        have := leastW_le T (w := k + 1) (by omega) (by omega)
        have := ih (by omega)
        rw [sumR]
        omega
    have lp := nloop_to (body := fun (s : Int × Int) => ((spec_LeastLength_n3 h s.1 s.2).map (Sum.elim (fun (t : Int × Int) => Sum.inl (t.1, t.2)) (fun (t : Int) => Sum.inr t)) : Option ((Int × Int) ⊕ (Int))))
      (fun k => (((h.length - 1 + sumR (fun i => leastW h (i + 1)) k : Nat) : Int), ((k + 1 : Nat) : Int))) h.length ((leastN h : Nat) : Int)
      (by
        intro k hk
        have g := T.get (w := k + 1) (by omega) (by omega)
        rw [Nat.add_sub_cancel] at g
        have b := sb k (by omega)
        have c := leastW_le T (w := k + 1) (by omega) (by omega)
        have wk : IntKind.wrap .i64 (((k + 1 : Nat) : Int) + 1) = ((k + 1 + 1 : Nat) : Int) := by rw [wrap64 (by omega) (by omega)]; omega
        have wk2 : IntKind.wrap .i64 (((k + 1 : Nat) : Int) - 1) = (k : Int) := by rw [wrap64 (by omega) (by omega)]; omega
        simp only [spec_LeastLength_n3]
        rw [decide_eq_true (show ((k + 1 : Nat) : Int) ≤ ((h.length : Nat) : Int) by omega), wk2, idx_nat, g, wk, specSizes_eq T (by omega) (by omega)]
        simp only [cond_true, Option.bind_some]
        have r : (((hd h (k + 1) : Nat) : Int) == 0) = (hd h (k + 1) == 0) := by
          rw [Bool.eq_iff_iff]
          simp only [beq_iff_eq]
          omega
        rw [r, least_loop (sizesW_mem T) (sizesW_len T (by omega) (by omega))]
        simp only [Option.bind_some, Option.map_some, Sum.elim_inl]
        rw [sumR, show leastC (sizesW h (k + 1)) (hd h (k + 1) == 0) = leastW h (k + 1) from rfl, wrap64 (by omega) (by omega)]
        congr 3
        omega)
      (by
        simp only [spec_LeastLength_n3]
        rw [decide_eq_false (show ¬ ((h.length + 1 : Nat) : Int) ≤ ((h.length : Nat) : Int) by omega)]
        rfl) LL (by simp only [LL]; omega)
    have w0 : IntKind.wrap .i64 (((h.length : Nat) : Int) - 1) = ((h.length - 1 : Nat) : Int) := by rw [wrap64 (by omega) (by omega)]; omega
    simp only [Option.bind_some, Bool.not_true, cond_false, Sum.elim_inl, if_true]
    rw [w0]
    unfold spec_LeastLength_n8 spec_LeastLength_n6 spec_LeastLength_n2 spec_LeastLength_n5 spec_LeastLength_n4
    have lp' := lp
    rw [show sumR (fun i => leastW h (i + 1)) 0 = 0 from rfl, Nat.add_zero, show ((0 + 1 : Nat) : Int) = 1 from rfl] at lp'
    simp only [Option.bind_some]
    rw [lp']
    rfl

theorem count_tab : ((List.range 256).all fun m => impl_wordSet_count (m : Int) == some (((wordsL m).length : Nat) : Int)) = true := by decide +kernel
theorem count_eq {m : Nat} (h : m < 256) : impl_wordSet_count (m : Int) = some (((wordsL m).length : Nat) : Int) := by simpa using all_lt count_tab h

theorem ins_behind {l : List Nat} (so : l.Pairwise (· ≤ ·)) {x j : Nat} (hj : j ≤ l.length) (up : ∀ i, j ≤ i → i < l.length → x < l.getD i 0) (lo : j = 0 ∨ l.getD (j - 1) 0 ≤ x) :
    l.take j ++ [x] ++ l.drop j = insS l x := by
  have at' : ∀ i (hi : i < l.length), l.getD i 0 = l[i] := fun i hi => by simp [List.getD, hi]
  have mono := List.pairwise_iff_getElem.mp so
  refine sorted_eq ?_ (insS_sorted so x) ?_
  · rw [List.append_assoc, List.pairwise_append]
    refine ⟨so.sublist (List.take_sublist ..), ?_, ?_⟩
    · rw [List.singleton_append, List.pairwise_cons]
      refine ⟨fun y hy => ?_, so.sublist (List.drop_sublist ..)⟩
      obtain ⟨i, hi, rfl⟩ := List.getElem_of_mem hy
      rw [List.length_drop] at hi
      rw [List.getElem_drop]
      have := up (j + i) (by omega) (by omega)
      rw [at' _ (by omega)] at this
      omega
    · intro a ha b hb
      obtain ⟨i, hi, rfl⟩ := List.getElem_of_mem ha
      rw [List.length_take] at hi
      rw [List.getElem_take]
      have ax : l[i] ≤ x := by
        rcases lo with z | lo
        · omega
        · rw [at' _ (by omega)] at lo
          rcases Nat.lt_or_ge i (j - 1) with q | q
          · exact Nat.le_trans (mono i (j - 1) (by omega) (by omega) q) lo
          · have : i = j - 1 := by omega
            subst this
            exact lo
      rw [List.singleton_append] at hb
      rcases List.mem_cons.mp hb with rfl | hb
      · exact ax
      · obtain ⟨i', hi', rfl⟩ := List.getElem_of_mem hb
        rw [List.length_drop] at hi'
        rw [List.getElem_drop]
        have := up (j + i') (by omega) (by omega)
        rw [at' _ (by omega)] at this
        omega
  · refine List.Perm.trans ?_ (insS_perm l x).symm
    rw [List.append_assoc, List.singleton_append]
    have := List.perm_middle (a := x) (l₁ := l.take j) (l₂ := l.drop j)
    rw [List.take_append_drop] at this
    exact this

/-- Down from a place, as long as what is ahead is greater. -/
theorem down_loop (x : Nat) {l : List Nat} (hl : l.length ≤ 100) : ∀ (n : Nat) (N : Nat), n ≤ l.length → n < N → (∀ i, n ≤ i → i < l.length → x < l.getD i 0) →
    ∃ j, j ≤ l.length ∧ (∀ i, j ≤ i → i < l.length → x < l.getD i 0) ∧ (j = 0 ∨ l.getD (j - 1) 0 ≤ x) ∧
      nloop (fun (s : Int) => ((impl_inserted_int_n2 (x : Int) s (cstL l)).map (Sum.elim (fun (t : Int) => Sum.inl t) (fun (t : Int) => Sum.inr t)) : Option ((Int) ⊕ (Int)))) N (n : Int) = some (j : Int)
  | 0, N, hn, hN, up => by
    obtain ⟨N', rfl⟩ : ∃ N', N = N' + 1 := ⟨N - 1, by omega⟩
    refine ⟨0, by omega, up, .inl rfl, ?_⟩
    simp only [nloop, impl_inserted_int_n2]
    rfl
  | n + 1, N, hn, hN, up => by
    obtain ⟨N', rfl⟩ : ∃ N', N = N' + 1 := ⟨N - 1, by omega⟩
    have g : (cstL l)[n]? = some ((l.getD n 0 : Nat) : Int) := by
      rw [castL_get]
      simp [List.getD, show n < l.length by omega]
    have w : IntKind.wrap .i64 (((n + 1 : Nat) : Int) - 1) = (n : Int) := by rw [wrap64 (by omega) (by omega)]; omega
    have st : (impl_inserted_int_n2 (x : Int) ((n + 1 : Nat) : Int) (cstL l)) = if x < l.getD n 0 then some (Sum.inl (n : Int)) else some (Sum.inr ((n + 1 : Nat) : Int)) := by
      unfold impl_inserted_int_n2
      rw [decide_eq_true (show ((n + 1 : Nat) : Int) > 0 by omega), w, inb_nat (by rw [cstL_length]; omega)]
      simp only [cond_true, Option.bind_some, g]
      by_cases q : x < l.getD n 0
      · rw [if_pos q, decide_eq_true (show (x : Int) < ((l.getD n 0 : Nat) : Int) by omega)]
        rfl
      · rw [if_neg q, decide_eq_false (show ¬ (x : Int) < ((l.getD n 0 : Nat) : Int) by omega)]
        rfl
    by_cases q : x < l.getD n 0
    · obtain ⟨j, h1, h2, h3, h4⟩ := down_loop x hl n N' (by omega) (by omega) (fun i hi hi2 => by
        rcases Nat.lt_or_ge n i with z | z
        · exact up i (by omega) hi2
        · have : i = n := by omega
          subst this
          exact q)
      refine ⟨j, h1, h2, h3, ?_⟩
      rw [← h4]
      simp only [nloop, st, if_pos q, Option.map_some, Sum.elim_inl, Option.bind_some]
    · refine ⟨n + 1, hn, up, .inr (by simpa using q), ?_⟩
      simp only [nloop, st, if_neg q, Option.map_some, Sum.elim_inr, Option.bind_some]

theorem inserted_eq (x : Nat) {l : List Nat} (hl : l.length ≤ 100) (so : l.Pairwise (· ≤ ·)) : impl_inserted_int (x : Int) (cstL l) = some (cstL (insS l x)) := by
  have e : impl_inserted_int (x : Int) (cstL l) = impl_inserted_int_n7 (x : Int) (cstL l) := by unfold impl_inserted_int; rfl
  rw [e]
  unfold impl_inserted_int_n7 impl_inserted_int_n1 impl_inserted_int_n6 impl_inserted_int_n4 impl_inserted_int_n3
  obtain ⟨j, h1, h2, h3, h4⟩ := down_loop x hl l.length LL (Nat.le_refl _) (by simp only [LL]; omega) (fun i a b => by omega)
  simp only [Option.bind_some, cstL_length]
  rw [h4]
  simp only [Option.map_some, Option.bind_some]
  unfold impl_inserted_int_n5 slices_Insert_int_int insI
  have ic : inc (j : Int) (cstL l).length = some j := by
    unfold inc
    rw [cstL_length, if_pos (by omega), Int.toNat_natCast]
  simp only [ic, Option.bind_some]
  rw [room_le (by rw [cstL_length]; simp; omega)]
  simp only [Option.bind_some]
  rw [← ins_behind so h1 h2 h3]
  simp [cstL]

theorem deps_words {h : List Int} (T : Tree h) (w : Nat) : wordsL (maskN (headB h (w : Int)) h.length) = cstL (kidW h w) := by
  rw [wordsL_mask _ T.le]
  unfold kidW cstL
  rw [List.filter_map, List.map_map]
  have : (List.range h.length).filter (headB h (w : Int)) = (List.range h.length).filter ((fun k => hd h k == w) ∘ fun x => x + 1) := by
    refine List.filter_congr fun i hi => ?_
    have hi := List.mem_range.mp hi
    unfold headB
    rw [T.getD_hd hi]
    simp only [Function.comp]
    rw [Bool.eq_iff_iff, beq_iff_eq, beq_iff_eq]
    omega
  rw [this]
  rfl

theorem kidW_mem {h : List Int} {w c : Nat} (m : c ∈ kidW h w) : 1 ≤ c ∧ c ≤ h.length := by
  unfold kidW at m
  obtain ⟨i, hi, rfl⟩ := List.mem_map.mp (List.mem_filter.mp m).1
  have := List.mem_range.mp hi
  omega

theorem sizesBelow_eq {h : List Int} (T : Tree h) {w : Nat} (w1 : 1 ≤ w) (w2 : w ≤ h.length) : impl_sizesBelow h (yieldL h) (w : Int) = some (cstL (sizesW h w)) := by
  have e : impl_sizesBelow h (yieldL h) (w : Int) = impl_sizesBelow_n9 h (yieldL h) (w : Int) := by unfold impl_sizesBelow; rfl
  have l8 := T.le
  have k7 := kidW_le T w1 w2
  rw [e]
  unfold impl_sizesBelow_n9 impl_sizesBelow_n1 impl_sizesBelow_n8 impl_sizesBelow_n6 impl_sizesBelow_n2
  rw [dependents_eq _ _ l8]
  have m8 : maskN (headB h (w : Int)) h.length < 256 := by
    have := maskN_lt (headB h (w : Int)) h.length
    have : (2 : Nat) ^ h.length ≤ 2 ^ 8 := Nat.pow_le_pow_right (by omega) l8
    omega
  simp only [Option.bind_some, list_eq m8, deps_words T w]
  unfold impl_sizesBelow_n5 impl_sizesBelow_n4
  have lp := nloop_to (body := fun (s : Int × (List Int)) => ((impl_sizesBelow_n3 (yieldL h) (((cstL (kidW h w)).length : Nat) : Int) s.1 s.2 (cstL (kidW h w))).map (Sum.elim (fun (t : Int × (List Int)) => Sum.inl (t.1, t.2)) (fun (t : (List Int)) => Sum.inr t)) : Option ((Int × (List Int)) ⊕ (((List Int))))))
    (fun k => ((k : Int), cstL (sortS (((kidW h w).take k).map (sizeW h))))) (kidW h w).length (cstL (sizesW h w))
    (by
      intro k hk
      have g : (cstL (kidW h w))[k]? = some (((kidW h w)[k] : Nat) : Int) := by rw [castL_get, List.getElem?_eq_getElem hk]; rfl
      have m := kidW_mem (List.getElem_mem hk)
      have t1 : (kidW h w).take (k + 1) = (kidW h w).take k ++ [(kidW h w)[k]] := by rw [List.take_add_one, List.getElem?_eq_getElem hk]; rfl
      have sl : (sortS (((kidW h w).take k).map (sizeW h))).length ≤ 100 := by rw [(sortS_perm _).length_eq, List.length_map, List.length_take]; omega
      have wk : IntKind.wrap .i64 ((k : Int) + 1) = ((k + 1 : Nat) : Int) := by rw [wrap64 (by omega) (by omega)]; omega
      generalize (kidW h w)[k] = c at g m t1
      have w2 : IntKind.wrap .i64 ((c : Int) - 1) = ((c - 1 : Nat) : Int) := by rw [wrap64 (by omega) (by omega)]; omega
      simp only [impl_sizesBelow_n3]
      rw [cstL_length, decide_eq_true (show (k : Int) < (((kidW h w).length : Nat) : Int) by omega), inb_nat hk, wk]
      simp only [cond_true, Option.bind_some, g, w2]
      rw [idx_nat, yieldL_get h (show c - 1 < h.length by omega), show c - 1 + 1 = c by omega]
      simp only [Option.bind_some]
      rw [count_eq (ymask_lt l8 c), size_words T]
      simp only [Option.bind_some]
      rw [inserted_eq _ sl (sortS_sorted _), t1, List.map_append, List.map_cons, List.map_nil, sortS_snoc]
      rfl)
    (by
      simp only [impl_sizesBelow_n3]
      rw [cstL_length, decide_eq_false (show ¬ (((kidW h w).length : Nat) : Int) < (((kidW h w).length : Nat) : Int) by omega), List.take_length]
      rfl) LL (by simp only [LL]; omega)
  have lp' := lp
  rw [show ((0 : Nat) : Int) = 0 from rfl, show cstL (sortS (((kidW h w).take 0).map (sizeW h))) = [] from rfl] at lp'
  rw [lp']
  rfl

/-- One more size: what is there so far, and what lies on both sides. -/
def stepC (l : List Nat) (s : Nat) (a : Nat × Nat × Nat) (k : Nat) : Nat × Nat × Nat :=
  if s / 2 ^ k % 2 = 1 then (a.1 + (a.2.2 + 1), a.2.1, a.2.2 + l.getD k 0) else (a.1 + (a.2.1 + 1), a.2.1 + l.getD k 0, a.2.2)

theorem selL_cons (x : Nat) (r : List Nat) (s : Nat) : selL (x :: r) s = if s % 2 = 1 then (x :: (selL r (s / 2)).1, (selL r (s / 2)).2) else ((selL r (s / 2)).1, x :: (selL r (s / 2)).2) := by rw [selL]

theorem steps_cost : ∀ (l : List Nat) (s : Nat) (a : Nat × Nat × Nat), (List.range l.length).foldl (stepC l s) a =
    (a.1 + l.length + costL (selL l s).1 + costL (selL l s).2 + a.2.2 * (selL l s).1.length + a.2.1 * (selL l s).2.length, a.2.1 + (selL l s).2.sum, a.2.2 + (selL l s).1.sum)
  | [], s, (c, b0, b1) => by simp [selL, costL]
  | x :: r, s, (c, b0, b1) => by
    rw [List.length_cons, List.range_succ_eq_map, List.foldl_cons, List.foldl_map]
    have sh : (fun (a : Nat × Nat × Nat) (k : Nat) => stepC (x :: r) s a (k + 1)) = stepC r (s / 2) := by
      funext a k
      unfold stepC
      rw [List.getD_cons_succ, Nat.pow_succ, Nat.mul_comm, ← Nat.div_div_eq_div_mul]
    show (List.range r.length).foldl (fun (a : Nat × Nat × Nat) (k : Nat) => stepC (x :: r) s a (k + 1)) _ = _
    rw [sh, steps_cost r (s / 2)]
    unfold stepC
    rw [selL_cons, Nat.pow_zero, Nat.div_one, List.getD_cons_zero]
    by_cases q : s % 2 = 1
    · rw [if_pos q, if_pos q]
      refine congr (congrArg Prod.mk ?_) (congr (congrArg Prod.mk ?_) ?_) <;> simp only [costL, List.length_cons, List.sum_cons, Nat.mul_add, Nat.add_mul, Nat.mul_one, Nat.one_mul] <;> omega
    · rw [if_neg q, if_neg q]
      refine congr (congrArg Prod.mk ?_) (congr (congrArg Prod.mk ?_) ?_) <;> simp only [costL, List.length_cons, List.sum_cons, Nat.mul_add, Nat.add_mul, Nat.mul_one, Nat.one_mul] <;> omega

/-- The other way round: what is chosen for one side is chosen for the other one. -/
theorem sel_turn : ∀ (l : List Nat) (s : Nat), s < 2 ^ l.length → selL l (2 ^ l.length - 1 - s) = ((selL l s).2, (selL l s).1)
  | [], s, _ => rfl
  | x :: r, s, h => by
    rw [List.length_cons, Nat.pow_succ] at h ⊢
    have ih := sel_turn r (s / 2) (by omega)
    have d : (2 ^ r.length * 2 - 1 - s) / 2 = 2 ^ r.length - 1 - s / 2 := by omega
    rw [selL_cons, selL_cons, d, ih]
    by_cases q : s % 2 = 1
    · rw [if_pos q, if_neg (by omega)]
    · rw [if_neg q, if_pos (by omega)]

theorem costS_turn (l : List Nat) (root : Bool) {s : Nat} (h : s < 2 ^ l.length) : costS l root (2 ^ l.length - 1 - s) = costL (selL l s).1 + costL (selL l s).2 + if root = true then 0 else (selL l s).2.sum := by
  unfold costS
  rw [sel_turn l s h]

theorem shr_nat {a k : Nat} (hk : k ≤ 64) : shr .u64 (a : Int) (k : Int) = some ((a / 2 ^ k : Nat) : Int) := by
  unfold shr
  rw [if_neg (by omega), Int.toNat_natCast, show min k (IntKind.bits .u64) = k by show min k 64 = k; omega]
  congr 1
  rw [Int.fdiv_eq_ediv_of_nonneg _ (Int.pow_nonneg (by omega)), show (2 : Int) ^ k = ((2 ^ k : Nat) : Int) by simp]
  exact (Int.natCast_ediv _ _).symm

theorem choice_eq {l : List Nat} (h8 : ∀ x ∈ l, x ≤ 8) (hl : l.length ≤ 7) {s : Nat} (hs : s < 2 ^ l.length) (root : Bool) :
    impl_lengthByChoice (cstL l) (s : Int) (!root) = some ((l.length + costS l root (2 ^ l.length - 1 - s) : Nat) : Int) := by
  have e : impl_lengthByChoice (cstL l) (s : Int) (!root) = impl_lengthByChoice_n9 (cstL l) (s : Int) (!root) := by unfold impl_lengthByChoice; rfl
  rw [e]
  unfold impl_lengthByChoice_n9 impl_lengthByChoice_n1 impl_lengthByChoice_n8 impl_lengthByChoice_n6 impl_lengthByChoice_n2 impl_lengthByChoice_n5 impl_lengthByChoice_n4
  have s7 : s < 128 := by
    have : (2 : Nat) ^ l.length ≤ 2 ^ 7 := Nat.pow_le_pow_right (by omega) hl
    omega
  have it : ∀ k, l.getD k 0 ≤ 8 := fun k => by
    rw [List.getD_eq_getElem?_getD]
    cases g : l[k]? with
    | none => simp
    | some x => exact h8 x (List.mem_of_getElem? g)
  let A : Nat → Nat × Nat × Nat := fun k => (List.range k).foldl (stepC l s) (0, 0, 0)
  have A1 : ∀ k, A (k + 1) = stepC l s (A k) k := fun k => by
    show (List.range (k + 1)).foldl _ _ = _
    rw [List.range_succ, List.foldl_append]
    rfl
  have bd : ∀ k, k ≤ 7 → (A k).1 ≤ 60 * k ∧ (A k).2.1 ≤ 8 * k ∧ (A k).2.2 ≤ 8 * k := by
    intro k
    induction k with
    | zero => intro _; exact ⟨Nat.zero_le _, Nat.zero_le _, Nat.zero_le _⟩
    | succ k ih =>
      intro hk
      obtain ⟨a, b, c⟩ := ih (by omega)
      have := it k
      rw [A1]
      unfold stepC
      split
      · refine ⟨?_, ?_, ?_⟩ <;> dsimp only <;> omega
      · refine ⟨?_, ?_, ?_⟩ <;> dsimp only <;> omega
  have lp := nloop_to (body := fun (t : Int × Int × (List Int)) => ((impl_lengthByChoice_n3 (s : Int) t.1 (cstL l) ((l.length : Nat) : Int) t.2.1 t.2.2).map (Sum.elim (fun (t : Int × Int × (List Int)) => Sum.inl (t.1, t.2.1, t.2.2)) (fun (t : Int × (List Int)) => Sum.inr t)) : Option ((Int × Int × (List Int)) ⊕ ((Int × (List Int))))))
    (fun k => ((((A k).1 : Nat) : Int), (k : Int), [(((A k).2.1 : Nat) : Int), (((A k).2.2 : Nat) : Int)])) l.length ((((A l.length).1 : Nat) : Int), [(((A l.length).2.1 : Nat) : Int), (((A l.length).2.2 : Nat) : Int)])
    (by
      intro k hk
      obtain ⟨b1, b2, b3⟩ := bd k (by omega)
      have ik := it k
      have g : idx (cstL l) (k : Int) = some ((l.getD k 0 : Nat) : Int) := by
        rw [idx_nat, castL_get]
        simp [List.getD, hk]
      have wk : IntKind.wrap .i64 ((k : Int) + 1) = ((k + 1 : Nat) : Int) := by rw [wrap64 (by omega) (by omega)]; omega
      have sd : s / 2 ^ k ≤ s := Nat.div_le_self ..
      have ia : iand .u64 ((s / 2 ^ k : Nat) : Int) 1 = ((s / 2 ^ k % 2 : Nat) : Int) := by
        have := iandu (a := s / 2 ^ k) (b := 1) (by omega) (by omega)
        rw [Nat.and_one_is_mod] at this
        exact this
      simp only [impl_lengthByChoice_n3]
      rw [decide_eq_true (show (k : Int) < ((l.length : Nat) : Int) by omega), g, shr_nat (by omega), wk]
      simp only [cond_true, Option.bind_some, ia, same, List.length_cons, List.length_nil, if_true]
      rw [A1]
      unfold stepC
      have c2 : s / 2 ^ k % 2 = 0 ∨ s / 2 ^ k % 2 = 1 := by omega
      rcases c2 with c2 | c2
      · rw [c2, if_neg (by omega), inb_nat (show 0 < 2 by omega)]
        simp only [Option.bind_some, List.getElem?_cons_zero, List.set_cons_zero, Option.map_some, Sum.elim_inl]
        rw [wrap64 (x := (((A k).2.1 : Nat) : Int) + 1) (by omega) (by omega), wrap64 (by omega) (by omega), wrap64 (by omega) (by omega)]
        rfl
      · rw [c2, if_pos rfl, inb_nat (show 1 < 2 by omega)]
        simp only [Option.bind_some, List.getElem?_cons_succ, List.getElem?_cons_zero, List.set_cons_succ, List.set_cons_zero, Option.map_some, Sum.elim_inl]
        rw [wrap64 (x := (((A k).2.2 : Nat) : Int) + 1) (by omega) (by omega), wrap64 (by omega) (by omega), wrap64 (by omega) (by omega)]
        rfl)
    (by
      simp only [impl_lengthByChoice_n3]
      rw [decide_eq_false (show ¬ ((l.length : Nat) : Int) < ((l.length : Nat) : Int) by omega)]
      rfl) LL (by simp only [LL]; omega)
  simp only [Option.bind_some, cstL_length]
  have lp' := lp
  rw [show ((((A 0).1 : Nat) : Int), ((0 : Nat) : Int), [(((A 0).2.1 : Nat) : Int), (((A 0).2.2 : Nat) : Int)]) = ((0 : Int), (0 : Int), List.replicate 2 (0 : Int)) from rfl] at lp'
  rw [lp']
  simp only [Option.map_some, Option.bind_some]
  obtain ⟨b1, b2, b3⟩ := bd l.length hl
  have fin : A l.length = (l.length + costL (selL l s).1 + costL (selL l s).2, (selL l s).2.sum, (selL l s).1.sum) := by
    show (List.range l.length).foldl _ _ = _
    rw [steps_cost]
    simp
  unfold impl_lengthByChoice_n7
  rw [costS_turn l root hs]
  rw [fin] at b1 b2 b3 ⊢
  dsimp only at b1 b2 b3
  cases root with
  | true =>
    simp only [Bool.not_true, cond_false, if_true, Nat.add_zero, Nat.add_assoc]
  | false =>
    simp only [Bool.not_false, cond_true, same, List.length_cons, List.length_nil, if_true, Option.bind_some]
    rw [show inb (0 : Int) 2 = some 0 from rfl]
    simp only [Option.bind_some, List.getElem?_cons_zero]
    rw [wrap64 (by omega) (by omega), if_neg (by decide)]
    congr 1
    omega

/-- The least of all choices. -/
def lowC (F : Nat → Nat) : Nat → Nat
  | 0 => F 0
  | k + 1 => min (lowC F k) (F k)

theorem lowC_min (F : Nat → Nat) : ∀ k, lowC F (k + 1) = minN F k
  | 0 => by simp [lowC, minN]
  | k + 1 => by
    rw [lowC, lowC_min F k]
    rfl

theorem least_turn (l : List Nat) (root : Bool) : minN (fun s => l.length + costS l root (2 ^ l.length - 1 - s)) (2 ^ l.length - 1) = l.length + leastC l root := by
  have p : 1 ≤ 2 ^ l.length := Nat.one_le_two_pow
  refine Nat.le_antisymm ?_ ?_
  · obtain ⟨k, hk, e⟩ := minN_at (f := costS l root) (2 ^ l.length - 1)
    unfold leastC
    rw [e]
    have := minN_le (f := fun s => l.length + costS l root (2 ^ l.length - 1 - s)) (n := 2 ^ l.length - 1) (k := 2 ^ l.length - 1 - k) (by omega)
    rw [show 2 ^ l.length - 1 - (2 ^ l.length - 1 - k) = k by omega] at this
    exact this
  · obtain ⟨k, hk, e⟩ := minN_at (f := fun s => l.length + costS l root (2 ^ l.length - 1 - s)) (2 ^ l.length - 1)
    rw [e]
    have := leastC_le (l := l) (root := root) (s := 2 ^ l.length - 1 - k) (by omega)
    omega

theorem leastBy_eq {l : List Nat} (h8 : ∀ x ∈ l, x ≤ 8) (hl : l.length ≤ 7) (root : Bool) : impl_leastByChoice (cstL l) (!root) = some ((l.length + leastC l root : Nat) : Int) := by
  have e : impl_leastByChoice (cstL l) (!root) = impl_leastByChoice_n9 (cstL l) (!root) := by unfold impl_leastByChoice; rfl
  have p : 1 ≤ 2 ^ l.length := Nat.one_le_two_pow
  have p7 : (2 : Nat) ^ l.length ≤ 2 ^ 7 := Nat.pow_le_pow_right (by omega) hl
  rw [e]
  unfold impl_leastByChoice_n9 impl_leastByChoice_n1
  have c0 := choice_eq h8 hl (s := 0) (by omega) root
  rw [show (0 : Int) = ((0 : Nat) : Int) from rfl, c0]
  simp only [Option.bind_some]
  unfold impl_leastByChoice_n8 impl_leastByChoice_n6 impl_leastByChoice_n2
  have sh : shl .u64 1 ((l.length : Nat) : Int) = some ((2 ^ l.length : Nat) : Int) := by
    unfold shl
    rw [if_neg (by omega), Int.toNat_natCast, show min l.length (IntKind.bits .u64) = l.length by show min l.length 64 = l.length; omega, Int.one_mul]
    congr 1
    rw [show (2 : Int) ^ l.length = ((2 ^ l.length : Nat) : Int) by simp, wrapu64 (by omega) (by omega)]
  rw [cstL_length, sh]
  simp only [Option.bind_some]
  unfold impl_leastByChoice_n5 impl_leastByChoice_n4
  generalize hF : (fun s => l.length + costS l root (2 ^ l.length - 1 - s)) = F
  have cF : ∀ s : Nat, s < 2 ^ l.length → impl_lengthByChoice (cstL l) (s : Int) (!root) = some ((F s : Nat) : Int) := fun s hs => by rw [choice_eq h8 hl hs, ← hF]
  have lp := nloop_to (body := fun (s : Int × Int) => ((impl_leastByChoice_n3 (cstL l) (!root) s.1 ((2 ^ l.length : Nat) : Int) s.2).map (Sum.elim (fun (t : Int × Int) => Sum.inl (t.1, t.2)) (fun (t : Int) => Sum.inr t)) : Option ((Int × Int) ⊕ (Int))))
    (fun k => (((lowC F k : Nat) : Int), (k : Int))) (2 ^ l.length) ((lowC F (2 ^ l.length) : Nat) : Int)
    (by
      intro k hk
      have wk : IntKind.wrap .u64 ((k : Int) + 1) = ((k + 1 : Nat) : Int) := by rw [wrapu64 (by omega) (by omega)]; omega
      simp only [impl_leastByChoice_n3]
      rw [decide_eq_true (show (k : Int) < ((2 ^ l.length : Nat) : Int) by exact_mod_cast hk), cF k hk, wk]
      simp only [cond_true, Option.bind_some, Option.map_some, Sum.elim_inl, iminN, lowC])
    (by
      simp only [impl_leastByChoice_n3]
      rw [decide_eq_false (show ¬ ((2 ^ l.length : Nat) : Int) < ((2 ^ l.length : Nat) : Int) by omega)]
      rfl) LL (by simp only [LL]; omega)
  have f0 : l.length + costS l root (2 ^ l.length - 1 - 0) = lowC F 0 := by rw [← hF]; rfl
  rw [f0]
  have lp' := lp
  rw [show ((0 : Nat) : Int) = 0 from rfl] at lp'
  rw [lp']
  simp only [Option.map_some, Option.bind_some]
  unfold impl_leastByChoice_n7
  have lo := lowC_min F (2 ^ l.length - 1)
  rw [show 2 ^ l.length - 1 + 1 = 2 ^ l.length by omega] at lo
  rw [lo, ← hF, least_turn]

theorem sizesW_kids {h : List Int} {w : Nat} : (sizesW h w).length = kidsN h w := by
  unfold sizesW kidW kidsN
  rw [(sortS_perm _).length_eq, List.length_map, List.filter_map, List.length_map, List.countP_eq_length_filter]
  rfl

theorem implLeast_eq (h : List Int) : impl_LeastLength h = some (leastI h) := by
  have e : impl_LeastLength h = impl_LeastLength_n9 h := by unfold impl_LeastLength; rfl
  rw [e]
  unfold impl_LeastLength_n9 impl_LeastLength_n1 leastI
  rw [implTree_eq]
  cases t : treeB h with
  | false => rfl
  | true =>
    have T := (tree_iff h).mp t
    have l8 := T.le
    have l1 := T.pos
    simp only [Option.bind_some, Bool.not_true, cond_false, if_true, yields_eq T, Sum.elim_inl]
    unfold impl_LeastLength_n8 impl_LeastLength_n6 impl_LeastLength_n2
    simp only [Option.bind_some]
    unfold impl_LeastLength_n5 impl_LeastLength_n4
    have one : ∀ i, i < h.length → (sizesW h (i + 1)).length + leastW h (i + 1) ≤ 1160 := fun i hi => by
      have := sizesW_len T (w := i + 1) (by omega) (by omega)
      have := leastW_le T (w := i + 1) (by omega) (by omega)
      omega
    have sb : ∀ k, k ≤ h.length → sumR (fun i => (sizesW h (i + 1)).length + leastW h (i + 1)) k ≤ 1160 * k := by
      intro k
      induction k with
      | zero => intro _; simp [sumR]
      | succ k ih =>
        intro hk
        have := one k (by omega)
        have := ih (by omega)
        rw [sumR]
        omega
    have all : sumR (fun i => (sizesW h (i + 1)).length + leastW h (i + 1)) h.length = leastN h := by
      rw [sumR_add, leastN]
      congr 1
      rw [sumR_congr (g := fun i => kidsN h (i + 1)) fun i hi => sizesW_kids]
      exact kids_total T
    have lp := nloop_to (body := fun (s : Int × Int) => ((impl_LeastLength_n3 h s.1 ((h.length : Nat) : Int) s.2 (yieldL h)).map (Sum.elim (fun (t : Int × Int) => Sum.inl (t.1, t.2)) (fun (t : Int) => Sum.inr t)) : Option ((Int × Int) ⊕ (Int))))
      (fun k => (((sumR (fun i => (sizesW h (i + 1)).length + leastW h (i + 1)) k : Nat) : Int), (k : Int))) h.length ((leastN h : Nat) : Int)
      (by
        intro k hk
        have g := T.get (w := k + 1) (by omega) (by omega)
        rw [Nat.add_sub_cancel] at g
        have b := sb k (by omega)
        have o := one k hk
        have wk : IntKind.wrap .i64 ((k : Int) + 1) = ((k + 1 : Nat) : Int) := by rw [wrap64 (by omega) (by omega)]; omega
        simp only [impl_LeastLength_n3]
        rw [decide_eq_true (show (k : Int) < ((h.length : Nat) : Int) by omega), idx_nat, g, wk]
        simp only [cond_true, Option.bind_some]
        rw [sizesBelow_eq T (by omega) (by omega)]
        have r : (((hd h (k + 1) : Nat) : Int) != 0) = !(hd h (k + 1) == 0) := by
          rw [Bool.eq_iff_iff]
          simp
        rw [r]
        simp only [Option.bind_some]
        rw [leastBy_eq (sizesW_mem T) (sizesW_len T (by omega) (by omega))]
        simp only [Option.bind_some, Option.map_some, Sum.elim_inl]
        rw [sumR, show leastC (sizesW h (k + 1)) (hd h (k + 1) == 0) = leastW h (k + 1) from rfl, wrap64 (by omega) (by omega)]
        rfl)
      (by
        simp only [impl_LeastLength_n3]
        rw [decide_eq_false (show ¬ ((h.length : Nat) : Int) < ((h.length : Nat) : Int) by omega), all]
        rfl) LL (by simp only [LL]; omega)
    have lp' := lp
    rw [show sumR (fun i => (sizesW h (i + 1)).length + leastW h (i + 1)) 0 = 0 from rfl, show ((0 : Nat) : Int) = 0 from rfl] at lp'
    rw [lp']
    rfl

end Go.Rv
