/-
  Plain mathematics of what the law reaches. Conditions: none.
-/
import Derived.Test.YtihgceegapfngacGFnExactDeskNew
set_option linter.unusedVariables false
set_option linter.unusedSimpArgs false
namespace Go.Rv
theorem nloop_run {σ ω : Type} {body : σ → Option (σ ⊕ ω)} (I : σ → Prop) (μ : σ → Nat) (f : σ → ω)
    (h : ∀ s, I s → (∃ s', body s = some (.inl s') ∧ I s' ∧ μ s' < μ s ∧ f s' = f s) ∨ body s = some (.inr (f s))) : ∀ (n : Nat) (s : σ), I s → μ s < n → nloop body n s = some (f s)
  | 0, s, _, hn => by omega
  | n + 1, s, hi, hn => by
    rcases h s hi with ⟨s', hb, hi', hm, hf⟩ | hb
    · simp only [nloop, hb, Option.bind_some]
      rw [nloop_run I μ f h n s' hi' (by omega), hf]
    · simp only [nloop, hb, Option.bind_some]

/-- A loop that counts from a number on: state (k, x), k < n goes on. -/
theorem wrap64 {x : Int} (h1 : -9223372036854775808 ≤ x) (h2 : x ≤ 9223372036854775807) : IntKind.wrap .i64 x = x := by
  simp only [IntKind.wrap, IntKind.bits, IntKind.signed]
  simp
  omega

theorem idx_nat {α : Type} (xs : List α) (k : Nat) : idx xs (k : Int) = xs[k]? := by simp [idx]
theorem idx_lt {α : Type} {xs : List α} {k : Nat} (h : k < xs.length) : idx xs (k : Int) = some xs[k] := by simp [idx, h]
theorem inb_nat {k n : Nat} (h : k < n) : inb (k : Int) n = some k := by
  simp only [inb]
  rw [if_pos (by omega)]
  simp
theorem mk_nat {n : Nat} (h : n ≤ 1099511627776) : mk (n : Int) (n : Int) = some n := by
  simp only [mk]
  rw [if_pos (by omega)]
  simp
theorem room_le {n : Nat} (h : n ≤ 1099511627776) : room n = some () := by simp [room, h]

theorem toIntS_eq (xs : List Int) (h : xs.length ≤ 1048576) : laws_toIntS xs = some xs := by
  have hl := nloop_run (body := fun (s : Int × (List Int)) => ((laws_toIntS_n3 xs s.1 s.2).map (Sum.elim (fun (t : Int × (List Int)) => Sum.inl (t.1, t.2)) (fun (t : (List Int)) => Sum.inr t)) : Option ((Int × (List Int)) ⊕ (((List Int))))))
    (I := fun s => ∃ k : Nat, s.1 = k ∧ k ≤ xs.length ∧ s.2.length = xs.length) (μ := fun s => xs.length - s.1.toNat) (f := fun s => s.2.take s.1.toNat ++ xs.drop s.1.toNat)
    (by
      rintro ⟨_, out⟩ ⟨k, rfl, hk, ho⟩
      simp only at ho
      by_cases hlt : k < xs.length
      · left
        refine ⟨((k + 1 : Nat), out.set k xs[k]), ?_, ⟨k + 1, rfl, hlt, by simpa using ho⟩, by simp; omega, ?_⟩
        · simp only [laws_toIntS_n3]
          rw [show decide ((k : Int) < ((xs.length : Nat) : Int)) = true from decide_eq_true (by omega)]
          simp only [cond_true, idx_lt hlt, Option.bind_some, inb_nat (show k < out.length by omega)]
          rw [wrap64 (by omega) (by omega)]
          simp
        · simp only [Int.toNat_natCast]
          rw [List.take_set, List.take_add_one, List.getElem?_eq_getElem (by omega)]
          have hl : (out.take k).length = k := by simp; omega
          rw [List.set_append_right _ _ (by omega), hl]
          simp
      · right
        have e : k = xs.length := by omega
        subst e
        simp only [laws_toIntS_n3]
        rw [show decide (((xs.length : Nat) : Int) < ((xs.length : Nat) : Int)) = false from decide_eq_false (by omega)]
        simp [List.take_of_length_le (Nat.le_of_eq ho)])
  unfold laws_toIntS laws_toIntS_n9 laws_toIntS_n1 laws_toIntS_n8 laws_toIntS_n6 laws_toIntS_n2 laws_toIntS_n5 laws_toIntS_n4 laws_toIntS_n7
  rw [mk_nat (by omega)]
  simp only [Option.bind_some]
  rw [hl LL (0, List.replicate xs.length 0) ⟨0, by simp, by omega, by simp⟩ (by simp only [LL]; simp; omega)]
  simp

theorem drop_cons {α : Type} {xs : List α} {k : Nat} (h : k < xs.length) : xs.drop k = xs[k] :: xs.drop (k + 1) := List.drop_eq_getElem_cons h

theorem drop_beq {xs ys : List Int} {k : Nat} (h1 : k < xs.length) (h2 : k < ys.length) : (xs.drop k == ys.drop k) = (xs[k] == ys[k] && xs.drop (k + 1) == ys.drop (k + 1)) := by
  rw [drop_cons h1, drop_cons h2]
  rfl

theorem eqIntS_eq (xs ys : List Int) (h : xs.length ≤ 1048576) : laws_eqIntS xs ys = some (xs == ys) := by
  unfold laws_eqIntS laws_eqIntS_n9 laws_eqIntS_n1 laws_eqIntS_n8 laws_eqIntS_n6 laws_eqIntS_n5 laws_eqIntS_n4 laws_eqIntS_n2 laws_eqIntS_n7
  by_cases hl : xs.length = ys.length
  · have hloop := nloop_run (body := fun (s : Int) => ((laws_eqIntS_n3 xs ys s).map (Sum.elim (fun (t : Int) => Sum.inl t) (Sum.elim (fun (t : Bool) => Sum.inr (Sum.inl t)) (fun (t : Unit) => Sum.inr (Sum.inr t)))) : Option ((Int) ⊕ (Bool ⊕ Unit))))
      (I := fun s => ∃ k : Nat, s = k ∧ k ≤ xs.length) (μ := fun s => xs.length - s.toNat) (f := fun s => cond (xs.drop s.toNat == ys.drop s.toNat) (.inr ()) (.inl false))
      (by
        rintro _ ⟨k, rfl, hk⟩
        by_cases hlt : k < xs.length
        · have hlt' : k < ys.length := by omega
          simp only [laws_eqIntS_n3]
          rw [show decide ((k : Int) < ((xs.length : Nat) : Int)) = true from decide_eq_true (by omega)]
          simp only [cond_true, idx_lt hlt, idx_lt hlt', Option.bind_some, Int.toNat_natCast]
          rw [wrap64 (by omega) (by omega), drop_beq hlt hlt']
          by_cases he : xs[k] = ys[k]
          · left
            refine ⟨((k + 1 : Nat) : Int), by simp [he], ⟨k + 1, rfl, hlt⟩, by simp; omega, by simp [he]⟩
          · right
            have e1 : (xs[k] == ys[k]) = false := by simpa using he
            simp [bne, e1]
        · right
          have e : k = xs.length := by omega
          subst e
          simp only [laws_eqIntS_n3]
          rw [show decide (((xs.length : Nat) : Int) < ((xs.length : Nat) : Int)) = false from decide_eq_false (by omega)]
          simp [List.drop_of_length_le (Nat.le_of_eq hl.symm)])
    rw [show ((((xs.length : Nat) : Int)) != (((ys.length : Nat) : Int))) = false by simp [hl]]
    simp only [cond_false, Option.bind_some, Sum.elim_inl]
    rw [hloop LL 0 ⟨0, by simp, by omega⟩ (by simp only [LL]; simp; omega)]
    simp only [Int.toNat_zero, List.drop_zero]
    cases xs == ys <;> rfl
  · rw [show ((((xs.length : Nat) : Int)) != (((ys.length : Nat) : Int))) = true by simp; omega]
    have : (xs == ys) = false := by
      rw [beq_eq_false_iff_ne]
      exact fun e => hl (by rw [e])
    rw [this]; rfl

/-- From a word to the root, with so many steps at most: the root, and how many steps lead to it. -/
def climb (h : List Int) : Nat → Nat → Option (Nat × Nat)
  | 0, _ => none
  | f + 1, w => match h[w - 1]? with
    | none => none
    | some x => if x = 0 then some (w, 0) else (climb h f x.toNat).map fun p => (p.1, p.2 + 1)

def okHead (n : Nat) (x : Int) : Bool := decide (0 ≤ x) && decide (x ≤ n)

def inRange (h : List Int) : Bool := h.all (okHead h.length)

/-- The heads of a tree. -/
def treeB (h : List Int) : Bool :=
  decide (1 ≤ h.length) && decide (h.length ≤ 8) && inRange h && (h.count 0 == 1) && (List.range h.length).all fun k => (climb h h.length (k + 1)).isSome

theorem all_drop_cons {h : List Int} {p : Int → Bool} {k : Nat} (hk : k < h.length) : (h.drop k).all p = (p h[k] && (h.drop (k + 1)).all p) := by
  rw [drop_cons hk]; rfl

theorem count_drop_cons {h : List Int} {k : Nat} (hk : k < h.length) : (h.drop k).count 0 = (if h[k] = 0 then 1 else 0) + (h.drop (k + 1)).count 0 := by
  rw [drop_cons hk, List.count_cons]
  by_cases e : h[k] = 0 <;> simp [e] <;> omega

theorem oneRoot_eq (h : List Int) (hl : h.length ≤ 1048576) : impl_oneRoot h = some (inRange h && (h.count 0 == 1)) := by
  have hloop := nloop_run (body := fun (s : Int × Int) => ((impl_oneRoot_n3 h s.1 h.length s.2).map (Sum.elim (fun (t : Int × Int) => Sum.inl (t.1, t.2)) (Sum.elim (fun (t : Bool) => Sum.inr (Sum.inl t)) (fun (t : Int) => Sum.inr (Sum.inr t)))) : Option ((Int × Int) ⊕ (Bool ⊕ Int))))
    (I := fun s => ∃ k r : Nat, s = ((r : Int), (k : Int)) ∧ k ≤ h.length ∧ r ≤ k) (μ := fun s => h.length - s.2.toNat)
    (f := fun s => cond ((h.drop s.2.toNat).all (okHead h.length)) (.inr (s.1 + ((h.drop s.2.toNat).count 0 : Nat))) (.inl false))
    (by
      rintro _ ⟨k, r, rfl, hk, hr⟩
      by_cases hlt : k < h.length
      · simp only [impl_oneRoot_n3]
        rw [show decide ((k : Int) < ((h.length : Nat) : Int)) = true from decide_eq_true (by omega)]
        simp only [cond_true, idx_lt hlt, Option.bind_some, Int.toNat_natCast]
        rw [wrap64 (x := (k : Int) + 1) (by omega) (by omega), wrap64 (x := (r : Int) + 1) (by omega) (by omega), all_drop_cons hlt, count_drop_cons hlt]
        by_cases h1 : h[k] < 0
        · right
          have : okHead h.length h[k] = false := by simp [okHead]; omega
          simp [h1, this]
        · by_cases h2 : h[k] > (h.length : Int)
          · right
            have : okHead h.length h[k] = false := by simp [okHead]; omega
            simp [h1, h2, this]
          · left
            have hok : okHead h.length h[k] = true := by simp [okHead]; omega
            by_cases h3 : h[k] = 0
            · refine ⟨(((r + 1 : Nat) : Int), ((k + 1 : Nat) : Int)), ?_, ⟨k + 1, r + 1, rfl, hlt, by omega⟩, by simp; omega, ?_⟩
              · have h4 : decide ((h.length : Int) < 0) = false := decide_eq_false (by omega)
                simp [h3, h4]
              · have e : ((k + 1 : Nat) : Int).toNat = k + 1 := by simp
                rw [e, hok]
                simp only [h3, if_true, Bool.true_and]
                congr 2
                push_cast
                omega
            · refine ⟨((r : Int), ((k + 1 : Nat) : Int)), ?_, ⟨k + 1, r, rfl, hlt, by omega⟩, by simp; omega, ?_⟩
              · have e1 : (h[k] == 0) = false := by simpa using h3
                have e2 : decide (h[k] < 0) = false := decide_eq_false h1
                have e3 : decide (h[k] > (h.length : Int)) = false := decide_eq_false h2
                simp [e1, e2, e3]
              · have e : ((k + 1 : Nat) : Int).toNat = k + 1 := by simp
                rw [e, hok]
                simp [h3]
      · right
        have e : k = h.length := by omega
        subst e
        simp only [impl_oneRoot_n3]
        rw [show decide (((h.length : Nat) : Int) < ((h.length : Nat) : Int)) = false from decide_eq_false (by omega)]
        simp)
  unfold impl_oneRoot impl_oneRoot_n9 impl_oneRoot_n1 impl_oneRoot_n8 impl_oneRoot_n6 impl_oneRoot_n2 impl_oneRoot_n5 impl_oneRoot_n4
  simp only [Option.bind_some]
  rw [hloop LL (0, 0) ⟨0, 0, rfl, by omega, by omega⟩ (by simp only [LL]; simp; omega)]
  simp only [Int.toNat_zero, List.drop_zero]
  unfold inRange
  cases ha : h.all (okHead h.length) with
  | false => simp
  | true =>
    simp only [cond_true, Option.map_some, Sum.elim_inr, Option.bind_some, Sum.elim_inl, impl_oneRoot_n7, Bool.true_and]
    congr 1
    by_cases e : h.count 0 = 1
    · simp [e]
    · have e1 : ((0 : Int) + ((h.count 0 : Nat) : Int) == 1) = false := by rw [beq_eq_false_iff_ne]; omega
      have e2 : (h.count 0 == 1) = false := by rw [beq_eq_false_iff_ne]; exact e
      rw [e2]; exact e1

theorem inRange_get {h : List Int} (hr : inRange h = true) {k : Nat} (hk : k < h.length) : 0 ≤ h[k] ∧ h[k] ≤ h.length := by
  have := List.all_eq_true.1 hr h[k] (List.getElem_mem hk)
  simpa [okHead] using this

theorem up_eq (h : List Int) (k : Nat) (s : Nat) (hk : k < h.length) (hl : h.length ≤ 1048576) (hs : s ≤ h.length) :
    impl_walker_up h ((k + 1 : Nat) : Int) (s : Int) = some (if h[k] = 0 then (false, ((k + 1 : Nat) : Int), (s : Int)) else (true, h[k], ((s + 1 : Nat) : Int))) := by
  unfold impl_walker_up impl_walker_up_n1
  rw [wrap64 (by omega) (by omega), show ((k + 1 : Nat) : Int) - 1 = (k : Int) by omega, idx_lt hk]
  simp only [Option.bind_some]
  rw [wrap64 (by omega) (by omega)]
  by_cases e : h[k] = 0
  · simp [e]
  · have e1 : (h[k] == 0) = false := by simpa using e
    simp [e, e1]

theorem steps_eq (h : List Int) (hl : h.length ≤ 1048576) (hr : inRange h = true) (k : Nat) (hk : k < h.length) :
    impl_stepsToRoot h ((k + 1 : Nat) : Int) = some (match climb h h.length (k + 1) with | some p => ((p.2 : Int), true) | none => (0, false)) := by
  have hloop := nloop_run (body := fun (s : Int × Int) => ((impl_stepsToRoot_n2 h s.1 s.2).map (Sum.elim (fun (t : Int × Int) => Sum.inl (t.1, t.2)) (Sum.elim (fun (t : Int × Bool) => Sum.inr (Sum.inl t)) (fun (t : Int × Int) => Sum.inr (Sum.inr t)))) : Option ((Int × Int) ⊕ ((Int × Bool) ⊕ (Int × Int)))))
    (I := fun s => ∃ k i : Nat, s = (((k + 1 : Nat) : Int), (i : Int)) ∧ k < h.length ∧ i < h.length) (μ := fun s => h.length - s.2.toNat)
    (f := fun s => match climb h (h.length - s.2.toNat) s.1.toNat with | some p => .inr ((p.1 : Int), s.2 + (p.2 : Int)) | none => .inl (0, false))
    (by
      rintro _ ⟨k, i, rfl, hk, hi⟩
      simp only [impl_stepsToRoot_n2]
      rw [up_eq h k i hk hl (by omega)]
      obtain ⟨hr1, hr2⟩ := inRange_get hr hk
      have hf : h.length - i = (h.length - i - 1) + 1 := by omega
      have hg : h[k + 1 - 1]? = some h[k] := by simp [hk]
      have hcl : climb h (h.length - i) (k + 1) = if h[k] = 0 then some (k + 1, 0) else (climb h (h.length - i - 1) h[k].toNat).map fun p => (p.1, p.2 + 1) := by
        rw [hf]; simp only [climb, hg]; simp
      simp only [Option.bind_some, Int.toNat_natCast]
      rw [hcl]
      by_cases e : h[k] = 0
      · right
        simp [e]
      · simp only [e, if_false, cond_true]
        by_cases hlast : i + 1 ≥ h.length
        · right
          have h0 : h.length - i - 1 = 0 := by omega
          have hd : decide (((i + 1 : Nat) : Int) ≥ ((h.length : Nat) : Int)) = true := decide_eq_true (by omega)
          simp only [hd, h0, climb]
          simp
        · left
          have hd : decide (((i + 1 : Nat) : Int) ≥ ((h.length : Nat) : Int)) = false := decide_eq_false (by omega)
          refine ⟨(h[k], ((i + 1 : Nat) : Int)), by simp only [hd]; simp, ⟨h[k].toNat - 1, i + 1, by
            have : ((h[k].toNat - 1 + 1 : Nat) : Int) = h[k] := by omega
            rw [this], by omega, by omega⟩, by simp; omega, ?_⟩
          have e2 : h.length - ((i + 1 : Nat) : Int).toNat = h.length - i - 1 := by simp; omega
          simp only [e2]
          cases climb h (h.length - i - 1) h[k].toNat with
          | none => rfl
          | some p => simp; omega)
  unfold impl_stepsToRoot impl_stepsToRoot_n7 impl_stepsToRoot_n1 impl_stepsToRoot_n6 impl_stepsToRoot_n4 impl_stepsToRoot_n3
  simp only [Option.bind_some]
  rw [hloop LL (((k + 1 : Nat) : Int), 0) ⟨k, 0, rfl, hk, by omega⟩ (by simp only [LL]; simp; omega)]
  simp only [Int.toNat_natCast, Int.toNat_zero, Nat.sub_zero]
  cases climb h h.length (k + 1) with
  | none => simp
  | some p => simp [impl_stepsToRoot_n5]

theorem implTree_eq (h : List Int) : impl_TreeOk h = some (treeB h) := by
  unfold impl_TreeOk impl_TreeOk_n9 impl_TreeOk_n1 impl_TreeOk_n8 impl_TreeOk_n6 impl_TreeOk_n2 impl_TreeOk_n5 impl_TreeOk_n4
  unfold treeB
  by_cases h1 : h.length < 1
  · have e : decide (1 ≤ h.length) = false := decide_eq_false (by omega)
    have e2 : decide ((((h.length : Nat) : Int)) < 1) = true := decide_eq_true (by omega)
    simp [e, e2]
  · have e1 : decide ((((h.length : Nat) : Int)) < 1) = false := decide_eq_false (by omega)
    have e1' : decide (1 ≤ h.length) = true := decide_eq_true (by omega)
    by_cases h2 : h.length > 8
    · have e : decide (h.length ≤ 8) = false := decide_eq_false (by omega)
      have e2 : decide ((((h.length : Nat) : Int)) > 8) = true := decide_eq_true (by omega)
      simp only [e1, e2, e]
      simp
    · have e2 : decide ((((h.length : Nat) : Int)) > 8) = false := decide_eq_false (by omega)
      have e2' : decide (h.length ≤ 8) = true := decide_eq_true (by omega)
      simp only [e1, e2, e1', e2', cond_false, oneRoot_eq h (by omega), Option.bind_some, Bool.true_and]
      cases hr : inRange h with
      | false => simp
      | true =>
        cases hc : (h.count 0 == 1) with
        | false => simp
        | true =>
          simp only [Bool.true_and, Bool.not_true, cond_false, Option.bind_some, Sum.elim_inl]
          have hloop := nloop_run (body := fun (s : Int) => ((impl_TreeOk_n3 h h.length s).map (Sum.elim (fun (t : Int) => Sum.inl t) (Sum.elim (fun (t : Bool) => Sum.inr (Sum.inl t)) (fun (t : Unit) => Sum.inr (Sum.inr t)))) : Option ((Int) ⊕ (Bool ⊕ Unit))))
            (I := fun s => ∃ k : Nat, s = (k : Int) ∧ k ≤ h.length) (μ := fun s => h.length - s.toNat)
            (f := fun s => cond (((List.range h.length).drop s.toNat).all fun k => (climb h h.length (k + 1)).isSome) (.inr ()) (.inl false))
            (by
              rintro _ ⟨k, rfl, hk⟩
              by_cases hlt : k < h.length
              · simp only [impl_TreeOk_n3]
                rw [show decide ((k : Int) < ((h.length : Nat) : Int)) = true from decide_eq_true (by omega)]
                rw [wrap64 (x := (k : Int) + 1) (by omega) (by omega), show (k : Int) + 1 = ((k + 1 : Nat) : Int) by omega, steps_eq h (by omega) hr k hlt]
                simp only [cond_true, Option.bind_some, Int.toNat_natCast]
                have hd : (List.range h.length).drop k = k :: (List.range h.length).drop (k + 1) := by
                  rw [List.drop_eq_getElem_cons (by simpa using hlt)]
                  simp
                rw [hd]
                simp only [List.all_cons]
                cases hcl : climb h h.length (k + 1) with
                | none => right; simp
                | some p =>
                  left
                  refine ⟨((k + 1 : Nat) : Int), by simp, ⟨k + 1, rfl, hlt⟩, by simp; omega, by simp⟩
              · right
                have e : k = h.length := by omega
                subst e
                simp only [impl_TreeOk_n3]
                rw [show decide (((h.length : Nat) : Int) < ((h.length : Nat) : Int)) = false from decide_eq_false (by omega)]
                simp [List.drop_of_length_le (show (List.range h.length).length ≤ h.length by simp)])
          rw [hloop LL 0 ⟨0, rfl, by omega⟩ (by simp only [LL]; simp; omega)]
          simp only [Int.toNat_zero, List.drop_zero]
          cases ((List.range h.length).all fun k => (climb h h.length (k + 1)).isSome) <;> rfl

theorem l1In_eq (a b c : Int) : spec_l1In a b c = some (decide (b ≤ a) && decide (a ≤ c)) := by
  unfold spec_l1In spec_l1In_n1
  by_cases h : a ≥ b
  · have e : decide (a ≥ b) = true := decide_eq_true h
    rw [e]; rfl
  · have e : decide (a ≥ b) = false := decide_eq_false h
    rw [e]; rfl

/-- The model's way from a word upwards. -/
def goUp (h : List Int) : Nat → Int → Bool ⊕ Int
  | 0, a => .inr a
  | f + 1, a => if 0 < a then (match h[a.toNat - 1]? with
      | some x => if okHead h.length x then goUp h f x else .inl false
      | none => .inl false) else .inr a

theorem inner_eq (h : List Int) (hl : h.length ≤ 8) (a : Int) (ha0 : 0 ≤ a) (ha : a ≤ h.length) : spec_TreeOk_n7 h h.length a = some (goUp h h.length a) := by
  unfold spec_TreeOk_n7
  have hloop := nloop_run (body := fun (s : Int × Int) => ((spec_TreeOk_n6 h h.length s.1 s.2).map (Sum.elim (fun (t : Int × Int) => Sum.inl (t.1, t.2)) (Sum.elim (fun (t : Bool) => Sum.inr (Sum.inl t)) (fun (t : Int) => Sum.inr (Sum.inr t)))) : Option ((Int × Int) ⊕ (Bool ⊕ Int))))
    (I := fun s => ∃ k i : Nat, s = ((k : Int), (i : Int)) ∧ k ≤ h.length ∧ i ≤ h.length) (μ := fun s => h.length - s.2.toNat)
    (f := fun s => goUp h (h.length - s.2.toNat) s.1)
    (by
      rintro _ ⟨k, i, rfl, hk, hi⟩
      simp only [spec_TreeOk_n6, Int.toNat_natCast]
      by_cases h1 : 0 < k
      · have e1 : decide ((k : Int) > 0) = true := decide_eq_true (by omega)
        by_cases h2 : i < h.length
        · have e2 : decide ((i : Int) < ((h.length : Nat) : Int)) = true := decide_eq_true (by omega)
          have hk' : k - 1 < h.length := by omega
          rw [e1, e2, wrap64 (x := (k : Int) - 1) (by omega) (by omega), show (k : Int) - 1 = ((k - 1 : Nat) : Int) by omega, idx_lt hk', wrap64 (x := (i : Int) + 1) (by omega) (by omega)]
          simp only [cond_true, Option.bind_some, l1In_eq]
          have hf : h.length - i = (h.length - i - 1) + 1 := by omega
          have hg : goUp h (h.length - i) (k : Int) = if okHead h.length h[k - 1] then goUp h (h.length - i - 1) h[k - 1] else .inl false := by
            rw [hf]
            simp only [goUp]
            rw [if_pos (by omega)]
            simp [hk']
          rw [hg]
          by_cases h3 : okHead h.length h[k - 1] = true
          · left
            have h3' := h3
            simp only [okHead, Bool.and_eq_true, decide_eq_true_eq] at h3'
            refine ⟨(h[k - 1], ((i + 1 : Nat) : Int)), ?_, ⟨h[k - 1].toNat, i + 1, by
              have : ((h[k - 1].toNat : Nat) : Int) = h[k - 1] := by omega
              rw [this], by omega, by omega⟩, by simp; omega, ?_⟩
            · have e4 : (decide ((0 : Int) ≤ h[k - 1]) && decide (h[k - 1] ≤ ((h.length : Nat) : Int))) = true := h3
              rw [e4]; simp
            · have e5 : h.length - ((i + 1 : Nat) : Int).toNat = h.length - i - 1 := by simp; omega
              simp only [e5, h3, if_true]
          · right
            have h3' : okHead h.length h[k - 1] = false := by simpa using h3
            have e4 : (decide ((0 : Int) ≤ h[k - 1]) && decide (h[k - 1] ≤ ((h.length : Nat) : Int))) = false := h3'
            rw [e4]
            simp [h3']
        · right
          have e2 : decide ((i : Int) < ((h.length : Nat) : Int)) = false := decide_eq_false (by omega)
          have h0 : h.length - i = 0 := by omega
          rw [e1, e2, h0]
          simp [goUp]
      · right
        have hk0 : k = 0 := by omega
        subst hk0
        have e1 : decide (((0 : Nat) : Int) > 0) = false := by simp
        rw [e1]
        cases h.length - i <;> simp [goUp])
  exact hloop LL (a, 0) ⟨a.toNat, 0, by
    have : ((a.toNat : Nat) : Int) = a := by omega
    rw [this]; rfl, by omega, by omega⟩ (by simp only [LL]; simp; omega)

theorem goUp_climb {h : List Int} (hr : inRange h = true) : ∀ (f k : Nat), k < h.length → goUp h f ((k + 1 : Nat) : Int) = (if (climb h f (k + 1)).isSome then .inr 0 else goUp h f ((k + 1 : Nat) : Int)) ∧
    ((climb h f (k + 1)).isSome = false → ∃ a : Int, 0 < a ∧ goUp h f ((k + 1 : Nat) : Int) = .inr a)
  | 0, k, hk => by
    refine ⟨by simp [climb], fun _ => ⟨((k + 1 : Nat) : Int), by omega, rfl⟩⟩
  | f + 1, k, hk => by
    obtain ⟨h1, h2⟩ := inRange_get hr hk
    have hok : okHead h.length h[k] = true := by simp [okHead]; omega
    have hg : goUp h (f + 1) ((k + 1 : Nat) : Int) = goUp h f h[k] := by
      simp only [goUp]
      rw [if_pos (by omega)]
      simp [hk, hok]
    have hc : climb h (f + 1) (k + 1) = if h[k] = 0 then some (k + 1, 0) else (climb h f h[k].toNat).map fun p => (p.1, p.2 + 1) := by
      simp [climb, hk]
    rw [hg, hc]
    by_cases e : h[k] = 0
    · have : goUp h f 0 = .inr 0 := by cases f <;> simp [goUp]
      simp [e, this]
    · obtain ⟨j, hj⟩ : ∃ j : Nat, h[k] = ((j + 1 : Nat) : Int) := ⟨h[k].toNat - 1, by omega⟩
      have ih := goUp_climb hr f j (by omega)
      rw [hj]
      have ne : ¬ ((j + 1 : Nat) : Int) = 0 := by omega
      simp only [ne, if_false, Int.toNat_natCast, Option.isSome_map]
      exact ih

/-- What is asked of one word. -/
def wordOk1 (h : List Int) (k : Nat) : Bool := match h[k]? with
  | some x => okHead h.length x && !(x == ((k + 1 : Nat) : Int)) && (match goUp h h.length ((k + 1 : Nat) : Int) with | .inr a => !decide (a > 0) | .inl _ => false)
  | none => false

theorem specTree_eq0 (h : List Int) : spec_TreeOk h = some (decide (1 ≤ h.length) && decide (h.length ≤ 8) && (List.range h.length).all (wordOk1 h) && (h.count 0 == 1)) := by
  unfold spec_TreeOk spec_TreeOk_n22 spec_TreeOk_n1
  rw [l1In_eq]
  by_cases h1 : (decide ((1 : Int) ≤ ((h.length : Nat) : Int)) && decide (((h.length : Nat) : Int) ≤ 8)) = true
  · have h1' := h1
    simp only [Bool.and_eq_true, decide_eq_true_eq] at h1'
    have e1 : decide (1 ≤ h.length) = true := decide_eq_true (by omega)
    have e2 : decide (h.length ≤ 8) = true := decide_eq_true (by omega)
    simp only [h1, e1, e2, Option.bind_some, Bool.not_true, cond_false, Sum.elim_inl, Bool.true_and]
    unfold spec_TreeOk_n21 spec_TreeOk_n19 spec_TreeOk_n2 spec_TreeOk_n18 spec_TreeOk_n17
    have hloop := nloop_run (body := fun (s : Int × Int) => ((spec_TreeOk_n16 h h.length s.1 s.2).map (Sum.elim (fun (t : Int × Int) => Sum.inl (t.1, t.2)) (Sum.elim (fun (t : Bool) => Sum.inr (Sum.inl t)) (fun (t : Int) => Sum.inr (Sum.inr t)))) : Option ((Int × Int) ⊕ (Bool ⊕ Int))))
      (I := fun s => ∃ k r : Nat, s = ((r : Int), (k : Int)) ∧ k ≤ h.length ∧ r ≤ k) (μ := fun s => h.length - s.2.toNat)
      (f := fun s => cond (((List.range h.length).drop s.2.toNat).all (wordOk1 h)) (.inr (s.1 + ((h.drop s.2.toNat).count 0 : Nat))) (.inl false))
      (by
        rintro _ ⟨k, r, rfl, hk, hr⟩
        by_cases hlt : k < h.length
        · have hd : (List.range h.length).drop k = k :: (List.range h.length).drop (k + 1) := by
            rw [List.drop_eq_getElem_cons (by simpa using hlt)]
            simp
          simp only [spec_TreeOk_n16, spec_TreeOk_n3, Int.toNat_natCast]
          rw [show decide ((k : Int) < ((h.length : Nat) : Int)) = true from decide_eq_true (by omega)]
          simp only [cond_true, Option.bind_some, Sum.elim_inl]
          unfold spec_TreeOk_n15 spec_TreeOk_n13 spec_TreeOk_n12 spec_TreeOk_n4 spec_TreeOk_n14 spec_TreeOk_n11 spec_TreeOk_n9 spec_TreeOk_n5 spec_TreeOk_n8 spec_TreeOk_n10
          have hw : IntKind.wrap .i64 ((k : Int) + 1) = ((k + 1 : Nat) : Int) := by rw [wrap64 (by omega) (by omega)]; omega
          have hw2 : IntKind.wrap .i64 ((r : Int) + 1) = ((r + 1 : Nat) : Int) := by rw [wrap64 (by omega) (by omega)]; omega
          simp only [idx_lt hlt, Option.bind_some, l1In_eq, hw, hw2]
          rw [hd, List.all_cons, count_drop_cons hlt]
          have hwk : wordOk1 h k = (okHead h.length h[k] && !(h[k] == ((k + 1 : Nat) : Int)) && (match goUp h h.length ((k + 1 : Nat) : Int) with | .inr a => !decide (a > 0) | .inl _ => false)) := by
            simp [wordOk1, hlt]
          have hin := inner_eq h (by omega) ((k + 1 : Nat) : Int) (by omega) (by omega)
          rw [hwk]
          cases h3 : okHead h.length h[k] with
          | false =>
            right
            have e4 : (decide ((0 : Int) ≤ h[k]) && decide (h[k] ≤ ((h.length : Nat) : Int))) = false := h3
            rw [e4]; simp
          | true =>
            have e4 : (decide ((0 : Int) ≤ h[k]) && decide (h[k] ≤ ((h.length : Nat) : Int))) = true := h3
            rw [e4]
            simp only [Bool.not_true, cond_false, Bool.true_and]
            cases h5 : (h[k] == ((k + 1 : Nat) : Int)) with
            | true => right; simp
            | false =>
              simp only [cond_false, Bool.not_false, Bool.true_and]
              by_cases h6 : h[k] = 0
              · simp only [h6, beq_self_eq_true, cond_true, Option.bind_some, Sum.elim_inl, Option.map_some, hin, if_true]
                cases h7 : goUp h h.length ((k + 1 : Nat) : Int) with
                | inl b =>
                  right
                  have : b = false := by
                    have key : ∀ f a b, goUp h f a = .inl b → b = false := by
                      intro f
                      induction f with
                      | zero => intro a b hh; simp [goUp] at hh
                      | succ f ih =>
                        intro a b hh
                        simp only [goUp] at hh
                        split at hh
                        · split at hh
                          · split at hh
                            · exact ih _ _ hh
                            · simpa using hh.symm
                          · simpa using hh.symm
                        · cases hh
                    exact key _ _ _ h7
                  subst this
                  simp
                | inr a =>
                  by_cases h8 : a > 0
                  · right
                    simp [h8]
                  · left
                    refine ⟨(((r + 1 : Nat) : Int), ((k + 1 : Nat) : Int)), by simp [h8], ⟨k + 1, r + 1, rfl, hlt, by omega⟩, by simp; omega, ?_⟩
                    have e : ((k + 1 : Nat) : Int).toNat = k + 1 := by simp
                    simp only [e, h8, decide_false, Bool.not_false, Bool.true_and]
                    congr 2
                    push_cast
                    omega
              · have e9 : (h[k] == 0) = false := by simpa using h6
                simp only [e9, cond_false, Option.bind_some, Sum.elim_inl, Option.map_some, hin, h6, if_false]
                cases h7 : goUp h h.length ((k + 1 : Nat) : Int) with
                | inl b =>
                  right
                  have : b = false := by
                    have key : ∀ f a b, goUp h f a = .inl b → b = false := by
                      intro f
                      induction f with
                      | zero => intro a b hh; simp [goUp] at hh
                      | succ f ih =>
                        intro a b hh
                        simp only [goUp] at hh
                        split at hh
                        · split at hh
                          · split at hh
                            · exact ih _ _ hh
                            · simpa using hh.symm
                          · simpa using hh.symm
                        · cases hh
                    exact key _ _ _ h7
                  subst this
                  simp
                | inr a =>
                  by_cases h8 : a > 0
                  · right
                    simp [h8]
                  · left
                    refine ⟨((r : Int), ((k + 1 : Nat) : Int)), by simp [h8], ⟨k + 1, r, rfl, hlt, by omega⟩, by simp; omega, ?_⟩
                    have e : ((k + 1 : Nat) : Int).toNat = k + 1 := by simp
                    simp only [e, h8, decide_false, Bool.not_false, Bool.true_and]
                    congr 2
                    omega
        · right
          have e : k = h.length := by omega
          subst e
          simp only [spec_TreeOk_n16, spec_TreeOk_n3]
          rw [show decide (((h.length : Nat) : Int) < ((h.length : Nat) : Int)) = false from decide_eq_false (by omega)]
          simp [List.drop_of_length_le (show (List.range h.length).length ≤ h.length by simp)])
    simp only [Option.bind_some]
    rw [hloop LL (0, 0) ⟨0, 0, rfl, by omega, by omega⟩ (by simp only [LL]; simp; omega)]
    simp only [Int.toNat_zero, List.drop_zero, Option.bind_some]
    cases (List.range h.length).all (wordOk1 h) with
    | false => simp
    | true =>
      simp only [cond_true, Option.map_some, Sum.elim_inr, Option.bind_some, Sum.elim_inl, spec_TreeOk_n20, Bool.true_and]
      congr 1
      by_cases e : h.count 0 = 1
      · simp [e]
      · have e1 : ((0 : Int) + ((h.count 0 : Nat) : Int) == 1) = false := by rw [beq_eq_false_iff_ne]; omega
        have e2 : (h.count 0 == 1) = false := by rw [beq_eq_false_iff_ne]; exact e
        rw [e2]; exact e1
  · have h1' : (decide ((1 : Int) ≤ ((h.length : Nat) : Int)) && decide (((h.length : Nat) : Int) ≤ 8)) = false := by simpa using h1
    have e : (decide (1 ≤ h.length) && decide (h.length ≤ 8)) = false := by
      simp only [Bool.and_eq_true, decide_eq_true_eq] at h1
      simp only [Bool.and_eq_false_iff, decide_eq_false_iff_not]
      omega
    rw [h1']
    simp [e]

theorem specTree_eq (h : List Int) : spec_TreeOk h = some (treeB h) := by
  rw [specTree_eq0]
  congr 1
  unfold treeB
  have key : (List.range h.length).all (wordOk1 h) = (inRange h && (List.range h.length).all fun k => (climb h h.length (k + 1)).isSome) := by
    cases hr : inRange h with
    | false =>
      rw [Bool.false_and, List.all_eq_false]
      have : ¬ ∀ x ∈ h, okHead h.length x = true := fun hh => by
        have : inRange h = true := List.all_eq_true.2 hh
        rw [hr] at this; cases this
      have ⟨x, hx⟩ := Classical.not_forall.1 this
      have ⟨hm, hb⟩ := Classical.not_imp.1 hx
      obtain ⟨k, hk, rfl⟩ := List.getElem_of_mem hm
      refine ⟨k, by simpa using hk, ?_⟩
      simp [wordOk1, hk, hb]
    | true =>
      rw [Bool.true_and, Bool.eq_iff_iff, List.all_eq_true, List.all_eq_true]
      constructor
      · intro hh k hk
        have hk' : k < h.length := by simpa using hk
        have h1 := hh k hk
        cases hc : (climb h h.length (k + 1)).isSome with
        | true => rfl
        | false =>
          obtain ⟨a, ha, hg⟩ := (goUp_climb hr h.length k hk').2 hc
          have hg' : goUp h h.length ((k : Int) + 1) = .inr a := hg
          simp [wordOk1, hk', hg', ha] at h1
      · intro hh k hk
        have hk' : k < h.length := by simpa using hk
        have h1 := hh k hk
        have h2 := (goUp_climb hr h.length k hk').1
        rw [if_pos h1] at h2
        obtain ⟨h3, h4⟩ := inRange_get hr hk'
        have hok : okHead h.length h[k] = true := by simp [okHead]; omega
        have hself : ¬ h[k] = ((k + 1 : Nat) : Int) := fun e => by
          -- a word that is its own head never comes to the root
          have none : ∀ f, climb h f (k + 1) = none := by
            intro f
            induction f with
            | zero => rfl
            | succ f ih =>
              simp only [climb]
              have : h[k + 1 - 1]? = some h[k] := by simp [hk']
              rw [this]
              simp only
              rw [if_neg (by omega), e]
              simp [ih]
          rw [none] at h1
          cases h1
        have h2' : goUp h h.length ((k : Int) + 1) = .inr 0 := h2
        have hself' : ¬ h[k] = (k : Int) + 1 := hself
        simp [wordOk1, hk', hok, h2', hself']
  rw [key]
  cases inRange h <;> simp [Bool.and_comm, Bool.and_assoc, Bool.and_left_comm]

/-- What a tree is. -/
structure Tree (h : List Int) : Prop where
  pos : 1 ≤ h.length
  le : h.length ≤ 8
  rng : inRange h = true
  one : h.count 0 = 1
  way : ∀ k, k < h.length → (climb h h.length (k + 1)).isSome = true

theorem tree_iff (h : List Int) : treeB h = true ↔ Tree h := by
  unfold treeB
  simp only [Bool.and_eq_true, decide_eq_true_eq, beq_iff_eq, List.all_eq_true]
  constructor
  · rintro ⟨⟨⟨⟨h1, h2⟩, h3⟩, h4⟩, h5⟩
    exact ⟨h1, h2, h3, h4, fun k hk => h5 k (by simpa using hk)⟩
  · rintro ⟨h1, h2, h3, h4, h5⟩
    exact ⟨⟨⟨⟨h1, h2⟩, h3⟩, h4⟩, fun k hk => h5 k (by simpa using hk)⟩

/-- The head of a word, both from 1 on; 0 for none. -/
def hd (h : List Int) (w : Nat) : Nat := (h.getD (w - 1) 0).toNat

theorem set_take {l : List Int} {k : Nat} {v : Int} (hk : k < l.length) : (l.set k v).take (k + 1) = l.take k ++ [v] := by
  rw [List.take_set, List.take_add_one, List.getElem?_eq_getElem hk]
  have hl : (l.take k).length = k := by simp; omega
  rw [List.set_append_right _ _ (by omega), hl]
  simp

theorem nloop_to {σ ω : Type} {body : σ → Option (σ ⊕ ω)} (S : Nat → σ) (n : Nat) (w : ω) (hs : ∀ k, k < n → body (S k) = some (.inl (S (k + 1)))) (he : body (S n) = some (.inr w)) :
    ∀ (N : Nat), n < N → nloop body N (S 0) = some w := by
  have key : ∀ (m k N : Nat), k + m = n → m < N → nloop body N (S k) = some w := by
    intro m
    induction m with
    | zero =>
      intro k N hk hN
      obtain ⟨N', rfl⟩ : ∃ N', N = N' + 1 := ⟨N - 1, by omega⟩
      have : k = n := by omega
      subst this
      simp only [nloop, he, Option.bind_some]
    | succ m ih =>
      intro k N hk hN
      obtain ⟨N', rfl⟩ : ∃ N', N = N' + 1 := ⟨N - 1, by omega⟩
      simp only [nloop, hs k (by omega), Option.bind_some]
      exact ih (k + 1) N' (by omega) (by omega)
  intro N hN
  exact key n 0 N (by omega) hN

theorem tree_len {h : List Int} (t : treeB h = true) : 1 ≤ h.length ∧ h.length ≤ 8 := by
  have T := (tree_iff h).mp t
  exact ⟨T.pos, T.le⟩

def newDk (h : List Int) : Bool × List Int := if treeB h = true then (true, h) else (false, [])
theorem specNew_eq (h : List Int) : spec_DeskNew h = some (newDk h) := by
  have e : spec_DeskNew h = spec_DeskNew_n1 h := by unfold spec_DeskNew; rfl
  rw [e]
  unfold spec_DeskNew_n1 newDk
  rw [specTree_eq, Option.bind_some]
  cases t : treeB h with
  | false => rfl
  | true =>
    rw [room_le (by have := (tree_len t).2; simp only [List.length_nil]; omega)]
    rfl

def marks (k n : Nat) : List Int := (List.range n).map fun i => ((k + i : Nat) : Int)
theorem marks_length (k n : Nat) : (marks k n).length = n := by simp [marks]
theorem marks_get (k n : Nat) {i : Nat} (hi : i < n) : (marks k n)[i]'(by rw [marks_length]; exact hi) = ((k + i : Nat) : Int) := by simp [marks]
theorem marks_drop (k n : Nat) {i : Nat} (hi : i < n) : (marks k n).drop i = ((k + i : Nat) : Int) :: (marks k n).drop (i + 1) := by
  rw [List.drop_eq_getElem_cons (by rw [marks_length]; exact hi), marks_get k n hi]

theorem markIntS_eq (k : Nat) (xs : List Int) (h : xs.length ≤ 1048576) (hk : k ≤ 1099511627776) : laws_markIntS k xs = some (((k + xs.length : Nat) : Int), marks k xs.length) := by
  unfold laws_markIntS laws_markIntS_n9 laws_markIntS_n1 laws_markIntS_n8 laws_markIntS_n6 laws_markIntS_n2 laws_markIntS_n5 laws_markIntS_n4 laws_markIntS_n7
  have hloop := nloop_run (body := fun (s : Int × Int × (List Int)) => ((laws_markIntS_n3 s.1 s.2.1 s.2.2).map (Sum.elim (fun (t : Int × Int × (List Int)) => Sum.inl (t.1, t.2.1, t.2.2)) (fun (t : Int × (List Int)) => Sum.inr t)) : Option ((Int × Int × (List Int)) ⊕ ((Int × (List Int))))))
    (I := fun s => ∃ i : Nat, s.1 = ((k + i : Nat) : Int) ∧ s.2.1 = (i : Int) ∧ i ≤ xs.length ∧ s.2.2.length = xs.length) (μ := fun s => xs.length - s.2.1.toNat)
    (f := fun s => (((k + xs.length : Nat) : Int), s.2.2.take s.2.1.toNat ++ (marks k xs.length).drop s.2.1.toNat))
    (by
      rintro ⟨_, _, out⟩ ⟨i, rfl, rfl, hi, ho⟩
      simp only at ho
      simp only [laws_markIntS_n3, Int.toNat_natCast]
      by_cases hlt : i < xs.length
      · left
        refine ⟨(((k + (i + 1) : Nat) : Int), ((i + 1 : Nat) : Int), out.set i ((k + i : Nat) : Int)), ?_, ⟨i + 1, rfl, rfl, hlt, by simpa using ho⟩, by simp; omega, ?_⟩
        · rw [show decide ((i : Int) < ((out.length : Nat) : Int)) = true from decide_eq_true (by omega), inb_nat (show i < out.length by omega), wrap64 (by omega) (by omega), wrap64 (by omega) (by omega)]
          simp; omega
        · simp only [Int.toNat_natCast]
          rw [set_take (by omega), marks_drop k xs.length hlt]
          simp
      · right
        have e : i = xs.length := by omega
        rw [show decide ((i : Int) < ((out.length : Nat) : Int)) = false from decide_eq_false (by omega)]
        subst e
        simp [List.take_of_length_le (Nat.le_of_eq ho), List.drop_of_length_le (Nat.le_of_eq (marks_length k xs.length))])
  simp only [Option.bind_some]
  rw [hloop LL ((k : Int), 0, xs) ⟨0, by simp, by simp, by omega, rfl⟩ (by simp only [LL]; simp; omega)]
  simp

theorem heldIntS_eq (k n : Nat) (h : n ≤ 1048576) (hk : k ≤ 1099511627776) : laws_heldIntS (marks k n) k = some ((k + n : Nat) : Int) := by
  unfold laws_heldIntS laws_heldIntS_n9 laws_heldIntS_n1 laws_heldIntS_n8 laws_heldIntS_n6 laws_heldIntS_n2 laws_heldIntS_n5 laws_heldIntS_n4 laws_heldIntS_n7
  have hloop := nloop_run (body := fun (s : Int × Int) => ((laws_heldIntS_n3 (marks k n) s.1 s.2).map (Sum.elim (fun (t : Int × Int) => Sum.inl (t.1, t.2)) (Sum.elim (fun (t : Int) => Sum.inr (Sum.inl t)) (fun (t : Int) => Sum.inr (Sum.inr t)))) : Option ((Int × Int) ⊕ (Int ⊕ Int))))
    (I := fun s => ∃ i : Nat, s = (((k + i : Nat) : Int), (i : Int)) ∧ i ≤ n) (μ := fun s => n - s.2.toNat) (f := fun s => .inr ((k + n : Nat) : Int))
    (by
      rintro _ ⟨i, rfl, hi⟩
      simp only [laws_heldIntS_n3, marks_length]
      by_cases hlt : i < n
      · left
        refine ⟨(((k + (i + 1) : Nat) : Int), ((i + 1 : Nat) : Int)), ?_, ⟨i + 1, rfl, hlt⟩, by simp; omega, trivial⟩
        rw [show decide ((i : Int) < ((n : Nat) : Int)) = true from decide_eq_true (by omega), idx_lt (by rw [marks_length]; exact hlt), marks_get k n hlt, wrap64 (by omega) (by omega), wrap64 (by omega) (by omega)]
        simp; omega
      · right
        have e : i = n := by omega
        subst e
        rw [show decide ((i : Int) < ((i : Nat) : Int)) = false from decide_eq_false (by omega)]
        simp)
  simp only [Option.bind_some]
  rw [hloop LL ((k : Int), 0) ⟨0, by simp, by omega⟩ (by simp only [LL]; simp; omega)]
  simp

def tot (l : List (List Int)) : Nat := (l.map List.length).sum
theorem tot_snoc (l : List (List Int)) (r : List Int) : tot (l ++ [r]) = tot l + r.length := by unfold tot; simp
theorem tot_take {S : List (List Int)} {k : Nat} (h : k < S.length) : tot (S.take (k + 1)) = tot (S.take k) + S[k].length := by
  rw [List.take_add_one, List.getElem?_eq_getElem h]
  exact tot_snoc _ _
theorem tot_le (S : List (List Int)) : ∀ k, tot (S.take k) ≤ tot S := fun k => by
  have : tot S = tot (S.take k) + tot (S.drop k) := by
    unfold tot
    rw [← List.sum_append, ← List.map_append, List.take_append_drop]
  omega
def szT (S : List (List Int)) : Nat := S.length + tot S

theorem row_le {S : List (List Int)} {k : Nat} (h : k < S.length) : S[k].length ≤ tot S := by
  have := tot_take h
  have := tot_le S (k + 1)
  omega

section
variable {S : List (List Int)} (sz : szT S ≤ 1048576)
include sz

theorem eqIntSS_refl : laws_eqIntSS S S = some true := by
  have e : laws_eqIntSS S S = laws_eqIntSS_n9 S S := by unfold laws_eqIntSS; rfl
  have s1 : S.length ≤ 1048576 := by unfold szT at sz; omega
  rw [e]
  unfold laws_eqIntSS_n9 laws_eqIntSS_n1 laws_eqIntSS_n8 laws_eqIntSS_n6 laws_eqIntSS_n2 laws_eqIntSS_n5 laws_eqIntSS_n4 laws_eqIntSS_n7
  have lp := nloop_to (body := fun (s : Int) => ((laws_eqIntSS_n3 S S s).map (Sum.elim (fun (t : Int) => Sum.inl t) (Sum.elim (fun (t : Bool) => Sum.inr (Sum.inl t)) (fun (t : Unit) => Sum.inr (Sum.inr t)))) : Option ((Int) ⊕ (Bool ⊕ Unit))))
    (fun k => (k : Int)) S.length (Sum.inr ())
    (by
      intro k hk
      have rl := row_le hk
      have w : IntKind.wrap .i64 ((k : Int) + 1) = ((k + 1 : Nat) : Int) := by rw [wrap64 (by omega) (by omega)]; omega
      simp only [laws_eqIntSS_n3]
      rw [decide_eq_true (show (k : Int) < ((S.length : Nat) : Int) by omega), idx_lt hk, w]
      simp only [cond_true, Option.bind_some]
      rw [eqIntS_eq S[k] S[k] (by unfold szT at sz; omega)]
      simp)
    (by
      simp only [laws_eqIntSS_n3]
      rw [decide_eq_false (show ¬ ((S.length : Nat) : Int) < ((S.length : Nat) : Int) by omega)]
      rfl) LL (by simp only [LL]; omega)
  have lp' := lp
  rw [show ((0 : Nat) : Int) = 0 from rfl] at lp'
  simp only [bne_self_eq_false, cond_false, Option.bind_some, Sum.elim_inl]
  rw [lp']
  rfl

end

section
variable {S : List (List Int)} (sz : szT S ≤ 1048576)
include sz

/-- Rows marked by numbers, one after another. -/
def markSSm (m : Nat) (S : List (List Int)) (k : Nat) : List (List Int) := (List.range k).map fun i => marks (m + tot (S.take i)) (S.getD i []).length
omit sz in
theorem markSSm_succ (m : Nat) (S : List (List Int)) (k : Nat) : markSSm m S (k + 1) = markSSm m S k ++ [marks (m + tot (S.take k)) (S.getD k []).length] := by
  unfold markSSm
  rw [List.range_succ, List.map_append]
  rfl
omit sz in
theorem markSSm_length (m : Nat) (S : List (List Int)) (k : Nat) : (markSSm m S k).length = k := by unfold markSSm; simp

theorem markIntSSm_eq (m : Nat) (hm : m ≤ 2097152) : laws_markIntSS (m : Int) S = some (((m + tot S : Nat) : Int), markSSm m S S.length) := by
  have e : laws_markIntSS (m : Int) S = laws_markIntSS_n9 (m : Int) S := by unfold laws_markIntSS; rfl
  have s1 : S.length ≤ 1048576 := by unfold szT at sz; omega
  rw [e]
  unfold laws_markIntSS_n9 laws_markIntSS_n1 laws_markIntSS_n8 laws_markIntSS_n6 laws_markIntSS_n2 laws_markIntSS_n5 laws_markIntSS_n4 laws_markIntSS_n7
  have lp := nloop_to (body := fun (s : Int × Int × (List (List Int))) => ((laws_markIntSS_n3 s.1 s.2.1 s.2.2).map (Sum.elim (fun (t : Int × Int × (List (List Int))) => Sum.inl (t.1, t.2.1, t.2.2)) (fun (t : Int × (List (List Int))) => Sum.inr t)) : Option ((Int × Int × (List (List Int))) ⊕ ((Int × (List (List Int)))))))
    (fun k => (((m + tot (S.take k) : Nat) : Int), (k : Int), markSSm m S k ++ S.drop k)) S.length (((m + tot S : Nat) : Int), markSSm m S S.length)
    (by
      intro k hk
      have rl := row_le hk
      have tt := tot_take hk
      have tl := tot_le S k
      have ml := markSSm_length m S k
      have gd : S.getD k [] = S[k] := by rw [List.getD_eq_getElem?_getD, List.getElem?_eq_getElem hk, Option.getD_some]
      have w : IntKind.wrap .i64 ((k : Int) + 1) = ((k + 1 : Nat) : Int) := by rw [wrap64 (by omega) (by omega)]; omega
      have len : (markSSm m S k ++ S.drop k).length = S.length := by rw [List.length_append, ml, List.length_drop]; omega
      have g : (markSSm m S k ++ S.drop k)[k]? = some S[k] := by
        rw [List.getElem?_append_right (by omega), ml, Nat.sub_self, List.drop_eq_getElem_cons hk]
        rfl
      simp only [laws_markIntSS_n3, len]
      rw [decide_eq_true (show (k : Int) < ((S.length : Nat) : Int) by omega), inb_nat hk, w]
      simp only [cond_true, Option.bind_some, g]
      rw [markIntS_eq (m + tot (S.take k)) S[k] (by unfold szT at sz; omega) (by unfold szT at sz; omega)]
      simp only [Option.bind_some, Option.map_some, Sum.elim_inl]
      congr 3
      · rw [tt, Nat.add_assoc]
      · congr 1
        rw [List.set_set, List.set_append_right _ _ (by omega), ml, Nat.sub_self, List.drop_eq_getElem_cons hk, List.set_cons_zero, markSSm_succ, gd, List.append_assoc]
        rfl)
    (by
      have ml := markSSm_length m S S.length
      simp only [laws_markIntSS_n3]
      rw [List.drop_length, List.append_nil, ml, decide_eq_false (show ¬ ((S.length : Nat) : Int) < ((S.length : Nat) : Int) by omega), List.take_of_length_le (Nat.le_refl _)]
      rfl) LL (by simp only [LL]; omega)
  have lp' := lp
  rw [show markSSm m S 0 = [] from rfl, List.nil_append, List.drop_zero, show ((0 : Nat) : Int) = 0 from rfl, show ((m + tot (S.take 0) : Nat) : Int) = (m : Int) by rw [List.take_zero]; rfl] at lp'
  simp only [Option.bind_some]
  rw [lp']
  rfl

theorem heldIntSSm_eq (m : Nat) (hm : m ≤ 2097152) : laws_heldIntSS (markSSm m S S.length) (m : Int) = some ((m + tot S : Nat) : Int) := by
  have e : laws_heldIntSS (markSSm m S S.length) (m : Int) = laws_heldIntSS_n9 (markSSm m S S.length) (m : Int) := by unfold laws_heldIntSS; rfl
  have s1 : S.length ≤ 1048576 := by unfold szT at sz; omega
  rw [e]
  unfold laws_heldIntSS_n9 laws_heldIntSS_n1 laws_heldIntSS_n8 laws_heldIntSS_n6 laws_heldIntSS_n2 laws_heldIntSS_n5 laws_heldIntSS_n4 laws_heldIntSS_n7
  have ml := markSSm_length m S S.length
  have lp := nloop_to (body := fun (s : Int × Int) => ((laws_heldIntSS_n3 (markSSm m S S.length) s.1 s.2).map (Sum.elim (fun (t : Int × Int) => Sum.inl (t.1, t.2)) (Sum.elim (fun (t : Int) => Sum.inr (Sum.inl t)) (fun (t : Int) => Sum.inr (Sum.inr t)))) : Option ((Int × Int) ⊕ (Int ⊕ Int))))
    (fun k => (((m + tot (S.take k) : Nat) : Int), (k : Int))) S.length (Sum.inr ((m + tot S : Nat) : Int))
    (by
      intro k hk
      have rl := row_le hk
      have tt := tot_take hk
      have tl := tot_le S k
      have gd : S.getD k [] = S[k] := by rw [List.getD_eq_getElem?_getD, List.getElem?_eq_getElem hk, Option.getD_some]
      have w : IntKind.wrap .i64 ((k : Int) + 1) = ((k + 1 : Nat) : Int) := by rw [wrap64 (by omega) (by omega)]; omega
      have g : idx (markSSm m S S.length) (k : Int) = some (marks (m + tot (S.take k)) S[k].length) := by
        rw [idx_nat]
        unfold markSSm
        rw [List.getElem?_map, List.getElem?_range hk, Option.map_some, gd]
      simp only [laws_heldIntSS_n3, ml]
      rw [decide_eq_true (show (k : Int) < ((S.length : Nat) : Int) by omega), g, w]
      simp only [cond_true, Option.bind_some]
      rw [heldIntS_eq (m + tot (S.take k)) S[k].length (by unfold szT at sz; omega) (by unfold szT at sz; omega)]
      simp only [Option.bind_some]
      rw [decide_eq_false (show ¬ ((m + tot (S.take k) + S[k].length : Nat) : Int) < 0 by omega), tt, Nat.add_assoc]
      rfl)
    (by
      simp only [laws_heldIntSS_n3, ml]
      rw [decide_eq_false (show ¬ ((S.length : Nat) : Int) < ((S.length : Nat) : Int) by omega), List.take_of_length_le (Nat.le_refl _)]
      rfl) LL (by simp only [LL]; omega)
  have lp' := lp
  rw [show ((0 : Nat) : Int) = 0 from rfl, show ((m + tot (S.take 0) : Nat) : Int) = (m : Int) by rw [List.take_zero]; rfl] at lp'
  simp only [Option.bind_some]
  rw [lp']
  rfl

end

theorem cloneI_eq (x : List Int) (h : x.length ≤ 1099511627776) : slices_Clone_int_int x = some x := by
  unfold slices_Clone_int_int cloneD
  rw [if_pos h]
theorem implNewDesk_eq (n : List Int) (p : List (List Int)) (hn : n.length ≤ 1048576) (hp : p.length ≤ 1048576) (hs : ∀ x ∈ p, x.length ≤ 1048576) : impl_newDesk n p = some (n, p) := by
  have e : impl_newDesk n p = impl_newDesk_n9 n p := by unfold impl_newDesk; rfl
  rw [e]
  unfold impl_newDesk_n9 impl_newDesk_n1 impl_newDesk_n8 impl_newDesk_n6 impl_newDesk_n2 impl_newDesk_n5 impl_newDesk_n4 impl_newDesk_n7
  rw [cloneI_eq n (by omega)]
  simp only [Option.bind_some]
  have w : ∀ k : Nat, k < p.length → IntKind.wrap .i64 ((k : Int) + 1) = ((k + 1 : Nat) : Int) := fun k hk => by rw [wrap64 (by omega) (by omega)]; omega
  have L := nloop_to (body := fun (s : Int × (List (List Int))) => ((impl_newDesk_n3 p ((p.length : Nat) : Int) s.1 s.2).map (Sum.elim (fun (t : Int × (List (List Int))) => Sum.inl (t.1, t.2)) (fun (t : (List (List Int))) => Sum.inr t)) : Option ((Int × (List (List Int))) ⊕ (((List (List Int)))))))
    (fun k => ((k : Int), p.take k)) p.length p
    (fun k hk => by
      have lt : (p.take k).length = k := by rw [List.length_take]; omega
      unfold impl_newDesk_n3
      simp only
      rw [decide_eq_true (show (k : Int) < ((p.length : Nat) : Int) by omega), idx_lt hk]
      simp only [cond_true, Option.bind_some]
      rw [cloneI_eq _ (by have := hs _ (List.getElem_mem hk); omega), Option.bind_some, room_le (by omega)]
      simp only [Option.bind_some, w k hk, lt]
      have : (p.take k ++ [[]]).set k p[k] = p.take (k + 1) := by
        rw [List.take_succ_eq_append_getElem hk, List.set_append, if_neg (by omega), lt, Nat.sub_self]
        rfl
      rw [this]
      rfl)
    (by
      unfold impl_newDesk_n3
      simp only
      rw [decide_eq_false (show ¬ ((p.length : Nat) : Int) < ((p.length : Nat) : Int) by omega), List.take_length]
      rfl) LL (by simp only [LL]; omega)
  have L' : nloop _ LL ((0 : Int), ([] : List (List Int))) = _ := L
  rw [L']
  rfl

theorem implDeskNew_eq (h : List Int) : impl_DeskNew h = some ((newDk h).1, (newDk h).2, ([] : List (List Int))) := by
  have e : impl_DeskNew h = impl_DeskNew_n1 h := by unfold impl_DeskNew; rfl
  rw [e]
  unfold impl_DeskNew_n1 newDk
  rw [implTree_eq, Option.bind_some]
  cases t : treeB h with
  | false => rfl
  | true =>
    rw [implNewDesk_eq h [] (by have := (tree_len t).2; omega) (by simp) (by simp)]
    rfl

end Go.Rv
