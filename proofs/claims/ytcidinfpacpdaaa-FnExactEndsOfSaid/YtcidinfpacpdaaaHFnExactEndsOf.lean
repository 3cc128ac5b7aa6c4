/-
  Plain mathematics of what the law reaches. Conditions: none.
-/
import Derived.Test.YtcidinfpacpdaaaGFnExactEndsOf
set_option linter.unusedVariables false
set_option linter.unusedSimpArgs false
namespace Go.Rv
theorem nloop_run {σ ω : Type} {body : σ → Option (σ ⊕ ω)} (I : σ → Prop) (μ : σ → Nat) (f : σ → ω)
    (h : ∀ s, I s → (∃ s', body s = some (.inl s') ∧ I s' ∧ μ s' < μ s ∧ f s' = f s) ∨ body s = some (.inr (f s))) : ∀ (n : Nat) (s : σ), I s → μ s < n → nloop body n s = some (f s)
  | 0, s, _, hn => by omega
  | n + 1, s, hi, hn => by
    rcases h s hi with ⟨s', hb, hi', hm, hf⟩ | hb
    · simp only [nloop, hb, Option.bind_some]
      rw [nloop_run I μ f h n s' hi' (by omega), hf]
    · simp only [nloop, hb, Option.bind_some]

/-- A loop that counts from a number on: state (k, x), k < n goes on. -/
theorem wrap64 {x : Int} (h1 : -9223372036854775808 ≤ x) (h2 : x ≤ 9223372036854775807) : IntKind.wrap .i64 x = x := by
  simp only [IntKind.wrap, IntKind.bits, IntKind.signed]
  simp
  omega

theorem idx_nat {α : Type} (xs : List α) (k : Nat) : idx xs (k : Int) = xs[k]? := by simp [idx]
theorem idx_lt {α : Type} {xs : List α} {k : Nat} (h : k < xs.length) : idx xs (k : Int) = some xs[k] := by simp [idx, h]
theorem inb_nat {k n : Nat} (h : k < n) : inb (k : Int) n = some k := by
  simp only [inb]
  rw [if_pos (by omega)]
  simp
theorem mk_nat {n : Nat} (h : n ≤ 1099511627776) : mk (n : Int) (n : Int) = some n := by
  simp only [mk]
  rw [if_pos (by omega)]
  simp
theorem room_le {n : Nat} (h : n ≤ 1099511627776) : room n = some () := by simp [room, h]

theorem toIntS_eq (xs : List Int) (h : xs.length ≤ 1048576) : laws_toIntS xs = some xs := by
  have hl := nloop_run (body := fun (s : Int × (List Int)) => ((laws_toIntS_n3 xs s.1 s.2).map (Sum.elim (fun (t : Int × (List Int)) => Sum.inl (t.1, t.2)) (fun (t : (List Int)) => Sum.inr t)) : Option ((Int × (List Int)) ⊕ (((List Int))))))
    (I := fun s => ∃ k : Nat, s.1 = k ∧ k ≤ xs.length ∧ s.2.length = xs.length) (μ := fun s => xs.length - s.1.toNat) (f := fun s => s.2.take s.1.toNat ++ xs.drop s.1.toNat)
    (by
      rintro ⟨_, out⟩ ⟨k, rfl, hk, ho⟩
      simp only at ho
      by_cases hlt : k < xs.length
      · left
        refine ⟨((k + 1 : Nat), out.set k xs[k]), ?_, ⟨k + 1, rfl, hlt, by simpa using ho⟩, by simp; omega, ?_⟩
        · simp only [laws_toIntS_n3]
          rw [show decide ((k : Int) < ((xs.length : Nat) : Int)) = true from decide_eq_true (by omega)]
          simp only [cond_true, idx_lt hlt, Option.bind_some, inb_nat (show k < out.length by omega)]
          rw [wrap64 (by omega) (by omega)]
          simp
        · simp only [Int.toNat_natCast]
          rw [List.take_set, List.take_add_one, List.getElem?_eq_getElem (by omega)]
          have hl : (out.take k).length = k := by simp; omega
          rw [List.set_append_right _ _ (by omega), hl]
          simp
      · right
        have e : k = xs.length := by omega
        subst e
        simp only [laws_toIntS_n3]
        rw [show decide (((xs.length : Nat) : Int) < ((xs.length : Nat) : Int)) = false from decide_eq_false (by omega)]
        simp [List.take_of_length_le (Nat.le_of_eq ho)])
  unfold laws_toIntS laws_toIntS_n9 laws_toIntS_n1 laws_toIntS_n8 laws_toIntS_n6 laws_toIntS_n2 laws_toIntS_n5 laws_toIntS_n4 laws_toIntS_n7
  rw [mk_nat (by omega)]
  simp only [Option.bind_some]
  rw [hl LL (0, List.replicate xs.length 0) ⟨0, by simp, by omega, by simp⟩ (by simp only [LL]; simp; omega)]
  simp

theorem drop_cons {α : Type} {xs : List α} {k : Nat} (h : k < xs.length) : xs.drop k = xs[k] :: xs.drop (k + 1) := List.drop_eq_getElem_cons h

theorem drop_beq {xs ys : List Int} {k : Nat} (h1 : k < xs.length) (h2 : k < ys.length) : (xs.drop k == ys.drop k) = (xs[k] == ys[k] && xs.drop (k + 1) == ys.drop (k + 1)) := by
  rw [drop_cons h1, drop_cons h2]
  rfl

theorem eqIntS_eq (xs ys : List Int) (h : xs.length ≤ 1048576) : laws_eqIntS xs ys = some (xs == ys) := by
  unfold laws_eqIntS laws_eqIntS_n9 laws_eqIntS_n1 laws_eqIntS_n8 laws_eqIntS_n6 laws_eqIntS_n5 laws_eqIntS_n4 laws_eqIntS_n2 laws_eqIntS_n7
  by_cases hl : xs.length = ys.length
  · have hloop := nloop_run (body := fun (s : Int) => ((laws_eqIntS_n3 xs ys s).map (Sum.elim (fun (t : Int) => Sum.inl t) (Sum.elim (fun (t : Bool) => Sum.inr (Sum.inl t)) (fun (t : Unit) => Sum.inr (Sum.inr t)))) : Option ((Int) ⊕ (Bool ⊕ Unit))))
      (I := fun s => ∃ k : Nat, s = k ∧ k ≤ xs.length) (μ := fun s => xs.length - s.toNat) (f := fun s => cond (xs.drop s.toNat == ys.drop s.toNat) (.inr ()) (.inl false))
      (by
        rintro _ ⟨k, rfl, hk⟩
        by_cases hlt : k < xs.length
        · have hlt' : k < ys.length := by omega
          simp only [laws_eqIntS_n3]
          rw [show decide ((k : Int) < ((xs.length : Nat) : Int)) = true from decide_eq_true (by omega)]
          simp only [cond_true, idx_lt hlt, idx_lt hlt', Option.bind_some, Int.toNat_natCast]
          rw [wrap64 (by omega) (by omega), drop_beq hlt hlt']
          by_cases he : xs[k] = ys[k]
          · left
            refine ⟨((k + 1 : Nat) : Int), by simp [he], ⟨k + 1, rfl, hlt⟩, by simp; omega, by simp [he]⟩
          · right
            have e1 : (xs[k] == ys[k]) = false := by simpa using he
            simp [bne, e1]
        · right
          have e : k = xs.length := by omega
          subst e
          simp only [laws_eqIntS_n3]
          rw [show decide (((xs.length : Nat) : Int) < ((xs.length : Nat) : Int)) = false from decide_eq_false (by omega)]
          simp [List.drop_of_length_le (Nat.le_of_eq hl.symm)])
    rw [show ((((xs.length : Nat) : Int)) != (((ys.length : Nat) : Int))) = false by simp [hl]]
    simp only [cond_false, Option.bind_some, Sum.elim_inl]
    rw [hloop LL 0 ⟨0, by simp, by omega⟩ (by simp only [LL]; simp; omega)]
    simp only [Int.toNat_zero, List.drop_zero]
    cases xs == ys <;> rfl
  · rw [show ((((xs.length : Nat) : Int)) != (((ys.length : Nat) : Int))) = true by simp; omega]
    have : (xs == ys) = false := by
      rw [beq_eq_false_iff_ne]
      exact fun e => hl (by rw [e])
    rw [this]; rfl

/-- From a word to the root, with so many steps at most: the root, and how many steps lead to it. -/
def climb (h : List Int) : Nat → Nat → Option (Nat × Nat)
  | 0, _ => none
  | f + 1, w => match h[w - 1]? with
    | none => none
    | some x => if x = 0 then some (w, 0) else (climb h f x.toNat).map fun p => (p.1, p.2 + 1)

def okHead (n : Nat) (x : Int) : Bool := decide (0 ≤ x) && decide (x ≤ n)

def inRange (h : List Int) : Bool := h.all (okHead h.length)

/-- The heads of a tree. -/
def treeB (h : List Int) : Bool :=
  decide (1 ≤ h.length) && decide (h.length ≤ 8) && inRange h && (h.count 0 == 1) && (List.range h.length).all fun k => (climb h h.length (k + 1)).isSome

theorem all_drop_cons {h : List Int} {p : Int → Bool} {k : Nat} (hk : k < h.length) : (h.drop k).all p = (p h[k] && (h.drop (k + 1)).all p) := by
  rw [drop_cons hk]; rfl

theorem count_drop_cons {h : List Int} {k : Nat} (hk : k < h.length) : (h.drop k).count 0 = (if h[k] = 0 then 1 else 0) + (h.drop (k + 1)).count 0 := by
  rw [drop_cons hk, List.count_cons]
  by_cases e : h[k] = 0 <;> simp [e] <;> omega

theorem oneRoot_eq (h : List Int) (hl : h.length ≤ 1048576) : impl_oneRoot h = some (inRange h && (h.count 0 == 1)) := by
  have hloop := nloop_run (body := fun (s : Int × Int) => ((impl_oneRoot_n3 h s.1 h.length s.2).map (Sum.elim (fun (t : Int × Int) => Sum.inl (t.1, t.2)) (Sum.elim (fun (t : Bool) => Sum.inr (Sum.inl t)) (fun (t : Int) => Sum.inr (Sum.inr t)))) : Option ((Int × Int) ⊕ (Bool ⊕ Int))))
    (I := fun s => ∃ k r : Nat, s = ((r : Int), (k : Int)) ∧ k ≤ h.length ∧ r ≤ k) (μ := fun s => h.length - s.2.toNat)
    (f := fun s => cond ((h.drop s.2.toNat).all (okHead h.length)) (.inr (s.1 + ((h.drop s.2.toNat).count 0 : Nat))) (.inl false))
    (by
      rintro _ ⟨k, r, rfl, hk, hr⟩
      by_cases hlt : k < h.length
      · simp only [impl_oneRoot_n3]
        rw [show decide ((k : Int) < ((h.length : Nat) : Int)) = true from decide_eq_true (by omega)]
        simp only [cond_true, idx_lt hlt, Option.bind_some, Int.toNat_natCast]
        rw [wrap64 (x := (k : Int) + 1) (by omega) (by omega), wrap64 (x := (r : Int) + 1) (by omega) (by omega), all_drop_cons hlt, count_drop_cons hlt]
        by_cases h1 : h[k] < 0
        · right
          have : okHead h.length h[k] = false := by simp [okHead]; omega
          simp [h1, this]
        · by_cases h2 : h[k] > (h.length : Int)
          · right
            have : okHead h.length h[k] = false := by simp [okHead]; omega
            simp [h1, h2, this]
          · left
            have hok : okHead h.length h[k] = true := by simp [okHead]; omega
            by_cases h3 : h[k] = 0
            · refine ⟨(((r + 1 : Nat) : Int), ((k + 1 : Nat) : Int)), ?_, ⟨k + 1, r + 1, rfl, hlt, by omega⟩, by simp; omega, ?_⟩
              · have h4 : decide ((h.length : Int) < 0) = false := decide_eq_false (by omega)
                simp [h3, h4]
              · have e : ((k + 1 : Nat) : Int).toNat = k + 1 := by simp
                rw [e, hok]
                simp only [h3, if_true, Bool.true_and]
                congr 2
                push_cast
                omega
            · refine ⟨((r : Int), ((k + 1 : Nat) : Int)), ?_, ⟨k + 1, r, rfl, hlt, by omega⟩, by simp; omega, ?_⟩
              · have e1 : (h[k] == 0) = false := by simpa using h3
                have e2 : decide (h[k] < 0) = false := decide_eq_false h1
                have e3 : decide (h[k] > (h.length : Int)) = false := decide_eq_false h2
                simp [e1, e2, e3]
              · have e : ((k + 1 : Nat) : Int).toNat = k + 1 := by simp
                rw [e, hok]
                simp [h3]
      · right
        have e : k = h.length := by omega
        subst e
        simp only [impl_oneRoot_n3]
        rw [show decide (((h.length : Nat) : Int) < ((h.length : Nat) : Int)) = false from decide_eq_false (by omega)]
        simp)
  unfold impl_oneRoot impl_oneRoot_n9 impl_oneRoot_n1 impl_oneRoot_n8 impl_oneRoot_n6 impl_oneRoot_n2 impl_oneRoot_n5 impl_oneRoot_n4
  simp only [Option.bind_some]
  rw [hloop LL (0, 0) ⟨0, 0, rfl, by omega, by omega⟩ (by simp only [LL]; simp; omega)]
  simp only [Int.toNat_zero, List.drop_zero]
  unfold inRange
  cases ha : h.all (okHead h.length) with
  | false => simp
  | true =>
    simp only [cond_true, Option.map_some, Sum.elim_inr, Option.bind_some, Sum.elim_inl, impl_oneRoot_n7, Bool.true_and]
    congr 1
    by_cases e : h.count 0 = 1
    · simp [e]
    · have e1 : ((0 : Int) + ((h.count 0 : Nat) : Int) == 1) = false := by rw [beq_eq_false_iff_ne]; omega
      have e2 : (h.count 0 == 1) = false := by rw [beq_eq_false_iff_ne]; exact e
      rw [e2]; exact e1

theorem inRange_get {h : List Int} (hr : inRange h = true) {k : Nat} (hk : k < h.length) : 0 ≤ h[k] ∧ h[k] ≤ h.length := by
  have := List.all_eq_true.1 hr h[k] (List.getElem_mem hk)
  simpa [okHead] using this

theorem up_eq (h : List Int) (k : Nat) (s : Nat) (hk : k < h.length) (hl : h.length ≤ 1048576) (hs : s ≤ h.length) :
    impl_walker_up h ((k + 1 : Nat) : Int) (s : Int) = some (if h[k] = 0 then (false, ((k + 1 : Nat) : Int), (s : Int)) else (true, h[k], ((s + 1 : Nat) : Int))) := by
  unfold impl_walker_up impl_walker_up_n1
  rw [wrap64 (by omega) (by omega), show ((k + 1 : Nat) : Int) - 1 = (k : Int) by omega, idx_lt hk]
  simp only [Option.bind_some]
  rw [wrap64 (by omega) (by omega)]
  by_cases e : h[k] = 0
  · simp [e]
  · have e1 : (h[k] == 0) = false := by simpa using e
    simp [e, e1]

theorem steps_eq (h : List Int) (hl : h.length ≤ 1048576) (hr : inRange h = true) (k : Nat) (hk : k < h.length) :
    impl_stepsToRoot h ((k + 1 : Nat) : Int) = some (match climb h h.length (k + 1) with | some p => ((p.2 : Int), true) | none => (0, false)) := by
  have hloop := nloop_run (body := fun (s : Int × Int) => ((impl_stepsToRoot_n2 h s.1 s.2).map (Sum.elim (fun (t : Int × Int) => Sum.inl (t.1, t.2)) (Sum.elim (fun (t : Int × Bool) => Sum.inr (Sum.inl t)) (fun (t : Int × Int) => Sum.inr (Sum.inr t)))) : Option ((Int × Int) ⊕ ((Int × Bool) ⊕ (Int × Int)))))
    (I := fun s => ∃ k i : Nat, s = (((k + 1 : Nat) : Int), (i : Int)) ∧ k < h.length ∧ i < h.length) (μ := fun s => h.length - s.2.toNat)
    (f := fun s => match climb h (h.length - s.2.toNat) s.1.toNat with | some p => .inr ((p.1 : Int), s.2 + (p.2 : Int)) | none => .inl (0, false))
    (by
      rintro _ ⟨k, i, rfl, hk, hi⟩
      simp only [impl_stepsToRoot_n2]
      rw [up_eq h k i hk hl (by omega)]
      obtain ⟨hr1, hr2⟩ := inRange_get hr hk
      have hf : h.length - i = (h.length - i - 1) + 1 := by omega
      have hg : h[k + 1 - 1]? = some h[k] := by simp [hk]
      have hcl : climb h (h.length - i) (k + 1) = if h[k] = 0 then some (k + 1, 0) else (climb h (h.length - i - 1) h[k].toNat).map fun p => (p.1, p.2 + 1) := by
        rw [hf]; simp only [climb, hg]; simp
      simp only [Option.bind_some, Int.toNat_natCast]
      rw [hcl]
      by_cases e : h[k] = 0
      · right
        simp [e]
      · simp only [e, if_false, cond_true]
        by_cases hlast : i + 1 ≥ h.length
        · right
          have h0 : h.length - i - 1 = 0 := by omega
          have hd : decide (((i + 1 : Nat) : Int) ≥ ((h.length : Nat) : Int)) = true := decide_eq_true (by omega)
          simp only [hd, h0, climb]
          simp
        · left
          have hd : decide (((i + 1 : Nat) : Int) ≥ ((h.length : Nat) : Int)) = false := decide_eq_false (by omega)
          refine ⟨(h[k], ((i + 1 : Nat) : Int)), by simp only [hd]; simp, ⟨h[k].toNat - 1, i + 1, by
            have : ((h[k].toNat - 1 + 1 : Nat) : Int) = h[k] := by omega
            rw [this], by omega, by omega⟩, by simp; omega, ?_⟩
          have e2 : h.length - ((i + 1 : Nat) : Int).toNat = h.length - i - 1 := by simp; omega
          simp only [e2]
          cases climb h (h.length - i - 1) h[k].toNat with
          | none => rfl
          | some p => simp; omega)
  unfold impl_stepsToRoot impl_stepsToRoot_n7 impl_stepsToRoot_n1 impl_stepsToRoot_n6 impl_stepsToRoot_n4 impl_stepsToRoot_n3
  simp only [Option.bind_some]
  rw [hloop LL (((k + 1 : Nat) : Int), 0) ⟨k, 0, rfl, hk, by omega⟩ (by simp only [LL]; simp; omega)]
  simp only [Int.toNat_natCast, Int.toNat_zero, Nat.sub_zero]
  cases climb h h.length (k + 1) with
  | none => simp
  | some p => simp [impl_stepsToRoot_n5]

theorem implTree_eq (h : List Int) : impl_TreeOk h = some (treeB h) := by
  unfold impl_TreeOk impl_TreeOk_n9 impl_TreeOk_n1 impl_TreeOk_n8 impl_TreeOk_n6 impl_TreeOk_n2 impl_TreeOk_n5 impl_TreeOk_n4
  unfold treeB
  by_cases h1 : h.length < 1
  · have e : decide (1 ≤ h.length) = false := decide_eq_false (by omega)
    have e2 : decide ((((h.length : Nat) : Int)) < 1) = true := decide_eq_true (by omega)
    simp [e, e2]
  · have e1 : decide ((((h.length : Nat) : Int)) < 1) = false := decide_eq_false (by omega)
    have e1' : decide (1 ≤ h.length) = true := decide_eq_true (by omega)
    by_cases h2 : h.length > 8
    · have e : decide (h.length ≤ 8) = false := decide_eq_false (by omega)
      have e2 : decide ((((h.length : Nat) : Int)) > 8) = true := decide_eq_true (by omega)
      simp only [e1, e2, e]
      simp
    · have e2 : decide ((((h.length : Nat) : Int)) > 8) = false := decide_eq_false (by omega)
      have e2' : decide (h.length ≤ 8) = true := decide_eq_true (by omega)
      simp only [e1, e2, e1', e2', cond_false, oneRoot_eq h (by omega), Option.bind_some, Bool.true_and]
      cases hr : inRange h with
      | false => simp
      | true =>
        cases hc : (h.count 0 == 1) with
        | false => simp
        | true =>
          simp only [Bool.true_and, Bool.not_true, cond_false, Option.bind_some, Sum.elim_inl]
          have hloop := nloop_run (body := fun (s : Int) => ((impl_TreeOk_n3 h h.length s).map (Sum.elim (fun (t : Int) => Sum.inl t) (Sum.elim (fun (t : Bool) => Sum.inr (Sum.inl t)) (fun (t : Unit) => Sum.inr (Sum.inr t)))) : Option ((Int) ⊕ (Bool ⊕ Unit))))
            (I := fun s => ∃ k : Nat, s = (k : Int) ∧ k ≤ h.length) (μ := fun s => h.length - s.toNat)
            (f := fun s => cond (((List.range h.length).drop s.toNat).all fun k => (climb h h.length (k + 1)).isSome) (.inr ()) (.inl false))
            (by
              rintro _ ⟨k, rfl, hk⟩
              by_cases hlt : k < h.length
              · simp only [impl_TreeOk_n3]
                rw [show decide ((k : Int) < ((h.length : Nat) : Int)) = true from decide_eq_true (by omega)]
                rw [wrap64 (x := (k : Int) + 1) (by omega) (by omega), show (k : Int) + 1 = ((k + 1 : Nat) : Int) by omega, steps_eq h (by omega) hr k hlt]
                simp only [cond_true, Option.bind_some, Int.toNat_natCast]
                have hd : (List.range h.length).drop k = k :: (List.range h.length).drop (k + 1) := by
                  rw [List.drop_eq_getElem_cons (by simpa using hlt)]
                  simp
                rw [hd]
                simp only [List.all_cons]
                cases hcl : climb h h.length (k + 1) with
                | none => right; simp
                | some p =>
                  left
                  refine ⟨((k + 1 : Nat) : Int), by simp, ⟨k + 1, rfl, hlt⟩, by simp; omega, by simp⟩
              · right
                have e : k = h.length := by omega
                subst e
                simp only [impl_TreeOk_n3]
                rw [show decide (((h.length : Nat) : Int) < ((h.length : Nat) : Int)) = false from decide_eq_false (by omega)]
                simp [List.drop_of_length_le (show (List.range h.length).length ≤ h.length by simp)])
          rw [hloop LL 0 ⟨0, rfl, by omega⟩ (by simp only [LL]; simp; omega)]
          simp only [Int.toNat_zero, List.drop_zero]
          cases ((List.range h.length).all fun k => (climb h h.length (k + 1)).isSome) <;> rfl

theorem l1In_eq (a b c : Int) : spec_l1In a b c = some (decide (b ≤ a) && decide (a ≤ c)) := by
  unfold spec_l1In spec_l1In_n1
  by_cases h : a ≥ b
  · have e : decide (a ≥ b) = true := decide_eq_true h
    rw [e]; rfl
  · have e : decide (a ≥ b) = false := decide_eq_false h
    rw [e]; rfl

/-- The model's way from a word upwards. -/
def goUp (h : List Int) : Nat → Int → Bool ⊕ Int
  | 0, a => .inr a
  | f + 1, a => if 0 < a then (match h[a.toNat - 1]? with
      | some x => if okHead h.length x then goUp h f x else .inl false
      | none => .inl false) else .inr a

theorem inner_eq (h : List Int) (hl : h.length ≤ 8) (a : Int) (ha0 : 0 ≤ a) (ha : a ≤ h.length) : spec_TreeOk_n7 h h.length a = some (goUp h h.length a) := by
  unfold spec_TreeOk_n7
  have hloop := nloop_run (body := fun (s : Int × Int) => ((spec_TreeOk_n6 h h.length s.1 s.2).map (Sum.elim (fun (t : Int × Int) => Sum.inl (t.1, t.2)) (Sum.elim (fun (t : Bool) => Sum.inr (Sum.inl t)) (fun (t : Int) => Sum.inr (Sum.inr t)))) : Option ((Int × Int) ⊕ (Bool ⊕ Int))))
    (I := fun s => ∃ k i : Nat, s = ((k : Int), (i : Int)) ∧ k ≤ h.length ∧ i ≤ h.length) (μ := fun s => h.length - s.2.toNat)
    (f := fun s => goUp h (h.length - s.2.toNat) s.1)
    (by
      rintro _ ⟨k, i, rfl, hk, hi⟩
      simp only [spec_TreeOk_n6, Int.toNat_natCast]
      by_cases h1 : 0 < k
      · have e1 : decide ((k : Int) > 0) = true := decide_eq_true (by omega)
        by_cases h2 : i < h.length
        · have e2 : decide ((i : Int) < ((h.length : Nat) : Int)) = true := decide_eq_true (by omega)
          have hk' : k - 1 < h.length := by omega
          rw [e1, e2, wrap64 (x := (k : Int) - 1) (by omega) (by omega), show (k : Int) - 1 = ((k - 1 : Nat) : Int) by omega, idx_lt hk', wrap64 (x := (i : Int) + 1) (by omega) (by omega)]
          simp only [cond_true, Option.bind_some, l1In_eq]
          have hf : h.length - i = (h.length - i - 1) + 1 := by omega
          have hg : goUp h (h.length - i) (k : Int) = if okHead h.length h[k - 1] then goUp h (h.length - i - 1) h[k - 1] else .inl false := by
            rw [hf]
            simp only [goUp]
            rw [if_pos (by omega)]
            simp [hk']
          rw [hg]
          by_cases h3 : okHead h.length h[k - 1] = true
          · left
            have h3' := h3
            simp only [okHead, Bool.and_eq_true, decide_eq_true_eq] at h3'
            refine ⟨(h[k - 1], ((i + 1 : Nat) : Int)), ?_, ⟨h[k - 1].toNat, i + 1, by
              have : ((h[k - 1].toNat : Nat) : Int) = h[k - 1] := by omega
              rw [this], by omega, by omega⟩, by simp; omega, ?_⟩
            · have e4 : (decide ((0 : Int) ≤ h[k - 1]) && decide (h[k - 1] ≤ ((h.length : Nat) : Int))) = true := h3
              rw [e4]; simp
            · have e5 : h.length - ((i + 1 : Nat) : Int).toNat = h.length - i - 1 := by simp; omega
              simp only [e5, h3, if_true]
          · right
            have h3' : okHead h.length h[k - 1] = false := by simpa using h3
            have e4 : (decide ((0 : Int) ≤ h[k - 1]) && decide (h[k - 1] ≤ ((h.length : Nat) : Int))) = false := h3'
            rw [e4]
            simp [h3']
        · right
          have e2 : decide ((i : Int) < ((h.length : Nat) : Int)) = false := decide_eq_false (by omega)
          have h0 : h.length - i = 0 := by omega
          rw [e1, e2, h0]
          simp [goUp]
      · right
        have hk0 : k = 0 := by omega
        subst hk0
        have e1 : decide (((0 : Nat) : Int) > 0) = false := by simp
        rw [e1]
        cases h.length - i <;> simp [goUp])
  exact hloop LL (a, 0) ⟨a.toNat, 0, by
    have : ((a.toNat : Nat) : Int) = a := by omega
    rw [this]; rfl, by omega, by omega⟩ (by simp only [LL]; simp; omega)

theorem goUp_climb {h : List Int} (hr : inRange h = true) : ∀ (f k : Nat), k < h.length → goUp h f ((k + 1 : Nat) : Int) = (if (climb h f (k + 1)).isSome then .inr 0 else goUp h f ((k + 1 : Nat) : Int)) ∧
    ((climb h f (k + 1)).isSome = false → ∃ a : Int, 0 < a ∧ goUp h f ((k + 1 : Nat) : Int) = .inr a)
  | 0, k, hk => by
    refine ⟨by simp [climb], fun _ => ⟨((k + 1 : Nat) : Int), by omega, rfl⟩⟩
  | f + 1, k, hk => by
    obtain ⟨h1, h2⟩ := inRange_get hr hk
    have hok : okHead h.length h[k] = true := by simp [okHead]; omega
    have hg : goUp h (f + 1) ((k + 1 : Nat) : Int) = goUp h f h[k] := by
      simp only [goUp]
      rw [if_pos (by omega)]
      simp [hk, hok]
    have hc : climb h (f + 1) (k + 1) = if h[k] = 0 then some (k + 1, 0) else (climb h f h[k].toNat).map fun p => (p.1, p.2 + 1) := by
      simp [climb, hk]
    rw [hg, hc]
    by_cases e : h[k] = 0
    · have : goUp h f 0 = .inr 0 := by cases f <;> simp [goUp]
      simp [e, this]
    · obtain ⟨j, hj⟩ : ∃ j : Nat, h[k] = ((j + 1 : Nat) : Int) := ⟨h[k].toNat - 1, by omega⟩
      have ih := goUp_climb hr f j (by omega)
      rw [hj]
      have ne : ¬ ((j + 1 : Nat) : Int) = 0 := by omega
      simp only [ne, if_false, Int.toNat_natCast, Option.isSome_map]
      exact ih

/-- What is asked of one word. -/
def wordOk1 (h : List Int) (k : Nat) : Bool := match h[k]? with
  | some x => okHead h.length x && !(x == ((k + 1 : Nat) : Int)) && (match goUp h h.length ((k + 1 : Nat) : Int) with | .inr a => !decide (a > 0) | .inl _ => false)
  | none => false

theorem specTree_eq0 (h : List Int) : spec_TreeOk h = some (decide (1 ≤ h.length) && decide (h.length ≤ 8) && (List.range h.length).all (wordOk1 h) && (h.count 0 == 1)) := by
  unfold spec_TreeOk spec_TreeOk_n22 spec_TreeOk_n1
  rw [l1In_eq]
  by_cases h1 : (decide ((1 : Int) ≤ ((h.length : Nat) : Int)) && decide (((h.length : Nat) : Int) ≤ 8)) = true
  · have h1' := h1
    simp only [Bool.and_eq_true, decide_eq_true_eq] at h1'
    have e1 : decide (1 ≤ h.length) = true := decide_eq_true (by omega)
    have e2 : decide (h.length ≤ 8) = true := decide_eq_true (by omega)
    simp only [h1, e1, e2, Option.bind_some, Bool.not_true, cond_false, Sum.elim_inl, Bool.true_and]
    unfold spec_TreeOk_n21 spec_TreeOk_n19 spec_TreeOk_n2 spec_TreeOk_n18 spec_TreeOk_n17
    have hloop := nloop_run (body := fun (s : Int × Int) => ((spec_TreeOk_n16 h h.length s.1 s.2).map (Sum.elim (fun (t : Int × Int) => Sum.inl (t.1, t.2)) (Sum.elim (fun (t : Bool) => Sum.inr (Sum.inl t)) (fun (t : Int) => Sum.inr (Sum.inr t)))) : Option ((Int × Int) ⊕ (Bool ⊕ Int))))
      (I := fun s => ∃ k r : Nat, s = ((r : Int), (k : Int)) ∧ k ≤ h.length ∧ r ≤ k) (μ := fun s => h.length - s.2.toNat)
      (f := fun s => cond (((List.range h.length).drop s.2.toNat).all (wordOk1 h)) (.inr (s.1 + ((h.drop s.2.toNat).count 0 : Nat))) (.inl false))
      (by
        rintro _ ⟨k, r, rfl, hk, hr⟩
        by_cases hlt : k < h.length
        · have hd : (List.range h.length).drop k = k :: (List.range h.length).drop (k + 1) := by
            rw [List.drop_eq_getElem_cons (by simpa using hlt)]
            simp
          simp only [spec_TreeOk_n16, spec_TreeOk_n3, Int.toNat_natCast]
          rw [show decide ((k : Int) < ((h.length : Nat) : Int)) = true from decide_eq_true (by omega)]
          simp only [cond_true, Option.bind_some, Sum.elim_inl]
          unfold spec_TreeOk_n15 spec_TreeOk_n13 spec_TreeOk_n12 spec_TreeOk_n4 spec_TreeOk_n14 spec_TreeOk_n11 spec_TreeOk_n9 spec_TreeOk_n5 spec_TreeOk_n8 spec_TreeOk_n10
          have hw : IntKind.wrap .i64 ((k : Int) + 1) = ((k + 1 : Nat) : Int) := by rw [wrap64 (by omega) (by omega)]; omega
          have hw2 : IntKind.wrap .i64 ((r : Int) + 1) = ((r + 1 : Nat) : Int) := by rw [wrap64 (by omega) (by omega)]; omega
          simp only [idx_lt hlt, Option.bind_some, l1In_eq, hw, hw2]
          rw [hd, List.all_cons, count_drop_cons hlt]
          have hwk : wordOk1 h k = (okHead h.length h[k] && !(h[k] == ((k + 1 : Nat) : Int)) && (match goUp h h.length ((k + 1 : Nat) : Int) with | .inr a => !decide (a > 0) | .inl _ => false)) := by
            simp [wordOk1, hlt]
          have hin := inner_eq h (by omega) ((k + 1 : Nat) : Int) (by omega) (by omega)
          rw [hwk]
          cases h3 : okHead h.length h[k] with
          | false =>
            right
            have e4 : (decide ((0 : Int) ≤ h[k]) && decide (h[k] ≤ ((h.length : Nat) : Int))) = false := h3
            rw [e4]; simp
          | true =>
            have e4 : (decide ((0 : Int) ≤ h[k]) && decide (h[k] ≤ ((h.length : Nat) : Int))) = true := h3
            rw [e4]
            simp only [Bool.not_true, cond_false, Bool.true_and]
            cases h5 : (h[k] == ((k + 1 : Nat) : Int)) with
            | true => right; simp
            | false =>
              simp only [cond_false, Bool.not_false, Bool.true_and]
              by_cases h6 : h[k] = 0
              · simp only [h6, beq_self_eq_true, cond_true, Option.bind_some, Sum.elim_inl, Option.map_some, hin, if_true]
                cases h7 : goUp h h.length ((k + 1 : Nat) : Int) with
                | inl b =>
                  right
                  have : b = false := by
                    have key : ∀ f a b, goUp h f a = .inl b → b = false := by
                      intro f
                      induction f with
                      | zero => intro a b hh; simp [goUp] at hh
                      | succ f ih =>
                        intro a b hh
                        simp only [goUp] at hh
                        split at hh
                        · split at hh
                          · split at hh
                            · exact ih _ _ hh
                            · simpa using hh.symm
                          · simpa using hh.symm
                        · cases hh
                    exact key _ _ _ h7
                  subst this
                  simp
                | inr a =>
                  by_cases h8 : a > 0
                  · right
                    simp [h8]
                  · left
                    refine ⟨(((r + 1 : Nat) : Int), ((k + 1 : Nat) : Int)), by simp [h8], ⟨k + 1, r + 1, rfl, hlt, by omega⟩, by simp; omega, ?_⟩
                    have e : ((k + 1 : Nat) : Int).toNat = k + 1 := by simp
                    simp only [e, h8, decide_false, Bool.not_false, Bool.true_and]
                    congr 2
                    push_cast
                    omega
              · have e9 : (h[k] == 0) = false := by simpa using h6
                simp only [e9, cond_false, Option.bind_some, Sum.elim_inl, Option.map_some, hin, h6, if_false]
                cases h7 : goUp h h.length ((k + 1 : Nat) : Int) with
                | inl b =>
                  right
                  have : b = false := by
                    have key : ∀ f a b, goUp h f a = .inl b → b = false := by
                      intro f
                      induction f with
                      | zero => intro a b hh; simp [goUp] at hh
                      | succ f ih =>
                        intro a b hh
                        simp only [goUp] at hh
                        split at hh
                        · split at hh
                          · split at hh
                            · exact ih _ _ hh
                            · simpa using hh.symm
                          · simpa using hh.symm
                        · cases hh
                    exact key _ _ _ h7
                  subst this
                  simp
                | inr a =>
                  by_cases h8 : a > 0
                  · right
                    simp [h8]
                  · left
                    refine ⟨((r : Int), ((k + 1 : Nat) : Int)), by simp [h8], ⟨k + 1, r, rfl, hlt, by omega⟩, by simp; omega, ?_⟩
                    have e : ((k + 1 : Nat) : Int).toNat = k + 1 := by simp
                    simp only [e, h8, decide_false, Bool.not_false, Bool.true_and]
                    congr 2
                    omega
        · right
          have e : k = h.length := by omega
          subst e
          simp only [spec_TreeOk_n16, spec_TreeOk_n3]
          rw [show decide (((h.length : Nat) : Int) < ((h.length : Nat) : Int)) = false from decide_eq_false (by omega)]
          simp [List.drop_of_length_le (show (List.range h.length).length ≤ h.length by simp)])
    simp only [Option.bind_some]
    rw [hloop LL (0, 0) ⟨0, 0, rfl, by omega, by omega⟩ (by simp only [LL]; simp; omega)]
    simp only [Int.toNat_zero, List.drop_zero, Option.bind_some]
    cases (List.range h.length).all (wordOk1 h) with
    | false => simp
    | true =>
      simp only [cond_true, Option.map_some, Sum.elim_inr, Option.bind_some, Sum.elim_inl, spec_TreeOk_n20, Bool.true_and]
      congr 1
      by_cases e : h.count 0 = 1
      · simp [e]
      · have e1 : ((0 : Int) + ((h.count 0 : Nat) : Int) == 1) = false := by rw [beq_eq_false_iff_ne]; omega
        have e2 : (h.count 0 == 1) = false := by rw [beq_eq_false_iff_ne]; exact e
        rw [e2]; exact e1
  · have h1' : (decide ((1 : Int) ≤ ((h.length : Nat) : Int)) && decide (((h.length : Nat) : Int) ≤ 8)) = false := by simpa using h1
    have e : (decide (1 ≤ h.length) && decide (h.length ≤ 8)) = false := by
      simp only [Bool.and_eq_true, decide_eq_true_eq] at h1
      simp only [Bool.and_eq_false_iff, decide_eq_false_iff_not]
      omega
    rw [h1']
    simp [e]

theorem specTree_eq (h : List Int) : spec_TreeOk h = some (treeB h) := by
  rw [specTree_eq0]
  congr 1
  unfold treeB
  have key : (List.range h.length).all (wordOk1 h) = (inRange h && (List.range h.length).all fun k => (climb h h.length (k + 1)).isSome) := by
    cases hr : inRange h with
    | false =>
      rw [Bool.false_and, List.all_eq_false]
      have : ¬ ∀ x ∈ h, okHead h.length x = true := fun hh => by
        have : inRange h = true := List.all_eq_true.2 hh
        rw [hr] at this; cases this
      have ⟨x, hx⟩ := Classical.not_forall.1 this
      have ⟨hm, hb⟩ := Classical.not_imp.1 hx
      obtain ⟨k, hk, rfl⟩ := List.getElem_of_mem hm
      refine ⟨k, by simpa using hk, ?_⟩
      simp [wordOk1, hk, hb]
    | true =>
      rw [Bool.true_and, Bool.eq_iff_iff, List.all_eq_true, List.all_eq_true]
      constructor
      · intro hh k hk
        have hk' : k < h.length := by simpa using hk
        have h1 := hh k hk
        cases hc : (climb h h.length (k + 1)).isSome with
        | true => rfl
        | false =>
          obtain ⟨a, ha, hg⟩ := (goUp_climb hr h.length k hk').2 hc
          have hg' : goUp h h.length ((k : Int) + 1) = .inr a := hg
          simp [wordOk1, hk', hg', ha] at h1
      · intro hh k hk
        have hk' : k < h.length := by simpa using hk
        have h1 := hh k hk
        have h2 := (goUp_climb hr h.length k hk').1
        rw [if_pos h1] at h2
        obtain ⟨h3, h4⟩ := inRange_get hr hk'
        have hok : okHead h.length h[k] = true := by simp [okHead]; omega
        have hself : ¬ h[k] = ((k + 1 : Nat) : Int) := fun e => by
          -- a word that is its own head never comes to the root
          have none : ∀ f, climb h f (k + 1) = none := by
            intro f
            induction f with
            | zero => rfl
            | succ f ih =>
              simp only [climb]
              have : h[k + 1 - 1]? = some h[k] := by simp [hk']
              rw [this]
              simp only
              rw [if_neg (by omega), e]
              simp [ih]
          rw [none] at h1
          cases h1
        have h2' : goUp h h.length ((k : Int) + 1) = .inr 0 := h2
        have hself' : ¬ h[k] = (k : Int) + 1 := hself
        simp [wordOk1, hk', hok, h2', hself']
  rw [key]
  cases inRange h <;> simp [Bool.and_comm, Bool.and_assoc, Bool.and_left_comm]

theorem climb_mono {h : List Int} : ∀ {f w : Nat} {p : Nat × Nat}, climb h f w = some p → climb h (f + 1) w = some p
  | 0, w, p, e => by simp [climb] at e
  | f + 1, w, p, e => by
    simp only [climb] at e
    rw [climb]
    split at e
    · cases e
    · rename_i x hx
      split at e
      · rename_i h0
        simp only [h0, if_true]; exact e
      · rename_i h0
        simp only [h0, if_false]
        obtain ⟨q, hq, rfl⟩ := Option.map_eq_some_iff.1 e
        rw [climb_mono hq]; rfl

theorem climb_le {h : List Int} {f g w : Nat} {p : Nat × Nat} (hfg : f ≤ g) (e : climb h f w = some p) : climb h g w = some p := by
  induction hfg with
  | refl => exact e
  | step _ ih => exact climb_mono ih

theorem climb_root {h : List Int} : ∀ {f w : Nat} {p : Nat × Nat}, climb h f w = some p → h[p.1 - 1]? = some 0
  | 0, w, p, e => by simp [climb] at e
  | f + 1, w, p, e => by
    simp only [climb] at e
    split at e
    · cases e
    · rename_i x hx
      split at e
      · rename_i h0
        cases e
        rw [hx, h0]
      · obtain ⟨q, hq, rfl⟩ := Option.map_eq_some_iff.1 e
        show h[q.1 - 1]? = some 0
        exact climb_root hq

theorem climb_pos {h : List Int} (hr : inRange h = true) : ∀ {f w : Nat} {p : Nat × Nat}, 1 ≤ w → climb h f w = some p → 1 ≤ p.1
  | 0, w, p, _, e => by simp [climb] at e
  | f + 1, w, p, hw, e => by
    simp only [climb] at e
    split at e
    · cases e
    · rename_i x hx
      split at e
      · cases e; exact hw
      · rename_i h0
        obtain ⟨q, hq, rfl⟩ := Option.map_eq_some_iff.1 e
        obtain ⟨hlt, hx'⟩ := List.getElem?_eq_some_iff.1 hx
        have := inRange_get hr hlt
        show 1 ≤ q.1
        exact climb_pos hr (by rw [hx'] at this; omega) hq

/-- What a tree is. -/
structure Tree (h : List Int) : Prop where
  pos : 1 ≤ h.length
  le : h.length ≤ 8
  rng : inRange h = true
  one : h.count 0 = 1
  way : ∀ k, k < h.length → (climb h h.length (k + 1)).isSome = true

theorem tree_iff (h : List Int) : treeB h = true ↔ Tree h := by
  unfold treeB
  simp only [Bool.and_eq_true, decide_eq_true_eq, beq_iff_eq, List.all_eq_true]
  constructor
  · rintro ⟨⟨⟨⟨h1, h2⟩, h3⟩, h4⟩, h5⟩
    exact ⟨h1, h2, h3, h4, fun k hk => h5 k (by simpa using hk)⟩
  · rintro ⟨h1, h2, h3, h4, h5⟩
    exact ⟨⟨⟨⟨h1, h2⟩, h3⟩, h4⟩, fun k hk => h5 k (by simpa using hk)⟩

/-- The head of a word, both from 1 on; 0 for none. -/
def hd (h : List Int) (w : Nat) : Nat := (h.getD (w - 1) 0).toNat

/-- How deep a word is. -/
def dep (h : List Int) (w : Nat) : Nat := ((climb h h.length w).getD (0, 0)).2
def top (h : List Int) : Nat := h.idxOf 0 + 1
section
variable {h : List Int} (T : Tree h)
include T

theorem Tree.get {w : Nat} (h1 : 1 ≤ w) (h2 : w ≤ h.length) : h[w - 1]? = some ((hd h w : Nat) : Int) := by
  have hk : w - 1 < h.length := by omega
  have := inRange_get T.rng hk
  rw [List.getElem?_eq_getElem hk, hd, List.getD_eq_getElem?_getD, List.getElem?_eq_getElem hk]
  simp only [Option.getD_some, Option.some.injEq]
  omega

theorem Tree.hd_le {w : Nat} (h1 : 1 ≤ w) (h2 : w ≤ h.length) : hd h w ≤ h.length := by
  have hk : w - 1 < h.length := by omega
  have := inRange_get T.rng hk
  rw [hd, List.getD_eq_getElem?_getD, List.getElem?_eq_getElem hk]
  simp only [Option.getD_some]
  omega

theorem Tree.top_lt : h.idxOf 0 < h.length := by
  rw [List.idxOf_lt_length_iff]
  exact List.count_pos_iff.1 (by rw [T.one]; omega)

/-- Just one word has no head. -/
theorem Tree.root_unique {i : Nat} (hi : h[i]? = some 0) : i = h.idxOf 0 := by
  have hlt := T.top_lt
  have h0 : h[h.idxOf 0]? = some 0 := by rw [List.getElem?_eq_getElem hlt]; simp
  -- two places would count twice
  have two : ∀ (l : List Int) (i j : Nat), i < j → l[i]? = some 0 → l[j]? = some 0 → 2 ≤ l.count 0 := by
    intro l
    induction l with
    | nil => intro i j _ h1; simp at h1
    | cons a r ih =>
      intro i j hij h1 h2
      cases j with
      | zero => omega
      | succ j =>
        rw [List.count_cons]
        cases i with
        | zero =>
          simp at h1 h2
          have : 0 < r.count 0 := List.count_pos_iff.2 (List.mem_of_getElem? h2)
          rw [h1]
          simp only [beq_self_eq_true, if_true]
          omega
        | succ i =>
          simp at h1 h2
          have := ih i j (by omega) h1 h2
          omega
  rcases Nat.lt_trichotomy i (h.idxOf 0) with hl | he | hg
  · have := two h i _ hl hi h0; have := T.one; omega
  · exact he
  · have := two h _ i hg h0 hi; have := T.one; omega

theorem Tree.climb_some {w : Nat} (h1 : 1 ≤ w) (h2 : w ≤ h.length) : climb h h.length w = some (top h, dep h w) := by
  have hs := T.way (w - 1) (by omega)
  rw [show w - 1 + 1 = w by omega] at hs
  obtain ⟨p, hp⟩ := Option.isSome_iff_exists.1 hs
  have hr := climb_root hp
  have h3 := T.root_unique hr
  have h4 := climb_pos T.rng h1 hp
  have e1 : p.1 = top h := by unfold top; omega
  have e2 : dep h w = p.2 := by simp [dep, hp]
  rw [hp, e2, ← e1]

theorem Tree.dep_step {w : Nat} (h1 : 1 ≤ w) (h2 : w ≤ h.length) (h3 : hd h w ≠ 0) : dep h w = dep h (hd h w) + 1 := by
  have hc := T.climb_some h1 h2
  have hg := T.get h1 h2
  have hc2 := T.climb_some (w := hd h w) (by omega) (T.hd_le h1 h2)
  obtain ⟨n, hn⟩ : ∃ n, h.length = n + 1 := ⟨h.length - 1, by have := T.pos; omega⟩
  rw [hn] at hc
  simp only [climb, hg] at hc
  rw [if_neg (by omega)] at hc
  simp only [Int.toNat_natCast] at hc
  obtain ⟨q, hq, e⟩ := Option.map_eq_some_iff.1 hc
  have hq2 := climb_le (show n ≤ h.length by omega) hq
  rw [hc2] at hq2
  cases hq2
  simp at e
  exact e.symm

end

theorem set_take {l : List Int} {k : Nat} {v : Int} (hk : k < l.length) : (l.set k v).take (k + 1) = l.take k ++ [v] := by
  rw [List.take_set, List.take_add_one, List.getElem?_eq_getElem hk]
  have hl : (l.take k).length = k := by simp; omega
  rw [List.set_append_right _ _ (by omega), hl]
  simp

def pairB (a b : Int) : Bool := decide (1 ≤ a ∧ 1 ≤ b ∧ a ≠ b)
theorem arcBetween_eq (a b : Int) : impl_arcBetween a b = some (if pairB a b then (true, imin a b, imax a b) else (false, 0, 0)) := by
  unfold impl_arcBetween impl_arcBetween_n1 pairB
  by_cases h1 : a < 1
  · rw [decide_eq_true h1, decide_eq_false (show ¬ (1 ≤ a ∧ 1 ≤ b ∧ a ≠ b) by omega)]; rfl
  · rw [decide_eq_false h1]
    by_cases h2 : b < 1
    · rw [decide_eq_true h2, decide_eq_false (show ¬ (1 ≤ a ∧ 1 ≤ b ∧ a ≠ b) by omega)]; rfl
    · rw [decide_eq_false h2]
      by_cases h3 : a = b
      · rw [decide_eq_false (show ¬ (1 ≤ a ∧ 1 ≤ b ∧ a ≠ b) by omega), h3]; simp
      · rw [decide_eq_true (show 1 ≤ a ∧ 1 ≤ b ∧ a ≠ b by omega), show (a == b) = false from beq_eq_false_iff_ne.2 h3]; rfl

theorem nloop_to {σ ω : Type} {body : σ → Option (σ ⊕ ω)} (S : Nat → σ) (n : Nat) (w : ω) (hs : ∀ k, k < n → body (S k) = some (.inl (S (k + 1)))) (he : body (S n) = some (.inr w)) :
    ∀ (N : Nat), n < N → nloop body N (S 0) = some w := by
  have key : ∀ (m k N : Nat), k + m = n → m < N → nloop body N (S k) = some w := by
    intro m
    induction m with
    | zero =>
      intro k N hk hN
      obtain ⟨N', rfl⟩ : ∃ N', N = N' + 1 := ⟨N - 1, by omega⟩
      have : k = n := by omega
      subst this
      simp only [nloop, he, Option.bind_some]
    | succ m ih =>
      intro k N hk hN
      obtain ⟨N', rfl⟩ : ∃ N', N = N' + 1 := ⟨N - 1, by omega⟩
      simp only [nloop, hs k (by omega), Option.bind_some]
      exact ih (k + 1) N' (by omega) (by omega)
  intro N hN
  exact key n 0 N (by omega) hN

/-- The arcs of the first k words, the lesser end first. -/
def arcsK (h : List Int) (k : Nat) : List (Int × Int) := ((List.range k).filter fun i => decide (h.getD i 0 > 0)).map fun (i : Nat) => (imin ((i : Int) + 1) (h.getD i 0), imax ((i : Int) + 1) (h.getD i 0))
def arcsP (h : List Int) : List (Int × Int) := arcsK h h.length

theorem arcsK_length (h : List Int) (k : Nat) : (arcsK h k).length ≤ k := by
  unfold arcsK
  rw [List.length_map]
  exact Nat.le_trans (List.length_filter_le _ _) (by simp)

theorem arcsK_succ (h : List Int) (k : Nat) : arcsK h (k + 1) = if h.getD k 0 > 0 then arcsK h k ++ [(imin ((k : Int) + 1) (h.getD k 0), imax ((k : Int) + 1) (h.getD k 0))] else arcsK h k := by
  unfold arcsK
  have hf : List.filter (fun i => decide (h.getD i 0 > 0)) [k] = if decide (h.getD k 0 > 0) = true then [k] else [] := by simp only [List.filter_cons, List.filter_nil]
  rw [List.range_succ, List.filter_append, List.map_append, hf]
  by_cases e : h.getD k 0 > 0
  · rw [if_pos e, if_pos (decide_eq_true e)]; rfl
  · rw [if_neg e, if_neg (fun x => e (of_decide_eq_true x))]
    exact List.append_nil _

def asArc (p : Int × Int) : Int × Int × Unit := (p.1, p.2, ())

theorem Tree.getD_hd {h : List Int} (T : Tree h) {k : Nat} (hk : k < h.length) : h.getD k 0 = ((hd h (k + 1) : Nat) : Int) := by
  have hg := T.get (w := k + 1) (by omega) (by omega)
  rw [Nat.add_sub_cancel] at hg
  rw [List.getD_eq_getElem?_getD, hg]; rfl

/-- No word is its own head. -/
theorem Tree.hd_other {h : List Int} (T : Tree h) {w : Nat} (h1 : 1 ≤ w) (h2 : w ≤ h.length) : hd h w ≠ w := by
  intro e
  have := T.dep_step h1 h2 (by omega)
  rw [e] at this
  omega

theorem implArcs_eq {h : List Int} (T : Tree h) : impl_arcsOf h = some ((arcsP h).map asArc) := by
  have e : impl_arcsOf h = impl_arcsOf_n9 h := by unfold impl_arcsOf; rfl
  have hle := T.le
  rw [e]
  unfold impl_arcsOf_n9 impl_arcsOf_n1 impl_arcsOf_n8 impl_arcsOf_n6 impl_arcsOf_n2 impl_arcsOf_n5 impl_arcsOf_n4 impl_arcsOf_n7
  have hmk : mk 0 ((h.length : Nat) : Int) = some 0 := by
    simp only [mk]
    rw [if_pos (by omega)]
    rfl
  have hloop := nloop_to (body := fun (s : Int × (List (Int × Int × Unit))) => ((impl_arcsOf_n3 h h.length s.1 s.2).map (Sum.elim (fun (t : Int × (List (Int × Int × Unit))) => Sum.inl (t.1, t.2)) (fun (t : (List (Int × Int × Unit))) => Sum.inr t)) : Option ((Int × (List (Int × Int × Unit))) ⊕ (((List (Int × Int × Unit)))))))
    (fun k => ((k : Int), (arcsK h k).map asArc)) h.length ((arcsP h).map asArc)
    (by
      intro k hk
      have hlen := arcsK_length h k
      have hg := T.getD_hd hk
      have hi : idx h (k : Int) = some ((hd h (k + 1) : Nat) : Int) := by
        rw [idx_lt hk, ← hg]; simp [List.getD, hk]
      have hne := T.hd_other (w := k + 1) (by omega) (by omega)
      have hh := T.hd_le (w := k + 1) (by omega) (by omega)
      simp only [impl_arcsOf_n3]
      rw [show decide ((k : Int) < ((h.length : Nat) : Int)) = true from decide_eq_true (by omega), hi, wrap64 (x := (k : Int) + 1) (by omega) (by omega), arcsK_succ, hg]
      simp only [cond_true, Option.bind_some, arcBetween_eq]
      by_cases e : hd h (k + 1) = 0
      · have hp : pairB ((k : Int) + 1) ((hd h (k + 1) : Nat) : Int) = false := decide_eq_false (by omega)
        rw [hp, if_neg (show ¬ ((hd h (k + 1) : Nat) : Int) > 0 by omega)]
        rfl
      · have hp : pairB ((k : Int) + 1) ((hd h (k + 1) : Nat) : Int) = true := decide_eq_true (by omega)
        rw [hp, if_pos (show ((hd h (k + 1) : Nat) : Int) > 0 by omega), if_pos rfl]
        simp only [cond_true]
        rw [room_le (by simp; omega)]
        simp [asArc])
    (by
      simp only [impl_arcsOf_n3]
      rw [show decide (((h.length : Nat) : Int) < ((h.length : Nat) : Int)) = false from decide_eq_false (by omega)]
      rfl)
  have hl2 := hloop LL (by simp only [LL]; omega)
  rw [hmk]
  simp only [Option.bind_some]
  rw [show ((0 : Int), (List.replicate 0 ((0 : Int), ((0 : Int), ())))) = (((0 : Nat) : Int), (arcsK h 0).map asArc) from rfl, hl2]
  rfl

/-- The arc of a word that has a head. -/
theorem mem_arcs {h : List Int} (T : Tree h) {p : Int × Int} : p ∈ arcsP h ↔ ∃ w, 1 ≤ w ∧ w ≤ h.length ∧ hd h w ≠ 0 ∧ p = (imin (w : Int) ((hd h w : Nat) : Int), imax (w : Int) ((hd h w : Nat) : Int)) := by
  unfold arcsP arcsK
  rw [List.mem_map]
  constructor
  · rintro ⟨i, hi, rfl⟩
    rw [List.mem_filter, List.mem_range, decide_eq_true_eq] at hi
    rw [T.getD_hd hi.1] at hi ⊢
    refine ⟨i + 1, by omega, by omega, by omega, ?_⟩
    rw [show ((i + 1 : Nat) : Int) = (i : Int) + 1 by omega]
  · rintro ⟨w, h1, h2, h3, rfl⟩
    refine ⟨w - 1, ?_, ?_⟩
    · rw [List.mem_filter, List.mem_range, decide_eq_true_eq, T.getD_hd (by omega), show w - 1 + 1 = w by omega]
      omega
    · rw [T.getD_hd (show w - 1 < h.length by omega), show w - 1 + 1 = w by omega, show ((w - 1 : Nat) : Int) + 1 = (w : Int) by omega]

theorem arc_ends {h : List Int} (T : Tree h) {p : Int × Int} (hp : p ∈ arcsP h) : 1 ≤ p.1 ∧ p.1 < p.2 ∧ p.2 ≤ (h.length : Nat) := by
  obtain ⟨w, h1, h2, h3, rfl⟩ := (mem_arcs T).1 hp
  have hh := T.hd_le h1 h2
  have hne := T.hd_other h1 h2
  unfold imin imax
  simp only
  split <;> split <;> omega

/-- A word is under another one: from head to head one comes to it. -/
inductive Und (h : List Int) : Nat → Nat → Prop
  | refl {a : Nat} (h1 : 1 ≤ a) (h2 : a ≤ h.length) : Und h a a
  | step {a b : Nat} (h1 : 1 ≤ a) (h2 : a ≤ h.length) (h3 : hd h a ≠ 0) (u : Und h (hd h a) b) : Und h a b

def Betw (a b j : Nat) : Prop := (a < j ∧ j < b) ∨ (b < j ∧ j < a)
/-- The sum of what belongs to each number below n. -/
def sumR (f : Nat → Nat) : Nat → Nat
  | 0 => 0
  | n + 1 => sumR f n + f n

theorem sumR_congr {f g : Nat → Nat} : ∀ {n : Nat}, (∀ i, i < n → f i = g i) → sumR f n = sumR g n
  | 0, _ => rfl
  | n + 1, h => by rw [sumR, sumR, sumR_congr fun i hi => h i (by omega), h n (by omega)]

theorem sumR_le {f g : Nat → Nat} : ∀ {n : Nat}, (∀ i, i < n → f i ≤ g i) → sumR f n ≤ sumR g n
  | 0, _ => Nat.le_refl _
  | n + 1, h => by
    have := sumR_le fun i (hi : i < n) => h i (by omega)
    have := h n (by omega)
    rw [sumR, sumR]
    omega

theorem sumR_add (f g : Nat → Nat) : ∀ n, sumR (fun i => f i + g i) n = sumR f n + sumR g n
  | 0 => rfl
  | n + 1 => by
    rw [sumR, sumR, sumR, sumR_add f g n]
    omega

theorem sumR_const (c : Nat) : ∀ n, sumR (fun _ => c) n = n * c
  | 0 => by simp [sumR]
  | n + 1 => by rw [sumR, sumR_const c n, Nat.succ_mul]

/-- One for what holds, none for what does not. -/
def ind (b : Bool) : Nat := if b then 1 else 0
theorem ind_le (b : Bool) : ind b ≤ 1 := by cases b <;> simp [ind]

theorem sumR_ind (p : Nat → Bool) : ∀ n, sumR (fun i => ind (p i)) n = (List.range n).countP p
  | 0 => rfl
  | n + 1 => by
    rw [sumR, sumR_ind p n, List.range_succ, List.countP_append]
    cases h : p n <;> simp [ind, h]

theorem sumR_zero {f : Nat → Nat} : ∀ {n : Nat}, sumR f n = 0 ↔ ∀ i, i < n → f i = 0
  | 0 => by simp [sumR]
  | n + 1 => by
    rw [sumR]
    constructor
    · intro h i hi
      by_cases e : i = n
      · subst e; omega
      · exact (sumR_zero (n := n)).mp (by omega) i (by omega)
    · intro h
      have := (sumR_zero (n := n)).mpr fun i hi => h i (by omega)
      have := h n (by omega)
      omega

/-- All but one are nothing. -/
theorem sumR_single {f : Nat → Nat} : ∀ {n k : Nat}, k < n → (∀ i, i < n → i ≠ k → f i = 0) → sumR f n = f k
  | n + 1, k, hk, h => by
    rw [sumR]
    by_cases e : k = n
    · subst e
      rw [sumR_zero.mpr fun i hi => h i (by omega) (by omega)]
      omega
    · rw [sumR_single (n := n) (k := k) (by omega) fun i hi ne => h i (by omega) ne, h n (by omega) (by omega)]
      omega

/-- How many words depend on a word. -/
def kidsN (h : List Int) (w : Nat) : Nat := (List.range h.length).countP fun i => hd h (i + 1) == w

/-- How many arcs end at a word. -/
def endsW (h : List Int) (w : Nat) : Nat := kidsN h w + if hd h w = 0 then 0 else 1

theorem kidsN_sum (h : List Int) (w : Nat) : kidsN h w = sumR (fun i => ind (hd h (i + 1) == w)) h.length := by rw [sumR_ind]; rfl

section
variable {h : List Int} (T : Tree h)
include T

theorem hd_self {w : Nat} (w1 : 1 ≤ w) (w2 : w ≤ h.length) : hd h w ≠ w := by
  intro e
  have := T.dep_step w1 w2 (by omega)
  rw [e] at this
  omega

end

/-- The words that have a head, each less 1. -/
def arcsW (h : List Int) : List Nat := (List.range h.length).filter fun i => hd h (i + 1) != 0
/-- Whether the arc of a word, less 1, ends at a word. -/
def touchB (h : List Int) (w a : Nat) : Bool := a + 1 == w || hd h (a + 1) == w
theorem mem_arcsW {h : List Int} {a : Nat} : a ∈ arcsW h ↔ a < h.length ∧ hd h (a + 1) ≠ 0 := by
  unfold arcsW
  rw [List.mem_filter, List.mem_range, bne_iff_ne]

section
variable {h : List Int} (T : Tree h)
include T

theorem touch_count {w : Nat} (w1 : 1 ≤ w) (w2 : w ≤ h.length) : (arcsW h).countP (touchB h w) = endsW h w := by
  unfold arcsW endsW
  rw [List.countP_filter, ← sumR_ind, kidsN_sum]
  have one : (if hd h w = 0 then 0 else 1) = sumR (fun i => ind (i + 1 == w && hd h (i + 1) != 0)) h.length := by
    rw [sumR_single (k := w - 1) (by omega) fun i _ ne => by
      rw [show (i + 1 == w) = false from beq_eq_false_iff_ne.mpr (by omega)]
      rfl]
    rw [show w - 1 + 1 = w by omega, beq_self_eq_true, Bool.true_and]
    by_cases z : hd h w = 0
    · rw [z]; rfl
    · rw [if_neg z, show (hd h w != 0) = true from bne_iff_ne.mpr z]
      rfl
  rw [one, ← sumR_add]
  refine sumR_congr fun i hi => ?_
  have ne := hd_self T (show 1 ≤ i + 1 by omega) (show i + 1 ≤ h.length by omega)
  unfold touchB
  by_cases z : hd h (i + 1) = 0
  · rw [z, show (0 == w) = false from beq_eq_false_iff_ne.mpr (by omega), show ((0 : Nat) != 0) = false from rfl, Bool.and_false, Bool.and_false]
    rfl
  · rw [show (hd h (i + 1) != 0) = true from bne_iff_ne.mpr z, Bool.and_true, Bool.and_true]
    by_cases e : i + 1 = w
    · rw [e] at ne ⊢
      rw [show (hd h w == w) = false from beq_eq_false_iff_ne.mpr ne, beq_self_eq_true]
      rfl
    · rw [show (i + 1 == w) = false from beq_eq_false_iff_ne.mpr e, Bool.false_or]
      simp [ind]

end

/-- What holds of the machine: the next word, the stack from its top, the heads. -/
structure MInv (n i : Nat) (st : List Nat) (h : List Int) : Prop where
  len : h.length = n
  lo : 1 ≤ i
  hi : i ≤ n + 1
  ne : st = [] → i = 1
  dec : st.Pairwise (· > ·)
  rng : ∀ s ∈ st, 1 ≤ s ∧ s < i ∧ hd h s = 0
  num : ∀ x ∈ h, 0 ≤ x ∧ x ≤ (n : Int)
  rank : ∃ (m : Nat) (ρ : Nat → Nat), m + st.length + 1 = i ∧ ∀ w, 1 ≤ w → w < i → w ∉ st → ρ w < m ∧ 1 ≤ hd h w ∧ hd h w < i ∧ (hd h w ∈ st ∨ ρ w < ρ (hd h w))
  near : ∀ j, 1 ≤ j → j < i → ∃ s ∈ st, Und h j s ∧ ∀ t ∈ st, ¬ Betw j s t
  below : ∀ w j, 1 ≤ w → w < i → hd h w ≠ 0 → Betw w (hd h w) j → Und h j (hd h w)

theorem MInv.get {n i : Nat} {st : List Nat} {h : List Int} (M : MInv n i st h) {w : Nat} (w1 : 1 ≤ w) (w2 : w ≤ n) : h[w - 1]? = some ((hd h w : Nat) : Int) := by
  have hl := M.len
  have lt : w - 1 < h.length := by omega
  have := M.num _ (List.getElem_mem lt)
  rw [List.getElem?_eq_getElem lt]
  unfold hd
  rw [List.getD_eq_getElem?_getD, List.getElem?_eq_getElem lt, Option.getD_some]
  congr 1
  omega

theorem room_ok {n : Nat} (h : n ≤ 1099511627776) : room n = some () := by unfold room; rw [if_pos h]

def endsI (h : List Int) : List Int := if treeB h then (List.range h.length).map fun k => ((endsW h (k + 1) : Nat) : Int) else []
theorem endsI_length {h : List Int} (t : treeB h = true) : (endsI h).length = h.length := by unfold endsI; rw [if_pos t]; simp
theorem endsI_get {h : List Int} (t : treeB h = true) {k : Nat} (hk : k < h.length) : (endsI h)[k]? = some ((endsW h (k + 1) : Nat) : Int) := by
  unfold endsI
  rw [if_pos t]
  simp [hk]

theorem kids_loop {h : List Int} (T : Tree h) {k e0 : Nat} (hk : k < h.length) (he : e0 ≤ 1) : spec_EndsOf_n7 h (k : Int) (e0 : Int) = some ((kidsN h (k + 1) + e0 : Nat) : Int) := by
  unfold spec_EndsOf_n7
  have l8 := T.le
  have ob : ∀ j, j ≤ h.length → sumR (fun i => ind (hd h (i + 1) == k + 1)) j ≤ 8 := fun j hj => by
    have := sumR_le (f := fun i => ind (hd h (i + 1) == k + 1)) (g := fun _ => 1) (n := j) fun i _ => ind_le _
    rw [sumR_const] at this
    omega
  have w0 : IntKind.wrap .i64 ((k : Int) + 1) = ((k + 1 : Nat) : Int) := by rw [wrap64 (by omega) (by omega)]; omega
  have lp := nloop_to (body := fun (s : Int × Int) => ((spec_EndsOf_n6 h (k : Int) s.1 s.2).map (Sum.elim (fun (t : Int × Int) => Sum.inl (t.1, t.2)) (fun (t : Int) => Sum.inr t)) : Option ((Int × Int) ⊕ (Int))))
    (fun j => (((sumR (fun i => ind (hd h (i + 1) == k + 1)) j + e0 : Nat) : Int), (j : Int))) h.length ((kidsN h (k + 1) + e0 : Nat) : Int)
    (by
      intro j hj
      have g := T.get (w := j + 1) (by omega) (by omega)
      rw [Nat.add_sub_cancel] at g
      have b := ob j (by omega)
      simp only [spec_EndsOf_n6]
      rw [decide_eq_true (show (j : Int) < ((h.length : Nat) : Int) by omega), idx_nat, g, w0]
      simp only [cond_true, Option.bind_some]
      have w : IntKind.wrap .i64 ((j : Int) + 1) = ((j + 1 : Nat) : Int) := by rw [wrap64 (by omega) (by omega)]; omega
      have w2 : IntKind.wrap .i64 (((sumR (fun i => ind (hd h (i + 1) == k + 1)) j + e0 : Nat) : Int) + 1) = ((sumR (fun i => ind (hd h (i + 1) == k + 1)) j + 1 + e0 : Nat) : Int) := by rw [wrap64 (by omega) (by omega)]; omega
      rw [w, w2, sumR]
      by_cases q : hd h (j + 1) = k + 1
      · rw [show (((hd h (j + 1) : Nat) : Int) == ((k + 1 : Nat) : Int)) = true from beq_iff_eq.mpr (by omega), show (hd h (j + 1) == k + 1) = true from beq_iff_eq.mpr q]
        rfl
      · rw [show (((hd h (j + 1) : Nat) : Int) == ((k + 1 : Nat) : Int)) = false from beq_eq_false_iff_ne.mpr (by omega), show (hd h (j + 1) == k + 1) = false from beq_eq_false_iff_ne.mpr q]
        rfl)
    (by
      simp only [spec_EndsOf_n6]
      rw [decide_eq_false (show ¬ ((h.length : Nat) : Int) < ((h.length : Nat) : Int) by omega), kidsN_sum]
      rfl) LL (by simp only [LL]; omega)
  have lp' := lp
  rw [show sumR (fun i => ind (hd h (i + 1) == k + 1)) 0 + e0 = e0 from Nat.zero_add _, show ((0 : Nat) : Int) = 0 from rfl] at lp'
  exact lp'

theorem specEnds_eq (h : List Int) : spec_EndsOf h = some (endsI h) := by
  have e : spec_EndsOf h = spec_EndsOf_n22 h := by unfold spec_EndsOf; rfl
  rw [e]
  unfold spec_EndsOf_n22 spec_EndsOf_n1 spec_EndsOf_n21 spec_EndsOf_n19 spec_EndsOf_n2 spec_EndsOf_n18 spec_EndsOf_n17 spec_EndsOf_n20 endsI
  simp only [Option.bind_some]
  cases t : treeB h with
  | false =>
    have lp := nloop_to (body := fun (s : Int × (List Int)) => ((spec_EndsOf_n16 h s.1 s.2).map (Sum.elim (fun (t : Int × (List Int)) => Sum.inl (t.1, t.2)) (fun (t : (List Int)) => Sum.inr t)) : Option ((Int × (List Int)) ⊕ (((List Int))))))
      (fun _ => ((0 : Int), ([] : List Int))) 0 ([] : List Int) (fun k hk => absurd hk (by omega))
      (by
        simp only [spec_EndsOf_n16, spec_EndsOf_n3]
        rw [specTree_eq, t]
        by_cases q : 0 < ((h.length : Nat) : Int)
        · rw [decide_eq_true q]
          rfl
        · rw [decide_eq_false q]
          rfl) LL (by simp only [LL]; omega)
    rw [lp]
    rfl
  | true =>
    have T := (tree_iff h).mp t
    have l8 := T.le
    have lp := nloop_to (body := fun (s : Int × (List Int)) => ((spec_EndsOf_n16 h s.1 s.2).map (Sum.elim (fun (t : Int × (List Int)) => Sum.inl (t.1, t.2)) (fun (t : (List Int)) => Sum.inr t)) : Option ((Int × (List Int)) ⊕ (((List Int))))))
      (fun k => ((k : Int), (List.range k).map fun j => ((endsW h (j + 1) : Nat) : Int))) h.length ((List.range h.length).map fun k => ((endsW h (k + 1) : Nat) : Int))
      (by
        intro k hk
        have g := T.get (w := k + 1) (by omega) (by omega)
        rw [Nat.add_sub_cancel] at g
        have w : IntKind.wrap .i64 ((k : Int) + 1) = ((k + 1 : Nat) : Int) := by rw [wrap64 (by omega) (by omega)]; omega
        simp only [spec_EndsOf_n16, spec_EndsOf_n3, spec_EndsOf_n15, spec_EndsOf_n13, spec_EndsOf_n12, spec_EndsOf_n4, spec_EndsOf_n11, spec_EndsOf_n9, spec_EndsOf_n5, spec_EndsOf_n8, spec_EndsOf_n14]
        rw [decide_eq_true (show (k : Int) < ((h.length : Nat) : Int) by omega), specTree_eq, t, idx_nat, g, w]
        simp only [cond_true, Option.bind_some, Sum.elim_inl]
        have kl : ∀ e0 : Nat, e0 ≤ 1 → spec_EndsOf_n7 h (k : Int) (e0 : Int) = some ((kidsN h (k + 1) + e0 : Nat) : Int) := fun e0 he => kids_loop T hk he
        have k0 := kl 0 (by omega)
        have k1 := kl 1 (by omega)
        rw [show ((0 : Nat) : Int) = 0 from rfl] at k0
        rw [show ((1 : Nat) : Int) = 1 from rfl] at k1
        have fin : ∀ v : Int, spec_EndsOf_n10 v ((List.range k).map fun j => ((endsW h (j + 1) : Nat) : Int)) = some (((List.range k).map fun j => ((endsW h (j + 1) : Nat) : Int)) ++ [v]) := fun v => by
          unfold spec_EndsOf_n10
          rw [room_ok (by simp; omega)]
          rfl
        by_cases z : hd h (k + 1) = 0
        · rw [decide_eq_false (show ¬ ((hd h (k + 1) : Nat) : Int) > 0 by omega)]
          simp only [cond_false, Option.bind_some, k0, Option.map_some, fin, Sum.elim_inl]
          have ew : endsW h (k + 1) = kidsN h (k + 1) + 0 := by unfold endsW; rw [if_pos z]
          rw [List.range_succ, List.map_append, List.map_cons, List.map_nil, ew]
        · rw [decide_eq_true (show ((hd h (k + 1) : Nat) : Int) > 0 by omega)]
          simp only [cond_true, Option.bind_some, k1, Option.map_some, fin, Sum.elim_inl]
          have ew : endsW h (k + 1) = kidsN h (k + 1) + 1 := by unfold endsW; rw [if_neg z]
          rw [List.range_succ, List.map_append, List.map_cons, List.map_nil, ew])
      (by
        simp only [spec_EndsOf_n16, spec_EndsOf_n3]
        rw [decide_eq_false (show ¬ ((h.length : Nat) : Int) < ((h.length : Nat) : Int) by omega)]
        rfl) LL (by simp only [LL]; omega)
    have lp' := lp
    rw [show ((0 : Nat) : Int) = 0 from rfl, show (List.range 0).map (fun j => ((endsW h (j + 1) : Nat) : Int)) = [] from rfl] at lp'
    rw [lp']
    rfl

def marks (k n : Nat) : List Int := (List.range n).map fun i => ((k + i : Nat) : Int)
theorem marks_length (k n : Nat) : (marks k n).length = n := by simp [marks]
theorem marks_get (k n : Nat) {i : Nat} (hi : i < n) : (marks k n)[i]'(by rw [marks_length]; exact hi) = ((k + i : Nat) : Int) := by simp [marks]
theorem marks_drop (k n : Nat) {i : Nat} (hi : i < n) : (marks k n).drop i = ((k + i : Nat) : Int) :: (marks k n).drop (i + 1) := by
  rw [List.drop_eq_getElem_cons (by rw [marks_length]; exact hi), marks_get k n hi]

theorem markIntS_eq (k : Nat) (xs : List Int) (h : xs.length ≤ 1048576) (hk : k ≤ 1099511627776) : laws_markIntS k xs = some (((k + xs.length : Nat) : Int), marks k xs.length) := by
  unfold laws_markIntS laws_markIntS_n9 laws_markIntS_n1 laws_markIntS_n8 laws_markIntS_n6 laws_markIntS_n2 laws_markIntS_n5 laws_markIntS_n4 laws_markIntS_n7
  have hloop := nloop_run (body := fun (s : Int × Int × (List Int)) => ((laws_markIntS_n3 s.1 s.2.1 s.2.2).map (Sum.elim (fun (t : Int × Int × (List Int)) => Sum.inl (t.1, t.2.1, t.2.2)) (fun (t : Int × (List Int)) => Sum.inr t)) : Option ((Int × Int × (List Int)) ⊕ ((Int × (List Int))))))
    (I := fun s => ∃ i : Nat, s.1 = ((k + i : Nat) : Int) ∧ s.2.1 = (i : Int) ∧ i ≤ xs.length ∧ s.2.2.length = xs.length) (μ := fun s => xs.length - s.2.1.toNat)
    (f := fun s => (((k + xs.length : Nat) : Int), s.2.2.take s.2.1.toNat ++ (marks k xs.length).drop s.2.1.toNat))
    (by
      rintro ⟨_, _, out⟩ ⟨i, rfl, rfl, hi, ho⟩
      simp only at ho
      simp only [laws_markIntS_n3, Int.toNat_natCast]
      by_cases hlt : i < xs.length
      · left
        refine ⟨(((k + (i + 1) : Nat) : Int), ((i + 1 : Nat) : Int), out.set i ((k + i : Nat) : Int)), ?_, ⟨i + 1, rfl, rfl, hlt, by simpa using ho⟩, by simp; omega, ?_⟩
        · rw [show decide ((i : Int) < ((out.length : Nat) : Int)) = true from decide_eq_true (by omega), inb_nat (show i < out.length by omega), wrap64 (by omega) (by omega), wrap64 (by omega) (by omega)]
          simp; omega
        · simp only [Int.toNat_natCast]
          rw [set_take (by omega), marks_drop k xs.length hlt]
          simp
      · right
        have e : i = xs.length := by omega
        rw [show decide ((i : Int) < ((out.length : Nat) : Int)) = false from decide_eq_false (by omega)]
        subst e
        simp [List.take_of_length_le (Nat.le_of_eq ho), List.drop_of_length_le (Nat.le_of_eq (marks_length k xs.length))])
  simp only [Option.bind_some]
  rw [hloop LL ((k : Int), 0, xs) ⟨0, by simp, by simp, by omega, rfl⟩ (by simp only [LL]; simp; omega)]
  simp

theorem heldIntS_eq (k n : Nat) (h : n ≤ 1048576) (hk : k ≤ 1099511627776) : laws_heldIntS (marks k n) k = some ((k + n : Nat) : Int) := by
  unfold laws_heldIntS laws_heldIntS_n9 laws_heldIntS_n1 laws_heldIntS_n8 laws_heldIntS_n6 laws_heldIntS_n2 laws_heldIntS_n5 laws_heldIntS_n4 laws_heldIntS_n7
  have hloop := nloop_run (body := fun (s : Int × Int) => ((laws_heldIntS_n3 (marks k n) s.1 s.2).map (Sum.elim (fun (t : Int × Int) => Sum.inl (t.1, t.2)) (Sum.elim (fun (t : Int) => Sum.inr (Sum.inl t)) (fun (t : Int) => Sum.inr (Sum.inr t)))) : Option ((Int × Int) ⊕ (Int ⊕ Int))))
    (I := fun s => ∃ i : Nat, s = (((k + i : Nat) : Int), (i : Int)) ∧ i ≤ n) (μ := fun s => n - s.2.toNat) (f := fun s => .inr ((k + n : Nat) : Int))
    (by
      rintro _ ⟨i, rfl, hi⟩
      simp only [laws_heldIntS_n3, marks_length]
      by_cases hlt : i < n
      · left
        refine ⟨(((k + (i + 1) : Nat) : Int), ((i + 1 : Nat) : Int)), ?_, ⟨i + 1, rfl, hlt⟩, by simp; omega, trivial⟩
        rw [show decide ((i : Int) < ((n : Nat) : Int)) = true from decide_eq_true (by omega), idx_lt (by rw [marks_length]; exact hlt), marks_get k n hlt, wrap64 (by omega) (by omega), wrap64 (by omega) (by omega)]
        simp; omega
      · right
        have e : i = n := by omega
        subst e
        rw [show decide ((i : Int) < ((i : Nat) : Int)) = false from decide_eq_false (by omega)]
        simp)
  simp only [Option.bind_some]
  rw [hloop LL ((k : Int), 0) ⟨0, by simp, by omega⟩ (by simp only [LL]; simp; omega)]
  simp

/-- How many arcs of a list end at a place. -/
def endK (A : List (Int × Int)) (v : Nat) : Nat := A.countP fun p => p.1 == (v : Int) || p.2 == (v : Int)

def endL (A : List (Int × Int)) : List Int := (List.range 9).map fun v => ((endK A v : Nat) : Int)

theorem endL_length (A : List (Int × Int)) : (endL A).length = 9 := by simp [endL]
theorem endL_get (A : List (Int × Int)) {v : Nat} (hv : v < 9) : (endL A)[v]? = some ((endK A v : Nat) : Int) := by simp [endL, hv]
theorem endK_le (A : List (Int × Int)) (v : Nat) : endK A v ≤ A.length := List.countP_le_length

theorem endL_step {A : List (Int × Int)} {p : Int × Int} {a b : Nat} (ha : p.1 = (a : Int)) (hb : p.2 = (b : Int)) (ab : a < b) (b9 : b < 9) :
    ((endL A).set a (((endK A a : Nat) : Int) + 1)).set b (((endK A b : Nat) : Int) + 1) = endL (A ++ [p]) := by
  refine List.ext_getElem? fun i => ?_
  rw [List.getElem?_set, List.getElem?_set]
  simp only [List.length_set, endL_length]
  by_cases hi : i < 9
  · rw [endL_get _ hi, endL_get _ hi]
    have e : endK (A ++ [p]) i = endK A i + if i = a ∨ i = b then 1 else 0 := by
      unfold endK
      rw [List.countP_append, List.countP_singleton]
      congr 1
      by_cases q : i = a ∨ i = b
      · rw [if_pos q, if_pos]
        simp only [Bool.or_eq_true, beq_iff_eq]
        omega
      · rw [if_neg q, if_neg]
        simp only [Bool.or_eq_true, beq_iff_eq]
        omega
    rw [e]
    by_cases q1 : b = i
    · subst q1
      rw [if_pos rfl, if_pos b9, if_pos (.inr rfl)]
      rfl
    · rw [if_neg q1]
      by_cases q2 : a = i
      · subst q2
        rw [if_pos rfl, if_pos (by omega), if_pos (.inl rfl)]
        rfl
      · rw [if_neg q2, if_neg (by omega)]
        rfl
  · rw [if_neg (by omega), if_neg (by omega), List.getElem?_eq_none (by rw [endL_length]; omega), List.getElem?_eq_none (by rw [endL_length]; omega)]

theorem countEnds_eq {A : List (Int × Int)} (hl : A.length ≤ 8) (hA : ∀ p ∈ A, 1 ≤ p.1 ∧ p.1 < p.2 ∧ p.2 ≤ 8) :
    impl_countEnds (A.map asArc) = some (((endK A 0 : Nat) : Int), ((endK A 1 : Nat) : Int), ((endK A 2 : Nat) : Int), ((endK A 3 : Nat) : Int), ((endK A 4 : Nat) : Int), ((endK A 5 : Nat) : Int), ((endK A 6 : Nat) : Int), ((endK A 7 : Nat) : Int), ((endK A 8 : Nat) : Int)) := by
  have e : impl_countEnds (A.map asArc) = impl_countEnds_n9 (A.map asArc) := by unfold impl_countEnds; rfl
  rw [e]
  unfold impl_countEnds_n9 impl_countEnds_n1 impl_countEnds_n8 impl_countEnds_n6 impl_countEnds_n2 impl_countEnds_n5 impl_countEnds_n4 impl_countEnds_n7
  have lp := nloop_to (body := fun (s : Int × (List Int)) => ((impl_countEnds_n3 (A.map asArc) ((A.length : Nat) : Int) s.1 s.2).map (Sum.elim (fun (t : Int × (List Int)) => Sum.inl (t.1, t.2)) (fun (t : (List Int)) => Sum.inr t)) : Option ((Int × (List Int)) ⊕ (((List Int))))))
    (fun k => ((k : Int), endL (A.take k))) A.length (endL A)
    (by
      intro k hk
      have hi : idx (A.map asArc) (k : Int) = some (asArc A[k]) := by rw [idx_nat]; simp [hk]
      obtain ⟨p1, p2, p3⟩ := hA A[k] (List.getElem_mem hk)
      obtain ⟨a, ea⟩ : ∃ a : Nat, A[k].1 = (a : Int) := ⟨A[k].1.toNat, by omega⟩
      obtain ⟨b, eb⟩ : ∃ b : Nat, A[k].2 = (b : Int) := ⟨A[k].2.toNat, by omega⟩
      have ab : a < b := by omega
      have b9 : b < 9 := by omega
      have w : IntKind.wrap .i64 ((k : Int) + 1) = ((k + 1 : Nat) : Int) := by rw [wrap64 (by omega) (by omega)]; omega
      have ka := endK_le (A.take k) a
      have kb := endK_le (A.take k) b
      rw [List.length_take] at ka kb
      have wa : IntKind.wrap .i64 (((endK (A.take k) a : Nat) : Int) + 1) = ((endK (A.take k) a : Nat) : Int) + 1 := wrap64 (by omega) (by omega)
      have wb : IntKind.wrap .i64 (((endK (A.take k) b : Nat) : Int) + 1) = ((endK (A.take k) b : Nat) : Int) + 1 := wrap64 (by omega) (by omega)
      simp only [impl_countEnds_n3]
      rw [decide_eq_true (show (k : Int) < ((A.length : Nat) : Int) by omega), hi]
      simp only [cond_true, Option.bind_some, asArc, ea, eb, endL_length, List.length_set]
      rw [show same 9 9 = some () from rfl, inb_nat (show a < 9 by omega), inb_nat b9]
      simp only [Option.bind_some, endL_get _ (show a < 9 by omega), wa]
      rw [List.getElem?_set_ne (show a ≠ b by omega), endL_get _ b9]
      simp only [Option.bind_some, wb, w, Option.map_some, Sum.elim_inl]
      rw [endL_step ea eb ab b9, List.take_append_getElem hk])
    (by
      simp only [impl_countEnds_n3]
      rw [decide_eq_false (show ¬ ((A.length : Nat) : Int) < ((A.length : Nat) : Int) by omega), List.take_length]
      rfl) LL (by simp only [LL]; omega)
  simp only [Option.bind_some, List.length_map]
  have z : (List.replicate 9 (0 : Int)) = endL (A.take 0) := rfl
  rw [z]
  have lp' := lp
  rw [show ((0 : Nat) : Int) = 0 from rfl] at lp'
  rw [lp']
  simp only [Option.map_some, Option.bind_some, endL_length]
  rfl

theorem arcsP_map {h : List Int} (T : Tree h) : arcsP h = (arcsW h).map fun (i : Nat) => (imin ((i : Int) + 1) ((hd h (i + 1) : Nat) : Int), imax ((i : Int) + 1) ((hd h (i + 1) : Nat) : Int)) := by
  have e : arcsP h = (arcsW h).map fun (i : Nat) => (imin ((i : Int) + 1) (h.getD i 0), imax ((i : Int) + 1) (h.getD i 0)) := by
    unfold arcsP arcsK arcsW
    congr 1
    refine List.filter_congr fun i hi => ?_
    rw [List.mem_range] at hi
    have g := T.get (show 1 ≤ i + 1 by omega) (show i + 1 ≤ h.length by omega)
    rw [Nat.add_sub_cancel] at g
    rw [List.getD_eq_getElem?_getD, g, Option.getD_some, Bool.eq_iff_iff, decide_eq_true_eq, bne_iff_ne]
    omega
  rw [e]
  refine List.map_congr_left fun i hi => ?_
  have hi := (mem_arcsW.mp hi).1
  have g := T.get (show 1 ≤ i + 1 by omega) (show i + 1 ≤ h.length by omega)
  rw [Nat.add_sub_cancel] at g
  rw [List.getD_eq_getElem?_getD, g, Option.getD_some]

theorem endK_arcs {h : List Int} (T : Tree h) {w : Nat} (w1 : 1 ≤ w) (w2 : w ≤ h.length) : endK (arcsP h) w = endsW h w := by
  rw [arcsP_map T, endK, List.countP_map, ← touch_count T w1 w2]
  refine List.countP_congr fun i hi => ?_
  unfold touchB
  simp only [Function.comp, Bool.or_eq_true, beq_iff_eq, imin, imax]
  split <;> split <;> omega

theorem arcs_small {h : List Int} (T : Tree h) : (arcsP h).length ≤ 8 ∧ ∀ p ∈ arcsP h, 1 ≤ p.1 ∧ p.1 < p.2 ∧ p.2 ≤ 8 := by
  have l8 := T.le
  refine ⟨by have := arcsK_length h h.length; unfold arcsP; omega, fun p hp => ?_⟩
  obtain ⟨p1, p2, p3⟩ := arc_ends T hp
  omega

theorem clone_row {r : List Int} (h0 : 0 < r.length) (hl : r.length ≤ 1048576) : slices_Clone_int_int r = some r := by
  have e : slices_Clone_int_int r = slices_Clone_int_int_n1 r := by unfold slices_Clone_int_int; rfl
  rw [e]
  unfold slices_Clone_int_int_n1
  have : r.isEmpty = false := by
    cases r with
    | nil => simp at h0
    | cons a b => rfl
  rw [this]
  simp only [Bool.not_false, sure, cond_true, Option.bind_some]
  rw [room_ok (by simp; omega)]
  rfl

theorem implEnds_eq (h : List Int) : impl_EndsOf h = some (endsI h) := by
  have e : impl_EndsOf h = impl_EndsOf_n1 h := by unfold impl_EndsOf; rfl
  rw [e]
  unfold impl_EndsOf_n1
  rw [implTree_eq]
  cases t : treeB h with
  | false => unfold endsI; rw [t]; rfl
  | true =>
    have T := (tree_iff h).mp t
    have l8 := T.le
    have hp := T.pos
    obtain ⟨a8, hA⟩ := arcs_small T
    have w : IntKind.wrap .i64 (((h.length : Nat) : Int) + 1) = ((h.length + 1 : Nat) : Int) := by rw [wrap64 (by omega) (by omega)]; omega
    simp only [Option.bind_some, Bool.not_true, cond_false, implArcs_eq T, countEnds_eq a8 hA, w, List.length_cons, List.length_nil, List.length_replicate]
    rw [show same 9 9 = some () from rfl]
    have i1 : inc ((h.length + 1 : Nat) : Int) (0 + 1 + 1 + 1 + 1 + 1 + 1 + 1 + 1 + 1) = some (h.length + 1) := by
      unfold inc
      rw [if_pos (by omega)]
      simp
    have i2 : inc (1 : Int) (h.length + 1) = some 1 := by
      unfold inc
      rw [if_pos (by omega)]
      rfl
    simp only [Option.bind_some, i1, i2]
    have ed : ((([((endK (arcsP h) 0 : Nat) : Int), ((endK (arcsP h) 1 : Nat) : Int), ((endK (arcsP h) 2 : Nat) : Int), ((endK (arcsP h) 3 : Nat) : Int), ((endK (arcsP h) 4 : Nat) : Int), ((endK (arcsP h) 5 : Nat) : Int), ((endK (arcsP h) 6 : Nat) : Int), ((endK (arcsP h) 7 : Nat) : Int), ((endK (arcsP h) 8 : Nat) : Int)] : List Int).take (h.length + 1)).drop 1) = endsI h := by
      show ((endL (arcsP h)).take (h.length + 1)).drop 1 = endsI h
      refine List.ext_getElem? fun i => ?_
      rw [List.getElem?_drop, List.getElem?_take]
      by_cases hi : i < h.length
      · rw [if_pos (by omega), endL_get _ (by omega), endsI_get t hi, Nat.add_comm 1 i, endK_arcs T (by omega) (by omega)]
      · rw [if_neg (by omega), List.getElem?_eq_none (by rw [endsI_length t]; omega)]
    rw [ed, clone_row (by rw [endsI_length t]; exact hp) (by rw [endsI_length t]; omega)]
    rfl

end Go.Rv
