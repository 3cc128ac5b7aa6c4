/-
  Plain mathematics of what the law reaches. Conditions: none.
-/
import Derived.Test.YtgjhjbankpdcgaaGFnExchangedAt
set_option linter.unusedVariables false
set_option linter.unusedSimpArgs false
namespace Go.Rv
theorem nloop_run {σ ω : Type} {body : σ → Option (σ ⊕ ω)} (I : σ → Prop) (μ : σ → Nat) (f : σ → ω)
    (h : ∀ s, I s → (∃ s', body s = some (.inl s') ∧ I s' ∧ μ s' < μ s ∧ f s' = f s) ∨ body s = some (.inr (f s))) : ∀ (n : Nat) (s : σ), I s → μ s < n → nloop body n s = some (f s)
  | 0, s, _, hn => by omega
  | n + 1, s, hi, hn => by
    rcases h s hi with ⟨s', hb, hi', hm, hf⟩ | hb
    · simp only [nloop, hb, Option.bind_some]
      rw [nloop_run I μ f h n s' hi' (by omega), hf]
    · simp only [nloop, hb, Option.bind_some]

/-- A loop that counts from a number on: state (k, x), k < n goes on. -/
theorem wrap64 {x : Int} (h1 : -9223372036854775808 ≤ x) (h2 : x ≤ 9223372036854775807) : IntKind.wrap .i64 x = x := by
  simp only [IntKind.wrap, IntKind.bits, IntKind.signed]
  simp
  omega

theorem idx_lt {α : Type} {xs : List α} {k : Nat} (h : k < xs.length) : idx xs (k : Int) = some xs[k] := by simp [idx, h]
theorem inb_nat {k n : Nat} (h : k < n) : inb (k : Int) n = some k := by
  simp only [inb]
  rw [if_pos (by omega)]
  simp
theorem room_le {n : Nat} (h : n ≤ 1099511627776) : room n = some () := by simp [room, h]

theorem drop_cons {α : Type} {xs : List α} {k : Nat} (h : k < xs.length) : xs.drop k = xs[k] :: xs.drop (k + 1) := List.drop_eq_getElem_cons h

theorem drop_beq {xs ys : List Int} {k : Nat} (h1 : k < xs.length) (h2 : k < ys.length) : (xs.drop k == ys.drop k) = (xs[k] == ys[k] && xs.drop (k + 1) == ys.drop (k + 1)) := by
  rw [drop_cons h1, drop_cons h2]
  rfl

/-- From a word to the root, with so many steps at most: the root, and how many steps lead to it. -/
def climb (h : List Int) : Nat → Nat → Option (Nat × Nat)
  | 0, _ => none
  | f + 1, w => match h[w - 1]? with
    | none => none
    | some x => if x = 0 then some (w, 0) else (climb h f x.toNat).map fun p => (p.1, p.2 + 1)

def okHead (n : Nat) (x : Int) : Bool := decide (0 ≤ x) && decide (x ≤ n)

def inRange (h : List Int) : Bool := h.all (okHead h.length)

/-- The heads of a tree. -/
def treeB (h : List Int) : Bool :=
  decide (1 ≤ h.length) && decide (h.length ≤ 8) && inRange h && (h.count 0 == 1) && (List.range h.length).all fun k => (climb h h.length (k + 1)).isSome

theorem all_drop_cons {h : List Int} {p : Int → Bool} {k : Nat} (hk : k < h.length) : (h.drop k).all p = (p h[k] && (h.drop (k + 1)).all p) := by
  rw [drop_cons hk]; rfl

theorem count_drop_cons {h : List Int} {k : Nat} (hk : k < h.length) : (h.drop k).count 0 = (if h[k] = 0 then 1 else 0) + (h.drop (k + 1)).count 0 := by
  rw [drop_cons hk, List.count_cons]
  by_cases e : h[k] = 0 <;> simp [e] <;> omega

theorem oneRoot_eq (h : List Int) (hl : h.length ≤ 1048576) : impl_oneRoot h = some (inRange h && (h.count 0 == 1)) := by
  have hloop := nloop_run (body := fun (s : Int × Int) => ((impl_oneRoot_n3 h s.1 h.length s.2).map (Sum.elim (fun (t : Int × Int) => Sum.inl (t.1, t.2)) (Sum.elim (fun (t : Bool) => Sum.inr (Sum.inl t)) (fun (t : Int) => Sum.inr (Sum.inr t)))) : Option ((Int × Int) ⊕ (Bool ⊕ Int))))
    (I := fun s => ∃ k r : Nat, s = ((r : Int), (k : Int)) ∧ k ≤ h.length ∧ r ≤ k) (μ := fun s => h.length - s.2.toNat)
    (f := fun s => cond ((h.drop s.2.toNat).all (okHead h.length)) (.inr (s.1 + ((h.drop s.2.toNat).count 0 : Nat))) (.inl false))
    (by
      rintro _ ⟨k, r, rfl, hk, hr⟩
      by_cases hlt : k < h.length
      · simp only [impl_oneRoot_n3]
        rw [show decide ((k : Int) < ((h.length : Nat) : Int)) = true from decide_eq_true (by omega)]
        simp only [cond_true, idx_lt hlt, Option.bind_some, Int.toNat_natCast]
        rw [wrap64 (x := (k : Int) + 1) (by omega) (by omega), wrap64 (x := (r : Int) + 1) (by omega) (by omega), all_drop_cons hlt, count_drop_cons hlt]
        by_cases h1 : h[k] < 0
        · right
          have : okHead h.length h[k] = false := by simp [okHead]; omega
          simp [h1, this]
        · by_cases h2 : h[k] > (h.length : Int)
          · right
            have : okHead h.length h[k] = false := by simp [okHead]; omega
            simp [h1, h2, this]
          · left
            have hok : okHead h.length h[k] = true := by simp [okHead]; omega
            by_cases h3 : h[k] = 0
            · refine ⟨(((r + 1 : Nat) : Int), ((k + 1 : Nat) : Int)), ?_, ⟨k + 1, r + 1, rfl, hlt, by omega⟩, by simp; omega, ?_⟩
              · have h4 : decide ((h.length : Int) < 0) = false := decide_eq_false (by omega)
                simp [h3, h4]
              · have e : ((k + 1 : Nat) : Int).toNat = k + 1 := by simp
                rw [e, hok]
                simp only [h3, if_true, Bool.true_and]
                congr 2
                push_cast
                omega
            · refine ⟨((r : Int), ((k + 1 : Nat) : Int)), ?_, ⟨k + 1, r, rfl, hlt, by omega⟩, by simp; omega, ?_⟩
              · have e1 : (h[k] == 0) = false := by simpa using h3
                have e2 : decide (h[k] < 0) = false := decide_eq_false h1
                have e3 : decide (h[k] > (h.length : Int)) = false := decide_eq_false h2
                simp [e1, e2, e3]
              · have e : ((k + 1 : Nat) : Int).toNat = k + 1 := by simp
                rw [e, hok]
                simp [h3]
      · right
        have e : k = h.length := by omega
        subst e
        simp only [impl_oneRoot_n3]
        rw [show decide (((h.length : Nat) : Int) < ((h.length : Nat) : Int)) = false from decide_eq_false (by omega)]
        simp)
  unfold impl_oneRoot impl_oneRoot_n9 impl_oneRoot_n1 impl_oneRoot_n8 impl_oneRoot_n6 impl_oneRoot_n2 impl_oneRoot_n5 impl_oneRoot_n4
  simp only [Option.bind_some]
  rw [hloop LL (0, 0) ⟨0, 0, rfl, by omega, by omega⟩ (by simp only [LL]; simp; omega)]
  simp only [Int.toNat_zero, List.drop_zero]
  unfold inRange
  cases ha : h.all (okHead h.length) with
  | false => simp
  | true =>
    simp only [cond_true, Option.map_some, Sum.elim_inr, Option.bind_some, Sum.elim_inl, impl_oneRoot_n7, Bool.true_and]
    congr 1
    by_cases e : h.count 0 = 1
    · simp [e]
    · have e1 : ((0 : Int) + ((h.count 0 : Nat) : Int) == 1) = false := by rw [beq_eq_false_iff_ne]; omega
      have e2 : (h.count 0 == 1) = false := by rw [beq_eq_false_iff_ne]; exact e
      rw [e2]; exact e1

theorem inRange_get {h : List Int} (hr : inRange h = true) {k : Nat} (hk : k < h.length) : 0 ≤ h[k] ∧ h[k] ≤ h.length := by
  have := List.all_eq_true.1 hr h[k] (List.getElem_mem hk)
  simpa [okHead] using this

theorem up_eq (h : List Int) (k : Nat) (s : Nat) (hk : k < h.length) (hl : h.length ≤ 1048576) (hs : s ≤ h.length) :
    impl_walker_up h ((k + 1 : Nat) : Int) (s : Int) = some (if h[k] = 0 then (false, ((k + 1 : Nat) : Int), (s : Int)) else (true, h[k], ((s + 1 : Nat) : Int))) := by
  unfold impl_walker_up impl_walker_up_n1
  rw [wrap64 (by omega) (by omega), show ((k + 1 : Nat) : Int) - 1 = (k : Int) by omega, idx_lt hk]
  simp only [Option.bind_some]
  rw [wrap64 (by omega) (by omega)]
  by_cases e : h[k] = 0
  · simp [e]
  · have e1 : (h[k] == 0) = false := by simpa using e
    simp [e, e1]

theorem steps_eq (h : List Int) (hl : h.length ≤ 1048576) (hr : inRange h = true) (k : Nat) (hk : k < h.length) :
    impl_stepsToRoot h ((k + 1 : Nat) : Int) = some (match climb h h.length (k + 1) with | some p => ((p.2 : Int), true) | none => (0, false)) := by
  have hloop := nloop_run (body := fun (s : Int × Int) => ((impl_stepsToRoot_n2 h s.1 s.2).map (Sum.elim (fun (t : Int × Int) => Sum.inl (t.1, t.2)) (Sum.elim (fun (t : Int × Bool) => Sum.inr (Sum.inl t)) (fun (t : Int × Int) => Sum.inr (Sum.inr t)))) : Option ((Int × Int) ⊕ ((Int × Bool) ⊕ (Int × Int)))))
    (I := fun s => ∃ k i : Nat, s = (((k + 1 : Nat) : Int), (i : Int)) ∧ k < h.length ∧ i < h.length) (μ := fun s => h.length - s.2.toNat)
    (f := fun s => match climb h (h.length - s.2.toNat) s.1.toNat with | some p => .inr ((p.1 : Int), s.2 + (p.2 : Int)) | none => .inl (0, false))
    (by
      rintro _ ⟨k, i, rfl, hk, hi⟩
      simp only [impl_stepsToRoot_n2]
      rw [up_eq h k i hk hl (by omega)]
      obtain ⟨hr1, hr2⟩ := inRange_get hr hk
      have hf : h.length - i = (h.length - i - 1) + 1 := by omega
      have hg : h[k + 1 - 1]? = some h[k] := by simp [hk]
      have hcl : climb h (h.length - i) (k + 1) = if h[k] = 0 then some (k + 1, 0) else (climb h (h.length - i - 1) h[k].toNat).map fun p => (p.1, p.2 + 1) := by
        rw [hf]; simp only [climb, hg]; simp
      simp only [Option.bind_some, Int.toNat_natCast]
      rw [hcl]
      by_cases e : h[k] = 0
      · right
        simp [e]
      · simp only [e, if_false, cond_true]
        by_cases hlast : i + 1 ≥ h.length
        · right
          have h0 : h.length - i - 1 = 0 := by omega
          have hd : decide (((i + 1 : Nat) : Int) ≥ ((h.length : Nat) : Int)) = true := decide_eq_true (by omega)
          simp only [hd, h0, climb]
          simp
        · left
          have hd : decide (((i + 1 : Nat) : Int) ≥ ((h.length : Nat) : Int)) = false := decide_eq_false (by omega)
          refine ⟨(h[k], ((i + 1 : Nat) : Int)), by simp only [hd]; simp, ⟨h[k].toNat - 1, i + 1, by
            have : ((h[k].toNat - 1 + 1 : Nat) : Int) = h[k] := by omega
            rw [this], by omega, by omega⟩, by simp; omega, ?_⟩
          have e2 : h.length - ((i + 1 : Nat) : Int).toNat = h.length - i - 1 := by simp; omega
          simp only [e2]
          cases climb h (h.length - i - 1) h[k].toNat with
          | none => rfl
          | some p => simp; omega)
  unfold impl_stepsToRoot impl_stepsToRoot_n7 impl_stepsToRoot_n1 impl_stepsToRoot_n6 impl_stepsToRoot_n4 impl_stepsToRoot_n3
  simp only [Option.bind_some]
  rw [hloop LL (((k + 1 : Nat) : Int), 0) ⟨k, 0, rfl, hk, by omega⟩ (by simp only [LL]; simp; omega)]
  simp only [Int.toNat_natCast, Int.toNat_zero, Nat.sub_zero]
  cases climb h h.length (k + 1) with
  | none => simp
  | some p => simp [impl_stepsToRoot_n5]

theorem implTree_eq (h : List Int) : impl_TreeOk h = some (treeB h) := by
  unfold impl_TreeOk impl_TreeOk_n9 impl_TreeOk_n1 impl_TreeOk_n8 impl_TreeOk_n6 impl_TreeOk_n2 impl_TreeOk_n5 impl_TreeOk_n4
  unfold treeB
  by_cases h1 : h.length < 1
  · have e : decide (1 ≤ h.length) = false := decide_eq_false (by omega)
    have e2 : decide ((((h.length : Nat) : Int)) < 1) = true := decide_eq_true (by omega)
    simp [e, e2]
  · have e1 : decide ((((h.length : Nat) : Int)) < 1) = false := decide_eq_false (by omega)
    have e1' : decide (1 ≤ h.length) = true := decide_eq_true (by omega)
    by_cases h2 : h.length > 8
    · have e : decide (h.length ≤ 8) = false := decide_eq_false (by omega)
      have e2 : decide ((((h.length : Nat) : Int)) > 8) = true := decide_eq_true (by omega)
      simp only [e1, e2, e]
      simp
    · have e2 : decide ((((h.length : Nat) : Int)) > 8) = false := decide_eq_false (by omega)
      have e2' : decide (h.length ≤ 8) = true := decide_eq_true (by omega)
      simp only [e1, e2, e1', e2', cond_false, oneRoot_eq h (by omega), Option.bind_some, Bool.true_and]
      cases hr : inRange h with
      | false => simp
      | true =>
        cases hc : (h.count 0 == 1) with
        | false => simp
        | true =>
          simp only [Bool.true_and, Bool.not_true, cond_false, Option.bind_some, Sum.elim_inl]
          have hloop := nloop_run (body := fun (s : Int) => ((impl_TreeOk_n3 h h.length s).map (Sum.elim (fun (t : Int) => Sum.inl t) (Sum.elim (fun (t : Bool) => Sum.inr (Sum.inl t)) (fun (t : Unit) => Sum.inr (Sum.inr t)))) : Option ((Int) ⊕ (Bool ⊕ Unit))))
            (I := fun s => ∃ k : Nat, s = (k : Int) ∧ k ≤ h.length) (μ := fun s => h.length - s.toNat)
            (f := fun s => cond (((List.range h.length).drop s.toNat).all fun k => (climb h h.length (k + 1)).isSome) (.inr ()) (.inl false))
            (by
              rintro _ ⟨k, rfl, hk⟩
              by_cases hlt : k < h.length
              · simp only [impl_TreeOk_n3]
                rw [show decide ((k : Int) < ((h.length : Nat) : Int)) = true from decide_eq_true (by omega)]
                rw [wrap64 (x := (k : Int) + 1) (by omega) (by omega), show (k : Int) + 1 = ((k + 1 : Nat) : Int) by omega, steps_eq h (by omega) hr k hlt]
                simp only [cond_true, Option.bind_some, Int.toNat_natCast]
                have hd : (List.range h.length).drop k = k :: (List.range h.length).drop (k + 1) := by
                  rw [List.drop_eq_getElem_cons (by simpa using hlt)]
                  simp
                rw [hd]
                simp only [List.all_cons]
                cases hcl : climb h h.length (k + 1) with
                | none => right; simp
                | some p =>
                  left
                  refine ⟨((k + 1 : Nat) : Int), by simp, ⟨k + 1, rfl, hlt⟩, by simp; omega, by simp⟩
              · right
                have e : k = h.length := by omega
                subst e
                simp only [impl_TreeOk_n3]
                rw [show decide (((h.length : Nat) : Int) < ((h.length : Nat) : Int)) = false from decide_eq_false (by omega)]
                simp [List.drop_of_length_le (show (List.range h.length).length ≤ h.length by simp)])
          rw [hloop LL 0 ⟨0, rfl, by omega⟩ (by simp only [LL]; simp; omega)]
          simp only [Int.toNat_zero, List.drop_zero]
          cases ((List.range h.length).all fun k => (climb h h.length (k + 1)).isSome) <;> rfl

theorem l1In_eq (a b c : Int) : spec_l1In a b c = some (decide (b ≤ a) && decide (a ≤ c)) := by
  unfold spec_l1In spec_l1In_n1
  by_cases h : a ≥ b
  · have e : decide (a ≥ b) = true := decide_eq_true h
    rw [e]; rfl
  · have e : decide (a ≥ b) = false := decide_eq_false h
    rw [e]; rfl

/-- The head of a word, both from 1 on; 0 for none. -/
def hd (h : List Int) (w : Nat) : Nat := (h.getD (w - 1) 0).toNat

def dupB (o : List Int) : Bool := (List.range o.length).any fun j => (List.range j).any fun i => o.getD i 0 == o.getD j 0
def orderAll (o : List Int) (m : Int) : Bool := o.all (fun x => decide (1 ≤ x) && decide (x ≤ m)) && !dupB o
def orderB (o : List Int) (m : Int) : Bool := decide (1 ≤ m) && decide (m ≤ 8) && (((o.length : Nat) : Int) == m) && orderAll o m

def OrderP (o : List Int) (m : Int) : Prop := (∀ (k : Nat) (hk : k < o.length), 1 ≤ o[k] ∧ o[k] ≤ m) ∧ ∀ (i j : Nat) (hij : i < j) (hj : j < o.length), o[i] ≠ o[j]

theorem orderAll_iff (o : List Int) (m : Int) : orderAll o m = true ↔ OrderP o m := by
  unfold orderAll dupB OrderP
  simp only [Bool.and_eq_true, List.all_eq_true, decide_eq_true_eq, Bool.not_eq_true', List.any_eq_false, List.mem_range]
  constructor
  · rintro ⟨h1, h2⟩
    refine ⟨fun k hk => h1 _ (List.getElem_mem hk), fun i j hij hj e => ?_⟩
    have := h2 j hj
    rw [List.any_eq_true] at this
    refine this ⟨i, by simpa using hij, ?_⟩
    simp [List.getD, hj, show i < o.length by omega, e]
  · rintro ⟨h1, h2⟩
    refine ⟨fun x hx => ?_, fun j hj => ?_⟩
    · obtain ⟨k, hk, rfl⟩ := List.getElem_of_mem hx
      exact h1 k hk
    · rw [List.any_eq_true]
      rintro ⟨i, hi, e⟩
      have hi' : i < j := by simpa using hi
      simp only [List.getD, List.getElem?_eq_getElem hj, List.getElem?_eq_getElem (show i < o.length by omega), Option.getD_some, beq_iff_eq] at e
      exact h2 i j hi' hj e

theorem orderAll_false {o : List Int} {m : Int} (h : ¬ OrderP o m) : orderAll o m = false := by
  cases e : orderAll o m with
  | false => rfl
  | true => exact absurd ((orderAll_iff o m).1 e) h

theorem mem_take {o : List Int} {k : Nat} {x : Int} (hk : k ≤ o.length) : x ∈ o.take k ↔ ∃ (i : Nat) (hi : i < k), o[i]'(by omega) = x := by
  constructor
  · intro h
    obtain ⟨i, hi, e⟩ := List.getElem_of_mem h
    have hi' : i < k := by simp at hi; omega
    exact ⟨i, hi', by simpa using e⟩
  · rintro ⟨i, hi, e⟩
    have : (o.take k)[i]'(by simp; omega) = x := by simpa using e
    rw [← this]; exact List.getElem_mem _

theorem implOrder_eq (o : List Int) (m : Int) : impl_OrderOk o m = some (orderB o m) := by
  unfold impl_OrderOk impl_OrderOk_n9 impl_OrderOk_n1 impl_OrderOk_n8 impl_OrderOk_n6 impl_OrderOk_n2 impl_OrderOk_n5 impl_OrderOk_n4 impl_OrderOk_n7 orderB
  by_cases h1 : m < 1
  · rw [decide_eq_true h1, show decide (1 ≤ m) = false from decide_eq_false (by omega)]; rfl
  rw [decide_eq_false h1, show decide (1 ≤ m) = true from decide_eq_true (by omega)]
  by_cases h2 : m > 8
  · rw [decide_eq_true h2, show decide (m ≤ 8) = false from decide_eq_false (by omega)]; rfl
  rw [decide_eq_false h2, show decide (m ≤ 8) = true from decide_eq_true (by omega)]
  by_cases h3 : ((o.length : Nat) : Int) = m
  · rw [show (((o.length : Nat) : Int) != m) = false by simp [h3], show (((o.length : Nat) : Int) == m) = true by simp [h3]]
    simp only [cond_false, Option.bind_some, Sum.elim_inl, Bool.true_and]
    have hloop := nloop_run (body := fun (s : Int × (List Bool)) => ((impl_OrderOk_n3 m o o.length s.1 s.2).map (Sum.elim (fun (t : Int × (List Bool)) => Sum.inl (t.1, t.2)) (Sum.elim (fun (t : Bool) => Sum.inr (Sum.inl t)) (fun (t : Unit) => Sum.inr (Sum.inr t)))) : Option ((Int × (List Bool)) ⊕ (Bool ⊕ Unit))))
      (I := fun s => ∃ k : Nat, s.1 = (k : Int) ∧ k ≤ o.length ∧ s.2.length = 9 ∧ (∀ v : Nat, v < 9 → s.2[v]? = some (decide ((v : Int) ∈ o.take k))) ∧ OrderP (o.take k) m) (μ := fun s => o.length - s.1.toNat)
      (f := fun _ => cond (orderAll o m) (.inr ()) (.inl false))
      (by
        rintro ⟨_, seen⟩ ⟨k, rfl, hk, hs, hseen, hP⟩
        simp only at hs hseen
        simp only [impl_OrderOk_n3]
        by_cases hlt : k < o.length
        · rw [show decide ((k : Int) < ((o.length : Nat) : Int)) = true from decide_eq_true (by omega), idx_lt hlt, wrap64 (by omega) (by omega)]
          simp only [cond_true, Option.bind_some]
          by_cases c1 : o[k] < 1
          · right
            rw [decide_eq_true c1, orderAll_false (fun hh => by have := (hh.1 k hlt).1; omega)]
            rfl
          rw [decide_eq_false c1]
          by_cases c2 : o[k] > m
          · right
            rw [decide_eq_true c2, orderAll_false (fun hh => by have := (hh.1 k hlt).2; omega)]
            rfl
          rw [decide_eq_false c2]
          obtain ⟨v, hv⟩ : ∃ v : Nat, o[k] = (v : Int) := ⟨o[k].toNat, by omega⟩
          have hv9 : v < 9 := by omega
          have hin : inb o[k] 9 = some v := by rw [hv]; exact inb_nat hv9
          have hsame : same seen.length 9 = some () := by simp [same, hs]
          simp only [cond_false, hsame, hin, Option.bind_some, hseen v hv9]
          by_cases c3 : (v : Int) ∈ o.take k
          · right
            rw [decide_eq_true c3]
            obtain ⟨i, hi, e⟩ := (mem_take hk).1 c3
            rw [orderAll_false (fun hh => hh.2 i k hi hlt (by rw [e, hv]))]
            rfl
          · left
            rw [decide_eq_false c3]
            refine ⟨(((k + 1 : Nat) : Int), seen.set v true), by simp, ⟨k + 1, rfl, hlt, by simpa using hs, fun u hu => ?_, ?_⟩, by simp; omega, trivial⟩
            · rw [List.take_add_one, List.getElem?_eq_getElem hlt, hv]
              simp only [Option.toList_some, List.mem_append, List.mem_singleton]
              by_cases e : v = u
              · subst e
                simp [hs, hv9]
              · rw [List.getElem?_set_ne e, hseen u hu]
                have : ¬ (u : Int) = (v : Int) := by omega
                simp [this]
            · have hl : (o.take (k + 1)).length = k + 1 := by simp; omega
              refine ⟨fun i hi => ?_, fun i j hij hj => ?_⟩
              · rw [hl] at hi
                rw [List.getElem_take]
                by_cases e : i = k
                · subst e; omega
                · have := hP.1 i (by simp; omega)
                  rwa [List.getElem_take] at this
              · rw [hl] at hj
                rw [List.getElem_take, List.getElem_take]
                by_cases e : j = k
                · subst e
                  intro hh
                  exact c3 ((mem_take hk).2 ⟨i, hij, by rw [hh, hv]⟩)
                · have := hP.2 i j hij (by simp; omega)
                  rwa [List.getElem_take, List.getElem_take] at this
        · right
          have e : k = o.length := by omega
          subst e
          rw [List.take_length] at hP
          rw [show decide (((o.length : Nat) : Int) < ((o.length : Nat) : Int)) = false from decide_eq_false (by omega), (orderAll_iff o m).2 hP]
          rfl)
    rw [hloop LL (0, List.replicate 9 false) ⟨0, by simp, by omega, by simp, fun v hv => by rw [List.getElem?_replicate, if_pos hv]; simp, ⟨fun k hk => by simp at hk, fun i j hij hj => by simp at hj⟩⟩ (by simp only [LL]; simp; omega)]
    cases orderAll o m <;> rfl
  · rw [show (((o.length : Nat) : Int) != m) = true by simp [h3], show (((o.length : Nat) : Int) == m) = false by simp [h3]]
    rfl

theorem orderP_iff (o : List Int) (m : Int) : OrderP o m ↔ (∀ x ∈ o, 1 ≤ x ∧ x ≤ m) ∧ o.Nodup := by
  unfold OrderP List.Nodup
  rw [List.pairwise_iff_getElem]
  constructor
  · rintro ⟨h1, h2⟩
    refine ⟨fun x hx => ?_, fun i j hi hj hij => h2 i j hij hj⟩
    obtain ⟨k, hk, rfl⟩ := List.getElem_of_mem hx
    exact h1 k hk
  · rintro ⟨h1, h2⟩
    exact ⟨fun k hk => h1 _ (List.getElem_mem hk), fun i j hij hj => h2 i j (by omega) hj hij⟩

theorem orderB_iff (o : List Int) (m : Int) : orderB o m = true ↔ 1 ≤ m ∧ m ≤ 8 ∧ (o.length : Int) = m ∧ OrderP o m := by
  unfold orderB
  simp only [Bool.and_eq_true, decide_eq_true_eq, beq_iff_eq, orderAll_iff]
  constructor
  · rintro ⟨⟨⟨a, b⟩, c⟩, d⟩; exact ⟨a, b, c, d⟩
  · rintro ⟨a, b, c, d⟩; exact ⟨⟨⟨a, b⟩, c⟩, d⟩

theorem nloop_to {σ ω : Type} {body : σ → Option (σ ⊕ ω)} (S : Nat → σ) (n : Nat) (w : ω) (hs : ∀ k, k < n → body (S k) = some (.inl (S (k + 1)))) (he : body (S n) = some (.inr w)) :
    ∀ (N : Nat), n < N → nloop body N (S 0) = some w := by
  have key : ∀ (m k N : Nat), k + m = n → m < N → nloop body N (S k) = some w := by
    intro m
    induction m with
    | zero =>
      intro k N hk hN
      obtain ⟨N', rfl⟩ : ∃ N', N = N' + 1 := ⟨N - 1, by omega⟩
      have : k = n := by omega
      subst this
      simp only [nloop, he, Option.bind_some]
    | succ m ih =>
      intro k N hk hN
      obtain ⟨N', rfl⟩ : ∃ N', N = N' + 1 := ⟨N - 1, by omega⟩
      simp only [nloop, hs k (by omega), Option.bind_some]
      exact ih (k + 1) N' (by omega) (by omega)
  intro N hN
  exact key n 0 N (by omega) hN

/-- How many pairs of places there are of which the first one has the greater number. -/
def turnN : List Int → Nat
  | [] => 0
  | x :: l => l.countP (fun y => decide (y < x)) + turnN l

theorem turn_snoc (x : Int) : ∀ l : List Int, turnN (l ++ [x]) = turnN l + l.countP (fun y => decide (x < y))
  | [] => rfl
  | y :: l => by
    rw [List.cons_append, turnN, turnN, turn_snoc x l, List.countP_append, List.countP_cons]
    simp only [List.countP_cons, List.countP_nil]
    omega

theorem count_two {x : Int} : ∀ {l : List Int}, x ∉ l → l.countP (fun y => decide (y < x)) + l.countP (fun y => decide (x < y)) = l.length
  | [], _ => rfl
  | y :: l, h => by
    have ne : y ≠ x := fun e => h (by rw [e]; exact List.mem_cons_self ..)
    have ih := count_two (l := l) (fun m => h (List.mem_cons_of_mem _ m))
    rw [List.countP_cons, List.countP_cons, List.length_cons]
    by_cases l' : y < x
    · simp [l', show ¬ x < y by omega]
      omega
    · simp [l', show x < y by omega]
      omega

theorem tri_succ (n : Nat) : (n + 1) * (n + 1 - 1) / 2 = n + n * (n - 1) / 2 := by
  cases n with
  | zero => rfl
  | succ n =>
    have e : (n + 1 + 1) * (n + 1 + 1 - 1) = 2 * (n + 1) + (n + 1) * (n + 1 - 1) := by
      simp only [Nat.add_sub_cancel]
      rw [Nat.mul_comm 2, ← Nat.mul_add, Nat.mul_comm]
      congr 1
      omega
    rw [e, Nat.mul_add_div (by omega)]

theorem turn_reverse : ∀ {l : List Int}, l.Nodup → turnN l + turnN l.reverse = l.length * (l.length - 1) / 2
  | [], _ => rfl
  | x :: l, h => by
    rw [List.nodup_cons] at h
    have ih := turn_reverse h.2
    have c := count_two h.1
    rw [List.reverse_cons, turn_snoc, turnN, List.countP_reverse, List.length_cons, tri_succ]
    omega

theorem turn_le {l : List Int} (h : l.Nodup) : turnN l ≤ l.length * (l.length - 1) / 2 := by
  have := turn_reverse h
  omega

/-- Pairs of one of the first part and one of the rest. -/
def crossT (A L : List Int) : Nat := (A.map fun a => L.countP (fun y => decide (y < a))).sum

theorem turn_append : ∀ (A L : List Int), turnN (A ++ L) = turnN A + crossT A L + turnN L
  | [], L => by simp [turnN, crossT]
  | x :: A, L => by
    rw [List.cons_append, turnN, turnN, turn_append A L, List.countP_append]
    unfold crossT
    rw [List.map_cons, List.sum_cons]
    omega

theorem cross_perm {A L L' : List Int} (p : L.Perm L') : crossT A L = crossT A L' := by
  unfold crossT
  congr 1
  refine List.map_congr_left ?_
  intro a _
  exact p.countP_eq _

/-- An exchange of neighbours. -/
theorem turn_swap (A B : List Int) (x y : Int) (ne : x ≠ y) : (turnN (A ++ y :: x :: B) : Int) = turnN (A ++ x :: y :: B) + (if x > y then -1 else 1) := by
  have p : (y :: x :: B).Perm (x :: y :: B) := List.Perm.swap ..
  rw [turn_append, turn_append, cross_perm p]
  simp only [turnN, List.countP_cons]
  by_cases l : x > y
  · rw [if_pos l]
    simp [show y < x from l, show ¬ x < y by omega]
    omega
  · rw [if_neg l]
    simp [show ¬ y < x by omega, show x < y by omega]
    omega

/-- Two rows in ascending order as one, and how many pairs have the greater number in the first one. -/
def mergeC : List Int → List Int → List Int × Nat
  | [], B => (B, 0)
  | a :: A, [] => (a :: A, 0)
  | a :: A, b :: B => if a < b then (a :: (mergeC A (b :: B)).1, (mergeC A (b :: B)).2) else (b :: (mergeC (a :: A) B).1, (A.length + 1) + (mergeC (a :: A) B).2)
termination_by A B => A.length + B.length

theorem mergeC_lt {a b : Int} {A B : List Int} (l : a < b) : mergeC (a :: A) (b :: B) = (a :: (mergeC A (b :: B)).1, (mergeC A (b :: B)).2) := by rw [mergeC, if_pos l]
theorem mergeC_ge {a b : Int} {A B : List Int} (l : ¬ a < b) : mergeC (a :: A) (b :: B) = (b :: (mergeC (a :: A) B).1, (A.length + 1) + (mergeC (a :: A) B).2) := by rw [mergeC, if_neg l]

theorem mergeC_perm : ∀ (n : Nat) (A B : List Int), A.length + B.length ≤ n → (mergeC A B).1.Perm (A ++ B)
  | n, [], B, _ => by rw [mergeC]; exact List.Perm.refl _
  | n, a :: A, [], _ => by rw [mergeC, List.append_nil]
  | 0, a :: A, b :: B, h => by simp at h
  | n + 1, a :: A, b :: B, h => by
    simp only [List.length_cons] at h
    by_cases l : a < b
    · rw [mergeC_lt l]
      exact (mergeC_perm n A (b :: B) (by simp only [List.length_cons]; omega)).cons a
    · rw [mergeC_ge l]
      exact ((mergeC_perm n (a :: A) B (by simp only [List.length_cons]; omega)).cons b).trans List.perm_middle.symm

theorem crossT_cons (A B : List Int) (b : Int) : crossT A (b :: B) = A.countP (fun a => decide (b < a)) + crossT A B := by
  induction A with
  | nil => rfl
  | cons a A ih =>
    unfold crossT at ih ⊢
    rw [List.map_cons, List.sum_cons, List.map_cons, List.sum_cons, ih, List.countP_cons, List.countP_cons]
    omega

theorem crossT_left {A A' L : List Int} (p : A.Perm A') : crossT A L = crossT A' L := (p.map _).sum_nat

theorem mergeC_sorted : ∀ (n : Nat) (A B : List Int), A.length + B.length ≤ n → A.Pairwise (· < ·) → B.Pairwise (· < ·) → (∀ x ∈ A, x ∉ B) → (mergeC A B).1.Pairwise (· < ·) ∧ (mergeC A B).2 = crossT A B
  | n, [], B, _, _, hB, _ => by rw [mergeC]; exact ⟨hB, rfl⟩
  | n, a :: A, [], _, hA, _, _ => by
    rw [mergeC]
    refine ⟨hA, ?_⟩
    unfold crossT
    have : ∀ l : List Int, (l.map fun a => ([] : List Int).countP fun y => decide (y < a)).sum = 0 := fun l => by
      induction l with
      | nil => rfl
      | cons x l ih => rw [List.map_cons, List.sum_cons, ih]; rfl
    exact (this _).symm
  | 0, a :: A, b :: B, h, _, _, _ => by simp at h
  | n + 1, a :: A, b :: B, h, hA, hB, hd => by
    simp only [List.length_cons] at h
    have hA' := List.pairwise_cons.mp hA
    have hB' := List.pairwise_cons.mp hB
    by_cases l : a < b
    · rw [mergeC_lt l]
      have ih := mergeC_sorted n A (b :: B) (by simp only [List.length_cons]; omega) hA'.2 hB (fun x hx => hd x (List.mem_cons_of_mem _ hx))
      refine ⟨List.pairwise_cons.mpr ⟨fun y hy => ?_, ih.1⟩, ?_⟩
      · have := ((mergeC_perm n A (b :: B) (by simp only [List.length_cons]; omega)).mem_iff).mp hy
        rcases List.mem_append.mp this with m | m
        · exact hA'.1 y m
        · rcases List.mem_cons.mp m with e | m
          · omega
          · have := hB'.1 y m
            omega
      · simp only
        rw [ih.2]
        unfold crossT
        rw [List.map_cons, List.sum_cons, List.countP_eq_zero.mpr, Nat.zero_add]
        intro y hy
        simp only [decide_eq_true_eq]
        rcases List.mem_cons.mp hy with e | m
        · omega
        · have := hB'.1 y m
          omega
    · rw [mergeC_ge l]
      have ne : a ≠ b := fun e => hd a (List.mem_cons_self ..) (by rw [e]; exact List.mem_cons_self ..)
      have ih := mergeC_sorted n (a :: A) B (by simp only [List.length_cons]; omega) hA hB'.2 (fun x hx m => hd x hx (List.mem_cons_of_mem _ m))
      refine ⟨List.pairwise_cons.mpr ⟨fun y hy => ?_, ih.1⟩, ?_⟩
      · have := ((mergeC_perm n (a :: A) B (by simp only [List.length_cons]; omega)).mem_iff).mp hy
        rcases List.mem_append.mp this with m | m
        · rcases List.mem_cons.mp m with e | m
          · omega
          · have := hA'.1 y m
            omega
        · exact hB'.1 y m
      · simp only
        rw [ih.2, crossT_cons, List.countP_eq_length.mpr, List.length_cons]
        intro y hy
        simp only [decide_eq_true_eq]
        rcases List.mem_cons.mp hy with e | m
        · omega
        · have := hA'.1 y m
          omega

theorem specOrder_eq (o : List Int) (m : Int) (hl : o.length ≤ 1048576) : spec_OrderOk o m = some (orderB o m) := by
  unfold spec_OrderOk spec_OrderOk_n18 spec_OrderOk_n1 spec_OrderOk_n17 spec_OrderOk_n15 spec_OrderOk_n2 spec_OrderOk_n14 spec_OrderOk_n13
  have hin : ∀ k, (hk : k < o.length) → spec_OrderOk_n6 o k = some (cond (decide (o[k] ∈ o.take k)) (.inl false) (.inr ())) := fun k hk => by
    unfold spec_OrderOk_n6
    have hloop := nloop_run (body := fun (s : Int) => ((spec_OrderOk_n5 o k s).map (Sum.elim (fun (t : Int) => Sum.inl t) (Sum.elim (fun (t : Bool) => Sum.inr (Sum.inl t)) (fun (t : Unit) => Sum.inr (Sum.inr t)))) : Option ((Int) ⊕ (Bool ⊕ Unit))))
      (I := fun s => ∃ j : Nat, s = (j : Int) ∧ j ≤ k ∧ o[k] ∉ o.take j) (μ := fun s => k - s.toNat) (f := fun _ => cond (decide (o[k] ∈ o.take k)) (.inl false) (.inr ()))
      (by
        rintro _ ⟨j, rfl, hj, hno⟩
        simp only [spec_OrderOk_n5]
        by_cases hlt : j < k
        · rw [show decide ((j : Int) < (k : Int)) = true from decide_eq_true (by omega), idx_lt (show j < o.length by omega), idx_lt hk, wrap64 (by omega) (by omega)]
          simp only [cond_true, Option.bind_some]
          by_cases e : o[j] = o[k]
          · right
            have : o[k] ∈ o.take k := (mem_take (by omega)).2 ⟨j, hlt, e⟩
            rw [decide_eq_true this]
            simp [e]
          · left
            have e1 : (o[j] == o[k]) = false := by simpa using e
            refine ⟨((j + 1 : Nat) : Int), by simp [e1], ⟨j + 1, rfl, hlt, ?_⟩, by simp; omega, trivial⟩
            rw [List.take_add_one, List.getElem?_eq_getElem (by omega)]
            simp only [Option.toList_some, List.mem_append, List.mem_singleton, not_or]
            exact ⟨hno, fun hh => e hh.symm⟩
        · right
          have e : j = k := by omega
          subst e
          rw [show decide ((j : Int) < (j : Int)) = false from decide_eq_false (by omega), decide_eq_false hno]
          rfl)
    exact hloop LL 0 ⟨0, rfl, by omega, by simp⟩ (by simp only [LL]; simp; omega)
  have hloop := nloop_run (body := fun (s : Int) => ((spec_OrderOk_n12 o m s).map (Sum.elim (fun (t : Int) => Sum.inl t) (Sum.elim (fun (t : Bool) => Sum.inr (Sum.inl t)) (fun (t : Unit) => Sum.inr (Sum.inr t)))) : Option ((Int) ⊕ (Bool ⊕ Unit))))
    (I := fun s => ∃ k : Nat, s = (k : Int) ∧ k ≤ o.length ∧ OrderP (o.take k) m) (μ := fun s => o.length - s.toNat) (f := fun _ => cond (orderAll o m) (.inr ()) (.inl false))
    (by
      rintro _ ⟨k, rfl, hk, hP⟩
      simp only [spec_OrderOk_n12, spec_OrderOk_n3]
      by_cases hlt : k < o.length
      · rw [show decide ((k : Int) < ((o.length : Nat) : Int)) = true from decide_eq_true (by omega)]
        simp only [cond_true, Option.bind_some, Sum.elim_inl]
        unfold spec_OrderOk_n11 spec_OrderOk_n9 spec_OrderOk_n8 spec_OrderOk_n4 spec_OrderOk_n7 spec_OrderOk_n10
        rw [idx_lt hlt, wrap64 (by omega) (by omega)]
        simp only [Option.bind_some, l1In_eq, hin k hlt]
        by_cases c : 1 ≤ o[k] ∧ o[k] ≤ m
        · have e1 : (decide (1 ≤ o[k]) && decide (o[k] ≤ m)) = true := by simp [c.1, c.2]
          rw [e1]
          by_cases c3 : o[k] ∈ o.take k
          · right
            obtain ⟨i, hi, e⟩ := (mem_take hk).1 c3
            rw [decide_eq_true c3, orderAll_false (fun hh => hh.2 i k hi hlt e)]
            rfl
          · left
            rw [decide_eq_false c3]
            refine ⟨((k + 1 : Nat) : Int), by simp, ⟨k + 1, rfl, hlt, ?_⟩, by simp; omega, trivial⟩
            have hl : (o.take (k + 1)).length = k + 1 := by simp; omega
            refine ⟨fun i hi => ?_, fun i j hij hj => ?_⟩
            · rw [hl] at hi
              rw [List.getElem_take]
              by_cases e : i = k
              · subst e; exact c
              · have := hP.1 i (by simp; omega)
                rwa [List.getElem_take] at this
            · rw [hl] at hj
              rw [List.getElem_take, List.getElem_take]
              by_cases e : j = k
              · subst e
                exact fun hh => c3 ((mem_take hk).2 ⟨i, hij, hh⟩)
              · have := hP.2 i j hij (by simp; omega)
                rwa [List.getElem_take, List.getElem_take] at this
        · right
          have e1 : (decide (1 ≤ o[k]) && decide (o[k] ≤ m)) = false := by
            simp only [Bool.and_eq_false_iff, decide_eq_false_iff_not]; omega
          rw [e1, orderAll_false (fun hh => c (hh.1 k hlt))]
          rfl
      · right
        have e : k = o.length := by omega
        subst e
        rw [List.take_length] at hP
        rw [show decide (((o.length : Nat) : Int) < ((o.length : Nat) : Int)) = false from decide_eq_false (by omega), (orderAll_iff o m).2 hP]
        rfl)
  simp only [Option.bind_some]
  rw [hloop LL 0 ⟨0, rfl, by omega, ⟨fun k hk => by simp at hk, fun i j hij hj => by simp at hj⟩⟩ (by simp only [LL]; simp; omega)]
  unfold orderB
  cases orderAll o m with
  | false => simp
  | true =>
    simp only [cond_true, Option.map_some, Sum.elim_inr, Option.bind_some, Sum.elim_inl, spec_OrderOk_n16, l1In_eq, Bool.and_true]
    cases (decide (1 ≤ m) && decide (m ≤ 8)) <;> simp

theorem room8 {n : Nat} (h : n ≤ 1099511627776) : room n = some () := by unfold room; rw [if_pos h]

/-- How many pairs an order has that stand the other way; -1 for none. -/
def turnI (o : List Int) : Int := if orderB o o.length = true then (turnN o : Int) else -1

theorem take_last {o : List Int} {k : Nat} (hk : k < o.length) : o.take (k + 1) = o.take k ++ [o[k]] := List.take_succ_eq_append_getElem hk

theorem turn_small {o : List Int} (h8 : o.length ≤ 8) : ∀ k, k ≤ o.length → turnN (o.take k) ≤ 8 * k
  | 0, _ => by simp [turnN]
  | k + 1, hk => by
    have := turn_small h8 k (by omega)
    rw [take_last (by omega), turn_snoc]
    have c := List.countP_le_length (p := fun y => decide (o[k] < y)) (l := o.take k)
    rw [List.length_take] at c
    omega

/-- Neighbours exchanged. -/
def excL (o : List Int) (k : Nat) : List Int := (o.set k (o.getD (k + 1) 0)).set (k + 1) (o.getD k 0)
def excI (o : List Int) (at' : Int) : Bool × List Int := if orderB o o.length = true ∧ 0 ≤ at' ∧ at' ≤ (o.length : Int) - 2 then (true, excL o at'.toNat) else (false, [])

theorem specExchanged_eq (o : List Int) (at' : Int) (hl : o.length ≤ 1048576) : spec_ExchangedAt o at' = some (excI o at') := by
  unfold spec_ExchangedAt spec_ExchangedAt_n1 excI
  rw [specOrder_eq o _ hl, l1In_eq, wrap64 (by omega) (by omega)]
  cases t : orderB o o.length with
  | false => simp
  | true =>
    by_cases b : 0 ≤ at' ∧ at' ≤ (o.length : Int) - 2
    · rw [if_pos ⟨rfl, b⟩, decide_eq_true b.1, decide_eq_true b.2]
      obtain ⟨k, rfl⟩ : ∃ k : Nat, at' = (k : Int) := ⟨at'.toNat, by omega⟩
      have w : IntKind.wrap .i64 ((k : Int) + 1) = ((k + 1 : Nat) : Int) := by rw [wrap64 (by omega) (by omega)]; omega
      have i1 : inb (k : Int) o.length = some k := by unfold inb; rw [if_pos (by omega)]; simp
      have i2 : inb ((k + 1 : Nat) : Int) o.length = some (k + 1) := by unfold inb; rw [if_pos (by omega)]; simp
      have g1 : o[k]? = some o[k] := List.getElem?_eq_getElem (by omega)
      have g2 : o[k + 1]? = some o[k + 1] := List.getElem?_eq_getElem (by omega)
      simp only [Option.bind_some, Bool.not_true, cond_false, Bool.and_self, List.nil_append, List.length_set, w, i1, i2, g1, g2, Int.toNat_natCast]
      rw [room8 (by simp; omega)]
      simp only [Option.bind_some]
      unfold excL
      rw [List.getD_eq_getElem?_getD, List.getD_eq_getElem?_getD, g1, g2]
      rfl
    · rw [if_neg (fun z => b z.2)]
      have : (decide (0 ≤ at') && decide (at' ≤ (o.length : Int) - 2)) = false := by
        rw [Bool.eq_false_iff]
        intro x
        simp only [Bool.and_eq_true, decide_eq_true_eq] at x
        exact b x
      rw [this]
      rfl

theorem idx_some {α : Type} {xs : List α} {k : Nat} (h : k < xs.length) : idx xs (k : Int) = some xs[k] := idx_lt h

theorem grow_zero (k : Nat) (hk : k ≤ 1000000) : ∃ zs : List Int, slices_Grow_int_int (k : Int) = some (0, zs) := by
  have e : slices_Grow_int_int (k : Int) = slices_Grow_int_int_n1 (k : Int) := by unfold slices_Grow_int_int; rfl
  rw [e]
  unfold slices_Grow_int_int_n1
  rw [decide_eq_false (show ¬ (k : Int) < 0 by omega), wrap64 (x := 0 - ((0 : Nat) : Int)) (by omega) (by omega), wrap64 (by omega) (by omega)]
  by_cases z : k = 0
  · subst z
    exact ⟨[], rfl⟩
  · rw [decide_eq_true (show (k : Int) - (0 - ((0 : Nat) : Int)) > 0 by omega)]
    have m : mkz ((k : Int) - (0 - ((0 : Nat) : Int))) = some k := by
      unfold mkz
      rw [if_pos (by omega), show ((k : Int) - (0 - ((0 : Nat) : Int))).toNat = k by omega]
    have i : inc ((0 : Nat) : Int) (List.replicate k (0 : Int)).length = some 0 := by
      unfold inc
      rw [if_pos (by omega)]
      rfl
    rw [m]
    simp only [cond_false, cond_true, beq_self_eq_true, sure, Option.bind_some, i]
    exact ⟨_, rfl⟩

/-- The lengths of the first rows together. -/
def lensN (xss : List (List Int)) (k : Nat) : Nat := ((xss.take k).flatten).length

theorem lens_succ {xss : List (List Int)} {k : Nat} (h : k < xss.length) : lensN xss (k + 1) = lensN xss k + xss[k].length := by
  unfold lensN
  rw [List.take_succ_eq_append_getElem h, List.flatten_append, List.length_append]
  simp
theorem lens_le {xss : List (List Int)} : ∀ k, lensN xss k ≤ xss.flatten.length := fun k => by
  unfold lensN
  have := List.take_append_drop k xss
  have e : xss.flatten = (xss.take k).flatten ++ (xss.drop k).flatten := by rw [← List.flatten_append, this]
  rw [e, List.length_append]
  omega

theorem concat_ok (xss : List (List Int)) (hl : xss.length ≤ 1000) (hf : xss.flatten.length ≤ 1000000) : ∃ n ys, slices_Concat_int_int xss = some (n, ys) ∧ (ys.drop 0).take n = xss.flatten := by
  have e : slices_Concat_int_int xss = slices_Concat_int_int_n17 xss := by unfold slices_Concat_int_int; rfl
  have p := nloop_to (body := fun (s : Int × Int) => ((slices_Concat_int_int_n3 xss s.1 ((xss.length : Nat) : Int) s.2).map (Sum.elim (fun (t : Int × Int) => Sum.inl (t.1, t.2)) (fun (t : Int) => Sum.inr t)) : Option ((Int × Int) ⊕ (Int))))
    (fun k => (((lensN xss k : Nat) : Int), (k : Int))) xss.length ((lensN xss xss.length : Nat) : Int)
    (by
      intro k hk
      have l1 := lens_le (xss := xss) (k + 1)
      have l2 := lens_succ hk
      simp only [slices_Concat_int_int_n3]
      rw [decide_eq_true (show (k : Int) < ((xss.length : Nat) : Int) by omega), idx_some hk, wrap64 (x := (k : Int) + 1) (by omega) (by omega)]
      simp only [cond_true, Option.bind_some]
      rw [wrap64 (by omega) (by omega), decide_eq_false (by omega), l2]
      simp)
    (by
      simp only [slices_Concat_int_int_n3]
      rw [decide_eq_false (show ¬ ((xss.length : Nat) : Int) < ((xss.length : Nat) : Int) by omega)]
      rfl) LL (by simp only [LL]; omega)
  have l1 := lens_le (xss := xss) xss.length
  obtain ⟨zs, gz⟩ := grow_zero (lensN xss xss.length) (by omega)
  have q := nloop_to (body := fun (s : Nat × Int × (List Int)) => ((slices_Concat_int_int_n9 s.1 xss ((xss.length : Nat) : Int) s.2.1 s.2.2).map (Sum.elim (fun (t : Nat × Int × (List Int)) => Sum.inl (t.1, t.2.1, t.2.2)) (fun (t : Nat × (List Int)) => Sum.inr t)) : Option ((Nat × Int × (List Int)) ⊕ ((Nat × (List Int))))))
    (fun k => (lensN xss k, (k : Int), if k = 0 then zs else (xss.take k).flatten)) xss.length (lensN xss xss.length, if xss.length = 0 then zs else (xss.take xss.length).flatten)
    (by
      intro k hk
      have l1 := lens_le (xss := xss) (k + 1)
      have l2 := lens_succ hk
      have c : ((if k = 0 then zs else (xss.take k).flatten).drop 0).take (lensN xss k) = (xss.take k).flatten := by
        rw [List.drop_zero]
        by_cases z : k = 0
        · subst z
          rfl
        · rw [if_neg z]
          exact List.take_length
      simp only [slices_Concat_int_int_n9]
      rw [decide_eq_true (show (k : Int) < ((xss.length : Nat) : Int) by omega), idx_some hk, wrap64 (x := (k : Int) + 1) (by omega) (by omega), c]
      simp only [cond_true, Option.bind_some]
      rw [room8 (by omega)]
      have f : (xss.take k).flatten ++ xss[k] = (xss.take (k + 1)).flatten := by
        rw [List.take_succ_eq_append_getElem hk, List.flatten_append]
        simp
      simp only [Option.bind_some, Option.map_some, Sum.elim_inl, f]
      rw [if_neg (by omega)]
      rfl)
    (by
      simp only [slices_Concat_int_int_n9]
      rw [decide_eq_false (show ¬ ((xss.length : Nat) : Int) < ((xss.length : Nat) : Int) by omega)]
      rfl) LL (by simp only [LL]; omega)
  refine ⟨lensN xss xss.length, if xss.length = 0 then zs else (xss.take xss.length).flatten, ?_, ?_⟩
  · rw [e]
    unfold slices_Concat_int_int_n17 slices_Concat_int_int_n1 slices_Concat_int_int_n16 slices_Concat_int_int_n6 slices_Concat_int_int_n2 slices_Concat_int_int_n5 slices_Concat_int_int_n4
    simp only [Option.bind_some]
    have p' := p
    rw [show ((lensN xss 0 : Nat) : Int) = 0 from rfl, show ((0 : Nat) : Int) = 0 from rfl] at p'
    rw [p']
    simp only [Option.map_some, Option.bind_some]
    unfold slices_Concat_int_int_n15 slices_Concat_int_int_n7
    rw [gz]
    simp only [Option.bind_some]
    unfold slices_Concat_int_int_n14 slices_Concat_int_int_n12 slices_Concat_int_int_n8 slices_Concat_int_int_n11 slices_Concat_int_int_n10 slices_Concat_int_int_n13
    simp only [Option.bind_some]
    have q' := q
    simp only [if_true] at q'
    rw [show lensN xss 0 = 0 from rfl, show ((0 : Nat) : Int) = 0 from rfl] at q'
    rw [q']
    rfl
  · rw [List.drop_zero]
    by_cases z : xss.length = 0
    · have : xss = [] := List.eq_nil_of_length_eq_zero z
      subst this
      rfl
    · have tk : xss.take xss.length = xss := List.take_length
      rw [if_neg z]
      unfold lensN
      rw [tk]
      exact List.take_length

theorem mergeC_le : ∀ (n : Nat) (A B : List Int), A.length + B.length ≤ n → (mergeC A B).2 ≤ A.length * B.length
  | n, [], B, _ => by rw [mergeC]; exact Nat.zero_le _
  | n, a :: A, [], _ => by rw [mergeC]; exact Nat.zero_le _
  | 0, a :: A, b :: B, h => by simp at h
  | n + 1, a :: A, b :: B, h => by
    simp only [List.length_cons] at h
    by_cases l : a < b
    · rw [mergeC_lt l]
      have := mergeC_le n A (b :: B) (by simp only [List.length_cons]; omega)
      exact Nat.le_trans this (Nat.mul_le_mul_right _ (by simp))
    · rw [mergeC_ge l]
      have := mergeC_le n (a :: A) B (by simp only [List.length_cons]; omega)
      simp only [List.length_cons] at this ⊢
      rw [Nat.mul_add (A.length + 1) B.length 1]
      omega

abbrev mergedBody : (List Int) × (List Int) × Int × (List Int) → Option (((List Int) × (List Int) × Int × (List Int)) ⊕ (((List Int) × (List Int) × Int × (List Int)))) :=
  fun (s : (List Int) × (List Int) × Int × (List Int)) => ((impl_merged_n2 s.1 s.2.1 s.2.2.1 s.2.2.2).map (Sum.elim (fun (t : (List Int) × (List Int) × Int × (List Int)) => Sum.inl (t.1, t.2.1, t.2.2.1, t.2.2.2)) (fun (t : (List Int) × (List Int) × Int × (List Int)) => Sum.inr t)) : Option (((List Int) × (List Int) × Int × (List Int)) ⊕ (((List Int) × (List Int) × Int × (List Int)))))

theorem merged_loop : ∀ (n : Nat) (A B R : List Int) (t N : Nat), A.length + B.length ≤ n → n < N → R.length + A.length + B.length ≤ 1000 → t + (mergeC A B).2 ≤ 10000000 →
    ∃ A' B' R', nloop mergedBody N (A, B, ((t : Nat) : Int), R) = some (A', B', ((t + (mergeC A B).2 : Nat) : Int), R') ∧ R' ++ A' ++ B' = R ++ (mergeC A B).1
  | n, [], B, R, t, N + 1, _, _, _, _ => by
    refine ⟨[], B, R, ?_, ?_⟩
    · rw [mergeC, nloop]
      rfl
    · rw [mergeC]
      simp
  | n, a :: A, [], R, t, N + 1, _, _, _, _ => by
    refine ⟨a :: A, [], R, ?_, ?_⟩
    · rw [mergeC, nloop]
      simp only [mergedBody, impl_merged_n2]
      rw [decide_eq_true (show ((((a :: A).length : Nat)) : Int) > 0 by simp only [List.length_cons]; omega)]
      rfl
    · rw [mergeC]
      simp
  | 0, a :: A, b :: B, R, t, N + 1, h, _, _, _ => by simp at h
  | n, A, B, R, t, 0, _, h, _, _ => by omega
  | n + 1, a :: A, b :: B, R, t, N + 1, h, hN, hR, ht => by
    simp only [List.length_cons] at h hR
    have i1 : idx (a :: A) 0 = some a := rfl
    have i2 : idx (b :: B) 0 = some b := rfl
    have g1 : decide ((((a :: A).length : Nat) : Int) > 0) = true := decide_eq_true (by simp only [List.length_cons]; omega)
    have g2 : decide ((((b :: B).length : Nat) : Int) > 0) = true := decide_eq_true (by simp only [List.length_cons]; omega)
    have c1 : ∀ (x : Int) (l : List Int), inc 1 (x :: l).length = some 1 := fun x l => by
      unfold inc
      rw [if_pos (by simp only [List.length_cons]; omega)]
      rfl
    have d1 : ∀ (x : Int) (l : List Int), ((x :: l).take (x :: l).length).drop 1 = l := fun x l => by rw [List.take_length]; rfl
    by_cases l : a < b
    · rw [mergeC_lt l] at ht ⊢
      simp only at ht ⊢
      obtain ⟨A', B', R', q, r⟩ := merged_loop n A (b :: B) (R ++ [a]) t N (by simp only [List.length_cons]; omega) (by omega) (by simp only [List.length_append, List.length_cons, List.length_nil]; omega) ht
      refine ⟨A', B', R', ?_, by rw [r]; simp⟩
      rw [nloop]
      have st : mergedBody (a :: A, b :: B, ((t : Nat) : Int), R) = some (Sum.inl (A, b :: B, ((t : Nat) : Int), R ++ [a])) := by
        simp only [mergedBody, impl_merged_n2]
        rw [g1, g2, i1, i2]
        simp only [cond_true, Option.bind_some]
        rw [decide_eq_true l, room8 (by simp only [List.length_cons, List.length_nil]; omega), c1]
        simp only [cond_true, Option.bind_some, d1]
        rfl
      rw [st]
      exact q
    · rw [mergeC_ge l] at ht ⊢
      simp only at ht ⊢
      obtain ⟨A', B', R', q, r⟩ := merged_loop n (a :: A) B (R ++ [b]) (t + (A.length + 1)) N (by simp only [List.length_cons]; omega) (by omega) (by simp only [List.length_append, List.length_cons, List.length_nil]; omega) (by omega)
      refine ⟨A', B', R', ?_, by rw [r]; simp⟩
      rw [nloop]
      have st : mergedBody (a :: A, b :: B, ((t : Nat) : Int), R) = some (Sum.inl (a :: A, B, ((t + (A.length + 1) : Nat) : Int), R ++ [b])) := by
        simp only [mergedBody, impl_merged_n2]
        rw [g1, g2, i1, i2]
        simp only [cond_true, Option.bind_some]
        rw [decide_eq_false l]
        simp only [cond_false]
        rw [room8 (by simp only [List.length_cons, List.length_nil]; omega), c1, wrap64 (x := ((t : Nat) : Int) + (((a :: A).length : Nat) : Int)) (by simp only [List.length_cons]; omega) (by simp only [List.length_cons]; omega)]
        simp only [cond_false, Option.bind_some, d1]
        simp only [List.length_cons]
        rw [show ((t : Nat) : Int) + ((A.length + 1 : Nat) : Int) = ((t + (A.length + 1) : Nat) : Int) by omega]
        rfl
      rw [st, show t + (A.length + 1 + (mergeC (a :: A) B).2) = t + (A.length + 1) + (mergeC (a :: A) B).2 by omega]
      exact q

theorem merged_ok (A B : List Int) (h : A.length + B.length ≤ 100) : ∃ n ys, impl_merged A B = some (n, ((mergeC A B).2 : Int), ys) ∧ (ys.drop 0).take n = (mergeC A B).1 := by
  have e : impl_merged A B = impl_merged_n7 A B := by unfold impl_merged; rfl
  have m0 : mk 0 (IntKind.wrap .i64 (((A.length : Nat) : Int) + ((B.length : Nat) : Int))) = some 0 := by
    rw [wrap64 (by omega) (by omega)]
    unfold mk
    rw [if_pos (by omega)]
    rfl
  have le := mergeC_le _ A B (Nat.le_refl _)
  have le2 : A.length * B.length ≤ 100 * 100 := Nat.mul_le_mul (by omega) (by omega)
  obtain ⟨A', B', R', q, r⟩ := merged_loop _ A B [] 0 LL (Nat.le_refl _) (by simp only [LL]; omega) (by simp; omega) (by omega)
  rw [List.nil_append] at r
  have fl : [R', A', B'].flatten = (mergeC A B).1 := by rw [← r]; simp
  have ln := (mergeC_perm _ A B (Nat.le_refl _)).length_eq
  obtain ⟨n, ys, q2, r2⟩ := concat_ok [R', A', B'] (by simp) (by rw [fl, ln, List.length_append]; omega)
  refine ⟨n, ys, ?_, by rw [r2, fl]⟩
  rw [e]
  unfold impl_merged_n7 impl_merged_n1
  rw [m0]
  simp only [Option.bind_some, List.replicate_zero]
  unfold impl_merged_n6 impl_merged_n4 impl_merged_n3
  rw [show (0 : Int) = ((0 : Nat) : Int) from rfl]
  have q' : nloop mergedBody LL (A, B, ((0 : Nat) : Int), []) = _ := q
  rw [Nat.zero_add] at q'
  rw [show (nloop _ LL (A, B, ((0 : Nat) : Int), ([] : List Int)) : Option ((List Int) × (List Int) × Int × (List Int))) = some (A', B', ((mergeC A B).2 : Int), R') from q']
  simp only [Option.map_some, Option.bind_some]
  unfold impl_merged_n5
  rw [q2]
  rfl

theorem quo_two (n : Nat) (h : n ≤ 1000000) : quo .i64 ((n : Nat) : Int) 2 = some ((n / 2 : Nat) : Int) := by
  unfold quo
  rw [if_neg (by omega), show Int.tdiv (n : Int) 2 = ((n / 2 : Nat) : Int) from rfl, wrap64 (by omega) (by omega)]

theorem sorted_ok : ∀ (f : Nat) (l : List Int), l.length ≤ f → l.length ≤ 50 → l.Nodup → ∃ r, impl_sorted_fuel (f + 1) l = some (r, (turnN l : Int)) ∧ r.Pairwise (· < ·) ∧ r.Perm l
  | f, l, hf, h50, hn => by
    have e : impl_sorted_fuel (f + 1) l = impl_sorted_n1 (impl_sorted_knot f) l := rfl
    rw [e]
    unfold impl_sorted_n1
    by_cases s : l.length < 2
    · rw [decide_eq_true (show ((l.length : Nat) : Int) < 2 by omega)]
      refine ⟨l, ?_, ?_, List.Perm.refl _⟩
      · match l, s with
        | [], _ => rfl
        | [x], _ => rfl
        | _ :: _ :: _, s => simp only [List.length_cons] at s; omega
      · match l, s with
        | [], _ => exact List.Pairwise.nil
        | [x], _ => exact List.pairwise_singleton _ _
        | _ :: _ :: _, s => simp only [List.length_cons] at s; omega
    · rw [decide_eq_false (show ¬ ((l.length : Nat) : Int) < 2 by omega), quo_two _ (by omega)]
      have c : inc ((l.length / 2 : Nat) : Int) l.length = some (l.length / 2) := by
        unfold inc
        rw [if_pos (by omega), Int.toNat_natCast]
      obtain ⟨f, rfl⟩ : ∃ f', f = f' + 1 := ⟨f - 1, by omega⟩
      have sp := List.take_append_drop (l.length / 2) l
      have nd : (l.take (l.length / 2) ++ l.drop (l.length / 2)).Nodup := by rw [sp]; exact hn
      rw [List.nodup_append] at nd
      have l1 : (l.take (l.length / 2)).length = l.length / 2 := by rw [List.length_take]; omega
      have l2 : (l.drop (l.length / 2)).length = l.length - l.length / 2 := List.length_drop
      obtain ⟨r1, q1, s1, p1⟩ := sorted_ok f (l.take (l.length / 2)) (by omega) (by omega) nd.1
      obtain ⟨r2, q2, s2, p2⟩ := sorted_ok f (l.drop (l.length / 2)) (by omega) (by omega) nd.2.1
      have q1 : impl_sorted_knot (f + 1) (l.take (l.length / 2)) = _ := q1
      have q2 : impl_sorted_knot (f + 1) (l.drop (l.length / 2)) = _ := q2
      have m1 := p1.length_eq
      have m2 := p2.length_eq
      obtain ⟨n, ys, q3, q4⟩ := merged_ok r1 r2 (by omega)
      have dj : ∀ x ∈ r1, x ∉ r2 := fun x hx hy => nd.2.2 x (p1.mem_iff.mp hx) x (p2.mem_iff.mp hy) rfl
      obtain ⟨s3, c3⟩ := mergeC_sorted _ r1 r2 (Nat.le_refl _) s1 s2 dj
      have p3 := mergeC_perm _ r1 r2 (Nat.le_refl _)
      have tt : turnN l = turnN (l.take (l.length / 2)) + turnN (l.drop (l.length / 2)) + (mergeC r1 r2).2 := by
        rw [c3, crossT_left p1, cross_perm p2]
        have := turn_append (l.take (l.length / 2)) (l.drop (l.length / 2))
        rw [sp] at this
        omega
      have tl := turn_le hn
      have tb : l.length * (l.length - 1) ≤ 50 * 50 := Nat.mul_le_mul h50 (by omega)
      have td : l.length * (l.length - 1) / 2 ≤ 2500 := by omega
      refine ⟨(mergeC r1 r2).1, ?_, s3, ?_⟩
      · simp only [cond_false, Option.bind_some, c, List.drop_zero, q1, List.take_length, q2, q3]
        rw [List.drop_zero] at q4
        rw [q4, wrap64 (x := (turnN (l.take (l.length / 2)) : Int) + (turnN (l.drop (l.length / 2)) : Int)) (by omega) (by omega), wrap64 (by omega) (by omega), tt]
        congr 2
      · exact p3.trans ((p1.append p2).trans (by rw [sp]))

theorem implTurned_eq (o : List Int) : impl_CountTurned o = some (turnI o) := by
  have e : impl_CountTurned o = impl_CountTurned_n1 o := by unfold impl_CountTurned; rfl
  rw [e]
  unfold impl_CountTurned_n1 turnI
  rw [implOrder_eq]
  cases t : orderB o o.length with
  | false => rfl
  | true =>
    have ok := (orderB_iff o _).mp t
    have nd := ((orderP_iff o _).mp ok.2.2.2).2
    obtain ⟨r, q, _, _⟩ := sorted_ok (RR - 1) o (by simp only [RR]; omega) (by omega) nd
    have e : impl_sorted o = impl_sorted_fuel (RR - 1 + 1) o := by unfold impl_sorted; rfl
    simp only [Option.bind_some, Bool.not_true, cond_false, e, q, if_true]

theorem implExchanged_eq (o : List Int) (at' : Int) : impl_ExchangedAt o at' = some (excI o at') := by
  have e : impl_ExchangedAt o at' = impl_ExchangedAt_n1 o at' := by unfold impl_ExchangedAt; rfl
  rw [e]
  unfold impl_ExchangedAt_n1 excI
  rw [implOrder_eq]
  cases t : orderB o o.length with
  | false => simp
  | true =>
    have ok := (orderB_iff o _).mp t
    have h8 : o.length ≤ 8 := by omega
    rw [wrap64 (x := ((o.length : Nat) : Int) - 1) (by omega) (by omega)]
    simp only [Option.bind_some, Bool.not_true, cond_false]
    by_cases b : 0 ≤ at' ∧ at' ≤ (o.length : Int) - 2
    · rw [if_pos ⟨trivial, b⟩, decide_eq_false (by omega), decide_eq_false (by omega)]
      obtain ⟨k, rfl⟩ : ∃ k : Nat, at' = (k : Int) := ⟨at'.toNat, by omega⟩
      have w : IntKind.wrap .i64 ((k : Int) + 1) = ((k + 1 : Nat) : Int) := by rw [wrap64 (by omega) (by omega)]; omega
      have c : slices_Clone_int_int o = some o := by
        have e : slices_Clone_int_int o = slices_Clone_int_int_n1 o := by unfold slices_Clone_int_int; rfl
        rw [e]
        unfold slices_Clone_int_int_n1
        rw [room8 (by simp; omega)]
        cases o with
        | nil => simp at b; omega
        | cons x l => rfl
      have i1 : inb (k : Int) o.length = some k := by unfold inb; rw [if_pos (by omega)]; simp
      have i2 : ∀ x, inb ((k + 1 : Nat) : Int) (o.set k x).length = some (k + 1) := fun x => by
        unfold inb
        rw [List.length_set, if_pos (by omega)]
        simp
      have g1 : o[k]? = some o[k] := List.getElem?_eq_getElem (by omega)
      have g2 : o[k + 1]? = some o[k + 1] := List.getElem?_eq_getElem (by omega)
      simp only [cond_false, c, Option.bind_some, w]
      rw [idx_some (show k + 1 < o.length by omega), idx_some (show k < o.length by omega)]
      simp only [Option.bind_some, i1, i2, Int.toNat_natCast]
      unfold excL
      rw [List.getD_eq_getElem?_getD, List.getD_eq_getElem?_getD, g1, g2]
      rfl
    · rw [if_neg (fun z => b z.2)]
      by_cases c : at' < 0
      · rw [decide_eq_true c]
        rfl
      · rw [decide_eq_false c, decide_eq_true (show at' ≥ ((o.length : Nat) : Int) - 1 by omega)]
        rfl

theorem nloop_ex {σ ω : Type} {body : σ → Option (σ ⊕ ω)} (I : σ → Prop) (μ : σ → Nat) (Q : ω → Prop)
    (h : ∀ s, I s → (∃ s', body s = some (.inl s') ∧ I s' ∧ μ s' < μ s) ∨ (∃ o, body s = some (.inr o) ∧ Q o)) : ∀ (n : Nat) (s : σ), I s → μ s < n → ∃ o, nloop body n s = some o ∧ Q o
  | 0, s, _, hn => by omega
  | n + 1, s, hi, hn => by
    rcases h s hi with ⟨s', hb, hi', hm⟩ | ⟨o, hb, hq⟩
    · simp only [nloop, hb, Option.bind_some]
      exact nloop_ex I μ Q h n s' hi' (by omega)
    · simp only [nloop, hb, Option.bind_some]
      exact ⟨o, rfl, hq⟩

/-- Bytes. -/
structure Bytes (b : List Int) : Prop where
  rng : ∀ x ∈ b, 0 ≤ x ∧ x ≤ 255
  len : b.length ≤ 2000

theorem rem_ok {a b : Int} (h : 1 ≤ b) (ha : 0 ≤ a) : ∃ v, rem a b = some v ∧ 0 ≤ v ∧ v < b := by
  refine ⟨a.tmod b, by simp [rem]; omega, ?_, ?_⟩
  · exact Int.tmod_nonneg _ ha
  · exact Int.tmod_lt_of_pos _ (by omega)

theorem idx_ok {b : List Int} {i : Int} (h0 : 0 ≤ i) (h1 : i < b.length) : ∃ v, idx b i = some v ∧ v ∈ b := by
  have : i.toNat < b.length := by omega
  exact ⟨b[i.toNat], by simp [idx, h0, this], List.getElem_mem _⟩

theorem quo_ok {a b : Int} (h : 1 ≤ b) (ha : 0 ≤ a) (hm : a ≤ 9223372036854775807) : ∃ v, quo .i64 a b = some v ∧ 0 ≤ v ∧ v ≤ a := by
  have h1 : 0 ≤ a.tdiv b := Int.tdiv_nonneg ha (by omega)
  have h2 : a.tdiv b ≤ a := Int.tdiv_le_self _ ha
  refine ⟨a.tdiv b, ?_, h1, h2⟩
  simp only [quo]
  rw [if_neg (by omega), wrap64 (by omega) (by omega)]

theorem ixor_ok {a b : Int} (ha : 0 ≤ a) (ha2 : a < 9223372036854775808) (hb : 0 ≤ b) (hb2 : b < 9223372036854775808) : 0 ≤ ixor .i64 a b := by
  have e : (BitVec.ofInt 64 a ^^^ BitVec.ofInt 64 b).toNat < 9223372036854775808 := by
    rw [BitVec.toNat_xor]
    have h1 : (BitVec.ofInt 64 a).toNat < 2 ^ 63 := by
      rw [BitVec.toNat_ofInt]; omega
    have h2 : (BitVec.ofInt 64 b).toNat < 2 ^ 63 := by
      rw [BitVec.toNat_ofInt]; omega
    exact Nat.xor_lt_two_pow h1 h2
  unfold ixor
  have : IntKind.bits .i64 = 64 := rfl
  show 0 ≤ IntKind.wrap .i64 ((BitVec.ofInt 64 a ^^^ BitVec.ofInt 64 b).toNat : Int)
  rw [wrap64 (by omega) (by omega)]
  omega

theorem mixw {x1 x2 p q : Int} (h1 : 0 ≤ x1 ∧ x1 ≤ 255) (h2 : 0 ≤ x2 ∧ x2 ≤ 255) (hp : 0 ≤ p) (hp2 : p ≤ 1000000000) (qa : 0 ≤ q) (qb : q ≤ p) :
    IntKind.wrap .i64 (IntKind.wrap .i64 (IntKind.wrap .i64 (IntKind.wrap .i64 (IntKind.wrap .i64 x1 * 131) + IntKind.wrap .i64 (IntKind.wrap .i64 x2 * 1117)) + IntKind.wrap .i64 (p * 29)) + IntKind.wrap .i64 (q * 53)) = x1 * 131 + x2 * 1117 + p * 29 + q * 53 := by
  rw [wrap64 (x := x1) (by omega) (by omega), wrap64 (x := x1 * 131) (by omega) (by omega), wrap64 (x := x2) (by omega) (by omega), wrap64 (x := x2 * 1117) (by omega) (by omega),
      wrap64 (x := x1 * 131 + x2 * 1117) (by omega) (by omega), wrap64 (x := p * 29) (by omega) (by omega), wrap64 (x := x1 * 131 + x2 * 1117 + p * 29) (by omega) (by omega), wrap64 (x := q * 53) (by omega) (by omega),
      wrap64 (x := x1 * 131 + x2 * 1117 + p * 29 + q * 53) (by omega) (by omega)]
theorem mixb {x1 x2 p q : Int} (h1 : 0 ≤ x1 ∧ x1 ≤ 255) (h2 : 0 ≤ x2 ∧ x2 ≤ 255) (hp : 0 ≤ p) (hp2 : p ≤ 1000000000) (qa : 0 ≤ q) (qb : q ≤ p) :
    0 ≤ x1 * 131 + x2 * 1117 + p * 29 + q * 53 ∧ x1 * 131 + x2 * 1117 + p * 29 + q * 53 ≤ 1000000000000 := by omega

theorem bindO {α β : Type} {o : Option α} {a : α} {f : α → Option β} {K : β → Prop} (h : o = some a) (hk : ∃ r, f a = some r ∧ K r) : ∃ r, o.bind f = some r ∧ K r := by
  subst h; exact hk

theorem pick_far {b : List Int} (hb : Bytes b) {n : Int} (hn : 1 ≤ n) {p : Int} (hp : 0 ≤ p) (hp2 : p ≤ 1000000000) (h3 : ((b.length : Nat) : Int) ≤ p) (hl : 1 ≤ b.length) (K : Int × Int → Prop) (hK : ∀ v, 0 ≤ v → v < n → K (v, p + 1)) :
    ∃ r, ((rem p ((b.length : Nat) : Int)).bind fun (v171 : Int) => (idx b v171).bind fun (v172 : Int) => (rem (IntKind.wrap .i64 ((IntKind.wrap .i64 (p * 7)) + 3)) ((b.length : Nat) : Int)).bind fun (v178 : Int) => (idx b v178).bind fun (v179 : Int) => (quo .i64 p ((b.length : Nat) : Int)).bind fun (v186 : Int) => (quo .i64 (IntKind.wrap .i64 ((IntKind.wrap .i64 ((IntKind.wrap .i64 ((IntKind.wrap .i64 ((IntKind.wrap .i64 v172) * 131)) + (IntKind.wrap .i64 ((IntKind.wrap .i64 v179) * 1117)))) + (IntKind.wrap .i64 (p * 29)))) + (IntKind.wrap .i64 (v186 * 53)))) 64).bind fun (v189 : Int) =>
      (rem (ixor .i64 (IntKind.wrap .i64 ((IntKind.wrap .i64 ((IntKind.wrap .i64 ((IntKind.wrap .i64 ((IntKind.wrap .i64 v172) * 131)) + (IntKind.wrap .i64 ((IntKind.wrap .i64 v179) * 1117)))) + (IntKind.wrap .i64 (p * 29)))) + (IntKind.wrap .i64 (v186 * 53)))) v189) n).bind fun (v191 : Int) => some (v191, p + 1)) = some r ∧ K r := by
  obtain ⟨i1, e1, i1a, i1b⟩ := rem_ok (a := p) (b := b.length) (by omega) hp
  refine bindO e1 ?_
  obtain ⟨x1, ex1, hm1⟩ := idx_ok i1a i1b
  have hr1 := hb.rng x1 hm1
  refine bindO ex1 ?_
  obtain ⟨i2, e3, i2a, i2b⟩ := rem_ok (a := p * 7 + 3) (b := b.length) (by omega) (by omega)
  have e3' : rem (IntKind.wrap .i64 ((IntKind.wrap .i64 (p * 7)) + 3)) ((b.length : Nat) : Int) = some i2 := by
    rw [wrap64 (x := p * 7) (by omega) (by omega), wrap64 (x := p * 7 + 3) (by omega) (by omega)]; exact e3
  refine bindO e3' ?_
  obtain ⟨x2, ex2, hm2⟩ := idx_ok i2a i2b
  have hr2 := hb.rng x2 hm2
  refine bindO ex2 ?_
  obtain ⟨q, eq, qa, qb⟩ := quo_ok (a := p) (b := b.length) (by omega) hp (by omega)
  refine bindO eq ?_
  rw [mixw hr1 hr2 hp hp2 qa qb]
  obtain ⟨hX0, hX1⟩ := mixb hr1 hr2 hp hp2 qa qb
  generalize x1 * 131 + x2 * 1117 + p * 29 + q * 53 = X at hX0 hX1 ⊢
  obtain ⟨y, ey, ya, yb⟩ := quo_ok (a := X) (b := 64) (by omega) hX0 (by omega)
  refine bindO ey ?_
  obtain ⟨v, hv, h4, h5⟩ := rem_ok (b := n) (by omega) (ixor_ok hX0 (by omega) ya (by omega))
  refine bindO hv ?_
  exact ⟨_, rfl, hK v h4 h5⟩

theorem pick_ok {b : List Int} (hb : Bytes b) (n : Int) (hn : n ≤ 1000000) {p : Int} (hp : 0 ≤ p) (hp2 : p ≤ 1000000000) :
    ∃ v, spec_l20Rd_pick n b p = some (v, p + 1) ∧ 0 ≤ v ∧ (1 ≤ n → v < n) ∧ (n < 1 → v = 0) := by
  suffices H : ∃ r, spec_l20Rd_pick n b p = some r ∧ (r.2 = p + 1 ∧ 0 ≤ r.1 ∧ (1 ≤ n → r.1 < n) ∧ (n < 1 → r.1 = 0)) by
    obtain ⟨⟨v, q⟩, h1, h2, h3⟩ := H
    simp only at h2
    subst h2
    exact ⟨v, h1, h3⟩
  unfold spec_l20Rd_pick spec_l20Rd_pick_n1
  have hlen := hb.len
  rw [wrap64 (x := p + 1) (by omega) (by omega), show p + 1 - 1 = p by omega, wrap64 (x := p) (by omega) (by omega)]
  by_cases h1 : n < 1
  · rw [decide_eq_true h1]
    exact ⟨_, rfl, rfl, Int.le_refl _, fun h => by omega, fun _ => rfl⟩
  rw [decide_eq_false h1]
  by_cases h2 : b.length = 0
  · have e0 : ((((b.length : Nat) : Int)) == 0) = true := by simp; exact List.eq_nil_of_length_eq_zero h2
    rw [e0]
    exact ⟨_, rfl, rfl, Int.le_refl _, fun h => by show (0 : Int) < n; omega, fun _ => rfl⟩
  have e2 : ((((b.length : Nat) : Int)) == 0) = false := by simp; intro e; subst e; simp at h2
  rw [e2]
  by_cases h3 : p < ((b.length : Nat) : Int)
  · rw [decide_eq_true h3]
    obtain ⟨x, hx, hm⟩ := idx_ok hp h3
    have hr := hb.rng x hm
    simp only [cond_true, cond_false]
    refine bindO hx ?_
    obtain ⟨v, hv, h4, h5⟩ := rem_ok (b := n) (by omega) hr.1
    refine bindO (a := v) (by rw [wrap64 (x := x) (by omega) (by omega)]; exact hv) ?_
    exact ⟨_, rfl, rfl, h4, fun _ => h5, fun h => by omega⟩
  · rw [decide_eq_false h3]
    simp only [cond_false]
    exact pick_far hb (by omega) hp hp2 (by omega) (by omega) _ (fun v h4 h5 => ⟨rfl, h4, fun _ => h5, fun h => by omega⟩)

theorem odd_ok {b : List Int} (hb : Bytes b) (n : Int) (hn : n ≤ 1000000) {p : Int} (hp : 0 ≤ p) (hp2 : p ≤ 1000000000) :
    ∃ (v : Bool) (q : Int), spec_l20Rd_odd n b p = some (v, q) ∧ p ≤ q ∧ q ≤ p + 1 := by
  unfold spec_l20Rd_odd spec_l20Rd_odd_n1
  by_cases h : n > 0
  · obtain ⟨v, hv, _⟩ := pick_ok hb n hn hp hp2
    rw [decide_eq_true h, hv]
    exact ⟨_, _, rfl, by show p ≤ p + 1; omega, by show p + 1 ≤ p + 1; omega⟩
  · rw [decide_eq_false h]
    exact ⟨_, _, rfl, by omega, by omega⟩

theorem open_ok (x : List Int) (w : ∀ n ∈ x, (Lit.int .u8 n).wf = true) (l : x.length ≤ maxLen) : ∃ b, spec_l20Open x = some b ∧ Bytes b := by
  have hr : ∀ n ∈ x, 0 ≤ n ∧ n ≤ 255 := fun n hn => by
    have := w n hn
    simp only [Lit.wf, Bool.and_eq_true, decide_eq_true_eq] at this
    have e1 : IntKind.u8.min = 0 := rfl
    have e2 : IntKind.u8.max = 255 := rfl
    omega
  unfold spec_l20Open spec_l20Open_n1
  by_cases h : ((x.length : Nat) : Int) > 2000
  · rw [decide_eq_true h]
    have : inc 2000 x.length = some 2000 := by simp only [inc]; rw [if_pos (by omega)]; rfl
    rw [this]
    exact ⟨_, rfl, ⟨fun n hn => hr n (List.mem_of_mem_take (List.mem_of_mem_drop hn)), by simp; omega⟩⟩
  · rw [decide_eq_false h]
    exact ⟨x, rfl, ⟨hr, by omega⟩⟩

theorem inc_ok {i : Int} {n : Nat} (h0 : 0 ≤ i) (h1 : i ≤ n) : inc i n = some i.toNat := by simp only [inc]; rw [if_pos ⟨h0, h1⟩]
theorem inb_ok {i : Int} {n : Nat} (h0 : 0 ≤ i) (h1 : i < n) : inb i n = some i.toNat := by simp only [inb]; rw [if_pos ⟨h0, h1⟩]

/-- A number put into a row. -/
theorem ins_step {o : List Int} {i : Nat} {x : Int} (hi : i ≤ o.length) (hl : o.length ≤ 1000) :
    (room ((List.length ([] : List Int)) + List.length ((o.drop 0).take (i - 0)))) = some () ∧ room ((List.length (([] : List Int) ++ ((o.drop 0).take (i - 0)))) + List.length ([x])) = some () ∧
    room ((List.length ((([] : List Int) ++ ((o.drop 0).take (i - 0))) ++ ([x]))) + List.length ((o.drop i).take ((List.length o) - i))) = some () ∧
    (((([] : List Int) ++ ((o.drop 0).take (i - 0))) ++ ([x])) ++ ((o.drop i).take ((List.length o) - i))) = o.take i ++ [x] ++ o.drop i := by
  refine ⟨by rw [room_le]; simp; omega, by rw [room_le]; simp; omega, by rw [room_le]; simp; omega, ?_⟩
  simp only [List.nil_append, List.drop_zero, Nat.sub_zero]
  rw [List.take_of_length_le (l := o.drop i) (by simp)]

theorem order_ok {b : List Int} (hb : Bytes b) (n : Nat) (hn : n ≤ 20) {p : Int} (hp : 0 ≤ p) (hp2 : p ≤ 999999000) :
    ∃ (q : Int) (o : List Int), spec_l20Order n b p = some (q, o) ∧ p ≤ q ∧ q ≤ p + 100 ∧ o.length = n ∧ ∀ x ∈ o, 1 ≤ x ∧ x ≤ (n : Int) := by
  unfold spec_l20Order spec_l20Order_n9 spec_l20Order_n1
  obtain ⟨keep, hk, _⟩ := pick_ok hb 2 (by omega) hp (by omega)
  rw [hk]
  simp only [Option.bind_some]
  unfold spec_l20Order_n8 spec_l20Order_n6 spec_l20Order_n2 spec_l20Order_n5 spec_l20Order_n4
  obtain ⟨⟨q, o⟩, h1, h2, h3, h4, h5⟩ := nloop_ex (body := fun (s : Int × Int × List Int) => ((spec_l20Order_n3 n keep s.1 b s.2.1 s.2.2).map (Sum.elim (fun (t : Int × Int × List Int) => Sum.inl (t.1, t.2.1, t.2.2)) (fun (t : Int × List Int) => Sum.inr t)) : Option ((Int × Int × List Int) ⊕ ((Int × List Int)))))
    (I := fun s => ∃ (k : Nat) (q : Int) (o : List Int), s = (((k + 1 : Nat) : Int), q, o) ∧ k ≤ n ∧ p ≤ q ∧ q ≤ p + 1 + 2 * k ∧ o.length = k ∧ ∀ x ∈ o, 1 ≤ x ∧ x ≤ (k : Int)) (μ := fun s => n + 1 - s.1.toNat)
    (Q := fun t => p ≤ t.1 ∧ t.1 ≤ p + 100 ∧ t.2.length = n ∧ ∀ x ∈ t.2, 1 ≤ x ∧ x ≤ (n : Int))
    (by
      rintro _ ⟨k, q, o, rfl, hk, hq1, hq2, ho, hx⟩
      simp only [spec_l20Order_n3]
      by_cases hlt : k < n
      · left
        rw [show decide (((k + 1 : Nat) : Int) ≤ (n : Int)) = true from decide_eq_true (by omega), wrap64 (x := ((k + 1 : Nat) : Int) + 1) (by omega) (by omega)]
        have fin : ∀ (i : Nat) (q' : Int), i ≤ o.length → p ≤ q' → q' ≤ q + 2 → (∃ k_1 q_1 o_1, ((((k + 1 : Nat) : Int) + 1, q', o.take i ++ [((k + 1 : Nat) : Int)] ++ o.drop i) : Int × Int × List Int) = (((k_1 + 1 : Nat) : Int), q_1, o_1) ∧ k_1 ≤ n ∧ p ≤ q_1 ∧ q_1 ≤ p + 1 + 2 * (k_1 : Int) ∧ o_1.length = k_1 ∧ ∀ x ∈ o_1, 1 ≤ x ∧ x ≤ (k_1 : Int)) ∧
            n + 1 - (((k + 1 : Nat) : Int) + 1).toNat < n + 1 - (((k + 1 : Nat) : Int)).toNat := fun i q' hi hq3 hq4 => by
          refine ⟨⟨k + 1, q', _, by push_cast; rfl, by omega, hq3, by push_cast; omega, by simp; omega, fun x hxm => ?_⟩, by omega⟩
          simp only [List.mem_append, List.mem_singleton] at hxm
          rcases hxm with (h | h) | h
          · have := hx x (List.mem_of_mem_take h); push_cast; omega
          · subst h; push_cast; omega
          · have := hx x (List.mem_of_mem_drop h); push_cast; omega
        have one : ∀ (v : Int), 0 ≤ v → v ≤ o.length → ∀ q' : Int, (inc v (List.length o)).bind (fun (v426 : Nat) => (room ((List.length ([] : List Int)) + List.length ((o.drop 0).take (v426 - 0)))).bind fun (v430 : Unit) => (room ((List.length (([] : List Int) ++ ((o.drop 0).take (v426 - 0)))) + List.length ([((k + 1 : Nat) : Int)]))).bind fun (v434 : Unit) => (inc v (List.length o)).bind fun (v437 : Nat) => (room ((List.length ((([] : List Int) ++ ((o.drop 0).take (v426 - 0))) ++ ([((k + 1 : Nat) : Int)]))) + List.length ((o.drop v437).take ((List.length o) - v437)))).bind fun (v441 : Unit) =>
            some (Sum.inl ((((k + 1 : Nat) : Int) + 1), q', (((([] : List Int) ++ ((o.drop 0).take (v426 - 0))) ++ ([((k + 1 : Nat) : Int)])) ++ ((o.drop v437).take ((List.length o) - v437)))))) = (some (Sum.inl ((((k + 1 : Nat) : Int) + 1), q', o.take v.toNat ++ [((k + 1 : Nat) : Int)] ++ o.drop v.toNat)) : Option ((Int × Int × List Int) ⊕ (Int × List Int))) := fun v hv0 hv1 q' => by
          obtain ⟨r1, r2, r3, r4⟩ := ins_step (o := o) (i := v.toNat) (x := ((k + 1 : Nat) : Int)) (by omega) (by omega)
          simp only [inc_ok hv0 hv1, Option.bind_some, r1, r2, r3, r4]
        obtain ⟨v1, hv1, a1, b1, _⟩ := pick_ok hb ((k + 1 : Nat) : Int) (by omega) (p := q) (by omega) (by omega)
        have b1' := b1 (by omega)
        obtain ⟨v3, hv3, a3, b3, _⟩ := pick_ok hb 3 (by omega) (p := q) (by omega) (by omega)
        obtain ⟨v2, hv2, a2, b2, _⟩ := pick_ok hb ((k + 1 : Nat) : Int) (by omega) (p := q + 1) (by omega) (by omega)
        have b2' := b2 (by omega)
        cases hkeep : (keep == 0) with
        | true =>
          simp only [cond_true, hv1, Option.bind_some]
          rw [one v1 a1 (by omega) (q + 1)]
          exact ⟨_, rfl, fin v1.toNat (q + 1) (by omega) (by omega) (by omega)⟩
        | false =>
          simp only [cond_true, cond_false, hv3, Option.bind_some]
          cases h3 : (v3 == 0) with
          | true =>
            simp only [cond_true, hv2, Option.bind_some]
            rw [one v2 a2 (by omega) (q + 1 + 1)]
            exact ⟨_, rfl, fin v2.toNat (q + 1 + 1) (by omega) (by omega) (by omega)⟩
          | false =>
            simp only [cond_false]
            rw [one ((o.length : Nat) : Int) (by omega) (by omega) (q + 1)]
            exact ⟨_, rfl, fin (((o.length : Nat) : Int)).toNat (q + 1) (by omega) (by omega) (by omega)⟩
      · right
        have e : k = n := by omega
        subst e
        rw [show decide (((k + 1 : Nat) : Int) ≤ (k : Int)) = false from decide_eq_false (by omega)]
        exact ⟨_, rfl, hq1, by show q ≤ p + 100; omega, ho, hx⟩) LL (1, p + 1, []) ⟨0, p + 1, [], rfl, by omega, by omega, by omega, rfl, by simp⟩ (by simp only [LL]; omega)
  rw [h1]
  exact ⟨q, o, rfl, h2, h3, h4, h5⟩

theorem drawn_exchanged (x : List Int) (w : ∀ n ∈ x, (Lit.int .u8 n).wf = true) (l : x.length ≤ maxLen) : ∃ (k : Int) (o : List Int), spec_DrawExchangedAt x = some (k, o) ∧ 1 ≤ o.length ∧ o.length ≤ 8 := by
  obtain ⟨b, hb, hB⟩ := open_ok x w l
  obtain ⟨v, hv, va, vb, _⟩ := pick_ok hB 8 (by omega) (p := 0) (by omega) (by omega)
  have vb := vb (by omega)
  obtain ⟨n, hn⟩ : ∃ n : Nat, 1 + v = (n : Int) := ⟨(1 + v).toNat, by omega⟩
  obtain ⟨q, o, ho, q1, q2, ol, _⟩ := order_ok hB n (by omega) (p := 0 + 1) (by omega) (by omega)
  obtain ⟨z, q3, hz, z1, z2⟩ := odd_ok hB 9 (by omega) (p := q) (by omega) (by omega)
  have i0 : inb 0 o.length = some 0 := inb_ok (by omega) (by omega)
  have w1 : IntKind.wrap .i64 (((o.length : Nat) : Int) + 1) = ((o.length : Nat) : Int) + 1 := wrap64 (by omega) (by omega)
  obtain ⟨v1, h1, a1, b1, _⟩ := pick_ok hB (((o.length : Nat) : Int) + 1) (by omega) (p := q3) (by omega) (by omega)
  obtain ⟨v2, h2, a2, b2, _⟩ := pick_ok hB 20 (by omega) (p := q3 + 1) (by omega) (by omega)
  obtain ⟨d, hd, _, _⟩ := quo_ok (a := v2) (b := 19) (by omega) a2 (by omega)
  unfold spec_DrawExchangedAt spec_DrawExchangedAt_n1
  simp only [hb, Option.bind_some, hv]
  rw [wrap64 (x := 1 + v) (by omega) (by omega), hn]
  simp only [ho, Option.bind_some, hz]
  cases z with
  | false =>
    simp only [cond_false, w1, h1, Option.bind_some, h2, hd]
    exact ⟨_, o, rfl, by omega, by omega⟩
  | true =>
    simp only [cond_true, i0, Option.bind_some, List.length_set, w1, h1, h2, hd]
    exact ⟨_, _, rfl, by rw [List.length_set]; omega, by rw [List.length_set]; omega⟩

theorem exc_split (A B : List Int) (x y : Int) : excL (A ++ x :: y :: B) A.length = A ++ y :: x :: B := by
  unfold excL
  simp [List.getD_eq_getElem?_getD, List.set_append]

theorem two_split {o : List Int} {k : Nat} (hk : k + 1 < o.length) : ∃ A B x y, o = A ++ x :: y :: B ∧ A.length = k ∧ o[k]? = some x ∧ o[k + 1]? = some y := by
  refine ⟨o.take k, o.drop (k + 1 + 1), o[k], o[k + 1], ?_, by simp; omega, List.getElem?_eq_getElem (by omega), List.getElem?_eq_getElem hk⟩
  rw [← List.drop_eq_getElem_cons hk, ← List.drop_eq_getElem_cons (by omega), List.take_append_drop]

theorem order_of_perm {o r : List Int} {m : Int} (p : r.Perm o) (t : orderB o m = true) : orderB r m = true := by
  rw [orderB_iff, orderP_iff] at t ⊢
  exact ⟨t.1, t.2.1, by rw [p.length_eq]; exact t.2.2.1, fun x hx => t.2.2.2.1 x (p.mem_iff.mp hx), p.nodup_iff.mpr t.2.2.2.2⟩

/-- All that is said of an exchange. -/
theorem exc_all {o : List Int} {k : Nat} (t : orderB o o.length = true) (hk : k + 1 < o.length) :
    ∃ x y, o[k]? = some x ∧ o[k + 1]? = some y ∧ orderB (excL o k) o.length = true ∧ (excL o k).length = o.length ∧ (turnN (excL o k) : Int) = turnN o + (if x > y then -1 else 1) ∧ excL (excL o k) k = o := by
  obtain ⟨A, B, x, y, e, la, gx, gy⟩ := two_split hk
  have nd := ((orderP_iff o _).mp ((orderB_iff o _).mp t).2.2.2).2
  have ex : excL o k = A ++ y :: x :: B := by rw [e, ← la, exc_split]
  have ne : x ≠ y := by
    rw [e, List.nodup_append] at nd
    have := nd.2.1
    rw [List.nodup_cons] at this
    exact fun q => this.1 (by rw [q]; exact List.mem_cons_self ..)
  have p : (excL o k).Perm o := by
    rw [ex, e]
    exact List.Perm.append_left A (List.Perm.swap ..)
  refine ⟨x, y, gx, gy, order_of_perm p t, p.length_eq, ?_, ?_⟩
  · rw [ex, turn_swap A B x y ne, ← e]
  · rw [ex, ← la, exc_split, ← e]

theorem tree0 : treeB [0] = true := by decide
theorem tree1 : treeB [1] = false := by decide
theorem alive_eq : laws_alive = some true := by
  unfold laws_alive laws_alive_n1
  simp [implTree_eq, tree0, tree1]

theorem sameInts_eq (xs ys : List Int) (h : xs.length ≤ 1048576) : laws_sameInts xs ys = some (xs == ys) := by
  have e : laws_sameInts xs ys = laws_sameInts_n9 xs ys := by unfold laws_sameInts; rfl
  rw [e]
  unfold laws_sameInts_n9 laws_sameInts_n1 laws_sameInts_n8 laws_sameInts_n6 laws_sameInts_n5 laws_sameInts_n4 laws_sameInts_n2 laws_sameInts_n7
  by_cases hl : xs.length = ys.length
  · have hloop := nloop_run (body := fun (s : Int) => ((laws_sameInts_n3 xs ys s).map (Sum.elim (fun (t : Int) => Sum.inl t) (Sum.elim (fun (t : Bool) => Sum.inr (Sum.inl t)) (fun (t : Unit) => Sum.inr (Sum.inr t)))) : Option ((Int) ⊕ (Bool ⊕ Unit))))
      (I := fun s => ∃ k : Nat, s = k ∧ k ≤ xs.length) (μ := fun s => xs.length - s.toNat) (f := fun s => cond (xs.drop s.toNat == ys.drop s.toNat) (.inr ()) (.inl false))
      (by
        rintro _ ⟨k, rfl, hk⟩
        by_cases hlt : k < xs.length
        · have hlt' : k < ys.length := by omega
          simp only [laws_sameInts_n3]
          rw [show decide ((k : Int) < ((xs.length : Nat) : Int)) = true from decide_eq_true (by omega)]
          simp only [cond_true, idx_lt hlt, idx_lt hlt', Option.bind_some, Int.toNat_natCast]
          rw [wrap64 (by omega) (by omega), drop_beq hlt hlt']
          by_cases he : xs[k] = ys[k]
          · left
            refine ⟨((k + 1 : Nat) : Int), by simp [he], ⟨k + 1, rfl, hlt⟩, by simp; omega, by simp [he]⟩
          · right
            have e1 : (xs[k] == ys[k]) = false := by simpa using he
            simp [bne, e1]
        · right
          have e : k = xs.length := by omega
          subst e
          simp only [laws_sameInts_n3]
          rw [show decide (((xs.length : Nat) : Int) < ((xs.length : Nat) : Int)) = false from decide_eq_false (by omega)]
          simp [List.drop_of_length_le (Nat.le_of_eq hl.symm)])
    rw [show ((((xs.length : Nat) : Int)) != (((ys.length : Nat) : Int))) = false by simp [hl]]
    simp only [cond_false, Option.bind_some, Sum.elim_inl]
    rw [hloop LL 0 ⟨0, by simp, by omega⟩ (by simp only [LL]; simp; omega)]
    simp only [Int.toNat_zero, List.drop_zero]
    cases xs == ys <;> rfl
  · rw [show ((((xs.length : Nat) : Int)) != (((ys.length : Nat) : Int))) = true by simp; omega]
    have : (xs == ys) = false := by
      rw [beq_eq_false_iff_ne]
      exact fun e => hl (by rw [e])
    rw [this]; rfl

end Go.Rv
