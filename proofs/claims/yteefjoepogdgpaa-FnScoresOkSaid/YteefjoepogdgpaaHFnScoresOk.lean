/-
  Plain mathematics of what the law reaches. Conditions: none.
-/
import Derived.Test.YteefjoepogdgpaaGFnScoresOk
set_option linter.unusedVariables false
set_option linter.unusedSimpArgs false
namespace Go.Rv
theorem nloop_run {σ ω : Type} {body : σ → Option (σ ⊕ ω)} (I : σ → Prop) (μ : σ → Nat) (f : σ → ω)
    (h : ∀ s, I s → (∃ s', body s = some (.inl s') ∧ I s' ∧ μ s' < μ s ∧ f s' = f s) ∨ body s = some (.inr (f s))) : ∀ (n : Nat) (s : σ), I s → μ s < n → nloop body n s = some (f s)
  | 0, s, _, hn => by omega
  | n + 1, s, hi, hn => by
    rcases h s hi with ⟨s', hb, hi', hm, hf⟩ | hb
    · simp only [nloop, hb, Option.bind_some]
      rw [nloop_run I μ f h n s' hi' (by omega), hf]
    · simp only [nloop, hb, Option.bind_some]

/-- A loop that counts from a number on: state (k, x), k < n goes on. -/
theorem wrap64 {x : Int} (h1 : -9223372036854775808 ≤ x) (h2 : x ≤ 9223372036854775807) : IntKind.wrap .i64 x = x := by
  simp only [IntKind.wrap, IntKind.bits, IntKind.signed]
  simp
  omega

theorem idx_nat {α : Type} (xs : List α) (k : Nat) : idx xs (k : Int) = xs[k]? := by simp [idx]
theorem idx_lt {α : Type} {xs : List α} {k : Nat} (h : k < xs.length) : idx xs (k : Int) = some xs[k] := by simp [idx, h]
theorem inb_nat {k n : Nat} (h : k < n) : inb (k : Int) n = some k := by
  simp only [inb]
  rw [if_pos (by omega)]
  simp
theorem drop_cons {α : Type} {xs : List α} {k : Nat} (h : k < xs.length) : xs.drop k = xs[k] :: xs.drop (k + 1) := List.drop_eq_getElem_cons h

/-- From a word to the root, with so many steps at most: the root, and how many steps lead to it. -/
def climb (h : List Int) : Nat → Nat → Option (Nat × Nat)
  | 0, _ => none
  | f + 1, w => match h[w - 1]? with
    | none => none
    | some x => if x = 0 then some (w, 0) else (climb h f x.toNat).map fun p => (p.1, p.2 + 1)

def okHead (n : Nat) (x : Int) : Bool := decide (0 ≤ x) && decide (x ≤ n)

def inRange (h : List Int) : Bool := h.all (okHead h.length)

/-- The heads of a tree. -/
def treeB (h : List Int) : Bool :=
  decide (1 ≤ h.length) && decide (h.length ≤ 8) && inRange h && (h.count 0 == 1) && (List.range h.length).all fun k => (climb h h.length (k + 1)).isSome

theorem all_drop_cons {h : List Int} {p : Int → Bool} {k : Nat} (hk : k < h.length) : (h.drop k).all p = (p h[k] && (h.drop (k + 1)).all p) := by
  rw [drop_cons hk]; rfl

theorem count_drop_cons {h : List Int} {k : Nat} (hk : k < h.length) : (h.drop k).count 0 = (if h[k] = 0 then 1 else 0) + (h.drop (k + 1)).count 0 := by
  rw [drop_cons hk, List.count_cons]
  by_cases e : h[k] = 0 <;> simp [e] <;> omega

theorem oneRoot_eq (h : List Int) (hl : h.length ≤ 1048576) : impl_oneRoot h = some (inRange h && (h.count 0 == 1)) := by
  have hloop := nloop_run (body := fun (s : Int × Int) => ((impl_oneRoot_n3 h s.1 h.length s.2).map (Sum.elim (fun (t : Int × Int) => Sum.inl (t.1, t.2)) (Sum.elim (fun (t : Bool) => Sum.inr (Sum.inl t)) (fun (t : Int) => Sum.inr (Sum.inr t)))) : Option ((Int × Int) ⊕ (Bool ⊕ Int))))
    (I := fun s => ∃ k r : Nat, s = ((r : Int), (k : Int)) ∧ k ≤ h.length ∧ r ≤ k) (μ := fun s => h.length - s.2.toNat)
    (f := fun s => cond ((h.drop s.2.toNat).all (okHead h.length)) (.inr (s.1 + ((h.drop s.2.toNat).count 0 : Nat))) (.inl false))
    (by
      rintro _ ⟨k, r, rfl, hk, hr⟩
      by_cases hlt : k < h.length
      · simp only [impl_oneRoot_n3]
        rw [show decide ((k : Int) < ((h.length : Nat) : Int)) = true from decide_eq_true (by omega)]
        simp only [cond_true, idx_lt hlt, Option.bind_some, Int.toNat_natCast]
        rw [wrap64 (x := (k : Int) + 1) (by omega) (by omega), wrap64 (x := (r : Int) + 1) (by omega) (by omega), all_drop_cons hlt, count_drop_cons hlt]
        by_cases h1 : h[k] < 0
        · right
          have : okHead h.length h[k] = false := by simp [okHead]; omega
          simp [h1, this]
        · by_cases h2 : h[k] > (h.length : Int)
          · right
            have : okHead h.length h[k] = false := by simp [okHead]; omega
            simp [h1, h2, this]
          · left
            have hok : okHead h.length h[k] = true := by simp [okHead]; omega
            by_cases h3 : h[k] = 0
            · refine ⟨(((r + 1 : Nat) : Int), ((k + 1 : Nat) : Int)), ?_, ⟨k + 1, r + 1, rfl, hlt, by omega⟩, by simp; omega, ?_⟩
              · have h4 : decide ((h.length : Int) < 0) = false := decide_eq_false (by omega)
                simp [h3, h4]
              · have e : ((k + 1 : Nat) : Int).toNat = k + 1 := by simp
                rw [e, hok]
                simp only [h3, if_true, Bool.true_and]
                congr 2
                push_cast
                omega
            · refine ⟨((r : Int), ((k + 1 : Nat) : Int)), ?_, ⟨k + 1, r, rfl, hlt, by omega⟩, by simp; omega, ?_⟩
              · have e1 : (h[k] == 0) = false := by simpa using h3
                have e2 : decide (h[k] < 0) = false := decide_eq_false h1
                have e3 : decide (h[k] > (h.length : Int)) = false := decide_eq_false h2
                simp [e1, e2, e3]
              · have e : ((k + 1 : Nat) : Int).toNat = k + 1 := by simp
                rw [e, hok]
                simp [h3]
      · right
        have e : k = h.length := by omega
        subst e
        simp only [impl_oneRoot_n3]
        rw [show decide (((h.length : Nat) : Int) < ((h.length : Nat) : Int)) = false from decide_eq_false (by omega)]
        simp)
  unfold impl_oneRoot impl_oneRoot_n9 impl_oneRoot_n1 impl_oneRoot_n8 impl_oneRoot_n6 impl_oneRoot_n2 impl_oneRoot_n5 impl_oneRoot_n4
  simp only [Option.bind_some]
  rw [hloop LL (0, 0) ⟨0, 0, rfl, by omega, by omega⟩ (by simp only [LL]; simp; omega)]
  simp only [Int.toNat_zero, List.drop_zero]
  unfold inRange
  cases ha : h.all (okHead h.length) with
  | false => simp
  | true =>
    simp only [cond_true, Option.map_some, Sum.elim_inr, Option.bind_some, Sum.elim_inl, impl_oneRoot_n7, Bool.true_and]
    congr 1
    by_cases e : h.count 0 = 1
    · simp [e]
    · have e1 : ((0 : Int) + ((h.count 0 : Nat) : Int) == 1) = false := by rw [beq_eq_false_iff_ne]; omega
      have e2 : (h.count 0 == 1) = false := by rw [beq_eq_false_iff_ne]; exact e
      rw [e2]; exact e1

theorem inRange_get {h : List Int} (hr : inRange h = true) {k : Nat} (hk : k < h.length) : 0 ≤ h[k] ∧ h[k] ≤ h.length := by
  have := List.all_eq_true.1 hr h[k] (List.getElem_mem hk)
  simpa [okHead] using this

theorem up_eq (h : List Int) (k : Nat) (s : Nat) (hk : k < h.length) (hl : h.length ≤ 1048576) (hs : s ≤ h.length) :
    impl_walker_up h ((k + 1 : Nat) : Int) (s : Int) = some (if h[k] = 0 then (false, ((k + 1 : Nat) : Int), (s : Int)) else (true, h[k], ((s + 1 : Nat) : Int))) := by
  unfold impl_walker_up impl_walker_up_n1
  rw [wrap64 (by omega) (by omega), show ((k + 1 : Nat) : Int) - 1 = (k : Int) by omega, idx_lt hk]
  simp only [Option.bind_some]
  rw [wrap64 (by omega) (by omega)]
  by_cases e : h[k] = 0
  · simp [e]
  · have e1 : (h[k] == 0) = false := by simpa using e
    simp [e, e1]

theorem steps_eq (h : List Int) (hl : h.length ≤ 1048576) (hr : inRange h = true) (k : Nat) (hk : k < h.length) :
    impl_stepsToRoot h ((k + 1 : Nat) : Int) = some (match climb h h.length (k + 1) with | some p => ((p.2 : Int), true) | none => (0, false)) := by
  have hloop := nloop_run (body := fun (s : Int × Int) => ((impl_stepsToRoot_n2 h s.1 s.2).map (Sum.elim (fun (t : Int × Int) => Sum.inl (t.1, t.2)) (Sum.elim (fun (t : Int × Bool) => Sum.inr (Sum.inl t)) (fun (t : Int × Int) => Sum.inr (Sum.inr t)))) : Option ((Int × Int) ⊕ ((Int × Bool) ⊕ (Int × Int)))))
    (I := fun s => ∃ k i : Nat, s = (((k + 1 : Nat) : Int), (i : Int)) ∧ k < h.length ∧ i < h.length) (μ := fun s => h.length - s.2.toNat)
    (f := fun s => match climb h (h.length - s.2.toNat) s.1.toNat with | some p => .inr ((p.1 : Int), s.2 + (p.2 : Int)) | none => .inl (0, false))
    (by
      rintro _ ⟨k, i, rfl, hk, hi⟩
      simp only [impl_stepsToRoot_n2]
      rw [up_eq h k i hk hl (by omega)]
      obtain ⟨hr1, hr2⟩ := inRange_get hr hk
      have hf : h.length - i = (h.length - i - 1) + 1 := by omega
      have hg : h[k + 1 - 1]? = some h[k] := by simp [hk]
      have hcl : climb h (h.length - i) (k + 1) = if h[k] = 0 then some (k + 1, 0) else (climb h (h.length - i - 1) h[k].toNat).map fun p => (p.1, p.2 + 1) := by
        rw [hf]; simp only [climb, hg]; simp
      simp only [Option.bind_some, Int.toNat_natCast]
      rw [hcl]
      by_cases e : h[k] = 0
      · right
        simp [e]
      · simp only [e, if_false, cond_true]
        by_cases hlast : i + 1 ≥ h.length
        · right
          have h0 : h.length - i - 1 = 0 := by omega
          have hd : decide (((i + 1 : Nat) : Int) ≥ ((h.length : Nat) : Int)) = true := decide_eq_true (by omega)
          simp only [hd, h0, climb]
          simp
        · left
          have hd : decide (((i + 1 : Nat) : Int) ≥ ((h.length : Nat) : Int)) = false := decide_eq_false (by omega)
          refine ⟨(h[k], ((i + 1 : Nat) : Int)), by simp only [hd]; simp, ⟨h[k].toNat - 1, i + 1, by
            have : ((h[k].toNat - 1 + 1 : Nat) : Int) = h[k] := by omega
            rw [this], by omega, by omega⟩, by simp; omega, ?_⟩
          have e2 : h.length - ((i + 1 : Nat) : Int).toNat = h.length - i - 1 := by simp; omega
          simp only [e2]
          cases climb h (h.length - i - 1) h[k].toNat with
          | none => rfl
          | some p => simp; omega)
  unfold impl_stepsToRoot impl_stepsToRoot_n7 impl_stepsToRoot_n1 impl_stepsToRoot_n6 impl_stepsToRoot_n4 impl_stepsToRoot_n3
  simp only [Option.bind_some]
  rw [hloop LL (((k + 1 : Nat) : Int), 0) ⟨k, 0, rfl, hk, by omega⟩ (by simp only [LL]; simp; omega)]
  simp only [Int.toNat_natCast, Int.toNat_zero, Nat.sub_zero]
  cases climb h h.length (k + 1) with
  | none => simp
  | some p => simp [impl_stepsToRoot_n5]

theorem implTree_eq (h : List Int) : impl_TreeOk h = some (treeB h) := by
  unfold impl_TreeOk impl_TreeOk_n9 impl_TreeOk_n1 impl_TreeOk_n8 impl_TreeOk_n6 impl_TreeOk_n2 impl_TreeOk_n5 impl_TreeOk_n4
  unfold treeB
  by_cases h1 : h.length < 1
  · have e : decide (1 ≤ h.length) = false := decide_eq_false (by omega)
    have e2 : decide ((((h.length : Nat) : Int)) < 1) = true := decide_eq_true (by omega)
    simp [e, e2]
  · have e1 : decide ((((h.length : Nat) : Int)) < 1) = false := decide_eq_false (by omega)
    have e1' : decide (1 ≤ h.length) = true := decide_eq_true (by omega)
    by_cases h2 : h.length > 8
    · have e : decide (h.length ≤ 8) = false := decide_eq_false (by omega)
      have e2 : decide ((((h.length : Nat) : Int)) > 8) = true := decide_eq_true (by omega)
      simp only [e1, e2, e]
      simp
    · have e2 : decide ((((h.length : Nat) : Int)) > 8) = false := decide_eq_false (by omega)
      have e2' : decide (h.length ≤ 8) = true := decide_eq_true (by omega)
      simp only [e1, e2, e1', e2', cond_false, oneRoot_eq h (by omega), Option.bind_some, Bool.true_and]
      cases hr : inRange h with
      | false => simp
      | true =>
        cases hc : (h.count 0 == 1) with
        | false => simp
        | true =>
          simp only [Bool.true_and, Bool.not_true, cond_false, Option.bind_some, Sum.elim_inl]
          have hloop := nloop_run (body := fun (s : Int) => ((impl_TreeOk_n3 h h.length s).map (Sum.elim (fun (t : Int) => Sum.inl t) (Sum.elim (fun (t : Bool) => Sum.inr (Sum.inl t)) (fun (t : Unit) => Sum.inr (Sum.inr t)))) : Option ((Int) ⊕ (Bool ⊕ Unit))))
            (I := fun s => ∃ k : Nat, s = (k : Int) ∧ k ≤ h.length) (μ := fun s => h.length - s.toNat)
            (f := fun s => cond (((List.range h.length).drop s.toNat).all fun k => (climb h h.length (k + 1)).isSome) (.inr ()) (.inl false))
            (by
              rintro _ ⟨k, rfl, hk⟩
              by_cases hlt : k < h.length
              · simp only [impl_TreeOk_n3]
                rw [show decide ((k : Int) < ((h.length : Nat) : Int)) = true from decide_eq_true (by omega)]
                rw [wrap64 (x := (k : Int) + 1) (by omega) (by omega), show (k : Int) + 1 = ((k + 1 : Nat) : Int) by omega, steps_eq h (by omega) hr k hlt]
                simp only [cond_true, Option.bind_some, Int.toNat_natCast]
                have hd : (List.range h.length).drop k = k :: (List.range h.length).drop (k + 1) := by
                  rw [List.drop_eq_getElem_cons (by simpa using hlt)]
                  simp
                rw [hd]
                simp only [List.all_cons]
                cases hcl : climb h h.length (k + 1) with
                | none => right; simp
                | some p =>
                  left
                  refine ⟨((k + 1 : Nat) : Int), by simp, ⟨k + 1, rfl, hlt⟩, by simp; omega, by simp⟩
              · right
                have e : k = h.length := by omega
                subst e
                simp only [impl_TreeOk_n3]
                rw [show decide (((h.length : Nat) : Int) < ((h.length : Nat) : Int)) = false from decide_eq_false (by omega)]
                simp [List.drop_of_length_le (show (List.range h.length).length ≤ h.length by simp)])
          rw [hloop LL 0 ⟨0, rfl, by omega⟩ (by simp only [LL]; simp; omega)]
          simp only [Int.toNat_zero, List.drop_zero]
          cases ((List.range h.length).all fun k => (climb h h.length (k + 1)).isSome) <;> rfl

theorem l1In_eq (a b c : Int) : spec_l1In a b c = some (decide (b ≤ a) && decide (a ≤ c)) := by
  unfold spec_l1In spec_l1In_n1
  by_cases h : a ≥ b
  · have e : decide (a ≥ b) = true := decide_eq_true h
    rw [e]; rfl
  · have e : decide (a ≥ b) = false := decide_eq_false h
    rw [e]; rfl

/-- The head of a word, both from 1 on; 0 for none. -/
def hd (h : List Int) (w : Nat) : Nat := (h.getD (w - 1) 0).toNat

/-- A loop that stops at the first place where p does not hold. -/
theorem nloop_while {σ ω : Type} {body : σ → Option (σ ⊕ ω)} (S : Nat → σ) (n : Nat) (p : Nat → Bool) (w : Bool → ω) (hs : ∀ k, k < n → p k = true → body (S k) = some (.inl (S (k + 1))))
    (hb : ∀ k, k < n → p k = false → body (S k) = some (.inr (w false))) (he : body (S n) = some (.inr (w true))) (N : Nat) (hN : n < N) :
    nloop body N (S 0) = some (w ((List.range n).all p)) := by
  have key : ∀ (m k N : Nat), k + m = n → m < N → nloop body N (S k) = some (w ((List.range' k m).all p)) := by
    intro m
    induction m with
    | zero =>
      intro k N hk hN
      obtain ⟨N', rfl⟩ : ∃ N', N = N' + 1 := ⟨N - 1, by omega⟩
      have : k = n := by omega
      subst this
      simp only [nloop, he, Option.bind_some]
      rfl
    | succ m ih =>
      intro k N hk hN
      obtain ⟨N', rfl⟩ : ∃ N', N = N' + 1 := ⟨N - 1, by omega⟩
      rw [List.range'_succ, List.all_cons]
      cases hp : p k with
      | false => simp only [nloop, hb k (by omega) hp, Option.bind_some, Bool.false_and]
      | true =>
        simp only [nloop, hs k (by omega) hp, Option.bind_some, Bool.true_and]
        exact ih (k + 1) N' (by omega) (by omega)
  rw [List.range_eq_range']
  exact key n 0 N (by omega) hN

theorem nloop_ex {σ ω : Type} {body : σ → Option (σ ⊕ ω)} (I : σ → Prop) (μ : σ → Nat) (Q : ω → Prop)
    (h : ∀ s, I s → (∃ s', body s = some (.inl s') ∧ I s' ∧ μ s' < μ s) ∨ (∃ o, body s = some (.inr o) ∧ Q o)) : ∀ (n : Nat) (s : σ), I s → μ s < n → ∃ o, nloop body n s = some o ∧ Q o
  | 0, s, _, hn => by omega
  | n + 1, s, hi, hn => by
    rcases h s hi with ⟨s', hb, hi', hm⟩ | ⟨o, hb, hq⟩
    · simp only [nloop, hb, Option.bind_some]
      exact nloop_ex I μ Q h n s' hi' (by omega)
    · simp only [nloop, hb, Option.bind_some]
      exact ⟨o, rfl, hq⟩

/-- Bytes. -/
structure Bytes (b : List Int) : Prop where
  rng : ∀ x ∈ b, 0 ≤ x ∧ x ≤ 255
  len : b.length ≤ 2000

theorem rem_ok {a b : Int} (h : 1 ≤ b) (ha : 0 ≤ a) : ∃ v, rem a b = some v ∧ 0 ≤ v ∧ v < b := by
  refine ⟨a.tmod b, by simp [rem]; omega, ?_, ?_⟩
  · exact Int.tmod_nonneg _ ha
  · exact Int.tmod_lt_of_pos _ (by omega)

theorem idx_ok {b : List Int} {i : Int} (h0 : 0 ≤ i) (h1 : i < b.length) : ∃ v, idx b i = some v ∧ v ∈ b := by
  have : i.toNat < b.length := by omega
  exact ⟨b[i.toNat], by simp [idx, h0, this], List.getElem_mem _⟩

theorem quo_ok {a b : Int} (h : 1 ≤ b) (ha : 0 ≤ a) (hm : a ≤ 9223372036854775807) : ∃ v, quo .i64 a b = some v ∧ 0 ≤ v ∧ v ≤ a := by
  have h1 : 0 ≤ a.tdiv b := Int.tdiv_nonneg ha (by omega)
  have h2 : a.tdiv b ≤ a := Int.tdiv_le_self _ ha
  refine ⟨a.tdiv b, ?_, h1, h2⟩
  simp only [quo]
  rw [if_neg (by omega), wrap64 (by omega) (by omega)]

theorem ixor_ok {a b : Int} (ha : 0 ≤ a) (ha2 : a < 9223372036854775808) (hb : 0 ≤ b) (hb2 : b < 9223372036854775808) : 0 ≤ ixor .i64 a b := by
  have e : (BitVec.ofInt 64 a ^^^ BitVec.ofInt 64 b).toNat < 9223372036854775808 := by
    rw [BitVec.toNat_xor]
    have h1 : (BitVec.ofInt 64 a).toNat < 2 ^ 63 := by
      rw [BitVec.toNat_ofInt]; omega
    have h2 : (BitVec.ofInt 64 b).toNat < 2 ^ 63 := by
      rw [BitVec.toNat_ofInt]; omega
    exact Nat.xor_lt_two_pow h1 h2
  unfold ixor
  have : IntKind.bits .i64 = 64 := rfl
  show 0 ≤ IntKind.wrap .i64 ((BitVec.ofInt 64 a ^^^ BitVec.ofInt 64 b).toNat : Int)
  rw [wrap64 (by omega) (by omega)]
  omega

theorem mixw {x1 x2 p q : Int} (h1 : 0 ≤ x1 ∧ x1 ≤ 255) (h2 : 0 ≤ x2 ∧ x2 ≤ 255) (hp : 0 ≤ p) (hp2 : p ≤ 1000000000) (qa : 0 ≤ q) (qb : q ≤ p) :
    IntKind.wrap .i64 (IntKind.wrap .i64 (IntKind.wrap .i64 (IntKind.wrap .i64 (IntKind.wrap .i64 x1 * 131) + IntKind.wrap .i64 (IntKind.wrap .i64 x2 * 1117)) + IntKind.wrap .i64 (p * 29)) + IntKind.wrap .i64 (q * 53)) = x1 * 131 + x2 * 1117 + p * 29 + q * 53 := by
  rw [wrap64 (x := x1) (by omega) (by omega), wrap64 (x := x1 * 131) (by omega) (by omega), wrap64 (x := x2) (by omega) (by omega), wrap64 (x := x2 * 1117) (by omega) (by omega),
      wrap64 (x := x1 * 131 + x2 * 1117) (by omega) (by omega), wrap64 (x := p * 29) (by omega) (by omega), wrap64 (x := x1 * 131 + x2 * 1117 + p * 29) (by omega) (by omega), wrap64 (x := q * 53) (by omega) (by omega),
      wrap64 (x := x1 * 131 + x2 * 1117 + p * 29 + q * 53) (by omega) (by omega)]
theorem mixb {x1 x2 p q : Int} (h1 : 0 ≤ x1 ∧ x1 ≤ 255) (h2 : 0 ≤ x2 ∧ x2 ≤ 255) (hp : 0 ≤ p) (hp2 : p ≤ 1000000000) (qa : 0 ≤ q) (qb : q ≤ p) :
    0 ≤ x1 * 131 + x2 * 1117 + p * 29 + q * 53 ∧ x1 * 131 + x2 * 1117 + p * 29 + q * 53 ≤ 1000000000000 := by omega

theorem bindO {α β : Type} {o : Option α} {a : α} {f : α → Option β} {K : β → Prop} (h : o = some a) (hk : ∃ r, f a = some r ∧ K r) : ∃ r, o.bind f = some r ∧ K r := by
  subst h; exact hk

theorem pick_far {b : List Int} (hb : Bytes b) {n : Int} (hn : 1 ≤ n) {p : Int} (hp : 0 ≤ p) (hp2 : p ≤ 1000000000) (h3 : ((b.length : Nat) : Int) ≤ p) (hl : 1 ≤ b.length) (K : Int × Int → Prop) (hK : ∀ v, 0 ≤ v → v < n → K (v, p + 1)) :
    ∃ r, ((rem p ((b.length : Nat) : Int)).bind fun (v171 : Int) => (idx b v171).bind fun (v172 : Int) => (rem (IntKind.wrap .i64 ((IntKind.wrap .i64 (p * 7)) + 3)) ((b.length : Nat) : Int)).bind fun (v178 : Int) => (idx b v178).bind fun (v179 : Int) => (quo .i64 p ((b.length : Nat) : Int)).bind fun (v186 : Int) => (quo .i64 (IntKind.wrap .i64 ((IntKind.wrap .i64 ((IntKind.wrap .i64 ((IntKind.wrap .i64 ((IntKind.wrap .i64 v172) * 131)) + (IntKind.wrap .i64 ((IntKind.wrap .i64 v179) * 1117)))) + (IntKind.wrap .i64 (p * 29)))) + (IntKind.wrap .i64 (v186 * 53)))) 64).bind fun (v189 : Int) =>
      (rem (ixor .i64 (IntKind.wrap .i64 ((IntKind.wrap .i64 ((IntKind.wrap .i64 ((IntKind.wrap .i64 ((IntKind.wrap .i64 v172) * 131)) + (IntKind.wrap .i64 ((IntKind.wrap .i64 v179) * 1117)))) + (IntKind.wrap .i64 (p * 29)))) + (IntKind.wrap .i64 (v186 * 53)))) v189) n).bind fun (v191 : Int) => some (v191, p + 1)) = some r ∧ K r := by
  obtain ⟨i1, e1, i1a, i1b⟩ := rem_ok (a := p) (b := b.length) (by omega) hp
  refine bindO e1 ?_
  obtain ⟨x1, ex1, hm1⟩ := idx_ok i1a i1b
  have hr1 := hb.rng x1 hm1
  refine bindO ex1 ?_
  obtain ⟨i2, e3, i2a, i2b⟩ := rem_ok (a := p * 7 + 3) (b := b.length) (by omega) (by omega)
  have e3' : rem (IntKind.wrap .i64 ((IntKind.wrap .i64 (p * 7)) + 3)) ((b.length : Nat) : Int) = some i2 := by
    rw [wrap64 (x := p * 7) (by omega) (by omega), wrap64 (x := p * 7 + 3) (by omega) (by omega)]; exact e3
  refine bindO e3' ?_
  obtain ⟨x2, ex2, hm2⟩ := idx_ok i2a i2b
  have hr2 := hb.rng x2 hm2
  refine bindO ex2 ?_
  obtain ⟨q, eq, qa, qb⟩ := quo_ok (a := p) (b := b.length) (by omega) hp (by omega)
  refine bindO eq ?_
  rw [mixw hr1 hr2 hp hp2 qa qb]
  obtain ⟨hX0, hX1⟩ := mixb hr1 hr2 hp hp2 qa qb
  generalize x1 * 131 + x2 * 1117 + p * 29 + q * 53 = X at hX0 hX1 ⊢
  obtain ⟨y, ey, ya, yb⟩ := quo_ok (a := X) (b := 64) (by omega) hX0 (by omega)
  refine bindO ey ?_
  obtain ⟨v, hv, h4, h5⟩ := rem_ok (b := n) (by omega) (ixor_ok hX0 (by omega) ya (by omega))
  refine bindO hv ?_
  exact ⟨_, rfl, hK v h4 h5⟩

theorem pick_ok {b : List Int} (hb : Bytes b) (n : Int) (hn : n ≤ 1000000) {p : Int} (hp : 0 ≤ p) (hp2 : p ≤ 1000000000) :
    ∃ v, spec_l20Rd_pick n b p = some (v, p + 1) ∧ 0 ≤ v ∧ (1 ≤ n → v < n) ∧ (n < 1 → v = 0) := by
  suffices H : ∃ r, spec_l20Rd_pick n b p = some r ∧ (r.2 = p + 1 ∧ 0 ≤ r.1 ∧ (1 ≤ n → r.1 < n) ∧ (n < 1 → r.1 = 0)) by
    obtain ⟨⟨v, q⟩, h1, h2, h3⟩ := H
    simp only at h2
    subst h2
    exact ⟨v, h1, h3⟩
  unfold spec_l20Rd_pick spec_l20Rd_pick_n1
  have hlen := hb.len
  rw [wrap64 (x := p + 1) (by omega) (by omega), show p + 1 - 1 = p by omega, wrap64 (x := p) (by omega) (by omega)]
  by_cases h1 : n < 1
  · rw [decide_eq_true h1]
    exact ⟨_, rfl, rfl, Int.le_refl _, fun h => by omega, fun _ => rfl⟩
  rw [decide_eq_false h1]
  by_cases h2 : b.length = 0
  · have e0 : ((((b.length : Nat) : Int)) == 0) = true := by simp; exact List.eq_nil_of_length_eq_zero h2
    rw [e0]
    exact ⟨_, rfl, rfl, Int.le_refl _, fun h => by show (0 : Int) < n; omega, fun _ => rfl⟩
  have e2 : ((((b.length : Nat) : Int)) == 0) = false := by simp; intro e; subst e; simp at h2
  rw [e2]
  by_cases h3 : p < ((b.length : Nat) : Int)
  · rw [decide_eq_true h3]
    obtain ⟨x, hx, hm⟩ := idx_ok hp h3
    have hr := hb.rng x hm
    simp only [cond_true, cond_false]
    refine bindO hx ?_
    obtain ⟨v, hv, h4, h5⟩ := rem_ok (b := n) (by omega) hr.1
    refine bindO (a := v) (by rw [wrap64 (x := x) (by omega) (by omega)]; exact hv) ?_
    exact ⟨_, rfl, rfl, h4, fun _ => h5, fun h => by omega⟩
  · rw [decide_eq_false h3]
    simp only [cond_false]
    exact pick_far hb (by omega) hp hp2 (by omega) (by omega) _ (fun v h4 h5 => ⟨rfl, h4, fun _ => h5, fun h => by omega⟩)

theorem odd_ok {b : List Int} (hb : Bytes b) (n : Int) (hn : n ≤ 1000000) {p : Int} (hp : 0 ≤ p) (hp2 : p ≤ 1000000000) :
    ∃ (v : Bool) (q : Int), spec_l20Rd_odd n b p = some (v, q) ∧ p ≤ q ∧ q ≤ p + 1 := by
  unfold spec_l20Rd_odd spec_l20Rd_odd_n1
  by_cases h : n > 0
  · obtain ⟨v, hv, _⟩ := pick_ok hb n hn hp hp2
    rw [decide_eq_true h, hv]
    exact ⟨_, _, rfl, by show p ≤ p + 1; omega, by show p + 1 ≤ p + 1; omega⟩
  · rw [decide_eq_false h]
    exact ⟨_, _, rfl, by omega, by omega⟩

theorem open_ok (x : List Int) (w : ∀ n ∈ x, (Lit.int .u8 n).wf = true) (l : x.length ≤ maxLen) : ∃ b, spec_l20Open x = some b ∧ Bytes b := by
  have hr : ∀ n ∈ x, 0 ≤ n ∧ n ≤ 255 := fun n hn => by
    have := w n hn
    simp only [Lit.wf, Bool.and_eq_true, decide_eq_true_eq] at this
    have e1 : IntKind.u8.min = 0 := rfl
    have e2 : IntKind.u8.max = 255 := rfl
    omega
  unfold spec_l20Open spec_l20Open_n1
  by_cases h : ((x.length : Nat) : Int) > 2000
  · rw [decide_eq_true h]
    have : inc 2000 x.length = some 2000 := by simp only [inc]; rw [if_pos (by omega)]; rfl
    rw [this]
    exact ⟨_, rfl, ⟨fun n hn => hr n (List.mem_of_mem_take (List.mem_of_mem_drop hn)), by simp; omega⟩⟩
  · rw [decide_eq_false h]
    exact ⟨x, rfl, ⟨hr, by omega⟩⟩

def tot (l : List (List Int)) : Nat := (l.map List.length).sum
theorem tot_snoc (l : List (List Int)) (r : List Int) : tot (l ++ [r]) = tot l + r.length := by unfold tot; simp
theorem tot_take {S : List (List Int)} {k : Nat} (h : k < S.length) : tot (S.take (k + 1)) = tot (S.take k) + S[k].length := by
  rw [List.take_add_one, List.getElem?_eq_getElem h]
  exact tot_snoc _ _
theorem tot_le (S : List (List Int)) : ∀ k, tot (S.take k) ≤ tot S := fun k => by
  have : tot S = tot (S.take k) + tot (S.drop k) := by
    unfold tot
    rw [← List.sum_append, ← List.map_append, List.take_append_drop]
  omega
def szT (S : List (List Int)) : Nat := S.length + tot S

theorem row_le {S : List (List Int)} {k : Nat} (h : k < S.length) : S[k].length ≤ tot S := by
  have := tot_take h
  have := tot_le S (k + 1)
  omega

theorem room_ok {n : Nat} (h : n ≤ 1099511627776) : room n = some () := by unfold room; rw [if_pos h]

/-- Small rows of rows. -/
def SmS (S : List (List Int)) : Prop := S.length ≤ 5 ∧ ∀ r ∈ S, r.length ≤ 6

theorem SmS.sz {S : List (List Int)} (h : SmS S) : szT S ≤ 1048576 := by
  have t : ∀ l : List (List Int), (∀ r ∈ l, r.length ≤ 6) → tot l ≤ 6 * l.length := fun l => by
    induction l with
    | nil => intro _; simp [tot]
    | cons a r ih =>
      intro hl
      have := ih fun x hx => hl x (List.mem_cons_of_mem _ hx)
      have := hl a (List.mem_cons_self ..)
      unfold tot at *
      simp only [List.map_cons, List.sum_cons, List.length_cons]
      omega
  have := t S h.2
  have := h.1
  unfold szT
  omega

theorem scores_row {b : List Int} (hb : Bytes b) {many high : Nat} (hm : many ≤ 5) (hh : high ≤ 100) {p : Int} (hp : 0 ≤ p) (hp2 : p ≤ 1000) :
    ∃ (r : List Int) (q : Int), spec_l20Scores_n7 (many : Int) (high : Int) b p = some (q, r) ∧ r.length = many + 1 ∧ p ≤ q ∧ q ≤ p + 6 := by
  unfold spec_l20Scores_n7
  have ex := nloop_ex (body := fun (s : Int × Int × (List Int)) => ((spec_l20Scores_n6 (many : Int) (high : Int) s.1 b s.2.1 s.2.2).map (Sum.elim (fun (t : Int × Int × (List Int)) => Sum.inl (t.1, t.2.1, t.2.2)) (fun (t : Int × (List Int)) => Sum.inr t)) : Option ((Int × Int × (List Int)) ⊕ ((Int × (List Int))))))
    (I := fun t => ∃ j : Nat, t.1 = (j : Int) ∧ j ≤ many + 1 ∧ t.2.1 = p + (j : Int) ∧ t.2.2.length = j)
    (μ := fun t => many + 1 - t.1.toNat) (Q := fun o => o.2.length = many + 1 ∧ p ≤ o.1 ∧ o.1 ≤ p + 6)
    (by
      rintro ⟨jj, q, r⟩ ⟨j, ej, hj, eq, rl⟩
      simp only at ej eq rl
      subst ej eq
      simp only [spec_l20Scores_n6]
      by_cases lt : j ≤ many
      · left
        obtain ⟨v, hv, _⟩ := pick_ok hb (high : Int) (by omega) (p := p + (j : Int)) (by omega) (by omega)
        have w : IntKind.wrap .i64 ((j : Int) + 1) = ((j + 1 : Nat) : Int) := by rw [wrap64 (by omega) (by omega)]; omega
        rw [decide_eq_true (show (j : Int) ≤ (many : Int) by omega), hv, w]
        simp only [cond_true, Option.bind_some]
        rw [room_ok (by simp only [List.length_singleton]; omega)]
        exact ⟨(((j + 1 : Nat) : Int), p + (j : Int) + 1, r ++ [v]), rfl, ⟨j + 1, rfl, by omega, by simp only; omega, by simp [rl]⟩, by simp only [Int.toNat_natCast]; omega⟩
      · right
        rw [decide_eq_false (show ¬ (j : Int) ≤ (many : Int) by omega)]
        exact ⟨(p + (j : Int), r), rfl, by simp only; omega, by simp only; omega, by simp only; omega⟩) LL (0, p, []) ⟨0, rfl, by omega, by simp, rfl⟩ (by simp only [LL]; omega)
  obtain ⟨⟨q, r⟩, ho, h1, h2, h3⟩ := ex
  exact ⟨r, q, ho, h1, h2, h3⟩

theorem scores_rows {b : List Int} (hb : Bytes b) {many high : Nat} (hm : many ≤ 5) (hh : high ≤ 100) {p : Int} (hp : 0 ≤ p) (hp2 : p ≤ 500) :
    ∃ (S : List (List Int)) (q : Int), spec_l20Scores_n17 (many : Int) (high : Int) b p = some (q, S) ∧ S.length = many ∧ (∀ r ∈ S, r.length = many + 1) ∧ p ≤ q ∧ q ≤ p + 30 := by
  unfold spec_l20Scores_n17
  have ex := nloop_ex (body := fun (s : Int × Int × (List (List Int))) => ((spec_l20Scores_n16 (many : Int) (high : Int) s.1 b s.2.1 s.2.2).map (Sum.elim (fun (t : Int × Int × (List (List Int))) => Sum.inl (t.1, t.2.1, t.2.2)) (fun (t : Int × (List (List Int))) => Sum.inr t)) : Option ((Int × Int × (List (List Int))) ⊕ ((Int × (List (List Int)))))))
    (I := fun t => ∃ k : Nat, t.1 = (k : Int) ∧ k ≤ many ∧ p ≤ t.2.1 ∧ t.2.1 ≤ p + 6 * (k : Int) ∧ t.2.2.length = k ∧ ∀ r ∈ t.2.2, r.length = many + 1)
    (μ := fun t => many - t.1.toNat) (Q := fun o => o.2.length = many ∧ (∀ r ∈ o.2, r.length = many + 1) ∧ p ≤ o.1 ∧ o.1 ≤ p + 30)
    (by
      rintro ⟨kk, q, S⟩ ⟨k, ek, hk, q1, q2, sl, sr⟩
      simp only at ek q1 q2 sl sr
      subst ek
      simp only [spec_l20Scores_n16, spec_l20Scores_n3]
      by_cases lt : k < many
      · left
        obtain ⟨r, q', hr, rl, b1, b2⟩ := scores_row hb hm hh (p := q) (by omega) (by omega)
        have w : IntKind.wrap .i64 ((k : Int) + 1) = ((k + 1 : Nat) : Int) := by rw [wrap64 (by omega) (by omega)]; omega
        rw [decide_eq_true (show (k : Int) < (many : Int) by omega)]
        simp only [cond_true, Option.bind_some, Sum.elim_inl, spec_l20Scores_n15, spec_l20Scores_n13, spec_l20Scores_n12, spec_l20Scores_n4, spec_l20Scores_n11, spec_l20Scores_n9, spec_l20Scores_n5, spec_l20Scores_n8, hr, Option.map_some, spec_l20Scores_n10, spec_l20Scores_n14, w]
        rw [room_ok (by omega)]
        refine ⟨(((k + 1 : Nat) : Int), q', (S ++ [[]]).set S.length r), rfl, ⟨k + 1, rfl, lt, by simp only; omega, by simp only; omega, by simp [sl], fun x hx => ?_⟩, by simp only [Int.toNat_natCast]; omega⟩
        simp only at hx
        rw [List.set_append_right _ _ (Nat.le_refl _), Nat.sub_self, List.set_cons_zero] at hx
        rcases List.mem_append.mp hx with hx | hx
        · exact sr x hx
        · rw [List.mem_singleton] at hx
          rw [hx]
          exact rl
      · right
        rw [decide_eq_false (show ¬ (k : Int) < (many : Int) by omega)]
        exact ⟨(q, S), rfl, by simp only; omega, sr, by simp only; omega, by simp only; omega⟩) LL (0, p, []) ⟨0, rfl, by omega, by simp, by simp, rfl, by simp⟩ (by simp only [LL]; omega)
  obtain ⟨⟨q, S⟩, ho, h1, h2, h3, h4⟩ := ex
  exact ⟨S, q, ho, h1, h2, h3, h4⟩

theorem drawn_scores {b : List Int} (hb : Bytes b) (n : Int) (hn : n ≤ 1000) : ∃ (S : List (List Int)) (q : Int), spec_l20Scores n b 0 = some (q, S) ∧ SmS S ∧ 0 ≤ q ∧ q ≤ 100 := by
  have e : spec_l20Scores n b 0 = spec_l20Scores_n22 n b 0 := by unfold spec_l20Scores; rfl
  rw [e]
  unfold spec_l20Scores_n22 spec_l20Scores_n1
  obtain ⟨v1, h1, a1, b1, _⟩ := pick_ok hb 4 (by omega) (p := 0) (by omega) (by omega)
  obtain ⟨v2, h2, a2, b2, _⟩ := pick_ok hb 6 (by omega) (p := 0 + 1) (by omega) (by omega)
  obtain ⟨v3, h3, a3, b3, _⟩ := pick_ok hb 3 (by omega) (p := 0 + 1 + 1) (by omega) (by omega)
  obtain ⟨u2, rfl⟩ : ∃ u : Nat, v2 = (u : Int) := ⟨v2.toNat, by omega⟩
  have hq : quo .i64 (u2 : Int) 5 = some ((u2 / 5 : Nat) : Int) := by
    unfold quo
    rw [if_neg (by omega)]
    have e : (u2 : Int).tdiv 5 = ((u2 / 5 : Nat) : Int) := rfl
    rw [e, wrap64 (by omega) (by omega)]
  have hi : ∃ high : Nat, high ≤ 100 ∧ ((inb v3 (List.length ([3, 10, 21] : List Nat))).bind fun (v : Nat) => ([3, 10, 21] : List Int)[v]?) = some (high : Int) := by
    have : v3 = 0 ∨ v3 = 1 ∨ v3 = 2 := by omega
    rcases this with rfl | rfl | rfl
    · exact ⟨3, by omega, rfl⟩
    · exact ⟨10, by omega, rfl⟩
    · exact ⟨21, by omega, rfl⟩
  obtain ⟨high, hh, ehi⟩ := hi
  obtain ⟨k3, hk3, ek3⟩ : ∃ k, inb v3 (List.length ([3, 10, 21] : List Nat)) = some k ∧ ([3, 10, 21] : List Int)[k]? = some (high : Int) := by
    cases hc : inb v3 (List.length ([3, 10, 21] : List Nat)) with
    | none => rw [hc] at ehi; cases ehi
    | some k => rw [hc] at ehi; exact ⟨k, rfl, ehi⟩
  obtain ⟨many, hmany, m1, m5⟩ : ∃ m : Nat, IntKind.wrap .i64 (IntKind.wrap .i64 (1 + v1) + ((u2 / 5 : Nat) : Int)) = (m : Int) ∧ 1 ≤ m ∧ m ≤ 5 := by
    refine ⟨1 + v1.toNat + u2 / 5, ?_, by omega, by omega⟩
    rw [wrap64 (x := 1 + v1) (by omega) (by omega), wrap64 (by omega) (by omega)]
    omega
  simp only [h1, h2, h3, hq, Option.bind_some, hmany]
  rw [hk3]
  simp only [Option.bind_some]
  rw [ek3]
  simp only [Option.bind_some, spec_l20Scores_n21, spec_l20Scores_n19, spec_l20Scores_n2, spec_l20Scores_n18]
  obtain ⟨S, q, hS, sl, sr, q1, q2⟩ := scores_rows hb m5 hh (p := 0 + 1 + 1 + 1) (by omega) (by omega)
  rw [hS]
  simp only [Option.map_some, Option.bind_some, spec_l20Scores_n20]
  obtain ⟨od, q', ho, o1, o2⟩ := odd_ok hb n (by omega) (p := q) (by omega) (by omega)
  rw [ho]
  simp only [Option.bind_some]
  have good : SmS S := ⟨by omega, fun r hr => by have := sr r hr; omega⟩
  cases od with
  | false => exact ⟨S, q', rfl, good, by omega, by omega⟩
  | true =>
    obtain ⟨v4, h4, a4, b4, _⟩ := pick_ok hb 3 (by omega) (p := q') (by omega) (by omega)
    rw [h4]
    simp only [cond_true, Option.bind_some]
    by_cases z0 : v4 = 0
    · rw [show (v4 == 0) = true from beq_iff_eq.mpr z0]
      exact ⟨[], q' + 1, rfl, ⟨by simp, by simp⟩, by omega, by omega⟩
    · rw [show (v4 == 0) = false from beq_eq_false_iff_ne.mpr z0]
      obtain ⟨r0, rest, rfl⟩ : ∃ r0 rest, S = r0 :: rest := by
        cases S with
        | nil => simp at sl; omega
        | cons a r => exact ⟨a, r, rfl⟩
      have r0l := sr r0 (List.mem_cons_self ..)
      have i0 : inb 0 (List.length (r0 :: rest)) = some 0 := inb_nat (k := 0) (by simp)
      by_cases z1 : v4 = 1
      · rw [show (v4 == 1) = true from beq_iff_eq.mpr z1, i0]
        have ic : inc 1 (List.length r0) = some 1 := by
          unfold inc
          rw [if_pos (by omega)]
          rfl
        simp only [cond_false, cond_true, Option.bind_some, List.getElem?_cons_zero, ic, List.set_cons_zero]
        have i1 : inb 0 (List.length ([] :: rest : List (List Int))) = some 0 := inb_nat (k := 0) (by simp)
        rw [i1]
        simp only [Option.bind_some, within, same]
        rw [if_pos (by simp)]
        simp only [Option.bind_some, if_true, List.set_cons_zero]
        refine ⟨_, q' + 1, rfl, ⟨by simpa using good.1, fun r hr => ?_⟩, by omega, by omega⟩
        rcases List.mem_cons.mp hr with e | hr
        · rw [e, List.length_take, List.length_drop]
          omega
        · exact good.2 r (List.mem_cons_of_mem _ hr)
      · rw [show (v4 == 1) = false from beq_eq_false_iff_ne.mpr z1, i0]
        have i2 : inb 0 (List.length r0) = some 0 := inb_nat (k := 0) (by omega)
        simp only [cond_false, Option.bind_some, List.getElem?_cons_zero, List.set_cons_zero, i2]
        refine ⟨_, q' + 1, rfl, ⟨by simpa using good.1, fun r hr => ?_⟩, by omega, by omega⟩
        rcases List.mem_cons.mp hr with e | hr
        · rw [e, List.length_set]
          omega
        · exact good.2 r (List.mem_cons_of_mem _ hr)

def okRow (n : Nat) (r : List Int) : Bool := r.length == n + 1 && (List.range r.length).all fun j => decide (0 ≤ r.getD j 0) && decide (r.getD j 0 ≤ 20)
def okB (S : List (List Int)) : Bool := ((List.range S.length).all fun k => okRow S.length (S.getD k [])) && (decide (1 ≤ S.length) && decide (S.length ≤ 5))

theorem idx_getD {α : Type} {l : List α} {k : Nat} (h : k < l.length) (d : α) : idx l (k : Int) = some (l.getD k d) := by
  rw [idx_nat, List.getD_eq_getElem?_getD, List.getElem?_eq_getElem h, Option.getD_some]

theorem okRow_loop {S : List (List Int)} {k : Nat} (hk : k < S.length) (hl : (S.getD k []).length ≤ 10000000) :
    spec_ScoresOk_n6 S (k : Int) = some (if ((List.range (S.getD k []).length).all fun j => decide (0 ≤ (S.getD k []).getD j 0) && decide ((S.getD k []).getD j 0 ≤ 20)) = true then Sum.inr () else Sum.inl false) := by
  unfold spec_ScoresOk_n6
  have lp := nloop_while (body := fun (s : Int) => ((spec_ScoresOk_n5 S (k : Int) s).map (Sum.elim (fun (t : Int) => Sum.inl t) (Sum.elim (fun (t : Bool) => Sum.inr (Sum.inl t)) (fun (t : Unit) => Sum.inr (Sum.inr t)))) : Option ((Int) ⊕ (Bool ⊕ Unit))))
    (fun j => (j : Int)) (S.getD k []).length (fun j => decide (0 ≤ (S.getD k []).getD j 0) && decide ((S.getD k []).getD j 0 ≤ 20)) (fun b => if b = true then Sum.inr () else Sum.inl false)
    (by
      intro j hj p
      have w : IntKind.wrap .i64 ((j : Int) + 1) = ((j + 1 : Nat) : Int) := by rw [wrap64 (by omega) (by omega)]; omega
      simp only [spec_ScoresOk_n5]
      rw [idx_getD hk []]
      simp only [Option.bind_some]
      rw [decide_eq_true (show (j : Int) < (((S.getD k []).length : Nat) : Int) by omega), idx_getD hj 0]
      simp only [cond_true, Option.bind_some, l1In_eq]
      rw [p, w]
      rfl)
    (by
      intro j hj p
      simp only [spec_ScoresOk_n5]
      rw [idx_getD hk []]
      simp only [Option.bind_some]
      rw [decide_eq_true (show (j : Int) < (((S.getD k []).length : Nat) : Int) by omega), idx_getD hj 0]
      simp only [cond_true, Option.bind_some, l1In_eq]
      rw [p]
      rfl)
    (by
      simp only [spec_ScoresOk_n5]
      rw [idx_getD hk []]
      simp only [Option.bind_some]
      rw [decide_eq_false (show ¬ (((S.getD k []).length : Nat) : Int) < (((S.getD k []).length : Nat) : Int) by omega)]
      rfl) LL (by simp only [LL]; omega)
  exact lp

theorem specScores_eq (S : List (List Int)) (hl : S.length ≤ 1048576) : spec_ScoresOk S = some (okB S) := by
  have e : spec_ScoresOk S = spec_ScoresOk_n18 S := by unfold spec_ScoresOk; rfl
  rw [e]
  unfold spec_ScoresOk_n18 spec_ScoresOk_n1 spec_ScoresOk_n17 spec_ScoresOk_n15 spec_ScoresOk_n2 spec_ScoresOk_n14 spec_ScoresOk_n13
  have w1 : IntKind.wrap .i64 (((S.length : Nat) : Int) + 1) = ((S.length + 1 : Nat) : Int) := by rw [wrap64 (by omega) (by omega)]; omega
  have step : ∀ k, k < S.length → spec_ScoresOk_n12 S (k : Int) = some (if okRow S.length (S.getD k []) = true then Sum.inl ((k + 1 : Nat) : Int) else Sum.inr (Sum.inl false)) := fun k hk => by
    have w : IntKind.wrap .i64 ((k : Int) + 1) = ((k + 1 : Nat) : Int) := by rw [wrap64 (by omega) (by omega)]; omega
    simp only [spec_ScoresOk_n12, spec_ScoresOk_n3, spec_ScoresOk_n11, spec_ScoresOk_n9, spec_ScoresOk_n8, spec_ScoresOk_n4, spec_ScoresOk_n7, spec_ScoresOk_n10, w, w1]
    rw [decide_eq_true (show (k : Int) < ((S.length : Nat) : Int) by omega), idx_getD hk []]
    simp only [cond_true, Option.bind_some, Sum.elim_inl]
    unfold okRow
    by_cases q : (S.getD k []).length = S.length + 1
    · rw [show ((((S.getD k []).length : Nat) : Int) != ((S.length + 1 : Nat) : Int)) = false by rw [q]; simp, beq_iff_eq.mpr q, Bool.true_and, okRow_loop hk (show (S.getD k []).length ≤ 10000000 by rw [q]; omega)]
      cases (List.range (S.getD k []).length).all fun j => decide (0 ≤ (S.getD k []).getD j 0) && decide ((S.getD k []).getD j 0 ≤ 20) <;> rfl
    · rw [show ((((S.getD k []).length : Nat) : Int) != ((S.length + 1 : Nat) : Int)) = true from bne_iff_ne.mpr (fun z => q (by omega)), beq_eq_false_iff_ne.mpr q, Bool.false_and]
      rfl
  have lp := nloop_while (body := fun (s : Int) => ((spec_ScoresOk_n12 S s).map (Sum.elim (fun (t : Int) => Sum.inl t) (Sum.elim (fun (t : Bool) => Sum.inr (Sum.inl t)) (fun (t : Unit) => Sum.inr (Sum.inr t)))) : Option ((Int) ⊕ (Bool ⊕ Unit))))
    (fun k => (k : Int)) S.length (fun k => okRow S.length (S.getD k [])) (fun b => if b = true then Sum.inr () else Sum.inl false)
    (by
      intro k hk p
      simp only [step k hk]
      rw [p]
      rfl)
    (by
      intro k hk p
      simp only [step k hk]
      rw [p]
      rfl)
    (by
      simp only [spec_ScoresOk_n12, spec_ScoresOk_n3]
      rw [decide_eq_false (show ¬ ((S.length : Nat) : Int) < ((S.length : Nat) : Int) by omega)]
      rfl) LL (by simp only [LL]; omega)
  have lp' := lp
  rw [show ((0 : Nat) : Int) = 0 from rfl] at lp'
  simp only [Option.bind_some]
  rw [lp']
  unfold okB
  cases (List.range S.length).all fun k => okRow S.length (S.getD k []) with
  | false => rfl
  | true =>
    simp only [if_true, Option.map_some, Sum.elim_inr, Option.bind_some, Sum.elim_inl, spec_ScoresOk_n16, l1In_eq, Bool.true_and]
    congr 2
    · rw [Bool.eq_iff_iff]; simp only [decide_eq_true_eq]; omega
    · rw [Bool.eq_iff_iff]; simp only [decide_eq_true_eq]; omega

theorem imax_le {a b : Int} : a ≤ imax a b ∧ b ≤ imax a b ∧ (imax a b = a ∨ imax a b = b) := by
  unfold imax
  split <;> omega

theorem tree0 : treeB [0] = true := by decide
theorem tree1 : treeB [1] = false := by decide
theorem alive_eq : laws_alive = some true := by
  unfold laws_alive laws_alive_n1
  simp [implTree_eq, tree0, tree1]

theorem core_FnScoresOk (hO : ∀ S, szT S ≤ 1048576 → impl_ScoresOk S = some (okB S)) (x : List Int) (w : ∀ n ∈ x, (Lit.int .u8 n).wf = true) (l : x.length ≤ maxLen) : laws_FnScoresOk x = some true := by
  unfold laws_FnScoresOk laws_FnScoresOk_n1
  by_cases hx : x.length ≤ 1048576
  · rw [show decide (((x.length : Nat) : Int) > 1048576) = false from decide_eq_false (by omega)]
    obtain ⟨b, hb, hB⟩ := open_ok x w l
    obtain ⟨S, q, hS, sm, _, _⟩ := drawn_scores hB 2 (by omega)
    have hd' : spec_DrawScoresOk x = some S := by
      unfold spec_DrawScoresOk spec_DrawScoresOk_n1
      rw [hb]
      simp only [Option.bind_some, hS]
    have s1 : S.length ≤ 1048576 := by have := sm.1; omega
    simp only [hd', cond_false, Option.bind_some, hO S sm.sz, specScores_eq S s1, bne_self_eq_false, alive_eq]
    rw [hO [[0, 0]] (by decide), hO [[20, 0]] (by decide), hO [] (by decide), hO [[0]] (by decide)]
    rw [show okB [[0, 0]] = true from by decide, show okB [[20, 0]] = true from by decide, show okB [] = false from by decide, show okB [[0]] = false from by decide]
    rfl
  · rw [show decide (((x.length : Nat) : Int) > 1048576) = true from decide_eq_true (by omega)]
    rfl

/-- The least of a row. -/
theorem min_ok {r : List Int} (h0 : 0 < r.length) (hl : r.length ≤ 1048576) : ∃ m, slices_Min_int_int r = some m ∧ m ∈ r ∧ ∀ x ∈ r, m ≤ x := by
  have e : slices_Min_int_int r = slices_Min_int_int_n9 r := by unfold slices_Min_int_int; rfl
  rw [e]
  unfold slices_Min_int_int_n9 slices_Min_int_int_n1 slices_Min_int_int_n8 slices_Min_int_int_n6 slices_Min_int_int_n2 slices_Min_int_int_n5 slices_Min_int_int_n4 slices_Min_int_int_n7
  rw [decide_eq_false (show ¬ ((r.length : Nat) : Int) < 1 by omega), show (0 : Int) = ((0 : Nat) : Int) from rfl, idx_lt h0]
  simp only [cond_false, Option.bind_some]
  have ex := nloop_ex (body := fun (s : Int × Int) => ((slices_Min_int_int_n3 r s.1 s.2).map (Sum.elim (fun (t : Int × Int) => Sum.inl (t.1, t.2)) (fun (t : Int) => Sum.inr t)) : Option ((Int × Int) ⊕ (Int))))
    (I := fun t => ∃ k : Nat, t.2 = (k : Int) ∧ 1 ≤ k ∧ k ≤ r.length ∧ t.1 ∈ r ∧ ∀ j (hj : j < r.length), j < k → t.1 ≤ r[j])
    (μ := fun t => r.length - t.2.toNat) (Q := fun m => m ∈ r ∧ ∀ x ∈ r, m ≤ x)
    (by
      rintro ⟨m, kk⟩ ⟨k, ek, h1, hk, hm, up⟩
      simp only at ek hm up
      subst ek
      simp only [slices_Min_int_int_n3]
      by_cases lt : k < r.length
      · left
        have w : IntKind.wrap .i64 ((k : Int) + 1) = ((k + 1 : Nat) : Int) := by rw [wrap64 (by omega) (by omega)]; omega
        rw [decide_eq_true (show (k : Int) < ((r.length : Nat) : Int) by omega), idx_lt lt, w]
        have im : imin m r[k] ≤ m ∧ imin m r[k] ≤ r[k] ∧ (imin m r[k] = m ∨ imin m r[k] = r[k]) := by
          unfold imin
          split <;> omega
        refine ⟨(imin m r[k], ((k + 1 : Nat) : Int)), rfl, ⟨k + 1, rfl, by omega, lt, ?_, fun j hj hjk => ?_⟩, by simp only [Int.toNat_natCast]; omega⟩
        · rcases im.2.2 with q | q
          · simp only [q]; exact hm
          · simp only [q]; exact List.getElem_mem lt
        · by_cases q : j = k
          · subst q; exact im.2.1
          · exact Int.le_trans im.1 (up j hj (by omega))
      · right
        have : k = r.length := by omega
        subst this
        rw [decide_eq_false (show ¬ ((r.length : Nat) : Int) < ((r.length : Nat) : Int) by omega)]
        refine ⟨m, rfl, hm, fun x hx => ?_⟩
        obtain ⟨j, hj, e⟩ := List.mem_iff_getElem.mp hx
        exact e ▸ up j hj hj) LL (r[0], 1) ⟨1, rfl, by omega, by omega, List.getElem_mem h0, fun j hj hj1 => by
          have : j = 0 := by omega
          subst this
          exact Int.le_refl _⟩ (by simp only [LL]; omega)
  obtain ⟨m, hm, q⟩ := ex
  rw [hm]
  exact ⟨m, rfl, q⟩

/-- The greatest of a row. -/
theorem max_ok {r : List Int} (h0 : 0 < r.length) (hl : r.length ≤ 1048576) : ∃ m, slices_Max_int_int r = some m ∧ m ∈ r ∧ ∀ x ∈ r, x ≤ m := by
  have e : slices_Max_int_int r = slices_Max_int_int_n9 r := by unfold slices_Max_int_int; rfl
  rw [e]
  unfold slices_Max_int_int_n9 slices_Max_int_int_n1 slices_Max_int_int_n8 slices_Max_int_int_n6 slices_Max_int_int_n2 slices_Max_int_int_n5 slices_Max_int_int_n4 slices_Max_int_int_n7
  rw [decide_eq_false (show ¬ ((r.length : Nat) : Int) < 1 by omega), show (0 : Int) = ((0 : Nat) : Int) from rfl, idx_lt h0]
  simp only [cond_false, Option.bind_some]
  have ex := nloop_ex (body := fun (s : Int × Int) => ((slices_Max_int_int_n3 r s.1 s.2).map (Sum.elim (fun (t : Int × Int) => Sum.inl (t.1, t.2)) (fun (t : Int) => Sum.inr t)) : Option ((Int × Int) ⊕ (Int))))
    (I := fun t => ∃ k : Nat, t.2 = (k : Int) ∧ 1 ≤ k ∧ k ≤ r.length ∧ t.1 ∈ r ∧ ∀ j (hj : j < r.length), j < k → r[j] ≤ t.1)
    (μ := fun t => r.length - t.2.toNat) (Q := fun m => m ∈ r ∧ ∀ x ∈ r, x ≤ m)
    (by
      rintro ⟨m, kk⟩ ⟨k, ek, h1, hk, hm, up⟩
      simp only at ek hm up
      subst ek
      simp only [slices_Max_int_int_n3]
      by_cases lt : k < r.length
      · left
        have w : IntKind.wrap .i64 ((k : Int) + 1) = ((k + 1 : Nat) : Int) := by rw [wrap64 (by omega) (by omega)]; omega
        rw [decide_eq_true (show (k : Int) < ((r.length : Nat) : Int) by omega), idx_lt lt, w]
        have im := imax_le (a := m) (b := r[k])
        refine ⟨(imax m r[k], ((k + 1 : Nat) : Int)), rfl, ⟨k + 1, rfl, by omega, lt, ?_, fun j hj hjk => ?_⟩, by simp only [Int.toNat_natCast]; omega⟩
        · rcases im.2.2 with q | q
          · simp only [q]; exact hm
          · simp only [q]; exact List.getElem_mem lt
        · by_cases q : j = k
          · subst q; exact im.2.1
          · exact Int.le_trans (up j hj (by omega)) im.1
      · right
        have : k = r.length := by omega
        subst this
        rw [decide_eq_false (show ¬ ((r.length : Nat) : Int) < ((r.length : Nat) : Int) by omega)]
        refine ⟨m, rfl, hm, fun x hx => ?_⟩
        obtain ⟨j, hj, e⟩ := List.mem_iff_getElem.mp hx
        exact e ▸ up j hj hj) LL (r[0], 1) ⟨1, rfl, by omega, by omega, List.getElem_mem h0, fun j hj hj1 => by
          have : j = 0 := by omega
          subst this
          exact Int.le_refl _⟩ (by simp only [LL]; omega)
  obtain ⟨m, hm, q⟩ := ex
  rw [hm]
  exact ⟨m, rfl, q⟩

theorem okRow_iff {n : Nat} {r : List Int} (h : r.length = n + 1) : okRow n r = true ↔ ∀ x ∈ r, 0 ≤ x ∧ x ≤ 20 := by
  unfold okRow
  rw [Bool.and_eq_true, beq_iff_eq, List.all_eq_true]
  constructor
  · rintro ⟨_, a⟩ x hx
    obtain ⟨j, hj, e⟩ := List.mem_iff_getElem.mp hx
    have := a j (List.mem_range.mpr hj)
    rw [List.getD_eq_getElem?_getD, List.getElem?_eq_getElem hj, Option.getD_some, e, Bool.and_eq_true, decide_eq_true_eq, decide_eq_true_eq] at this
    exact this
  · intro a
    refine ⟨h, fun j hj => ?_⟩
    have hj := List.mem_range.mp hj
    have := a r[j] (List.getElem_mem hj)
    rw [List.getD_eq_getElem?_getD, List.getElem?_eq_getElem hj, Option.getD_some, Bool.and_eq_true, decide_eq_true_eq, decide_eq_true_eq]
    exact this

theorem implRow_eq {n : Nat} (hn : n ≤ 5) (r : List Int) (hl : r.length ≤ 1048576) : impl_scoreRowOk r (n : Int) = some (okRow n r) := by
  have e : impl_scoreRowOk r (n : Int) = impl_scoreRowOk_n1 r (n : Int) := by unfold impl_scoreRowOk; rfl
  rw [e]
  unfold impl_scoreRowOk_n1
  have w : IntKind.wrap .i64 ((n : Int) + 1) = ((n + 1 : Nat) : Int) := by rw [wrap64 (by omega) (by omega)]; omega
  rw [w]
  by_cases q : r.length = n + 1
  · rw [show (((r.length : Nat) : Int) == ((n + 1 : Nat) : Int)) = true by rw [q]; simp]
    obtain ⟨m, hm, m1, m2⟩ := min_ok (r := r) (by omega) hl
    obtain ⟨M, hM, M1, M2⟩ := max_ok (r := r) (by omega) hl
    simp only [cond_true, hm, Option.bind_some, hM]
    by_cases a : 0 ≤ m
    · rw [decide_eq_true (show m ≥ 0 from a)]
      simp only [cond_true]
      congr 1
      by_cases b : M ≤ 20
      · rw [decide_eq_true b, eq_comm, okRow_iff q]
        intro x hx
        have := m2 x hx
        have := M2 x hx
        omega
      · rw [decide_eq_false b, eq_comm, Bool.eq_false_iff, ne_eq, okRow_iff q]
        intro h
        exact b (h M M1).2
    · rw [decide_eq_false (show ¬ m ≥ 0 from a)]
      simp only [cond_false]
      congr 1
      rw [eq_comm, Bool.eq_false_iff, ne_eq, okRow_iff q]
      intro h
      exact a (h m m1).1
  · rw [show (((r.length : Nat) : Int) == ((n + 1 : Nat) : Int)) = false by rw [beq_eq_false_iff_ne]; omega]
    unfold okRow
    rw [beq_eq_false_iff_ne.mpr q]
    rfl

theorem implScores_eq (S : List (List Int)) (sz : szT S ≤ 1048576) : impl_ScoresOk S = some (okB S) := by
  have e : impl_ScoresOk S = impl_ScoresOk_n9 S := by unfold impl_ScoresOk; rfl
  rw [e]
  unfold impl_ScoresOk_n9 impl_ScoresOk_n1 impl_ScoresOk_n8 impl_ScoresOk_n6 impl_ScoresOk_n2 impl_ScoresOk_n5 impl_ScoresOk_n4 impl_ScoresOk_n7 okB
  by_cases l1 : S.length < 1
  · rw [decide_eq_true (show ((S.length : Nat) : Int) < 1 by omega), decide_eq_false (show ¬ 1 ≤ S.length by omega)]
    simp
  · by_cases l5 : S.length ≤ 5
    · rw [decide_eq_false (show ¬ ((S.length : Nat) : Int) < 1 by omega), decide_eq_false (show ¬ ((S.length : Nat) : Int) > 5 by omega), decide_eq_true (show 1 ≤ S.length by omega), decide_eq_true l5]
      have lp := nloop_while (body := fun (s : Int) => ((impl_ScoresOk_n3 S ((S.length : Nat) : Int) s).map (Sum.elim (fun (t : Int) => Sum.inl t) (Sum.elim (fun (t : Bool) => Sum.inr (Sum.inl t)) (fun (t : Unit) => Sum.inr (Sum.inr t)))) : Option ((Int) ⊕ (Bool ⊕ Unit))))
        (fun j => (j : Int)) S.length (fun k => okRow S.length (S.getD k [])) (fun b => if b = true then Sum.inr () else Sum.inl false)
        (by
          intro j hj p
          have w : IntKind.wrap .i64 ((j : Int) + 1) = ((j + 1 : Nat) : Int) := by rw [wrap64 (by omega) (by omega)]; omega
          have rl := row_le hj
          simp only [impl_ScoresOk_n3]
          rw [decide_eq_true (show (j : Int) < ((S.length : Nat) : Int) by omega), idx_getD hj []]
          simp only [cond_true, Option.bind_some]
          rw [implRow_eq l5 _ (by rw [List.getD_eq_getElem?_getD, List.getElem?_eq_getElem hj, Option.getD_some]; unfold szT at sz; omega), p, w]
          rfl)
        (by
          intro j hj p
          have rl := row_le hj
          simp only [impl_ScoresOk_n3]
          rw [decide_eq_true (show (j : Int) < ((S.length : Nat) : Int) by omega), idx_getD hj []]
          simp only [cond_true, Option.bind_some]
          rw [implRow_eq l5 _ (by rw [List.getD_eq_getElem?_getD, List.getElem?_eq_getElem hj, Option.getD_some]; unfold szT at sz; omega), p]
          rfl)
        (by
          simp only [impl_ScoresOk_n3]
          rw [decide_eq_false (show ¬ ((S.length : Nat) : Int) < ((S.length : Nat) : Int) by omega)]
          rfl) LL (by simp only [LL]; omega)
      have lp' := lp
      rw [show ((0 : Nat) : Int) = 0 from rfl] at lp'
      simp only [cond_false, Option.bind_some, Sum.elim_inl]
      rw [lp']
      cases c : (List.range S.length).all fun k => okRow S.length (S.getD k []) <;> rfl
    · rw [decide_eq_false (show ¬ ((S.length : Nat) : Int) < 1 by omega), decide_eq_true (show ((S.length : Nat) : Int) > 5 by omega), decide_eq_false l5]
      simp

end Go.Rv
