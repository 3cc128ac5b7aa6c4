/-
  Plain mathematics of what the law reaches. Conditions: none.
-/
import Derived.Test.YtgjhjbankpdcgaaDoorGFnSidesOf
set_option linter.unusedVariables false
set_option linter.unusedSimpArgs false
namespace Go.Rv
theorem nloop_run {σ ω : Type} {body : σ → Option (σ ⊕ ω)} (I : σ → Prop) (μ : σ → Nat) (f : σ → ω)
    (h : ∀ s, I s → (∃ s', body s = some (.inl s') ∧ I s' ∧ μ s' < μ s ∧ f s' = f s) ∨ body s = some (.inr (f s))) : ∀ (n : Nat) (s : σ), I s → μ s < n → nloop body n s = some (f s)
  | 0, s, _, hn => by omega
  | n + 1, s, hi, hn => by
    rcases h s hi with ⟨s', hb, hi', hm, hf⟩ | hb
    · simp only [nloop, hb, Option.bind_some]
      rw [nloop_run I μ f h n s' hi' (by omega), hf]
    · simp only [nloop, hb, Option.bind_some]

/-- A loop that counts from a number on: state (k, x), k < n goes on. -/
theorem wrap64 {x : Int} (h1 : -9223372036854775808 ≤ x) (h2 : x ≤ 9223372036854775807) : IntKind.wrap .i64 x = x := by
  simp only [IntKind.wrap, IntKind.bits, IntKind.signed]
  simp
  omega

theorem idx_lt {α : Type} {xs : List α} {k : Nat} (h : k < xs.length) : idx xs (k : Int) = some xs[k] := by simp [idx, h]
theorem mk_nat {n : Nat} (h : n ≤ 1099511627776) : mk (n : Int) (n : Int) = some n := by
  simp only [mk]
  rw [if_pos (by omega)]
  simp
theorem room_le {n : Nat} (h : n ≤ 1099511627776) : room n = some () := by simp [room, h]

theorem nloop_to {σ ω : Type} {body : σ → Option (σ ⊕ ω)} (S : Nat → σ) (n : Nat) (w : ω) (hs : ∀ k, k < n → body (S k) = some (.inl (S (k + 1)))) (he : body (S n) = some (.inr w)) :
    ∀ (N : Nat), n < N → nloop body N (S 0) = some w := by
  have key : ∀ (m k N : Nat), k + m = n → m < N → nloop body N (S k) = some w := by
    intro m
    induction m with
    | zero =>
      intro k N hk hN
      obtain ⟨N', rfl⟩ : ∃ N', N = N' + 1 := ⟨N - 1, by omega⟩
      have : k = n := by omega
      subst this
      simp only [nloop, he, Option.bind_some]
    | succ m ih =>
      intro k N hk hN
      obtain ⟨N', rfl⟩ : ∃ N', N = N' + 1 := ⟨N - 1, by omega⟩
      simp only [nloop, hs k (by omega), Option.bind_some]
      exact ih (k + 1) N' (by omega) (by omega)
  intro N hN
  exact key n 0 N (by omega) hN

def maskN (p : Nat → Bool) : Nat → Nat
  | 0 => 0
  | n + 1 => maskN p n ||| (if p n then 2 ^ n else 0)

theorem maskN_lt (p : Nat → Bool) : ∀ n, maskN p n < 2 ^ n
  | 0 => by simp [maskN]
  | n + 1 => by
    have h1 := maskN_lt p n
    have h2 : 2 ^ n < 2 ^ (n + 1) := by rw [Nat.pow_succ]; have := Nat.two_pow_pos n; omega
    simp only [maskN]
    refine Nat.or_lt_two_pow (by omega) ?_
    split
    · exact h2
    · exact Nat.two_pow_pos _

theorem maskN_bit (p : Nat → Bool) (n i : Nat) : (maskN p n).testBit i = (decide (i < n) && p i) := by
  induction n with
  | zero => simp [maskN]
  | succ n ih =>
    simp only [maskN, Nat.testBit_or, ih]
    by_cases e : i = n
    · subst e
      cases hp : p i <;> simp
    · have h1 : decide (i < n + 1) = decide (i < n) := by
        rw [Bool.eq_iff_iff]; simp only [decide_eq_true_eq]; omega
      rw [h1]
      have : (if p n = true then 2 ^ n else 0).testBit i = false := by
        split
        · rw [Nat.testBit_two_pow]; simp; omega
        · simp
      rw [this, Bool.or_false]

theorem eq_maskN {m n : Nat} {p : Nat → Bool} (hm : m < 2 ^ n) (h : ∀ i, i < n → m.testBit i = p i) : m = maskN p n := by
  apply Nat.eq_of_testBit_eq
  intro i
  rw [maskN_bit]
  by_cases hi : i < n
  · rw [h i hi]; simp [hi]
  · rw [Nat.testBit_lt_two_pow (Nat.lt_of_lt_of_le hm (Nat.pow_le_pow_right (by omega) (by omega)))]
    simp [hi]

theorem lt256 {m n : Nat} (h : n ≤ 8) (hm : m < 2 ^ n) : m < 256 :=
  Nat.lt_of_lt_of_le hm (Nat.pow_le_pow_right (n := 2) (by omega) h)

theorem drop_cons {α : Type} {xs : List α} {k : Nat} (h : k < xs.length) : xs.drop k = xs[k] :: xs.drop (k + 1) := List.drop_eq_getElem_cons h

/-- From a word to the root, with so many steps at most: the root, and how many steps lead to it. -/
def climb (h : List Int) : Nat → Nat → Option (Nat × Nat)
  | 0, _ => none
  | f + 1, w => match h[w - 1]? with
    | none => none
    | some x => if x = 0 then some (w, 0) else (climb h f x.toNat).map fun p => (p.1, p.2 + 1)

def okHead (n : Nat) (x : Int) : Bool := decide (0 ≤ x) && decide (x ≤ n)

def inRange (h : List Int) : Bool := h.all (okHead h.length)

/-- The heads of a tree. -/
def treeB (h : List Int) : Bool :=
  decide (1 ≤ h.length) && decide (h.length ≤ 8) && inRange h && (h.count 0 == 1) && (List.range h.length).all fun k => (climb h h.length (k + 1)).isSome

theorem all_drop_cons {h : List Int} {p : Int → Bool} {k : Nat} (hk : k < h.length) : (h.drop k).all p = (p h[k] && (h.drop (k + 1)).all p) := by
  rw [drop_cons hk]; rfl

theorem count_drop_cons {h : List Int} {k : Nat} (hk : k < h.length) : (h.drop k).count 0 = (if h[k] = 0 then 1 else 0) + (h.drop (k + 1)).count 0 := by
  rw [drop_cons hk, List.count_cons]
  by_cases e : h[k] = 0 <;> simp [e] <;> omega

theorem oneRoot_eq (h : List Int) (hl : h.length ≤ 1048576) : impl_oneRoot h = some (inRange h && (h.count 0 == 1)) := by
  have hloop := nloop_run (body := fun (s : Int × Int) => ((impl_oneRoot_n3 h s.1 h.length s.2).map (Sum.elim (fun (t : Int × Int) => Sum.inl (t.1, t.2)) (Sum.elim (fun (t : Bool) => Sum.inr (Sum.inl t)) (fun (t : Int) => Sum.inr (Sum.inr t)))) : Option ((Int × Int) ⊕ (Bool ⊕ Int))))
    (I := fun s => ∃ k r : Nat, s = ((r : Int), (k : Int)) ∧ k ≤ h.length ∧ r ≤ k) (μ := fun s => h.length - s.2.toNat)
    (f := fun s => cond ((h.drop s.2.toNat).all (okHead h.length)) (.inr (s.1 + ((h.drop s.2.toNat).count 0 : Nat))) (.inl false))
    (by
      rintro _ ⟨k, r, rfl, hk, hr⟩
      by_cases hlt : k < h.length
      · simp only [impl_oneRoot_n3]
        rw [show decide ((k : Int) < ((h.length : Nat) : Int)) = true from decide_eq_true (by omega)]
        simp only [cond_true, idx_lt hlt, Option.bind_some, Int.toNat_natCast]
        rw [wrap64 (x := (k : Int) + 1) (by omega) (by omega), wrap64 (x := (r : Int) + 1) (by omega) (by omega), all_drop_cons hlt, count_drop_cons hlt]
        by_cases h1 : h[k] < 0
        · right
          have : okHead h.length h[k] = false := by simp [okHead]; omega
          simp [h1, this]
        · by_cases h2 : h[k] > (h.length : Int)
          · right
            have : okHead h.length h[k] = false := by simp [okHead]; omega
            simp [h1, h2, this]
          · left
            have hok : okHead h.length h[k] = true := by simp [okHead]; omega
            by_cases h3 : h[k] = 0
            · refine ⟨(((r + 1 : Nat) : Int), ((k + 1 : Nat) : Int)), ?_, ⟨k + 1, r + 1, rfl, hlt, by omega⟩, by simp; omega, ?_⟩
              · have h4 : decide ((h.length : Int) < 0) = false := decide_eq_false (by omega)
                simp [h3, h4]
              · have e : ((k + 1 : Nat) : Int).toNat = k + 1 := by simp
                rw [e, hok]
                simp only [h3, if_true, Bool.true_and]
                congr 2
                push_cast
                omega
            · refine ⟨((r : Int), ((k + 1 : Nat) : Int)), ?_, ⟨k + 1, r, rfl, hlt, by omega⟩, by simp; omega, ?_⟩
              · have e1 : (h[k] == 0) = false := by simpa using h3
                have e2 : decide (h[k] < 0) = false := decide_eq_false h1
                have e3 : decide (h[k] > (h.length : Int)) = false := decide_eq_false h2
                simp [e1, e2, e3]
              · have e : ((k + 1 : Nat) : Int).toNat = k + 1 := by simp
                rw [e, hok]
                simp [h3]
      · right
        have e : k = h.length := by omega
        subst e
        simp only [impl_oneRoot_n3]
        rw [show decide (((h.length : Nat) : Int) < ((h.length : Nat) : Int)) = false from decide_eq_false (by omega)]
        simp)
  unfold impl_oneRoot impl_oneRoot_n9 impl_oneRoot_n1 impl_oneRoot_n8 impl_oneRoot_n6 impl_oneRoot_n2 impl_oneRoot_n5 impl_oneRoot_n4
  simp only [Option.bind_some]
  rw [hloop LL (0, 0) ⟨0, 0, rfl, by omega, by omega⟩ (by simp only [LL]; simp; omega)]
  simp only [Int.toNat_zero, List.drop_zero]
  unfold inRange
  cases ha : h.all (okHead h.length) with
  | false => simp
  | true =>
    simp only [cond_true, Option.map_some, Sum.elim_inr, Option.bind_some, Sum.elim_inl, impl_oneRoot_n7, Bool.true_and]
    congr 1
    by_cases e : h.count 0 = 1
    · simp [e]
    · have e1 : ((0 : Int) + ((h.count 0 : Nat) : Int) == 1) = false := by rw [beq_eq_false_iff_ne]; omega
      have e2 : (h.count 0 == 1) = false := by rw [beq_eq_false_iff_ne]; exact e
      rw [e2]; exact e1

theorem inRange_get {h : List Int} (hr : inRange h = true) {k : Nat} (hk : k < h.length) : 0 ≤ h[k] ∧ h[k] ≤ h.length := by
  have := List.all_eq_true.1 hr h[k] (List.getElem_mem hk)
  simpa [okHead] using this

theorem up_eq (h : List Int) (k : Nat) (s : Nat) (hk : k < h.length) (hl : h.length ≤ 1048576) (hs : s ≤ h.length) :
    impl_walker_up h ((k + 1 : Nat) : Int) (s : Int) = some (if h[k] = 0 then (false, ((k + 1 : Nat) : Int), (s : Int)) else (true, h[k], ((s + 1 : Nat) : Int))) := by
  unfold impl_walker_up impl_walker_up_n1
  rw [wrap64 (by omega) (by omega), show ((k + 1 : Nat) : Int) - 1 = (k : Int) by omega, idx_lt hk]
  simp only [Option.bind_some]
  rw [wrap64 (by omega) (by omega)]
  by_cases e : h[k] = 0
  · simp [e]
  · have e1 : (h[k] == 0) = false := by simpa using e
    simp [e, e1]

theorem steps_eq (h : List Int) (hl : h.length ≤ 1048576) (hr : inRange h = true) (k : Nat) (hk : k < h.length) :
    impl_stepsToRoot h ((k + 1 : Nat) : Int) = some (match climb h h.length (k + 1) with | some p => ((p.2 : Int), true) | none => (0, false)) := by
  have hloop := nloop_run (body := fun (s : Int × Int) => ((impl_stepsToRoot_n2 h s.1 s.2).map (Sum.elim (fun (t : Int × Int) => Sum.inl (t.1, t.2)) (Sum.elim (fun (t : Int × Bool) => Sum.inr (Sum.inl t)) (fun (t : Int × Int) => Sum.inr (Sum.inr t)))) : Option ((Int × Int) ⊕ ((Int × Bool) ⊕ (Int × Int)))))
    (I := fun s => ∃ k i : Nat, s = (((k + 1 : Nat) : Int), (i : Int)) ∧ k < h.length ∧ i < h.length) (μ := fun s => h.length - s.2.toNat)
    (f := fun s => match climb h (h.length - s.2.toNat) s.1.toNat with | some p => .inr ((p.1 : Int), s.2 + (p.2 : Int)) | none => .inl (0, false))
    (by
      rintro _ ⟨k, i, rfl, hk, hi⟩
      simp only [impl_stepsToRoot_n2]
      rw [up_eq h k i hk hl (by omega)]
      obtain ⟨hr1, hr2⟩ := inRange_get hr hk
      have hf : h.length - i = (h.length - i - 1) + 1 := by omega
      have hg : h[k + 1 - 1]? = some h[k] := by simp [hk]
      have hcl : climb h (h.length - i) (k + 1) = if h[k] = 0 then some (k + 1, 0) else (climb h (h.length - i - 1) h[k].toNat).map fun p => (p.1, p.2 + 1) := by
        rw [hf]; simp only [climb, hg]; simp
      simp only [Option.bind_some, Int.toNat_natCast]
      rw [hcl]
      by_cases e : h[k] = 0
      · right
        simp [e]
      · simp only [e, if_false, cond_true]
        by_cases hlast : i + 1 ≥ h.length
        · right
          have h0 : h.length - i - 1 = 0 := by omega
          have hd : decide (((i + 1 : Nat) : Int) ≥ ((h.length : Nat) : Int)) = true := decide_eq_true (by omega)
          simp only [hd, h0, climb]
          simp
        · left
          have hd : decide (((i + 1 : Nat) : Int) ≥ ((h.length : Nat) : Int)) = false := decide_eq_false (by omega)
          refine ⟨(h[k], ((i + 1 : Nat) : Int)), by simp only [hd]; simp, ⟨h[k].toNat - 1, i + 1, by
            have : ((h[k].toNat - 1 + 1 : Nat) : Int) = h[k] := by omega
            rw [this], by omega, by omega⟩, by simp; omega, ?_⟩
          have e2 : h.length - ((i + 1 : Nat) : Int).toNat = h.length - i - 1 := by simp; omega
          simp only [e2]
          cases climb h (h.length - i - 1) h[k].toNat with
          | none => rfl
          | some p => simp; omega)
  unfold impl_stepsToRoot impl_stepsToRoot_n7 impl_stepsToRoot_n1 impl_stepsToRoot_n6 impl_stepsToRoot_n4 impl_stepsToRoot_n3
  simp only [Option.bind_some]
  rw [hloop LL (((k + 1 : Nat) : Int), 0) ⟨k, 0, rfl, hk, by omega⟩ (by simp only [LL]; simp; omega)]
  simp only [Int.toNat_natCast, Int.toNat_zero, Nat.sub_zero]
  cases climb h h.length (k + 1) with
  | none => simp
  | some p => simp [impl_stepsToRoot_n5]

theorem implTree_eq (h : List Int) : impl_TreeOk h = some (treeB h) := by
  unfold impl_TreeOk impl_TreeOk_n9 impl_TreeOk_n1 impl_TreeOk_n8 impl_TreeOk_n6 impl_TreeOk_n2 impl_TreeOk_n5 impl_TreeOk_n4
  unfold treeB
  by_cases h1 : h.length < 1
  · have e : decide (1 ≤ h.length) = false := decide_eq_false (by omega)
    have e2 : decide ((((h.length : Nat) : Int)) < 1) = true := decide_eq_true (by omega)
    simp [e, e2]
  · have e1 : decide ((((h.length : Nat) : Int)) < 1) = false := decide_eq_false (by omega)
    have e1' : decide (1 ≤ h.length) = true := decide_eq_true (by omega)
    by_cases h2 : h.length > 8
    · have e : decide (h.length ≤ 8) = false := decide_eq_false (by omega)
      have e2 : decide ((((h.length : Nat) : Int)) > 8) = true := decide_eq_true (by omega)
      simp only [e1, e2, e]
      simp
    · have e2 : decide ((((h.length : Nat) : Int)) > 8) = false := decide_eq_false (by omega)
      have e2' : decide (h.length ≤ 8) = true := decide_eq_true (by omega)
      simp only [e1, e2, e1', e2', cond_false, oneRoot_eq h (by omega), Option.bind_some, Bool.true_and]
      cases hr : inRange h with
      | false => simp
      | true =>
        cases hc : (h.count 0 == 1) with
        | false => simp
        | true =>
          simp only [Bool.true_and, Bool.not_true, cond_false, Option.bind_some, Sum.elim_inl]
          have hloop := nloop_run (body := fun (s : Int) => ((impl_TreeOk_n3 h h.length s).map (Sum.elim (fun (t : Int) => Sum.inl t) (Sum.elim (fun (t : Bool) => Sum.inr (Sum.inl t)) (fun (t : Unit) => Sum.inr (Sum.inr t)))) : Option ((Int) ⊕ (Bool ⊕ Unit))))
            (I := fun s => ∃ k : Nat, s = (k : Int) ∧ k ≤ h.length) (μ := fun s => h.length - s.toNat)
            (f := fun s => cond (((List.range h.length).drop s.toNat).all fun k => (climb h h.length (k + 1)).isSome) (.inr ()) (.inl false))
            (by
              rintro _ ⟨k, rfl, hk⟩
              by_cases hlt : k < h.length
              · simp only [impl_TreeOk_n3]
                rw [show decide ((k : Int) < ((h.length : Nat) : Int)) = true from decide_eq_true (by omega)]
                rw [wrap64 (x := (k : Int) + 1) (by omega) (by omega), show (k : Int) + 1 = ((k + 1 : Nat) : Int) by omega, steps_eq h (by omega) hr k hlt]
                simp only [cond_true, Option.bind_some, Int.toNat_natCast]
                have hd : (List.range h.length).drop k = k :: (List.range h.length).drop (k + 1) := by
                  rw [List.drop_eq_getElem_cons (by simpa using hlt)]
                  simp
                rw [hd]
                simp only [List.all_cons]
                cases hcl : climb h h.length (k + 1) with
                | none => right; simp
                | some p =>
                  left
                  refine ⟨((k + 1 : Nat) : Int), by simp, ⟨k + 1, rfl, hlt⟩, by simp; omega, by simp⟩
              · right
                have e : k = h.length := by omega
                subst e
                simp only [impl_TreeOk_n3]
                rw [show decide (((h.length : Nat) : Int) < ((h.length : Nat) : Int)) = false from decide_eq_false (by omega)]
                simp [List.drop_of_length_le (show (List.range h.length).length ≤ h.length by simp)])
          rw [hloop LL 0 ⟨0, rfl, by omega⟩ (by simp only [LL]; simp; omega)]
          simp only [Int.toNat_zero, List.drop_zero]
          cases ((List.range h.length).all fun k => (climb h h.length (k + 1)).isSome) <;> rfl

theorem l1In_eq (a b c : Int) : spec_l1In a b c = some (decide (b ≤ a) && decide (a ≤ c)) := by
  unfold spec_l1In spec_l1In_n1
  by_cases h : a ≥ b
  · have e : decide (a ≥ b) = true := decide_eq_true h
    rw [e]; rfl
  · have e : decide (a ≥ b) = false := decide_eq_false h
    rw [e]; rfl

/-- The model's way from a word upwards. -/
def goUp (h : List Int) : Nat → Int → Bool ⊕ Int
  | 0, a => .inr a
  | f + 1, a => if 0 < a then (match h[a.toNat - 1]? with
      | some x => if okHead h.length x then goUp h f x else .inl false
      | none => .inl false) else .inr a

theorem inner_eq (h : List Int) (hl : h.length ≤ 8) (a : Int) (ha0 : 0 ≤ a) (ha : a ≤ h.length) : spec_TreeOk_n7 h h.length a = some (goUp h h.length a) := by
  unfold spec_TreeOk_n7
  have hloop := nloop_run (body := fun (s : Int × Int) => ((spec_TreeOk_n6 h h.length s.1 s.2).map (Sum.elim (fun (t : Int × Int) => Sum.inl (t.1, t.2)) (Sum.elim (fun (t : Bool) => Sum.inr (Sum.inl t)) (fun (t : Int) => Sum.inr (Sum.inr t)))) : Option ((Int × Int) ⊕ (Bool ⊕ Int))))
    (I := fun s => ∃ k i : Nat, s = ((k : Int), (i : Int)) ∧ k ≤ h.length ∧ i ≤ h.length) (μ := fun s => h.length - s.2.toNat)
    (f := fun s => goUp h (h.length - s.2.toNat) s.1)
    (by
      rintro _ ⟨k, i, rfl, hk, hi⟩
      simp only [spec_TreeOk_n6, Int.toNat_natCast]
      by_cases h1 : 0 < k
      · have e1 : decide ((k : Int) > 0) = true := decide_eq_true (by omega)
        by_cases h2 : i < h.length
        · have e2 : decide ((i : Int) < ((h.length : Nat) : Int)) = true := decide_eq_true (by omega)
          have hk' : k - 1 < h.length := by omega
          rw [e1, e2, wrap64 (x := (k : Int) - 1) (by omega) (by omega), show (k : Int) - 1 = ((k - 1 : Nat) : Int) by omega, idx_lt hk', wrap64 (x := (i : Int) + 1) (by omega) (by omega)]
          simp only [cond_true, Option.bind_some, l1In_eq]
          have hf : h.length - i = (h.length - i - 1) + 1 := by omega
          have hg : goUp h (h.length - i) (k : Int) = if okHead h.length h[k - 1] then goUp h (h.length - i - 1) h[k - 1] else .inl false := by
            rw [hf]
            simp only [goUp]
            rw [if_pos (by omega)]
            simp [hk']
          rw [hg]
          by_cases h3 : okHead h.length h[k - 1] = true
          · left
            have h3' := h3
            simp only [okHead, Bool.and_eq_true, decide_eq_true_eq] at h3'
            refine ⟨(h[k - 1], ((i + 1 : Nat) : Int)), ?_, ⟨h[k - 1].toNat, i + 1, by
              have : ((h[k - 1].toNat : Nat) : Int) = h[k - 1] := by omega
              rw [this], by omega, by omega⟩, by simp; omega, ?_⟩
            · have e4 : (decide ((0 : Int) ≤ h[k - 1]) && decide (h[k - 1] ≤ ((h.length : Nat) : Int))) = true := h3
              rw [e4]; simp
            · have e5 : h.length - ((i + 1 : Nat) : Int).toNat = h.length - i - 1 := by simp; omega
              simp only [e5, h3, if_true]
          · right
            have h3' : okHead h.length h[k - 1] = false := by simpa using h3
            have e4 : (decide ((0 : Int) ≤ h[k - 1]) && decide (h[k - 1] ≤ ((h.length : Nat) : Int))) = false := h3'
            rw [e4]
            simp [h3']
        · right
          have e2 : decide ((i : Int) < ((h.length : Nat) : Int)) = false := decide_eq_false (by omega)
          have h0 : h.length - i = 0 := by omega
          rw [e1, e2, h0]
          simp [goUp]
      · right
        have hk0 : k = 0 := by omega
        subst hk0
        have e1 : decide (((0 : Nat) : Int) > 0) = false := by simp
        rw [e1]
        cases h.length - i <;> simp [goUp])
  exact hloop LL (a, 0) ⟨a.toNat, 0, by
    have : ((a.toNat : Nat) : Int) = a := by omega
    rw [this]; rfl, by omega, by omega⟩ (by simp only [LL]; simp; omega)

theorem goUp_climb {h : List Int} (hr : inRange h = true) : ∀ (f k : Nat), k < h.length → goUp h f ((k + 1 : Nat) : Int) = (if (climb h f (k + 1)).isSome then .inr 0 else goUp h f ((k + 1 : Nat) : Int)) ∧
    ((climb h f (k + 1)).isSome = false → ∃ a : Int, 0 < a ∧ goUp h f ((k + 1 : Nat) : Int) = .inr a)
  | 0, k, hk => by
    refine ⟨by simp [climb], fun _ => ⟨((k + 1 : Nat) : Int), by omega, rfl⟩⟩
  | f + 1, k, hk => by
    obtain ⟨h1, h2⟩ := inRange_get hr hk
    have hok : okHead h.length h[k] = true := by simp [okHead]; omega
    have hg : goUp h (f + 1) ((k + 1 : Nat) : Int) = goUp h f h[k] := by
      simp only [goUp]
      rw [if_pos (by omega)]
      simp [hk, hok]
    have hc : climb h (f + 1) (k + 1) = if h[k] = 0 then some (k + 1, 0) else (climb h f h[k].toNat).map fun p => (p.1, p.2 + 1) := by
      simp [climb, hk]
    rw [hg, hc]
    by_cases e : h[k] = 0
    · have : goUp h f 0 = .inr 0 := by cases f <;> simp [goUp]
      simp [e, this]
    · obtain ⟨j, hj⟩ : ∃ j : Nat, h[k] = ((j + 1 : Nat) : Int) := ⟨h[k].toNat - 1, by omega⟩
      have ih := goUp_climb hr f j (by omega)
      rw [hj]
      have ne : ¬ ((j + 1 : Nat) : Int) = 0 := by omega
      simp only [ne, if_false, Int.toNat_natCast, Option.isSome_map]
      exact ih

/-- What is asked of one word. -/
def wordOk1 (h : List Int) (k : Nat) : Bool := match h[k]? with
  | some x => okHead h.length x && !(x == ((k + 1 : Nat) : Int)) && (match goUp h h.length ((k + 1 : Nat) : Int) with | .inr a => !decide (a > 0) | .inl _ => false)
  | none => false

theorem specTree_eq0 (h : List Int) : spec_TreeOk h = some (decide (1 ≤ h.length) && decide (h.length ≤ 8) && (List.range h.length).all (wordOk1 h) && (h.count 0 == 1)) := by
  unfold spec_TreeOk spec_TreeOk_n22 spec_TreeOk_n1
  rw [l1In_eq]
  by_cases h1 : (decide ((1 : Int) ≤ ((h.length : Nat) : Int)) && decide (((h.length : Nat) : Int) ≤ 8)) = true
  · have h1' := h1
    simp only [Bool.and_eq_true, decide_eq_true_eq] at h1'
    have e1 : decide (1 ≤ h.length) = true := decide_eq_true (by omega)
    have e2 : decide (h.length ≤ 8) = true := decide_eq_true (by omega)
    simp only [h1, e1, e2, Option.bind_some, Bool.not_true, cond_false, Sum.elim_inl, Bool.true_and]
    unfold spec_TreeOk_n21 spec_TreeOk_n19 spec_TreeOk_n2 spec_TreeOk_n18 spec_TreeOk_n17
    have hloop := nloop_run (body := fun (s : Int × Int) => ((spec_TreeOk_n16 h h.length s.1 s.2).map (Sum.elim (fun (t : Int × Int) => Sum.inl (t.1, t.2)) (Sum.elim (fun (t : Bool) => Sum.inr (Sum.inl t)) (fun (t : Int) => Sum.inr (Sum.inr t)))) : Option ((Int × Int) ⊕ (Bool ⊕ Int))))
      (I := fun s => ∃ k r : Nat, s = ((r : Int), (k : Int)) ∧ k ≤ h.length ∧ r ≤ k) (μ := fun s => h.length - s.2.toNat)
      (f := fun s => cond (((List.range h.length).drop s.2.toNat).all (wordOk1 h)) (.inr (s.1 + ((h.drop s.2.toNat).count 0 : Nat))) (.inl false))
      (by
        rintro _ ⟨k, r, rfl, hk, hr⟩
        by_cases hlt : k < h.length
        · have hd : (List.range h.length).drop k = k :: (List.range h.length).drop (k + 1) := by
            rw [List.drop_eq_getElem_cons (by simpa using hlt)]
            simp
          simp only [spec_TreeOk_n16, spec_TreeOk_n3, Int.toNat_natCast]
          rw [show decide ((k : Int) < ((h.length : Nat) : Int)) = true from decide_eq_true (by omega)]
          simp only [cond_true, Option.bind_some, Sum.elim_inl]
          unfold spec_TreeOk_n15 spec_TreeOk_n13 spec_TreeOk_n12 spec_TreeOk_n4 spec_TreeOk_n14 spec_TreeOk_n11 spec_TreeOk_n9 spec_TreeOk_n5 spec_TreeOk_n8 spec_TreeOk_n10
          have hw : IntKind.wrap .i64 ((k : Int) + 1) = ((k + 1 : Nat) : Int) := by rw [wrap64 (by omega) (by omega)]; omega
          have hw2 : IntKind.wrap .i64 ((r : Int) + 1) = ((r + 1 : Nat) : Int) := by rw [wrap64 (by omega) (by omega)]; omega
          simp only [idx_lt hlt, Option.bind_some, l1In_eq, hw, hw2]
          rw [hd, List.all_cons, count_drop_cons hlt]
          have hwk : wordOk1 h k = (okHead h.length h[k] && !(h[k] == ((k + 1 : Nat) : Int)) && (match goUp h h.length ((k + 1 : Nat) : Int) with | .inr a => !decide (a > 0) | .inl _ => false)) := by
            simp [wordOk1, hlt]
          have hin := inner_eq h (by omega) ((k + 1 : Nat) : Int) (by omega) (by omega)
          rw [hwk]
          cases h3 : okHead h.length h[k] with
          | false =>
            right
            have e4 : (decide ((0 : Int) ≤ h[k]) && decide (h[k] ≤ ((h.length : Nat) : Int))) = false := h3
            rw [e4]; simp
          | true =>
            have e4 : (decide ((0 : Int) ≤ h[k]) && decide (h[k] ≤ ((h.length : Nat) : Int))) = true := h3
            rw [e4]
            simp only [Bool.not_true, cond_false, Bool.true_and]
            cases h5 : (h[k] == ((k + 1 : Nat) : Int)) with
            | true => right; simp
            | false =>
              simp only [cond_false, Bool.not_false, Bool.true_and]
              by_cases h6 : h[k] = 0
              · simp only [h6, beq_self_eq_true, cond_true, Option.bind_some, Sum.elim_inl, Option.map_some, hin, if_true]
                cases h7 : goUp h h.length ((k + 1 : Nat) : Int) with
                | inl b =>
                  right
                  have : b = false := by
                    have key : ∀ f a b, goUp h f a = .inl b → b = false := by
                      intro f
                      induction f with
                      | zero => intro a b hh; simp [goUp] at hh
                      | succ f ih =>
                        intro a b hh
                        simp only [goUp] at hh
                        split at hh
                        · split at hh
                          · split at hh
                            · exact ih _ _ hh
                            · simpa using hh.symm
                          · simpa using hh.symm
                        · cases hh
                    exact key _ _ _ h7
                  subst this
                  simp
                | inr a =>
                  by_cases h8 : a > 0
                  · right
                    simp [h8]
                  · left
                    refine ⟨(((r + 1 : Nat) : Int), ((k + 1 : Nat) : Int)), by simp [h8], ⟨k + 1, r + 1, rfl, hlt, by omega⟩, by simp; omega, ?_⟩
                    have e : ((k + 1 : Nat) : Int).toNat = k + 1 := by simp
                    simp only [e, h8, decide_false, Bool.not_false, Bool.true_and]
                    congr 2
                    push_cast
                    omega
              · have e9 : (h[k] == 0) = false := by simpa using h6
                simp only [e9, cond_false, Option.bind_some, Sum.elim_inl, Option.map_some, hin, h6, if_false]
                cases h7 : goUp h h.length ((k + 1 : Nat) : Int) with
                | inl b =>
                  right
                  have : b = false := by
                    have key : ∀ f a b, goUp h f a = .inl b → b = false := by
                      intro f
                      induction f with
                      | zero => intro a b hh; simp [goUp] at hh
                      | succ f ih =>
                        intro a b hh
                        simp only [goUp] at hh
                        split at hh
                        · split at hh
                          · split at hh
                            · exact ih _ _ hh
                            · simpa using hh.symm
                          · simpa using hh.symm
                        · cases hh
                    exact key _ _ _ h7
                  subst this
                  simp
                | inr a =>
                  by_cases h8 : a > 0
                  · right
                    simp [h8]
                  · left
                    refine ⟨((r : Int), ((k + 1 : Nat) : Int)), by simp [h8], ⟨k + 1, r, rfl, hlt, by omega⟩, by simp; omega, ?_⟩
                    have e : ((k + 1 : Nat) : Int).toNat = k + 1 := by simp
                    simp only [e, h8, decide_false, Bool.not_false, Bool.true_and]
                    congr 2
                    omega
        · right
          have e : k = h.length := by omega
          subst e
          simp only [spec_TreeOk_n16, spec_TreeOk_n3]
          rw [show decide (((h.length : Nat) : Int) < ((h.length : Nat) : Int)) = false from decide_eq_false (by omega)]
          simp [List.drop_of_length_le (show (List.range h.length).length ≤ h.length by simp)])
    simp only [Option.bind_some]
    rw [hloop LL (0, 0) ⟨0, 0, rfl, by omega, by omega⟩ (by simp only [LL]; simp; omega)]
    simp only [Int.toNat_zero, List.drop_zero, Option.bind_some]
    cases (List.range h.length).all (wordOk1 h) with
    | false => simp
    | true =>
      simp only [cond_true, Option.map_some, Sum.elim_inr, Option.bind_some, Sum.elim_inl, spec_TreeOk_n20, Bool.true_and]
      congr 1
      by_cases e : h.count 0 = 1
      · simp [e]
      · have e1 : ((0 : Int) + ((h.count 0 : Nat) : Int) == 1) = false := by rw [beq_eq_false_iff_ne]; omega
        have e2 : (h.count 0 == 1) = false := by rw [beq_eq_false_iff_ne]; exact e
        rw [e2]; exact e1
  · have h1' : (decide ((1 : Int) ≤ ((h.length : Nat) : Int)) && decide (((h.length : Nat) : Int) ≤ 8)) = false := by simpa using h1
    have e : (decide (1 ≤ h.length) && decide (h.length ≤ 8)) = false := by
      simp only [Bool.and_eq_true, decide_eq_true_eq] at h1
      simp only [Bool.and_eq_false_iff, decide_eq_false_iff_not]
      omega
    rw [h1']
    simp [e]

theorem specTree_eq (h : List Int) : spec_TreeOk h = some (treeB h) := by
  rw [specTree_eq0]
  congr 1
  unfold treeB
  have key : (List.range h.length).all (wordOk1 h) = (inRange h && (List.range h.length).all fun k => (climb h h.length (k + 1)).isSome) := by
    cases hr : inRange h with
    | false =>
      rw [Bool.false_and, List.all_eq_false]
      have : ¬ ∀ x ∈ h, okHead h.length x = true := fun hh => by
        have : inRange h = true := List.all_eq_true.2 hh
        rw [hr] at this; cases this
      have ⟨x, hx⟩ := Classical.not_forall.1 this
      have ⟨hm, hb⟩ := Classical.not_imp.1 hx
      obtain ⟨k, hk, rfl⟩ := List.getElem_of_mem hm
      refine ⟨k, by simpa using hk, ?_⟩
      simp [wordOk1, hk, hb]
    | true =>
      rw [Bool.true_and, Bool.eq_iff_iff, List.all_eq_true, List.all_eq_true]
      constructor
      · intro hh k hk
        have hk' : k < h.length := by simpa using hk
        have h1 := hh k hk
        cases hc : (climb h h.length (k + 1)).isSome with
        | true => rfl
        | false =>
          obtain ⟨a, ha, hg⟩ := (goUp_climb hr h.length k hk').2 hc
          have hg' : goUp h h.length ((k : Int) + 1) = .inr a := hg
          simp [wordOk1, hk', hg', ha] at h1
      · intro hh k hk
        have hk' : k < h.length := by simpa using hk
        have h1 := hh k hk
        have h2 := (goUp_climb hr h.length k hk').1
        rw [if_pos h1] at h2
        obtain ⟨h3, h4⟩ := inRange_get hr hk'
        have hok : okHead h.length h[k] = true := by simp [okHead]; omega
        have hself : ¬ h[k] = ((k + 1 : Nat) : Int) := fun e => by
          -- a word that is its own head never comes to the root
          have none : ∀ f, climb h f (k + 1) = none := by
            intro f
            induction f with
            | zero => rfl
            | succ f ih =>
              simp only [climb]
              have : h[k + 1 - 1]? = some h[k] := by simp [hk']
              rw [this]
              simp only
              rw [if_neg (by omega), e]
              simp [ih]
          rw [none] at h1
          cases h1
        have h2' : goUp h h.length ((k : Int) + 1) = .inr 0 := h2
        have hself' : ¬ h[k] = (k : Int) + 1 := hself
        simp [wordOk1, hk', hok, h2', hself']
  rw [key]
  cases inRange h <;> simp [Bool.and_comm, Bool.and_assoc, Bool.and_left_comm]

theorem climb_mono {h : List Int} : ∀ {f w : Nat} {p : Nat × Nat}, climb h f w = some p → climb h (f + 1) w = some p
  | 0, w, p, e => by simp [climb] at e
  | f + 1, w, p, e => by
    simp only [climb] at e
    rw [climb]
    split at e
    · cases e
    · rename_i x hx
      split at e
      · rename_i h0
        simp only [h0, if_true]; exact e
      · rename_i h0
        simp only [h0, if_false]
        obtain ⟨q, hq, rfl⟩ := Option.map_eq_some_iff.1 e
        rw [climb_mono hq]; rfl

theorem climb_le {h : List Int} {f g w : Nat} {p : Nat × Nat} (hfg : f ≤ g) (e : climb h f w = some p) : climb h g w = some p := by
  induction hfg with
  | refl => exact e
  | step _ ih => exact climb_mono ih

theorem climb_root {h : List Int} : ∀ {f w : Nat} {p : Nat × Nat}, climb h f w = some p → h[p.1 - 1]? = some 0
  | 0, w, p, e => by simp [climb] at e
  | f + 1, w, p, e => by
    simp only [climb] at e
    split at e
    · cases e
    · rename_i x hx
      split at e
      · rename_i h0
        cases e
        rw [hx, h0]
      · obtain ⟨q, hq, rfl⟩ := Option.map_eq_some_iff.1 e
        show h[q.1 - 1]? = some 0
        exact climb_root hq

theorem climb_pos {h : List Int} (hr : inRange h = true) : ∀ {f w : Nat} {p : Nat × Nat}, 1 ≤ w → climb h f w = some p → 1 ≤ p.1
  | 0, w, p, _, e => by simp [climb] at e
  | f + 1, w, p, hw, e => by
    simp only [climb] at e
    split at e
    · cases e
    · rename_i x hx
      split at e
      · cases e; exact hw
      · rename_i h0
        obtain ⟨q, hq, rfl⟩ := Option.map_eq_some_iff.1 e
        obtain ⟨hlt, hx'⟩ := List.getElem?_eq_some_iff.1 hx
        have := inRange_get hr hlt
        show 1 ≤ q.1
        exact climb_pos hr (by rw [hx'] at this; omega) hq

/-- What a tree is. -/
structure Tree (h : List Int) : Prop where
  pos : 1 ≤ h.length
  le : h.length ≤ 8
  rng : inRange h = true
  one : h.count 0 = 1
  way : ∀ k, k < h.length → (climb h h.length (k + 1)).isSome = true

theorem tree_iff (h : List Int) : treeB h = true ↔ Tree h := by
  unfold treeB
  simp only [Bool.and_eq_true, decide_eq_true_eq, beq_iff_eq, List.all_eq_true]
  constructor
  · rintro ⟨⟨⟨⟨h1, h2⟩, h3⟩, h4⟩, h5⟩
    exact ⟨h1, h2, h3, h4, fun k hk => h5 k (by simpa using hk)⟩
  · rintro ⟨h1, h2, h3, h4, h5⟩
    exact ⟨⟨⟨⟨h1, h2⟩, h3⟩, h4⟩, fun k hk => h5 k (by simpa using hk)⟩

/-- The head of a word, both from 1 on; 0 for none. -/
def hd (h : List Int) (w : Nat) : Nat := (h.getD (w - 1) 0).toNat

/-- How deep a word is. -/
def dep (h : List Int) (w : Nat) : Nat := ((climb h h.length w).getD (0, 0)).2
def top (h : List Int) : Nat := h.idxOf 0 + 1
theorem top_pos (h : List Int) : 1 ≤ top h := by simp [top]

section
variable {h : List Int} (T : Tree h)
include T

theorem Tree.get {w : Nat} (h1 : 1 ≤ w) (h2 : w ≤ h.length) : h[w - 1]? = some ((hd h w : Nat) : Int) := by
  have hk : w - 1 < h.length := by omega
  have := inRange_get T.rng hk
  rw [List.getElem?_eq_getElem hk, hd, List.getD_eq_getElem?_getD, List.getElem?_eq_getElem hk]
  simp only [Option.getD_some, Option.some.injEq]
  omega

theorem Tree.hd_le {w : Nat} (h1 : 1 ≤ w) (h2 : w ≤ h.length) : hd h w ≤ h.length := by
  have hk : w - 1 < h.length := by omega
  have := inRange_get T.rng hk
  rw [hd, List.getD_eq_getElem?_getD, List.getElem?_eq_getElem hk]
  simp only [Option.getD_some]
  omega

theorem Tree.top_lt : h.idxOf 0 < h.length := by
  rw [List.idxOf_lt_length_iff]
  exact List.count_pos_iff.1 (by rw [T.one]; omega)

theorem Tree.top_le : top h ≤ h.length := T.top_lt

/-- Just one word has no head. -/
theorem Tree.root_unique {i : Nat} (hi : h[i]? = some 0) : i = h.idxOf 0 := by
  have hlt := T.top_lt
  have h0 : h[h.idxOf 0]? = some 0 := by rw [List.getElem?_eq_getElem hlt]; simp
  -- two places would count twice
  have two : ∀ (l : List Int) (i j : Nat), i < j → l[i]? = some 0 → l[j]? = some 0 → 2 ≤ l.count 0 := by
    intro l
    induction l with
    | nil => intro i j _ h1; simp at h1
    | cons a r ih =>
      intro i j hij h1 h2
      cases j with
      | zero => omega
      | succ j =>
        rw [List.count_cons]
        cases i with
        | zero =>
          simp at h1 h2
          have : 0 < r.count 0 := List.count_pos_iff.2 (List.mem_of_getElem? h2)
          rw [h1]
          simp only [beq_self_eq_true, if_true]
          omega
        | succ i =>
          simp at h1 h2
          have := ih i j (by omega) h1 h2
          omega
  rcases Nat.lt_trichotomy i (h.idxOf 0) with hl | he | hg
  · have := two h i _ hl hi h0; have := T.one; omega
  · exact he
  · have := two h _ i hg h0 hi; have := T.one; omega

theorem Tree.hd_zero {w : Nat} (h1 : 1 ≤ w) (h2 : w ≤ h.length) : hd h w = 0 ↔ w = top h := by
  have hg := T.get h1 h2
  constructor
  · intro e
    rw [e] at hg
    have := T.root_unique hg
    unfold top; omega
  · intro e
    have hlt := T.top_lt
    have h0 : h[h.idxOf 0]? = some 0 := by rw [List.getElem?_eq_getElem hlt]; simp
    have : w - 1 = h.idxOf 0 := by unfold top at e; omega
    rw [this, h0] at hg
    simp at hg
    omega

theorem Tree.climb_some {w : Nat} (h1 : 1 ≤ w) (h2 : w ≤ h.length) : climb h h.length w = some (top h, dep h w) := by
  have hs := T.way (w - 1) (by omega)
  rw [show w - 1 + 1 = w by omega] at hs
  obtain ⟨p, hp⟩ := Option.isSome_iff_exists.1 hs
  have hr := climb_root hp
  have h3 := T.root_unique hr
  have h4 := climb_pos T.rng h1 hp
  have e1 : p.1 = top h := by unfold top; omega
  have e2 : dep h w = p.2 := by simp [dep, hp]
  rw [hp, e2, ← e1]

theorem Tree.dep_step {w : Nat} (h1 : 1 ≤ w) (h2 : w ≤ h.length) (h3 : hd h w ≠ 0) : dep h w = dep h (hd h w) + 1 := by
  have hc := T.climb_some h1 h2
  have hg := T.get h1 h2
  have hc2 := T.climb_some (w := hd h w) (by omega) (T.hd_le h1 h2)
  obtain ⟨n, hn⟩ : ∃ n, h.length = n + 1 := ⟨h.length - 1, by have := T.pos; omega⟩
  rw [hn] at hc
  simp only [climb, hg] at hc
  rw [if_neg (by omega)] at hc
  simp only [Int.toNat_natCast] at hc
  obtain ⟨q, hq, e⟩ := Option.map_eq_some_iff.1 hc
  have hq2 := climb_le (show n ≤ h.length by omega) hq
  rw [hc2] at hq2
  cases hq2
  simp at e
  exact e.symm

end

theorem wrapu64 {x : Int} (h1 : 0 ≤ x) (h2 : x < 18446744073709551616) : IntKind.wrap .u64 x = x := by
  simp only [IntKind.wrap, IntKind.bits, IntKind.signed]
  simp
  omega

theorem ofInt_nat {a : Nat} (h : a < 18446744073709551616) : (BitVec.ofInt 64 (a : Int)).toNat = a := by
  rw [BitVec.toNat_ofInt]; omega

theorem ioru {a b : Nat} (ha : a < 2 ^ 62) (hb : b < 2 ^ 62) : ior .u64 (a : Int) (b : Int) = ((a ||| b : Nat) : Int) := by
  have h := Nat.or_lt_two_pow ha hb
  show IntKind.wrap .u64 ((BitVec.ofInt 64 (a : Int) ||| BitVec.ofInt 64 (b : Int)).toNat : Int) = _
  rw [BitVec.toNat_or, ofInt_nat (by omega), ofInt_nat (by omega), wrapu64 (by omega) (by omega)]
theorem iandu {a b : Nat} (ha : a < 2 ^ 62) (hb : b < 2 ^ 62) : iand .u64 (a : Int) (b : Int) = ((a &&& b : Nat) : Int) := by
  have h : a &&& b < 2 ^ 62 := Nat.and_lt_two_pow a hb
  show IntKind.wrap .u64 ((BitVec.ofInt 64 (a : Int) &&& BitVec.ofInt 64 (b : Int)).toNat : Int) = _
  rw [BitVec.toNat_and, ofInt_nat (by omega), ofInt_nat (by omega), wrapu64 (by omega) (by omega)]
theorem all_lt {n : Nat} {p : Nat → Bool} (h : (List.range n).all p = true) {i : Nat} (hi : i < n) : p i = true :=
  List.all_eq_true.1 h i (List.mem_range.2 hi)

theorem only_tab : ((List.range 8).all fun i => impl_only ((i : Int) + 1) == some ((2 ^ i : Nat) : Int)) = true := by decide +kernel
theorem only_eq {w : Nat} (h1 : 1 ≤ w) (h2 : w ≤ 8) : impl_only (w : Int) = some ((2 ^ (w - 1) : Nat) : Int) := by
  have h := all_lt only_tab (i := w - 1) (by omega)
  rw [show ((w - 1 : Nat) : Int) + 1 = (w : Int) by omega] at h
  simpa using h

theorem pow_lt256 {w : Nat} (h : w ≤ 8) (h1 : 1 ≤ w) : 2 ^ (w - 1) < 256 := by
  have : 2 ^ (w - 1) < 2 ^ 8 := Nat.pow_lt_pow_right (by omega) (by omega)
  simpa using this

/-- The words of a set, in ascending order. -/
def wordsL (m : Nat) : List Int := ((List.range 8).filter fun i => m.testBit i).map fun i => ((i + 1 : Nat) : Int)

theorem filter_upto (p : Nat → Bool) (n : Nat) : ∀ N, n ≤ N → (List.range N).filter (fun i => decide (i < n) && p i) = (List.range n).filter p
  | 0, h => by
    have : n = 0 := by omega
    subst this; rfl
  | N + 1, h => by
    by_cases e : n = N + 1
    · subst e
      apply List.filter_congr
      intro i hi
      rw [List.mem_range] at hi
      simp [hi]
    · rw [List.range_succ, List.filter_append, filter_upto p n N (by omega)]
      have : ¬ N < n := by omega
      simp [this]

theorem wordsL_mask (p : Nat → Bool) {n : Nat} (h : n ≤ 8) : wordsL (maskN p n) = ((List.range n).filter p).map fun i => ((i + 1 : Nat) : Int) := by
  unfold wordsL
  rw [← filter_upto p n 8 h]
  congr 1
  apply List.filter_congr
  intro i _
  rw [maskN_bit]

theorem mem_wordsL {p : Nat → Bool} {n : Nat} (h : n ≤ 8) {x : Int} : x ∈ wordsL (maskN p n) ↔ ∃ i, i < n ∧ p i = true ∧ x = ((i + 1 : Nat) : Int) := by
  rw [wordsL_mask p h, List.mem_map]
  constructor
  · rintro ⟨i, hi, e⟩
    rw [List.mem_filter, List.mem_range] at hi
    exact ⟨i, hi.1, hi.2, e.symm⟩
  · rintro ⟨i, h1, h2, e⟩
    exact ⟨i, by rw [List.mem_filter, List.mem_range]; exact ⟨h1, h2⟩, e.symm⟩

theorem wordsL_length_le (m : Nat) : (wordsL m).length ≤ 8 := by
  unfold wordsL
  rw [List.length_map]
  exact Nat.le_trans (List.length_filter_le _ _) (by simp)

/-- Who has a head. -/
def headB (h : List Int) (v : Int) (i : Nat) : Bool := h.getD i 0 == v

theorem dependents_eq (h : List Int) (v : Int) (hl : h.length ≤ 8) : impl_dependents h v = some ((maskN (headB h v) h.length : Nat) : Int) := by
  have e : impl_dependents h v = impl_dependents_n9 h v := by unfold impl_dependents; rfl
  rw [e]
  unfold impl_dependents_n9 impl_dependents_n8 impl_dependents_n6 impl_dependents_n2 impl_dependents_n5 impl_dependents_n4 impl_dependents_n1
  have hloop := nloop_to (body := fun (s : Int × Int) => ((impl_dependents_n3 h v s.1 h.length s.2).map (Sum.elim (fun (t : Int × Int) => Sum.inl (t.1, t.2)) (fun (t : Int) => Sum.inr t)) : Option ((Int × Int) ⊕ (Int))))
    (fun k => (((maskN (headB h v) k : Nat) : Int), (k : Int))) h.length ((maskN (headB h v) h.length : Nat) : Int)
    (by
      intro k hk
      have hb : headB h v k = (h[k] == v) := by simp [headB, List.getD, hk]
      have h1 := maskN_lt (headB h v) k
      have h2 : (2 : Nat) ^ k < 2 ^ 62 := Nat.pow_lt_pow_right (by omega) (by omega)
      simp only [impl_dependents_n3]
      rw [show decide ((k : Int) < ((h.length : Nat) : Int)) = true from decide_eq_true (by omega), idx_lt hk, wrap64 (by omega) (by omega), show (k : Int) + 1 = ((k + 1 : Nat) : Int) by omega,
        only_eq (by omega) (by omega), Nat.add_sub_cancel]
      simp only [cond_true, Option.bind_some, ← hb, maskN]
      rw [ioru (by omega) h2]
      cases headB h v k with
      | true => rfl
      | false => simp)
    (by
      simp only [impl_dependents_n3]
      rw [show decide (((h.length : Nat) : Int) < ((h.length : Nat) : Int)) = false from decide_eq_false (by omega)]
      rfl)
  simp only [Option.bind_some]
  have := hloop LL (by simp only [LL]; omega)
  simp only [maskN] at this
  rw [show (((0 : Nat) : Int), ((0 : Nat) : Int)) = ((0 : Int), (0 : Int)) from rfl] at this
  rw [this]
  rfl

theorem list_tab : ((List.range 256).all fun m => impl_wordSet_list (m : Int) == some (wordsL m)) = true := by decide +kernel
theorem list_eq {m : Nat} (h : m < 256) : impl_wordSet_list (m : Int) = some (wordsL m) := by simpa using all_lt list_tab h

/-- The words that depend on a word. -/
def kidsL (h : List Int) (w : Nat) : List Int := wordsL (maskN (headB h (w : Int)) h.length)

theorem mem_kids {h : List Int} (T : Tree h) {w : Nat} {x : Int} : x ∈ kidsL h w ↔ ∃ c, 1 ≤ c ∧ c ≤ h.length ∧ hd h c = w ∧ x = (c : Int) := by
  unfold kidsL
  rw [mem_wordsL T.le]
  constructor
  · rintro ⟨i, h1, h2, e⟩
    refine ⟨i + 1, by omega, by omega, ?_, e⟩
    have hg := T.get (w := i + 1) (by omega) (by omega)
    rw [Nat.add_sub_cancel] at hg
    simp only [headB, List.getD_eq_getElem?_getD, hg, Option.getD_some, beq_iff_eq] at h2
    omega
  · rintro ⟨c, h1, h2, h3, rfl⟩
    refine ⟨c - 1, by omega, ?_, by omega⟩
    have hg := T.get (w := c) (by omega) (by omega)
    simp only [headB, List.getD_eq_getElem?_getD, hg, Option.getD_some, beq_iff_eq, h3]

theorem kids_length (h : List Int) (w : Nat) : (kidsL h w).length ≤ 8 := wordsL_length_le _

/-- A word that one may ask for: of a tree, from 1 on. -/
def wordB (h : List Int) (v : Int) : Bool := treeB h && (decide (1 ≤ v) && decide (v ≤ (h.length : Nat)))

theorem wordOk_eq (h : List Int) (v : Int) : impl_wordOk h v = some (wordB h v) := by
  have e : impl_wordOk h v = impl_wordOk_n1 h v := by unfold impl_wordOk; rfl
  rw [e]
  unfold impl_wordOk_n1 wordB
  rw [implTree_eq]
  simp only [Option.bind_some]
  cases treeB h with
  | false => rfl
  | true =>
    by_cases h1 : 1 ≤ v
    · simp [h1, show v ≥ 1 from h1]
    · simp [h1, show ¬ v ≥ 1 from h1]

theorem wordB_iff {h : List Int} {v : Int} : wordB h v = true ↔ ∃ w : Nat, v = (w : Int) ∧ Tree h ∧ 1 ≤ w ∧ w ≤ h.length := by
  unfold wordB
  simp only [Bool.and_eq_true, decide_eq_true_eq, tree_iff]
  constructor
  · rintro ⟨T, h1, h2⟩
    exact ⟨v.toNat, by omega, T, by omega, by omega⟩
  · rintro ⟨w, rfl, T, h1, h2⟩
    exact ⟨T, by omega, by omega⟩

theorem wordsL_asc (m : Nat) : (wordsL m).Pairwise (· < ·) := by
  unfold wordsL
  rw [List.pairwise_map]
  refine List.Pairwise.imp ?_ (List.Pairwise.filter _ List.pairwise_lt_range)
  intro a b hab
  omega

theorem count_tab : ((List.range 256).all fun m => impl_wordSet_count (m : Int) == some (((wordsL m).length : Nat) : Int)) = true := by decide +kernel
theorem count_eq {m : Nat} (h : m < 256) : impl_wordSet_count (m : Int) = some (((wordsL m).length : Nat) : Int) := by simpa using all_lt count_tab h

theorem wordsL_count (p : Nat → Bool) {n : Nat} (h : n ≤ 8) : (wordsL (maskN p n)).length = (List.range n).countP p := by
  rw [wordsL_mask p h, List.length_map, List.countP_eq_length_filter]

theorem before_tab : ((List.range 8).all fun i => impl_before ((i : Int) + 1) == some ((2 ^ i - 1 : Nat) : Int)) = true := by decide +kernel
theorem before_eq {w : Nat} (h1 : 1 ≤ w) (h2 : w ≤ 8) : impl_before (w : Int) = some ((2 ^ (w - 1) - 1 : Nat) : Int) := by
  have h := all_lt before_tab (i := w - 1) (by omega)
  rw [show ((w - 1 : Nat) : Int) + 1 = (w : Int) by omega] at h
  simpa using h

theorem iandnu {a b : Nat} (ha : a < 2 ^ 62) (hb : b < 2 ^ 62) : ∃ c : Nat, iandn .u64 (a : Int) (b : Int) = (c : Int) ∧ c ≤ a ∧ ∀ i, c.testBit i = (a.testBit i && !b.testBit i) := by
  have h : a &&& (2 ^ 64 - 1 - b) ≤ a := Nat.and_le_left
  refine ⟨a &&& (2 ^ 64 - 1 - b), ?_, h, fun i => ?_⟩
  · show IntKind.wrap .u64 ((BitVec.ofInt 64 (a : Int) &&& ~~~BitVec.ofInt 64 (b : Int)).toNat : Int) = _
    rw [BitVec.toNat_and, BitVec.toNat_not, ofInt_nat (by omega), ofInt_nat (by omega), wrapu64 (by omega) (by omega)]
  · rw [Nat.testBit_and]
    by_cases hi : i < 64
    · have e : 2 ^ 64 - 1 - b = 2 ^ 64 - (b + 1) := by omega
      rw [e, Nat.testBit_two_pow_sub_succ (by omega)]
      simp [hi]
    · have : a.testBit i = false := Nat.testBit_lt_two_pow (Nat.lt_of_lt_of_le ha (Nat.pow_le_pow_right (by omega) (by omega)))
      rw [this]; simp

def leftB (h : List Int) (v : Int) (w i : Nat) : Bool := headB h v i && decide (i < w - 1)
def rightB (h : List Int) (v : Int) (w i : Nat) : Bool := headB h v i && !decide (i < w - 1)
def leftN (h : List Int) (w : Nat) : Nat := (List.range h.length).countP (leftB h (w : Int) w)
def rightN (h : List Int) (w : Nat) : Nat := (List.range h.length).countP (rightB h (w : Int) w)

theorem sides_sum (h : List Int) (w : Nat) : leftN h w + rightN h w = (List.range h.length).countP (headB h (w : Int)) := by
  unfold leftN rightN
  generalize List.range h.length = l
  induction l with
  | nil => rfl
  | cons a r ih =>
    rw [List.countP_cons, List.countP_cons, List.countP_cons, ← ih]
    unfold leftB rightB
    cases headB h (w : Int) a <;> cases decide (a < w - 1) <;> simp <;> omega

theorem Tree.headB_iff {h : List Int} (T : Tree h) {w i : Nat} (hi : i < h.length) : headB h (w : Int) i = true ↔ hd h (i + 1) = w := by
  have hg := T.get (w := i + 1) (by omega) (by omega)
  rw [Nat.add_sub_cancel] at hg
  simp only [headB, List.getD_eq_getElem?_getD, hg, Option.getD_some, beq_iff_eq]
  omega

/-- No word is its own head. -/
theorem Tree.hd_ne {h : List Int} (T : Tree h) {w : Nat} (h1 : 1 ≤ w) (h2 : w ≤ h.length) : hd h w ≠ w := by
  intro e
  have := T.dep_step h1 h2 (by omega)
  rw [e] at this
  omega

def sidesI (h : List Int) (v : Int) : Int × Int × Bool := if wordB h v then ((leftN h v.toNat : Int), (rightN h v.toNat : Int), true) else (-1, -1, false)

theorem beside_eq {h : List Int} (T : Tree h) {w : Nat} (h1 : 1 ≤ w) (h2 : w ≤ h.length) :
    impl_dependentsBeside h (w : Int) = some (((maskN (leftB h (w : Int) w) h.length : Nat) : Int), ((maskN (rightB h (w : Int) w) h.length : Nat) : Int)) := by
  have hle := T.le
  have hp := pow_lt256 (show w ≤ 8 by omega) h1
  have l0 : maskN (headB h (w : Int)) h.length < 256 := lt256 hle (maskN_lt _ _)
  obtain ⟨c, hc, hc1, hc2⟩ := iandnu (a := maskN (headB h (w : Int)) h.length) (b := 2 ^ (w - 1) - 1) (by omega) (by omega)
  have e : impl_dependentsBeside h (w : Int) = impl_dependentsBeside_n1 h (w : Int) := by unfold impl_dependentsBeside; rfl
  rw [e]
  unfold impl_dependentsBeside_n1
  simp only [Option.bind_some, dependents_eq h _ hle, before_eq h1 (show w ≤ 8 by omega), hc]
  rw [iandu (by omega) (by omega)]
  have e1 : maskN (headB h (w : Int)) h.length &&& (2 ^ (w - 1) - 1) = maskN (leftB h (w : Int) w) h.length := by
    refine eq_maskN (Nat.lt_of_le_of_lt Nat.and_le_left (maskN_lt _ _)) fun i hi => ?_
    rw [Nat.testBit_and, maskN_bit, Nat.testBit_two_pow_sub_one]
    simp [hi, leftB]
  have e2 : c = maskN (rightB h (w : Int) w) h.length := by
    refine eq_maskN (Nat.lt_of_le_of_lt hc1 (maskN_lt _ _)) fun i hi => ?_
    rw [hc2, maskN_bit, Nat.testBit_two_pow_sub_one]
    simp [hi, rightB]
  rw [e1, e2]

theorem implSides_eq (h : List Int) (v : Int) : impl_SidesOf h v = some (sidesI h v) := by
  have e : impl_SidesOf h v = impl_SidesOf_n1 h v := by unfold impl_SidesOf; rfl
  rw [e]
  unfold impl_SidesOf_n1 sidesI
  rw [wordOk_eq]
  cases hw : wordB h v with
  | false => rfl
  | true =>
    obtain ⟨w, rfl, T, h1, h2⟩ := wordB_iff.1 hw
    have hle := T.le
    simp only [Option.bind_some, Bool.not_true, cond_false, beside_eq T h1 h2, if_true, Int.toNat_natCast]
    rw [count_eq (lt256 hle (maskN_lt _ _)), count_eq (lt256 hle (maskN_lt _ _)), wordsL_count _ hle, wordsL_count _ hle]
    rfl

theorem specSides_eq (h : List Int) (v : Int) : spec_SidesOf h v = some (sidesI h v) := by
  have e : spec_SidesOf h v = spec_SidesOf_n9 h v := by unfold spec_SidesOf; rfl
  rw [e]
  unfold spec_SidesOf_n9 spec_SidesOf_n1 spec_SidesOf_n8 spec_SidesOf_n6 spec_SidesOf_n2 spec_SidesOf_n5 spec_SidesOf_n4
  rw [specTree_eq, l1In_eq]
  cases hw : wordB h v with
  | false =>
    unfold sidesI
    rw [hw]
    unfold wordB at hw
    cases hT : treeB h with
    | false => rfl
    | true =>
      cases ha : (decide ((1 : Int) ≤ v) && decide (v ≤ ((h.length : Nat) : Int))) with
      | false => rfl
      | true => rw [hT, ha] at hw; cases hw
  | true =>
    obtain ⟨w, rfl, T, h1, h2⟩ := wordB_iff.1 hw
    have hle := T.le
    rw [(tree_iff h).2 T, show (decide ((1 : Int) ≤ (w : Int)) && decide ((w : Int) ≤ ((h.length : Nat) : Int))) = true by simp; omega]
    simp only [Option.bind_some, Bool.not_true, cond_false, Sum.elim_inl, sidesI, hw, if_true, Int.toNat_natCast]
    have hloop := nloop_to (body := fun (s : Int × Int × Int) => ((spec_SidesOf_n3 h w s.1 s.2.1 s.2.2).map (Sum.elim (fun (t : Int × Int × Int) => Sum.inl (t.1, t.2.1, t.2.2)) (fun (t : Int × Int) => Sum.inr t)) : Option ((Int × Int × Int) ⊕ ((Int × Int)))))
      (fun k => ((((List.range k).countP (leftB h (w : Int) w) : Nat) : Int), (((List.range k).countP (rightB h (w : Int) w) : Nat) : Int), (k : Int))) h.length ((leftN h w : Int), (rightN h w : Int))
      (by
        intro k hk
        have hg := T.get (w := k + 1) (by omega) (by omega)
        rw [Nat.add_sub_cancel, List.getElem?_eq_getElem hk] at hg
        have hg' : h[k] = ((hd h (k + 1) : Nat) : Int) := Option.some.inj hg
        have c1 : (List.range k).countP (leftB h (w : Int) w) ≤ k := by simpa using List.countP_le_length (p := leftB h (w : Int) w) (l := List.range k)
        have c2 : (List.range k).countP (rightB h (w : Int) w) ≤ k := by simpa using List.countP_le_length (p := rightB h (w : Int) w) (l := List.range k)
        have hne := T.hd_ne (w := k + 1) (by omega) (by omega)
        have hh := T.headB_iff (w := w) hk
        simp only [spec_SidesOf_n3]
        rw [show decide ((k : Int) < ((h.length : Nat) : Int)) = true from decide_eq_true (by omega), idx_lt hk, hg', wrap64 (x := (k : Int) + 1) (by omega) (by omega)]
        simp only [cond_true, Option.bind_some]
        rw [List.range_succ, List.countP_append, List.countP_append, List.countP_cons, List.countP_cons, List.countP_nil, List.countP_nil]
        rw [wrap64 (by omega) (by omega), wrap64 (by omega) (by omega)]
        by_cases e : hd h (k + 1) = w
        · have hb := hh.2 e
          rw [show (((hd h (k + 1) : Nat) : Int) == (w : Int)) = true by rw [beq_iff_eq]; omega]
          simp only [cond_true]
          by_cases hl : k < w - 1
          · rw [show decide ((k : Int) + 1 < (w : Int)) = true from decide_eq_true (by omega), show decide ((k : Int) + 1 > (w : Int)) = false from decide_eq_false (by omega)]
            have x1 : leftB h (w : Int) w k = true := by simp [leftB, hb, hl]
            have x2 : rightB h (w : Int) w k = false := by simp [rightB, hb, hl]
            rw [x1, x2]
            simp
          · rw [show decide ((k : Int) + 1 < (w : Int)) = false from decide_eq_false (by omega), show decide ((k : Int) + 1 > (w : Int)) = true from decide_eq_true (by omega)]
            have x1 : leftB h (w : Int) w k = false := by simp [leftB, hl]
            have x2 : rightB h (w : Int) w k = true := by simp [rightB, hb, hl]
            rw [x1, x2]
            simp
        · have hb : headB h (w : Int) k = false := by
            cases hx : headB h (w : Int) k with
            | false => rfl
            | true => exact absurd (hh.1 hx) e
          rw [show (((hd h (k + 1) : Nat) : Int) == (w : Int)) = false by rw [beq_eq_false_iff_ne]; omega]
          have x1 : leftB h (w : Int) w k = false := by simp [leftB, hb]
          have x2 : rightB h (w : Int) w k = false := by simp [rightB, hb]
          rw [x1, x2]
          simp)
      (by
        simp only [spec_SidesOf_n3]
        rw [show decide (((h.length : Nat) : Int) < ((h.length : Nat) : Int)) = false from decide_eq_false (by omega)]
        rfl)
    have hl := hloop LL (by simp only [LL]; omega)
    simp only [List.range_zero, List.countP_nil] at hl
    rw [show ((0 : Int), (0 : Int), (0 : Int)) = (((0 : Nat) : Int), ((0 : Nat) : Int), ((0 : Nat) : Int)) from rfl, hl]
    rfl

/-- All rows of truth values of a length. -/
def allB : Nat → List (List Bool)
  | 0 => [[]]
  | n + 1 => (allB n).flatMap fun l => [true :: l, false :: l]

theorem mem_allB : ∀ (l : List Bool), l ∈ allB l.length
  | [] => by simp [allB]
  | b :: l => by
    simp only [List.length_cons, allB, List.mem_flatMap]
    refine ⟨l, mem_allB l, ?_⟩
    cases b <;> simp

/-- The places of what is true, the first k looked at; counted from 1 on. -/
def depsK (bl : List Bool) (k : Nat) : List Int := ((List.range k).filter fun i => bl.getD i false).map fun i => ((i + 1 : Nat) : Int)
def rowB (bl : List Bool) : List Int := bl.map fun b => if b then 1 else 0

theorem depsK_succ (bl : List Bool) (k : Nat) : depsK bl (k + 1) = if bl.getD k false then depsK bl k ++ [((k + 1 : Nat) : Int)] else depsK bl k := by
  unfold depsK
  have hf : List.filter (fun i => bl.getD i false) [k] = if bl.getD k false then [k] else [] := by simp only [List.filter_cons, List.filter_nil]
  rw [List.range_succ, List.filter_append, hf]
  split
  · simp only [List.map_append, List.map_cons, List.map_nil]
  · rw [List.append_nil]

def depsB (bl : List Bool) : Bool := ((impl_dependents (rowB bl) 1).bind impl_wordSet_list) == some (depsK bl bl.length)

theorem deps8 : ((List.range 9).all fun n => (allB n).all depsB) = true := by decide +kernel

theorem deps_row (bl : List Bool) (h : bl.length ≤ 8) : ((impl_dependents (rowB bl) 1).bind impl_wordSet_list) = some (depsK bl bl.length) := by
  have h1 := deps8
  rw [List.all_eq_true] at h1
  have h2 := h1 bl.length (List.mem_range.2 (by omega))
  rw [List.all_eq_true] at h2
  simpa [depsB] using h2 bl (mem_allB bl)

theorem idx_map {α β : Type} (f : α → β) (xs : List α) (i : Int) : idx (xs.map f) i = (idx xs i).map f := by
  unfold idx
  split
  · simp
  · rfl

/-- Who depends on a word hangs on nothing but which heads name it. -/
theorem dependents_row (h : List Int) (v : Int) : impl_dependents h v = impl_dependents (rowB (h.map (· == v))) 1 := by
  have e : ∀ (g : List Int) (u : Int), impl_dependents g u = impl_dependents_n9 g u := fun g u => by unfold impl_dependents; rfl
  rw [e, e]
  unfold impl_dependents_n9 impl_dependents_n8 impl_dependents_n6 impl_dependents_n2 impl_dependents_n5 impl_dependents_n4
  have hlen : (rowB (h.map (· == v))).length = h.length := by simp [rowB]
  have hb : ∀ (m n i : Int), impl_dependents_n3 (rowB (h.map (· == v))) 1 m n i = impl_dependents_n3 h v m n i := fun m n i => by
    unfold impl_dependents_n3 rowB
    rw [List.map_map, idx_map]
    cases idx h i with
    | none => rfl
    | some x =>
      have hx : ((if (x == v) = true then (1 : Int) else 0) == 1) = (x == v) := by cases (x == v) <;> rfl
      simp only [Option.map_some, Option.bind_some, Function.comp, hx]
  simp only [hlen, hb]

def depsI (h : List Int) (v : Int) : List Int := if treeB h then depsK (h.map (· == v)) h.length else []

theorem depsK_none {h : List Int} {v : Int} (hv : v ∉ h) : ∀ k, depsK (h.map (· == v)) k = []
  | 0 => rfl
  | k + 1 => by
    rw [depsK_succ, depsK_none hv k, if_neg]
    rw [List.getD_eq_getElem?_getD, List.getElem?_map]
    cases hk : h[k]? with
    | none => simp
    | some x =>
      have : x ∈ h := List.mem_of_getElem? hk
      have hne : x ≠ v := fun e => hv (e ▸ this)
      simpa using hne

theorem implDeps_eq (h : List Int) (v : Int) : impl_DependsOf h v = some (depsI h v) := by
  have e : impl_DependsOf h v = impl_DependsOf_n1 h v := by unfold impl_DependsOf; rfl
  rw [e]
  unfold impl_DependsOf_n1 depsI
  rw [implTree_eq]
  cases hT : treeB h with
  | false => rfl
  | true =>
    have T := (tree_iff h).1 hT
    simp only [Option.bind_some, Bool.not_true, cond_false, if_true]
    have out : (v < 0 ∨ v > h.length) → v ∉ h := fun hv hm => by
      obtain ⟨k, hk, e⟩ := List.getElem_of_mem hm
      have := inRange_get T.rng hk
      omega
    by_cases h1 : v < 0
    · rw [decide_eq_true h1, depsK_none (out (.inl h1))]; rfl
    · by_cases h2 : v > ((h.length : Nat) : Int)
      · rw [decide_eq_false h1, decide_eq_true h2, depsK_none (out (.inr h2))]; rfl
      · rw [decide_eq_false h1, decide_eq_false h2]
        have hr := deps_row (h.map (· == v)) (by have := T.le; simpa using this)
        rw [← dependents_row, List.length_map] at hr
        simp only [cond_false]
        cases hd : impl_dependents h v with
        | none => rw [hd] at hr; cases hr
        | some m =>
          rw [hd] at hr
          simp only [Option.bind_some] at hr
          simp only [Option.bind_some, hr]

/-- Who depends on a word, as the program answers. -/
def deps2I (h : List Int) (v : Int) : List Int := if treeB h && (decide (0 ≤ v) && decide (v ≤ (h.length : Nat))) then wordsL (maskN (headB h v) h.length) else []

theorem implDeps2_eq (h : List Int) (v : Int) : impl_DependsOf h v = some (deps2I h v) := by
  have e : impl_DependsOf h v = impl_DependsOf_n1 h v := by unfold impl_DependsOf; rfl
  rw [e]
  unfold impl_DependsOf_n1 deps2I
  rw [implTree_eq]
  cases hT : treeB h with
  | false => rfl
  | true =>
    have T := (tree_iff h).1 hT
    have hle := T.le
    simp only [Option.bind_some, Bool.not_true, cond_false, Bool.true_and]
    by_cases h1 : v < 0
    · rw [decide_eq_true h1, decide_eq_false (show ¬ 0 ≤ v by omega)]; rfl
    · by_cases h2 : v > ((h.length : Nat) : Int)
      · rw [decide_eq_false h1, decide_eq_true h2, decide_eq_false (show ¬ v ≤ ((h.length : Nat) : Int) by omega), Bool.and_false]; rfl
      · rw [decide_eq_false h1, decide_eq_false h2, decide_eq_true (show 0 ≤ v by omega), decide_eq_true (show v ≤ ((h.length : Nat) : Int) by omega), dependents_eq h v hle]
        simp only [cond_false, Option.bind_some, list_eq (lt256 hle (maskN_lt _ _)), Bool.and_self, if_true]

theorem deps_same (h : List Int) (v : Int) : depsI h v = deps2I h v := by
  have h1 := implDeps_eq h v
  rw [implDeps2_eq] at h1
  exact (Option.some.inj h1).symm

theorem deps_kids {h : List Int} (T : Tree h) {w : Nat} (h2 : w ≤ h.length) : depsI h (w : Int) = kidsL h w := by
  rw [deps_same, deps2I, (tree_iff h).2 T, decide_eq_true (show (0 : Int) ≤ (w : Int) by omega), decide_eq_true (show (w : Int) ≤ ((h.length : Nat) : Int) by omega)]
  rfl

theorem kids_asc (h : List Int) (w : Nat) : (kidsL h w).Pairwise (· < ·) := wordsL_asc _

theorem kids_count {h : List Int} (T : Tree h) (w : Nat) : (kidsL h w).length = (List.range h.length).countP (headB h (w : Int)) := by
  unfold kidsL
  rw [wordsL_count _ T.le]

/-- On 0 just the root depends. -/
theorem kids_zero {h : List Int} (T : Tree h) : kidsL h 0 = [(top h : Int)] := by
  have hm : ∀ x, x ∈ kidsL h 0 ↔ x = (top h : Int) := fun x => by
    rw [mem_kids T]
    constructor
    · rintro ⟨c, c1, c2, c3, rfl⟩
      rw [(T.hd_zero c1 c2).1 c3]
    · rintro rfl
      exact ⟨top h, top_pos h, T.top_le, (T.hd_zero (top_pos h) T.top_le).2 rfl, rfl⟩
  have ha := kids_asc h 0
  cases hk : kidsL h 0 with
  | nil =>
    have := (hm (top h : Int)).2 rfl
    rw [hk] at this
    cases this
  | cons a r =>
    rw [hk] at hm ha
    have ea := (hm a).1 List.mem_cons_self
    cases r with
    | nil => rw [ea]
    | cons b r =>
      have eb := (hm b).1 (List.mem_cons_of_mem _ List.mem_cons_self)
      have := (List.pairwise_cons.1 ha).1 b List.mem_cons_self
      omega

def sumN (f : Nat → Nat) : Nat → Nat
  | 0 => 0
  | n + 1 => sumN f n + f n

theorem sumN_add (f g : Nat → Nat) : ∀ n, sumN (fun k => f k + g k) n = sumN f n + sumN g n
  | 0 => rfl
  | n + 1 => by simp only [sumN]; rw [sumN_add f g n]; omega

theorem sumN_congr {f g : Nat → Nat} : ∀ {n : Nat}, (∀ k, k < n → f k = g k) → sumN f n = sumN g n
  | 0, _ => rfl
  | n + 1, h => by simp only [sumN]; rw [sumN_congr (fun k hk => h k (by omega)), h n (by omega)]

theorem sumN_zero : ∀ n, sumN (fun _ => 0) n = 0
  | 0 => rfl
  | n + 1 => by simp only [sumN]; rw [sumN_zero n]

theorem sumN_one (g n : Nat) : sumN (fun k => if g = k + 1 then 1 else 0) n = if 1 ≤ g ∧ g ≤ n then 1 else 0 := by
  induction n with
  | zero => simp only [sumN]; rw [if_neg (by omega)]
  | succ n ih =>
    simp only [sumN]
    rw [ih]
    by_cases e : g = n + 1
    · rw [if_neg (by omega), if_pos e, if_pos (by omega)]
    · rw [if_neg e]
      by_cases e2 : 1 ≤ g ∧ g ≤ n
      · rw [if_pos e2, if_pos (by omega)]
      · rw [if_neg e2, if_neg (by omega)]

/-- Each word but the root depends on just one word. -/
theorem heads_sum {h : List Int} (T : Tree h) : sumN (fun k => (List.range h.length).countP (headB h ((k + 1 : Nat) : Int))) h.length = h.length - 1 := by
  have key : ∀ l : List Nat, (∀ i ∈ l, i < h.length) → sumN (fun k => l.countP (headB h ((k + 1 : Nat) : Int))) h.length = l.countP (fun i => !(hd h (i + 1) == 0)) := by
    intro l
    induction l with
    | nil => intro _; simp only [List.countP_nil]; exact sumN_zero _
    | cons a r ih =>
      intro hl
      simp only [List.countP_cons]
      rw [sumN_add, ih (fun i hi => hl i (List.mem_cons_of_mem _ hi))]
      congr 1
      have ha := hl a List.mem_cons_self
      have hle := T.hd_le (w := a + 1) (by omega) (by omega)
      have e : sumN (fun k => if headB h ((k + 1 : Nat) : Int) a = true then 1 else 0) h.length = sumN (fun k => if hd h (a + 1) = k + 1 then 1 else 0) h.length := by
        apply sumN_congr
        intro k hk
        have := T.headB_iff (w := k + 1) ha
        by_cases e : hd h (a + 1) = k + 1
        · rw [if_pos e, if_pos (this.2 e)]
        · rw [if_neg e, if_neg (fun x => e (this.1 x))]
      rw [e, sumN_one]
      by_cases e0 : hd h (a + 1) = 0
      · rw [if_neg (by omega)]; simp [e0]
      · rw [if_pos (by omega)]; simp [e0]
  rw [key _ (fun i hi => List.mem_range.1 hi)]
  have h1 : (List.range h.length).countP (fun i => !(hd h (i + 1) == 0)) + (List.range h.length).countP (fun i => hd h (i + 1) == 0) = h.length := by
    have hall : ∀ l : List Nat, l.countP (fun i => !(hd h (i + 1) == 0)) + l.countP (fun i => hd h (i + 1) == 0) = l.length := by
      intro l
      induction l with
      | nil => rfl
      | cons a r ih =>
        rw [List.countP_cons, List.countP_cons, List.length_cons, ← ih]
        cases (hd h (a + 1) == 0) <;> simp <;> omega
    rw [hall, List.length_range]
  have h2 : (List.range h.length).countP (fun i => hd h (i + 1) == 0) = 1 := by
    have := kids_count T 0
    rw [kids_zero T] at this
    simp only [List.length_cons, List.length_nil] at this
    refine Eq.trans ?_ this.symm
    apply List.countP_congr
    intro i hi
    rw [List.mem_range] at hi
    rw [beq_iff_eq]
    exact (T.headB_iff (w := 0) hi).symm
  omega

theorem sides_all {h : List Int} (T : Tree h) : sumN (fun k => leftN h (k + 1) + rightN h (k + 1)) h.length = h.length - 1 := by
  rw [← heads_sum T]
  exact sumN_congr fun k _ => sides_sum h (k + 1)

theorem nloop_ex {σ ω : Type} {body : σ → Option (σ ⊕ ω)} (I : σ → Prop) (μ : σ → Nat) (Q : ω → Prop)
    (h : ∀ s, I s → (∃ s', body s = some (.inl s') ∧ I s' ∧ μ s' < μ s) ∨ (∃ o, body s = some (.inr o) ∧ Q o)) : ∀ (n : Nat) (s : σ), I s → μ s < n → ∃ o, nloop body n s = some o ∧ Q o
  | 0, s, _, hn => by omega
  | n + 1, s, hi, hn => by
    rcases h s hi with ⟨s', hb, hi', hm⟩ | ⟨o, hb, hq⟩
    · simp only [nloop, hb, Option.bind_some]
      exact nloop_ex I μ Q h n s' hi' (by omega)
    · simp only [nloop, hb, Option.bind_some]
      exact ⟨o, rfl, hq⟩

/-- Bytes. -/
structure Bytes (b : List Int) : Prop where
  rng : ∀ x ∈ b, 0 ≤ x ∧ x ≤ 255
  len : b.length ≤ 2000

theorem rem_ok {a b : Int} (h : 1 ≤ b) (ha : 0 ≤ a) : ∃ v, rem a b = some v ∧ 0 ≤ v ∧ v < b := by
  refine ⟨a.tmod b, by simp [rem]; omega, ?_, ?_⟩
  · exact Int.tmod_nonneg _ ha
  · exact Int.tmod_lt_of_pos _ (by omega)

theorem idx_ok {b : List Int} {i : Int} (h0 : 0 ≤ i) (h1 : i < b.length) : ∃ v, idx b i = some v ∧ v ∈ b := by
  have : i.toNat < b.length := by omega
  exact ⟨b[i.toNat], by simp [idx, h0, this], List.getElem_mem _⟩

theorem quo_ok {a b : Int} (h : 1 ≤ b) (ha : 0 ≤ a) (hm : a ≤ 9223372036854775807) : ∃ v, quo .i64 a b = some v ∧ 0 ≤ v ∧ v ≤ a := by
  have h1 : 0 ≤ a.tdiv b := Int.tdiv_nonneg ha (by omega)
  have h2 : a.tdiv b ≤ a := Int.tdiv_le_self _ ha
  refine ⟨a.tdiv b, ?_, h1, h2⟩
  simp only [quo]
  rw [if_neg (by omega), wrap64 (by omega) (by omega)]

theorem ixor_ok {a b : Int} (ha : 0 ≤ a) (ha2 : a < 9223372036854775808) (hb : 0 ≤ b) (hb2 : b < 9223372036854775808) : 0 ≤ ixor .i64 a b := by
  have e : (BitVec.ofInt 64 a ^^^ BitVec.ofInt 64 b).toNat < 9223372036854775808 := by
    rw [BitVec.toNat_xor]
    have h1 : (BitVec.ofInt 64 a).toNat < 2 ^ 63 := by
      rw [BitVec.toNat_ofInt]; omega
    have h2 : (BitVec.ofInt 64 b).toNat < 2 ^ 63 := by
      rw [BitVec.toNat_ofInt]; omega
    exact Nat.xor_lt_two_pow h1 h2
  unfold ixor
  have : IntKind.bits .i64 = 64 := rfl
  show 0 ≤ IntKind.wrap .i64 ((BitVec.ofInt 64 a ^^^ BitVec.ofInt 64 b).toNat : Int)
  rw [wrap64 (by omega) (by omega)]
  omega

theorem mixw {x1 x2 p q : Int} (h1 : 0 ≤ x1 ∧ x1 ≤ 255) (h2 : 0 ≤ x2 ∧ x2 ≤ 255) (hp : 0 ≤ p) (hp2 : p ≤ 1000000000) (qa : 0 ≤ q) (qb : q ≤ p) :
    IntKind.wrap .i64 (IntKind.wrap .i64 (IntKind.wrap .i64 (IntKind.wrap .i64 (IntKind.wrap .i64 x1 * 131) + IntKind.wrap .i64 (IntKind.wrap .i64 x2 * 1117)) + IntKind.wrap .i64 (p * 29)) + IntKind.wrap .i64 (q * 53)) = x1 * 131 + x2 * 1117 + p * 29 + q * 53 := by
  rw [wrap64 (x := x1) (by omega) (by omega), wrap64 (x := x1 * 131) (by omega) (by omega), wrap64 (x := x2) (by omega) (by omega), wrap64 (x := x2 * 1117) (by omega) (by omega),
      wrap64 (x := x1 * 131 + x2 * 1117) (by omega) (by omega), wrap64 (x := p * 29) (by omega) (by omega), wrap64 (x := x1 * 131 + x2 * 1117 + p * 29) (by omega) (by omega), wrap64 (x := q * 53) (by omega) (by omega),
      wrap64 (x := x1 * 131 + x2 * 1117 + p * 29 + q * 53) (by omega) (by omega)]
theorem mixb {x1 x2 p q : Int} (h1 : 0 ≤ x1 ∧ x1 ≤ 255) (h2 : 0 ≤ x2 ∧ x2 ≤ 255) (hp : 0 ≤ p) (hp2 : p ≤ 1000000000) (qa : 0 ≤ q) (qb : q ≤ p) :
    0 ≤ x1 * 131 + x2 * 1117 + p * 29 + q * 53 ∧ x1 * 131 + x2 * 1117 + p * 29 + q * 53 ≤ 1000000000000 := by omega

theorem bindO {α β : Type} {o : Option α} {a : α} {f : α → Option β} {K : β → Prop} (h : o = some a) (hk : ∃ r, f a = some r ∧ K r) : ∃ r, o.bind f = some r ∧ K r := by
  subst h; exact hk

theorem pick_far {b : List Int} (hb : Bytes b) {n : Int} (hn : 1 ≤ n) {p : Int} (hp : 0 ≤ p) (hp2 : p ≤ 1000000000) (h3 : ((b.length : Nat) : Int) ≤ p) (hl : 1 ≤ b.length) (K : Int × Int → Prop) (hK : ∀ v, 0 ≤ v → v < n → K (v, p + 1)) :
    ∃ r, ((rem p ((b.length : Nat) : Int)).bind fun (v171 : Int) => (idx b v171).bind fun (v172 : Int) => (rem (IntKind.wrap .i64 ((IntKind.wrap .i64 (p * 7)) + 3)) ((b.length : Nat) : Int)).bind fun (v178 : Int) => (idx b v178).bind fun (v179 : Int) => (quo .i64 p ((b.length : Nat) : Int)).bind fun (v186 : Int) => (quo .i64 (IntKind.wrap .i64 ((IntKind.wrap .i64 ((IntKind.wrap .i64 ((IntKind.wrap .i64 ((IntKind.wrap .i64 v172) * 131)) + (IntKind.wrap .i64 ((IntKind.wrap .i64 v179) * 1117)))) + (IntKind.wrap .i64 (p * 29)))) + (IntKind.wrap .i64 (v186 * 53)))) 64).bind fun (v189 : Int) =>
      (rem (ixor .i64 (IntKind.wrap .i64 ((IntKind.wrap .i64 ((IntKind.wrap .i64 ((IntKind.wrap .i64 ((IntKind.wrap .i64 v172) * 131)) + (IntKind.wrap .i64 ((IntKind.wrap .i64 v179) * 1117)))) + (IntKind.wrap .i64 (p * 29)))) + (IntKind.wrap .i64 (v186 * 53)))) v189) n).bind fun (v191 : Int) => some (v191, p + 1)) = some r ∧ K r := by
  obtain ⟨i1, e1, i1a, i1b⟩ := rem_ok (a := p) (b := b.length) (by omega) hp
  refine bindO e1 ?_
  obtain ⟨x1, ex1, hm1⟩ := idx_ok i1a i1b
  have hr1 := hb.rng x1 hm1
  refine bindO ex1 ?_
  obtain ⟨i2, e3, i2a, i2b⟩ := rem_ok (a := p * 7 + 3) (b := b.length) (by omega) (by omega)
  have e3' : rem (IntKind.wrap .i64 ((IntKind.wrap .i64 (p * 7)) + 3)) ((b.length : Nat) : Int) = some i2 := by
    rw [wrap64 (x := p * 7) (by omega) (by omega), wrap64 (x := p * 7 + 3) (by omega) (by omega)]; exact e3
  refine bindO e3' ?_
  obtain ⟨x2, ex2, hm2⟩ := idx_ok i2a i2b
  have hr2 := hb.rng x2 hm2
  refine bindO ex2 ?_
  obtain ⟨q, eq, qa, qb⟩ := quo_ok (a := p) (b := b.length) (by omega) hp (by omega)
  refine bindO eq ?_
  rw [mixw hr1 hr2 hp hp2 qa qb]
  obtain ⟨hX0, hX1⟩ := mixb hr1 hr2 hp hp2 qa qb
  generalize x1 * 131 + x2 * 1117 + p * 29 + q * 53 = X at hX0 hX1 ⊢
  obtain ⟨y, ey, ya, yb⟩ := quo_ok (a := X) (b := 64) (by omega) hX0 (by omega)
  refine bindO ey ?_
  obtain ⟨v, hv, h4, h5⟩ := rem_ok (b := n) (by omega) (ixor_ok hX0 (by omega) ya (by omega))
  refine bindO hv ?_
  exact ⟨_, rfl, hK v h4 h5⟩

theorem pick_ok {b : List Int} (hb : Bytes b) (n : Int) (hn : n ≤ 1000000) {p : Int} (hp : 0 ≤ p) (hp2 : p ≤ 1000000000) :
    ∃ v, spec_l20Rd_pick n b p = some (v, p + 1) ∧ 0 ≤ v ∧ (1 ≤ n → v < n) ∧ (n < 1 → v = 0) := by
  suffices H : ∃ r, spec_l20Rd_pick n b p = some r ∧ (r.2 = p + 1 ∧ 0 ≤ r.1 ∧ (1 ≤ n → r.1 < n) ∧ (n < 1 → r.1 = 0)) by
    obtain ⟨⟨v, q⟩, h1, h2, h3⟩ := H
    simp only at h2
    subst h2
    exact ⟨v, h1, h3⟩
  unfold spec_l20Rd_pick spec_l20Rd_pick_n1
  have hlen := hb.len
  rw [wrap64 (x := p + 1) (by omega) (by omega), show p + 1 - 1 = p by omega, wrap64 (x := p) (by omega) (by omega)]
  by_cases h1 : n < 1
  · rw [decide_eq_true h1]
    exact ⟨_, rfl, rfl, Int.le_refl _, fun h => by omega, fun _ => rfl⟩
  rw [decide_eq_false h1]
  by_cases h2 : b.length = 0
  · have e0 : ((((b.length : Nat) : Int)) == 0) = true := by simp; exact List.eq_nil_of_length_eq_zero h2
    rw [e0]
    exact ⟨_, rfl, rfl, Int.le_refl _, fun h => by show (0 : Int) < n; omega, fun _ => rfl⟩
  have e2 : ((((b.length : Nat) : Int)) == 0) = false := by simp; intro e; subst e; simp at h2
  rw [e2]
  by_cases h3 : p < ((b.length : Nat) : Int)
  · rw [decide_eq_true h3]
    obtain ⟨x, hx, hm⟩ := idx_ok hp h3
    have hr := hb.rng x hm
    simp only [cond_true, cond_false]
    refine bindO hx ?_
    obtain ⟨v, hv, h4, h5⟩ := rem_ok (b := n) (by omega) hr.1
    refine bindO (a := v) (by rw [wrap64 (x := x) (by omega) (by omega)]; exact hv) ?_
    exact ⟨_, rfl, rfl, h4, fun _ => h5, fun h => by omega⟩
  · rw [decide_eq_false h3]
    simp only [cond_false]
    exact pick_far hb (by omega) hp hp2 (by omega) (by omega) _ (fun v h4 h5 => ⟨rfl, h4, fun _ => h5, fun h => by omega⟩)

theorem odd_ok {b : List Int} (hb : Bytes b) (n : Int) (hn : n ≤ 1000000) {p : Int} (hp : 0 ≤ p) (hp2 : p ≤ 1000000000) :
    ∃ (v : Bool) (q : Int), spec_l20Rd_odd n b p = some (v, q) ∧ p ≤ q ∧ q ≤ p + 1 := by
  unfold spec_l20Rd_odd spec_l20Rd_odd_n1
  by_cases h : n > 0
  · obtain ⟨v, hv, _⟩ := pick_ok hb n hn hp hp2
    rw [decide_eq_true h, hv]
    exact ⟨_, _, rfl, by show p ≤ p + 1; omega, by show p + 1 ≤ p + 1; omega⟩
  · rw [decide_eq_false h]
    exact ⟨_, _, rfl, by omega, by omega⟩

theorem open_ok (x : List Int) (w : ∀ n ∈ x, (Lit.int .u8 n).wf = true) (l : x.length ≤ maxLen) : ∃ b, spec_l20Open x = some b ∧ Bytes b := by
  have hr : ∀ n ∈ x, 0 ≤ n ∧ n ≤ 255 := fun n hn => by
    have := w n hn
    simp only [Lit.wf, Bool.and_eq_true, decide_eq_true_eq] at this
    have e1 : IntKind.u8.min = 0 := rfl
    have e2 : IntKind.u8.max = 255 := rfl
    omega
  unfold spec_l20Open spec_l20Open_n1
  by_cases h : ((x.length : Nat) : Int) > 2000
  · rw [decide_eq_true h]
    have : inc 2000 x.length = some 2000 := by simp only [inc]; rw [if_pos (by omega)]; rfl
    rw [this]
    exact ⟨_, rfl, ⟨fun n hn => hr n (List.mem_of_mem_take (List.mem_of_mem_drop hn)), by simp; omega⟩⟩
  · rw [decide_eq_false h]
    exact ⟨x, rfl, ⟨hr, by omega⟩⟩

theorem inc_ok {i : Int} {n : Nat} (h0 : 0 ≤ i) (h1 : i ≤ n) : inc i n = some i.toNat := by simp only [inc]; rw [if_pos ⟨h0, h1⟩]
theorem inb_ok {i : Int} {n : Nat} (h0 : 0 ≤ i) (h1 : i < n) : inb i n = some i.toNat := by simp only [inb]; rw [if_pos ⟨h0, h1⟩]

/-- A number put into a row. -/
theorem ins_step {o : List Int} {i : Nat} {x : Int} (hi : i ≤ o.length) (hl : o.length ≤ 1000) :
    (room ((List.length ([] : List Int)) + List.length ((o.drop 0).take (i - 0)))) = some () ∧ room ((List.length (([] : List Int) ++ ((o.drop 0).take (i - 0)))) + List.length ([x])) = some () ∧
    room ((List.length ((([] : List Int) ++ ((o.drop 0).take (i - 0))) ++ ([x]))) + List.length ((o.drop i).take ((List.length o) - i))) = some () ∧
    (((([] : List Int) ++ ((o.drop 0).take (i - 0))) ++ ([x])) ++ ((o.drop i).take ((List.length o) - i))) = o.take i ++ [x] ++ o.drop i := by
  refine ⟨by rw [room_le]; simp; omega, by rw [room_le]; simp; omega, by rw [room_le]; simp; omega, ?_⟩
  simp only [List.nil_append, List.drop_zero, Nat.sub_zero]
  rw [List.take_of_length_le (l := o.drop i) (by simp)]

theorem order_ok {b : List Int} (hb : Bytes b) (n : Nat) (hn : n ≤ 20) {p : Int} (hp : 0 ≤ p) (hp2 : p ≤ 999999000) :
    ∃ (q : Int) (o : List Int), spec_l20Order n b p = some (q, o) ∧ p ≤ q ∧ q ≤ p + 100 ∧ o.length = n ∧ ∀ x ∈ o, 1 ≤ x ∧ x ≤ (n : Int) := by
  unfold spec_l20Order spec_l20Order_n9 spec_l20Order_n1
  obtain ⟨keep, hk, _⟩ := pick_ok hb 2 (by omega) hp (by omega)
  rw [hk]
  simp only [Option.bind_some]
  unfold spec_l20Order_n8 spec_l20Order_n6 spec_l20Order_n2 spec_l20Order_n5 spec_l20Order_n4
  obtain ⟨⟨q, o⟩, h1, h2, h3, h4, h5⟩ := nloop_ex (body := fun (s : Int × Int × List Int) => ((spec_l20Order_n3 n keep s.1 b s.2.1 s.2.2).map (Sum.elim (fun (t : Int × Int × List Int) => Sum.inl (t.1, t.2.1, t.2.2)) (fun (t : Int × List Int) => Sum.inr t)) : Option ((Int × Int × List Int) ⊕ ((Int × List Int)))))
    (I := fun s => ∃ (k : Nat) (q : Int) (o : List Int), s = (((k + 1 : Nat) : Int), q, o) ∧ k ≤ n ∧ p ≤ q ∧ q ≤ p + 1 + 2 * k ∧ o.length = k ∧ ∀ x ∈ o, 1 ≤ x ∧ x ≤ (k : Int)) (μ := fun s => n + 1 - s.1.toNat)
    (Q := fun t => p ≤ t.1 ∧ t.1 ≤ p + 100 ∧ t.2.length = n ∧ ∀ x ∈ t.2, 1 ≤ x ∧ x ≤ (n : Int))
    (by
      rintro _ ⟨k, q, o, rfl, hk, hq1, hq2, ho, hx⟩
      simp only [spec_l20Order_n3]
      by_cases hlt : k < n
      · left
        rw [show decide (((k + 1 : Nat) : Int) ≤ (n : Int)) = true from decide_eq_true (by omega), wrap64 (x := ((k + 1 : Nat) : Int) + 1) (by omega) (by omega)]
        have fin : ∀ (i : Nat) (q' : Int), i ≤ o.length → p ≤ q' → q' ≤ q + 2 → (∃ k_1 q_1 o_1, ((((k + 1 : Nat) : Int) + 1, q', o.take i ++ [((k + 1 : Nat) : Int)] ++ o.drop i) : Int × Int × List Int) = (((k_1 + 1 : Nat) : Int), q_1, o_1) ∧ k_1 ≤ n ∧ p ≤ q_1 ∧ q_1 ≤ p + 1 + 2 * (k_1 : Int) ∧ o_1.length = k_1 ∧ ∀ x ∈ o_1, 1 ≤ x ∧ x ≤ (k_1 : Int)) ∧
            n + 1 - (((k + 1 : Nat) : Int) + 1).toNat < n + 1 - (((k + 1 : Nat) : Int)).toNat := fun i q' hi hq3 hq4 => by
          refine ⟨⟨k + 1, q', _, by push_cast; rfl, by omega, hq3, by push_cast; omega, by simp; omega, fun x hxm => ?_⟩, by omega⟩
          simp only [List.mem_append, List.mem_singleton] at hxm
          rcases hxm with (h | h) | h
          · have := hx x (List.mem_of_mem_take h); push_cast; omega
          · subst h; push_cast; omega
          · have := hx x (List.mem_of_mem_drop h); push_cast; omega
        have one : ∀ (v : Int), 0 ≤ v → v ≤ o.length → ∀ q' : Int, (inc v (List.length o)).bind (fun (v426 : Nat) => (room ((List.length ([] : List Int)) + List.length ((o.drop 0).take (v426 - 0)))).bind fun (v430 : Unit) => (room ((List.length (([] : List Int) ++ ((o.drop 0).take (v426 - 0)))) + List.length ([((k + 1 : Nat) : Int)]))).bind fun (v434 : Unit) => (inc v (List.length o)).bind fun (v437 : Nat) => (room ((List.length ((([] : List Int) ++ ((o.drop 0).take (v426 - 0))) ++ ([((k + 1 : Nat) : Int)]))) + List.length ((o.drop v437).take ((List.length o) - v437)))).bind fun (v441 : Unit) =>
            some (Sum.inl ((((k + 1 : Nat) : Int) + 1), q', (((([] : List Int) ++ ((o.drop 0).take (v426 - 0))) ++ ([((k + 1 : Nat) : Int)])) ++ ((o.drop v437).take ((List.length o) - v437)))))) = (some (Sum.inl ((((k + 1 : Nat) : Int) + 1), q', o.take v.toNat ++ [((k + 1 : Nat) : Int)] ++ o.drop v.toNat)) : Option ((Int × Int × List Int) ⊕ (Int × List Int))) := fun v hv0 hv1 q' => by
          obtain ⟨r1, r2, r3, r4⟩ := ins_step (o := o) (i := v.toNat) (x := ((k + 1 : Nat) : Int)) (by omega) (by omega)
          simp only [inc_ok hv0 hv1, Option.bind_some, r1, r2, r3, r4]
        obtain ⟨v1, hv1, a1, b1, _⟩ := pick_ok hb ((k + 1 : Nat) : Int) (by omega) (p := q) (by omega) (by omega)
        have b1' := b1 (by omega)
        obtain ⟨v3, hv3, a3, b3, _⟩ := pick_ok hb 3 (by omega) (p := q) (by omega) (by omega)
        obtain ⟨v2, hv2, a2, b2, _⟩ := pick_ok hb ((k + 1 : Nat) : Int) (by omega) (p := q + 1) (by omega) (by omega)
        have b2' := b2 (by omega)
        cases hkeep : (keep == 0) with
        | true =>
          simp only [cond_true, hv1, Option.bind_some]
          rw [one v1 a1 (by omega) (q + 1)]
          exact ⟨_, rfl, fin v1.toNat (q + 1) (by omega) (by omega) (by omega)⟩
        | false =>
          simp only [cond_true, cond_false, hv3, Option.bind_some]
          cases h3 : (v3 == 0) with
          | true =>
            simp only [cond_true, hv2, Option.bind_some]
            rw [one v2 a2 (by omega) (q + 1 + 1)]
            exact ⟨_, rfl, fin v2.toNat (q + 1 + 1) (by omega) (by omega) (by omega)⟩
          | false =>
            simp only [cond_false]
            rw [one ((o.length : Nat) : Int) (by omega) (by omega) (q + 1)]
            exact ⟨_, rfl, fin (((o.length : Nat) : Int)).toNat (q + 1) (by omega) (by omega) (by omega)⟩
      · right
        have e : k = n := by omega
        subst e
        rw [show decide (((k + 1 : Nat) : Int) ≤ (k : Int)) = false from decide_eq_false (by omega)]
        exact ⟨_, rfl, hq1, by show q ≤ p + 100; omega, ho, hx⟩) LL (1, p + 1, []) ⟨0, p + 1, [], rfl, by omega, by omega, by omega, rfl, by simp⟩ (by simp only [LL]; omega)
  rw [h1]
  exact ⟨q, o, rfl, h2, h3, h4, h5⟩

theorem set_ok {o hs : List Int} {m : Nat} (hm : m ≤ 1000000) (ho : o.length = m) (hx : ∀ x ∈ o, 1 ≤ x ∧ x ≤ (m : Int)) (hh : hs.length = m) {k at_ : Int} (hk0 : 0 ≤ k) (hk : k < m) (ha0 : 0 ≤ at_) (ha : at_ < m) {α : Type} (f : List Int → α) :
    ∃ l : List Int, l.length = m ∧ ((inb k (List.length o)).bind fun (v638 : Nat) => (o[v638]?).bind fun (v639 : Int) => (inb at_ (List.length o)).bind fun (v641 : Nat) => (o[v641]?).bind fun (v642 : Int) => (inb (IntKind.wrap .i64 (v639 - 1)) (List.length hs)).bind fun (v643 : Nat) => some (f (hs.set v643 v642))) = some (f l) := by
  have h1 : k.toNat < o.length := by omega
  have h2 : at_.toNat < o.length := by omega
  have hr := hx o[k.toNat] (List.getElem_mem h1)
  refine ⟨hs.set (o[k.toNat] - 1).toNat o[at_.toNat], by simpa using hh, ?_⟩
  rw [inb_ok hk0 (by omega), inb_ok ha0 (by omega)]
  simp only [Option.bind_some, List.getElem?_eq_getElem h1, List.getElem?_eq_getElem h2]
  rw [wrap64 (by omega) (by omega), inb_ok (by omega) (by omega)]
  rfl

theorem tree_ok {b : List Int} (hb : Bytes b) (n : Int) (hn : n ≤ 1000) {p : Int} (hp : 0 ≤ p) (hp2 : p ≤ 999990000) :
    ∃ (q : Int) (h : List Int), spec_l20Tree n b p = some (q, h) ∧ p ≤ q ∧ q ≤ p + 300 ∧ h.length ≤ 8 := by
  unfold spec_l20Tree spec_l20Tree_n9 spec_l20Tree_n1
  obtain ⟨v, hv, va, vb, _⟩ := pick_ok hb 7 (by omega) hp (by omega)
  have vb' := vb (by omega)
  obtain ⟨m, hm⟩ : ∃ m : Nat, 1 + v = (m : Int) := ⟨(1 + v).toNat, by omega⟩
  obtain ⟨q1, o, ho, q1a, q1b, hol, hox⟩ := order_ok hb m (by omega) (p := p + 1) (by omega) (by omega)
  obtain ⟨nr, hnr, nra, _⟩ := pick_ok hb 2 (by omega) (p := q1) (by omega) (by omega)
  simp only [hv, Option.bind_some]
  rw [wrap64 (x := 1 + v) (by omega) (by omega), hm]
  simp only [ho, mk_nat (show m ≤ 1099511627776 by omega), hnr, Option.bind_some]
  unfold spec_l20Tree_n8 spec_l20Tree_n6 spec_l20Tree_n2 spec_l20Tree_n5 spec_l20Tree_n4
  obtain ⟨⟨q2, hs⟩, h1, h2, h3, h4⟩ := nloop_ex (body := fun (s : Int × Int × List Int) => ((spec_l20Tree_n3 m nr s.1 b s.2.1 o s.2.2).map (Sum.elim (fun (t : Int × Int × List Int) => Sum.inl (t.1, t.2.1, t.2.2)) (fun (t : Int × List Int) => Sum.inr t)) : Option ((Int × Int × List Int) ⊕ ((Int × List Int)))))
    (I := fun s => ∃ (k : Nat) (q : Int) (hs : List Int), s = ((k : Int), q, hs) ∧ 1 ≤ k ∧ k ≤ m ∧ q1 ≤ q ∧ q ≤ q1 + 1 + 2 * k ∧ hs.length = m) (μ := fun s => m - s.1.toNat)
    (Q := fun t => q1 ≤ t.1 ∧ t.1 ≤ q1 + 20 ∧ t.2.length = m)
    (by
      rintro _ ⟨k, q, hs, rfl, hk1, hk, qa, qb, hhs⟩
      simp only [spec_l20Tree_n3]
      by_cases hlt : k < m
      · left
        rw [show decide ((k : Int) < (m : Int)) = true from decide_eq_true (by omega), wrap64 (x := (k : Int) + 1) (by omega) (by omega), wrap64 (x := (k : Int) - 1) (by omega) (by omega)]
        obtain ⟨a, ha, aa, ab, _⟩ := pick_ok hb (k : Int) (by omega) (p := q) (by omega) (by omega)
        have ab' := ab (by omega)
        obtain ⟨c, hc, _⟩ := pick_ok hb 2 (by omega) (p := q + 1) (by omega) (by omega)
        simp only [cond_true, ha, Option.bind_some]
        have hmu : m - (((k : Int) + 1)).toNat < m - ((k : Int)).toNat := by omega
        cases hnear : (nr == 1) with
        | true =>
          simp only [cond_true, hc, Option.bind_some]
          cases h5 : (c == 0) with
          | true =>
            obtain ⟨l, hl, e⟩ := set_ok (by omega) hol hox hhs (k := (k : Int)) (at_ := (k : Int) - 1) (by omega) (by omega) (by omega) (by omega) (fun l => (Sum.inl ((k : Int) + 1, q + 1 + 1, l) : (Int × Int × List Int) ⊕ (Int × List Int)))
            simp only [cond_true]
            rw [e]
            exact ⟨_, rfl, ⟨k + 1, q + 1 + 1, l, by push_cast; rfl, by omega, by omega, by omega, by push_cast; omega, hl⟩, hmu⟩
          | false =>
            obtain ⟨l, hl, e⟩ := set_ok (by omega) hol hox hhs (k := (k : Int)) (at_ := a) (by omega) (by omega) (by omega) (by omega) (fun l => (Sum.inl ((k : Int) + 1, q + 1 + 1, l) : (Int × Int × List Int) ⊕ (Int × List Int)))
            simp only [cond_false]
            rw [e]
            exact ⟨_, rfl, ⟨k + 1, q + 1 + 1, l, by push_cast; rfl, by omega, by omega, by omega, by push_cast; omega, hl⟩, hmu⟩
        | false =>
          obtain ⟨l, hl, e⟩ := set_ok (by omega) hol hox hhs (k := (k : Int)) (at_ := a) (by omega) (by omega) (by omega) (by omega) (fun l => (Sum.inl ((k : Int) + 1, q + 1, l) : (Int × Int × List Int) ⊕ (Int × List Int)))
          simp only [cond_false]
          rw [e]
          exact ⟨_, rfl, ⟨k + 1, q + 1, l, by push_cast; rfl, by omega, by omega, by omega, by push_cast; omega, hl⟩, hmu⟩
      · right
        have e : k = m := by omega
        subst e
        rw [show decide ((k : Int) < (k : Int)) = false from decide_eq_false (by omega)]
        exact ⟨_, rfl, qa, by show q ≤ q1 + 20; omega, hhs⟩) LL (1, q1 + 1, List.replicate m 0) ⟨1, q1 + 1, _, rfl, by omega, by omega, by omega, by omega, by simp⟩ (by simp only [LL]; omega)
  rw [h1]
  simp only at h2 h3 h4
  simp only [Option.bind_some, Option.map_some]
  unfold spec_l20Tree_n7
  obtain ⟨od, q3, ho3, q3a, q3b⟩ := odd_ok hb n (by omega) (p := q2) (by omega) (by omega)
  obtain ⟨c, hc, ca, cb, _⟩ := pick_ok hb 4 (by omega) (p := q3) (by omega) (by omega)
  obtain ⟨d, hd, da, db, _⟩ := pick_ok hb (m : Int) (by omega) (p := q3 + 1) (by omega) (by omega)
  have db' := db (by omega)
  obtain ⟨e, he, ea, eb, _⟩ := pick_ok hb 3 (by omega) (p := q3 + 1) (by omega) (by omega)
  have eb' := eb (by omega)
  simp only [ho3, Option.bind_some]
  cases od with
  | false => exact ⟨_, _, rfl, by omega, by omega, by omega⟩
  | true =>
    simp only [cond_true, hc, Option.bind_some]
    cases (c == 0) with
    | true => exact ⟨_, _, rfl, by omega, by omega, by simp⟩
    | false =>
      cases (c == 1) with
      | true => exact ⟨_, _, rfl, by omega, by omega, by simp⟩
      | false =>
        cases (c == 2) with
        | true =>
          simp only [cond_true, cond_false, hd, Option.bind_some, inb_ok da (show d < (hs.length : Nat) by omega)]
          rw [room_le (by simp; omega)]
          exact ⟨_, _, rfl, by omega, by omega, by simp; omega⟩
        | false =>
          simp only [cond_true, cond_false, he, Option.bind_some]
          have hin : inb e (List.length ([1, (IntKind.wrap .i64 ((m : Int) + 1)), (-1)])) = some e.toNat := inb_ok ea (by simp; omega)
          have hin0 : inb 0 (List.length hs) = some 0 := inb_ok (by omega) (by omega)
          have hlt : e.toNat < ([1, (IntKind.wrap .i64 ((m : Int) + 1)), (-1)] : List Int).length := by simp; omega
          rw [hin]
          simp only [Option.bind_some, List.getElem?_eq_getElem hlt, hin0]
          exact ⟨_, _, rfl, by omega, by omega, by simp; omega⟩

theorem word_ok {b : List Int} (hb : Bytes b) {p : Int} (hp : 0 ≤ p) (hp2 : p ≤ 999980000) :
    ∃ (v q : Int) (h : List Int), spec_l20Word b p = some (v, q, h) ∧ p ≤ q ∧ q ≤ p + 400 ∧ h.length ≤ 8 ∧ -1000 ≤ v ∧ v ≤ 1000 := by
  have e : spec_l20Word b p = spec_l20Word_n1 b p := by unfold spec_l20Word; rfl
  obtain ⟨q, h, hq, qa, qb, h8⟩ := tree_ok hb 12 (by omega) hp (by omega)
  have hmax : 1 ≤ imax ((h.length : Nat) : Int) 1 ∧ imax ((h.length : Nat) : Int) 1 ≤ 8 := by
    unfold imax; split <;> omega
  obtain ⟨v, hv, va, vb, _⟩ := pick_ok hb (imax ((h.length : Nat) : Int) 1) (by omega) (p := q) (by omega) (by omega)
  have vb' := vb hmax.1
  obtain ⟨c, hc, ca, cb, _⟩ := pick_ok hb 20 (by omega) (p := q + 1) (by omega) (by omega)
  have cb' := cb (by omega)
  obtain ⟨d, hd, da, db⟩ := quo_ok (a := c) (b := 19) (by omega) ca (by omega)
  obtain ⟨c2, hc2, ca2, cb2, _⟩ := pick_ok hb 20 (by omega) (p := q + 1 + 1) (by omega) (by omega)
  have cb2' := cb2 (by omega)
  obtain ⟨d2, hd2, da2, db2⟩ := quo_ok (a := c2) (b := 19) (by omega) ca2 (by omega)
  refine ⟨1 + v - d * 2 + d2 * 9, q + 1 + 1 + 1, h, ?_, by omega, by omega, h8, by omega, by omega⟩
  rw [e]
  unfold spec_l20Word_n1
  simp only [hq, hv, hc, hd, hc2, hd2, Option.bind_some]
  rw [wrap64 (x := 1 + v) (by omega) (by omega), wrap64 (x := d * 2) (by omega) (by omega), wrap64 (x := 1 + v - d * 2) (by omega) (by omega), wrap64 (x := d2 * 9) (by omega) (by omega), wrap64 (by omega) (by omega)]

theorem drawn_yield (x : List Int) (w : ∀ n ∈ x, (Lit.int .u8 n).wf = true) (l : x.length ≤ maxLen) :
    ∃ (v : Int) (h : List Int), ((spec_l20Open x).bind fun (v817 : List Int) => (spec_l20Word v817 0).bind fun (v818 : Int × Int × (List Int)) => some ((v818.1), (v818.2.2))) = some (v, h) ∧ h.length ≤ 8 ∧ -1000 ≤ v ∧ v ≤ 1000 := by
  obtain ⟨b, hb, hB⟩ := open_ok x w l
  obtain ⟨v, q, h, hq, _, _, h8, v1, v2⟩ := word_ok hB (p := 0) (by omega) (by omega)
  exact ⟨v, h, by simp [hb, hq], h8, v1, v2⟩

theorem tree0 : treeB [0] = true := by decide
theorem tree1 : treeB [1] = false := by decide
theorem alive_eq : laws_alive = some true := by
  unfold laws_alive laws_alive_n1
  simp [implTree_eq, tree0, tree1]

end Go.Rv
