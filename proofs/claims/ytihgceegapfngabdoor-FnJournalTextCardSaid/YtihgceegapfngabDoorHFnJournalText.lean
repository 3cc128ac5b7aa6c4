/-
  Plain mathematics of what the law reaches. Conditions: none.
-/
import Derived.Test.YtihgceegapfngabDoorGFnJournalText
set_option linter.unusedVariables false
set_option linter.unusedSimpArgs false
namespace Go.Rv
theorem nloop_run {σ ω : Type} {body : σ → Option (σ ⊕ ω)} (I : σ → Prop) (μ : σ → Nat) (f : σ → ω)
    (h : ∀ s, I s → (∃ s', body s = some (.inl s') ∧ I s' ∧ μ s' < μ s ∧ f s' = f s) ∨ body s = some (.inr (f s))) : ∀ (n : Nat) (s : σ), I s → μ s < n → nloop body n s = some (f s)
  | 0, s, _, hn => by omega
  | n + 1, s, hi, hn => by
    rcases h s hi with ⟨s', hb, hi', hm, hf⟩ | hb
    · simp only [nloop, hb, Option.bind_some]
      rw [nloop_run I μ f h n s' hi' (by omega), hf]
    · simp only [nloop, hb, Option.bind_some]

/-- A loop that counts from a number on: state (k, x), k < n goes on. -/
theorem wrap64 {x : Int} (h1 : -9223372036854775808 ≤ x) (h2 : x ≤ 9223372036854775807) : IntKind.wrap .i64 x = x := by
  simp only [IntKind.wrap, IntKind.bits, IntKind.signed]
  simp
  omega

theorem idx_nat {α : Type} (xs : List α) (k : Nat) : idx xs (k : Int) = xs[k]? := by simp [idx]
theorem idx_lt {α : Type} {xs : List α} {k : Nat} (h : k < xs.length) : idx xs (k : Int) = some xs[k] := by simp [idx, h]
theorem inb_nat {k n : Nat} (h : k < n) : inb (k : Int) n = some k := by
  simp only [inb]
  rw [if_pos (by omega)]
  simp
theorem mk_nat {n : Nat} (h : n ≤ 1099511627776) : mk (n : Int) (n : Int) = some n := by
  simp only [mk]
  rw [if_pos (by omega)]
  simp
theorem room_le {n : Nat} (h : n ≤ 1099511627776) : room n = some () := by simp [room, h]

theorem drop_cons {α : Type} {xs : List α} {k : Nat} (h : k < xs.length) : xs.drop k = xs[k] :: xs.drop (k + 1) := List.drop_eq_getElem_cons h

/-- From a word to the root, with so many steps at most: the root, and how many steps lead to it. -/
def climb (h : List Int) : Nat → Nat → Option (Nat × Nat)
  | 0, _ => none
  | f + 1, w => match h[w - 1]? with
    | none => none
    | some x => if x = 0 then some (w, 0) else (climb h f x.toNat).map fun p => (p.1, p.2 + 1)

def okHead (n : Nat) (x : Int) : Bool := decide (0 ≤ x) && decide (x ≤ n)

def inRange (h : List Int) : Bool := h.all (okHead h.length)

/-- The heads of a tree. -/
def treeB (h : List Int) : Bool :=
  decide (1 ≤ h.length) && decide (h.length ≤ 8) && inRange h && (h.count 0 == 1) && (List.range h.length).all fun k => (climb h h.length (k + 1)).isSome

theorem all_drop_cons {h : List Int} {p : Int → Bool} {k : Nat} (hk : k < h.length) : (h.drop k).all p = (p h[k] && (h.drop (k + 1)).all p) := by
  rw [drop_cons hk]; rfl

theorem count_drop_cons {h : List Int} {k : Nat} (hk : k < h.length) : (h.drop k).count 0 = (if h[k] = 0 then 1 else 0) + (h.drop (k + 1)).count 0 := by
  rw [drop_cons hk, List.count_cons]
  by_cases e : h[k] = 0 <;> simp [e] <;> omega

theorem oneRoot_eq (h : List Int) (hl : h.length ≤ 1048576) : impl_oneRoot h = some (inRange h && (h.count 0 == 1)) := by
  have hloop := nloop_run (body := fun (s : Int × Int) => ((impl_oneRoot_n3 h s.1 h.length s.2).map (Sum.elim (fun (t : Int × Int) => Sum.inl (t.1, t.2)) (Sum.elim (fun (t : Bool) => Sum.inr (Sum.inl t)) (fun (t : Int) => Sum.inr (Sum.inr t)))) : Option ((Int × Int) ⊕ (Bool ⊕ Int))))
    (I := fun s => ∃ k r : Nat, s = ((r : Int), (k : Int)) ∧ k ≤ h.length ∧ r ≤ k) (μ := fun s => h.length - s.2.toNat)
    (f := fun s => cond ((h.drop s.2.toNat).all (okHead h.length)) (.inr (s.1 + ((h.drop s.2.toNat).count 0 : Nat))) (.inl false))
    (by
      rintro _ ⟨k, r, rfl, hk, hr⟩
      by_cases hlt : k < h.length
      · simp only [impl_oneRoot_n3]
        rw [show decide ((k : Int) < ((h.length : Nat) : Int)) = true from decide_eq_true (by omega)]
        simp only [cond_true, idx_lt hlt, Option.bind_some, Int.toNat_natCast]
        rw [wrap64 (x := (k : Int) + 1) (by omega) (by omega), wrap64 (x := (r : Int) + 1) (by omega) (by omega), all_drop_cons hlt, count_drop_cons hlt]
        by_cases h1 : h[k] < 0
        · right
          have : okHead h.length h[k] = false := by simp [okHead]; omega
          simp [h1, this]
        · by_cases h2 : h[k] > (h.length : Int)
          · right
            have : okHead h.length h[k] = false := by simp [okHead]; omega
            simp [h1, h2, this]
          · left
            have hok : okHead h.length h[k] = true := by simp [okHead]; omega
            by_cases h3 : h[k] = 0
            · refine ⟨(((r + 1 : Nat) : Int), ((k + 1 : Nat) : Int)), ?_, ⟨k + 1, r + 1, rfl, hlt, by omega⟩, by simp; omega, ?_⟩
              · have h4 : decide ((h.length : Int) < 0) = false := decide_eq_false (by omega)
                simp [h3, h4]
              · have e : ((k + 1 : Nat) : Int).toNat = k + 1 := by simp
                rw [e, hok]
                simp only [h3, if_true, Bool.true_and]
                congr 2
                push_cast
                omega
            · refine ⟨((r : Int), ((k + 1 : Nat) : Int)), ?_, ⟨k + 1, r, rfl, hlt, by omega⟩, by simp; omega, ?_⟩
              · have e1 : (h[k] == 0) = false := by simpa using h3
                have e2 : decide (h[k] < 0) = false := decide_eq_false h1
                have e3 : decide (h[k] > (h.length : Int)) = false := decide_eq_false h2
                simp [e1, e2, e3]
              · have e : ((k + 1 : Nat) : Int).toNat = k + 1 := by simp
                rw [e, hok]
                simp [h3]
      · right
        have e : k = h.length := by omega
        subst e
        simp only [impl_oneRoot_n3]
        rw [show decide (((h.length : Nat) : Int) < ((h.length : Nat) : Int)) = false from decide_eq_false (by omega)]
        simp)
  unfold impl_oneRoot impl_oneRoot_n9 impl_oneRoot_n1 impl_oneRoot_n8 impl_oneRoot_n6 impl_oneRoot_n2 impl_oneRoot_n5 impl_oneRoot_n4
  simp only [Option.bind_some]
  rw [hloop LL (0, 0) ⟨0, 0, rfl, by omega, by omega⟩ (by simp only [LL]; simp; omega)]
  simp only [Int.toNat_zero, List.drop_zero]
  unfold inRange
  cases ha : h.all (okHead h.length) with
  | false => simp
  | true =>
    simp only [cond_true, Option.map_some, Sum.elim_inr, Option.bind_some, Sum.elim_inl, impl_oneRoot_n7, Bool.true_and]
    congr 1
    by_cases e : h.count 0 = 1
    · simp [e]
    · have e1 : ((0 : Int) + ((h.count 0 : Nat) : Int) == 1) = false := by rw [beq_eq_false_iff_ne]; omega
      have e2 : (h.count 0 == 1) = false := by rw [beq_eq_false_iff_ne]; exact e
      rw [e2]; exact e1

theorem inRange_get {h : List Int} (hr : inRange h = true) {k : Nat} (hk : k < h.length) : 0 ≤ h[k] ∧ h[k] ≤ h.length := by
  have := List.all_eq_true.1 hr h[k] (List.getElem_mem hk)
  simpa [okHead] using this

theorem up_eq (h : List Int) (k : Nat) (s : Nat) (hk : k < h.length) (hl : h.length ≤ 1048576) (hs : s ≤ h.length) :
    impl_walker_up h ((k + 1 : Nat) : Int) (s : Int) = some (if h[k] = 0 then (false, ((k + 1 : Nat) : Int), (s : Int)) else (true, h[k], ((s + 1 : Nat) : Int))) := by
  unfold impl_walker_up impl_walker_up_n1
  rw [wrap64 (by omega) (by omega), show ((k + 1 : Nat) : Int) - 1 = (k : Int) by omega, idx_lt hk]
  simp only [Option.bind_some]
  rw [wrap64 (by omega) (by omega)]
  by_cases e : h[k] = 0
  · simp [e]
  · have e1 : (h[k] == 0) = false := by simpa using e
    simp [e, e1]

theorem steps_eq (h : List Int) (hl : h.length ≤ 1048576) (hr : inRange h = true) (k : Nat) (hk : k < h.length) :
    impl_stepsToRoot h ((k + 1 : Nat) : Int) = some (match climb h h.length (k + 1) with | some p => ((p.2 : Int), true) | none => (0, false)) := by
  have hloop := nloop_run (body := fun (s : Int × Int) => ((impl_stepsToRoot_n2 h s.1 s.2).map (Sum.elim (fun (t : Int × Int) => Sum.inl (t.1, t.2)) (Sum.elim (fun (t : Int × Bool) => Sum.inr (Sum.inl t)) (fun (t : Int × Int) => Sum.inr (Sum.inr t)))) : Option ((Int × Int) ⊕ ((Int × Bool) ⊕ (Int × Int)))))
    (I := fun s => ∃ k i : Nat, s = (((k + 1 : Nat) : Int), (i : Int)) ∧ k < h.length ∧ i < h.length) (μ := fun s => h.length - s.2.toNat)
    (f := fun s => match climb h (h.length - s.2.toNat) s.1.toNat with | some p => .inr ((p.1 : Int), s.2 + (p.2 : Int)) | none => .inl (0, false))
    (by
      rintro _ ⟨k, i, rfl, hk, hi⟩
      simp only [impl_stepsToRoot_n2]
      rw [up_eq h k i hk hl (by omega)]
      obtain ⟨hr1, hr2⟩ := inRange_get hr hk
      have hf : h.length - i = (h.length - i - 1) + 1 := by omega
      have hg : h[k + 1 - 1]? = some h[k] := by simp [hk]
      have hcl : climb h (h.length - i) (k + 1) = if h[k] = 0 then some (k + 1, 0) else (climb h (h.length - i - 1) h[k].toNat).map fun p => (p.1, p.2 + 1) := by
        rw [hf]; simp only [climb, hg]; simp
      simp only [Option.bind_some, Int.toNat_natCast]
      rw [hcl]
      by_cases e : h[k] = 0
      · right
        simp [e]
      · simp only [e, if_false, cond_true]
        by_cases hlast : i + 1 ≥ h.length
        · right
          have h0 : h.length - i - 1 = 0 := by omega
          have hd : decide (((i + 1 : Nat) : Int) ≥ ((h.length : Nat) : Int)) = true := decide_eq_true (by omega)
          simp only [hd, h0, climb]
          simp
        · left
          have hd : decide (((i + 1 : Nat) : Int) ≥ ((h.length : Nat) : Int)) = false := decide_eq_false (by omega)
          refine ⟨(h[k], ((i + 1 : Nat) : Int)), by simp only [hd]; simp, ⟨h[k].toNat - 1, i + 1, by
            have : ((h[k].toNat - 1 + 1 : Nat) : Int) = h[k] := by omega
            rw [this], by omega, by omega⟩, by simp; omega, ?_⟩
          have e2 : h.length - ((i + 1 : Nat) : Int).toNat = h.length - i - 1 := by simp; omega
          simp only [e2]
          cases climb h (h.length - i - 1) h[k].toNat with
          | none => rfl
          | some p => simp; omega)
  unfold impl_stepsToRoot impl_stepsToRoot_n7 impl_stepsToRoot_n1 impl_stepsToRoot_n6 impl_stepsToRoot_n4 impl_stepsToRoot_n3
  simp only [Option.bind_some]
  rw [hloop LL (((k + 1 : Nat) : Int), 0) ⟨k, 0, rfl, hk, by omega⟩ (by simp only [LL]; simp; omega)]
  simp only [Int.toNat_natCast, Int.toNat_zero, Nat.sub_zero]
  cases climb h h.length (k + 1) with
  | none => simp
  | some p => simp [impl_stepsToRoot_n5]

theorem implTree_eq (h : List Int) : impl_TreeOk h = some (treeB h) := by
  unfold impl_TreeOk impl_TreeOk_n9 impl_TreeOk_n1 impl_TreeOk_n8 impl_TreeOk_n6 impl_TreeOk_n2 impl_TreeOk_n5 impl_TreeOk_n4
  unfold treeB
  by_cases h1 : h.length < 1
  · have e : decide (1 ≤ h.length) = false := decide_eq_false (by omega)
    have e2 : decide ((((h.length : Nat) : Int)) < 1) = true := decide_eq_true (by omega)
    simp [e, e2]
  · have e1 : decide ((((h.length : Nat) : Int)) < 1) = false := decide_eq_false (by omega)
    have e1' : decide (1 ≤ h.length) = true := decide_eq_true (by omega)
    by_cases h2 : h.length > 8
    · have e : decide (h.length ≤ 8) = false := decide_eq_false (by omega)
      have e2 : decide ((((h.length : Nat) : Int)) > 8) = true := decide_eq_true (by omega)
      simp only [e1, e2, e]
      simp
    · have e2 : decide ((((h.length : Nat) : Int)) > 8) = false := decide_eq_false (by omega)
      have e2' : decide (h.length ≤ 8) = true := decide_eq_true (by omega)
      simp only [e1, e2, e1', e2', cond_false, oneRoot_eq h (by omega), Option.bind_some, Bool.true_and]
      cases hr : inRange h with
      | false => simp
      | true =>
        cases hc : (h.count 0 == 1) with
        | false => simp
        | true =>
          simp only [Bool.true_and, Bool.not_true, cond_false, Option.bind_some, Sum.elim_inl]
          have hloop := nloop_run (body := fun (s : Int) => ((impl_TreeOk_n3 h h.length s).map (Sum.elim (fun (t : Int) => Sum.inl t) (Sum.elim (fun (t : Bool) => Sum.inr (Sum.inl t)) (fun (t : Unit) => Sum.inr (Sum.inr t)))) : Option ((Int) ⊕ (Bool ⊕ Unit))))
            (I := fun s => ∃ k : Nat, s = (k : Int) ∧ k ≤ h.length) (μ := fun s => h.length - s.toNat)
            (f := fun s => cond (((List.range h.length).drop s.toNat).all fun k => (climb h h.length (k + 1)).isSome) (.inr ()) (.inl false))
            (by
              rintro _ ⟨k, rfl, hk⟩
              by_cases hlt : k < h.length
              · simp only [impl_TreeOk_n3]
                rw [show decide ((k : Int) < ((h.length : Nat) : Int)) = true from decide_eq_true (by omega)]
                rw [wrap64 (x := (k : Int) + 1) (by omega) (by omega), show (k : Int) + 1 = ((k + 1 : Nat) : Int) by omega, steps_eq h (by omega) hr k hlt]
                simp only [cond_true, Option.bind_some, Int.toNat_natCast]
                have hd : (List.range h.length).drop k = k :: (List.range h.length).drop (k + 1) := by
                  rw [List.drop_eq_getElem_cons (by simpa using hlt)]
                  simp
                rw [hd]
                simp only [List.all_cons]
                cases hcl : climb h h.length (k + 1) with
                | none => right; simp
                | some p =>
                  left
                  refine ⟨((k + 1 : Nat) : Int), by simp, ⟨k + 1, rfl, hlt⟩, by simp; omega, by simp⟩
              · right
                have e : k = h.length := by omega
                subst e
                simp only [impl_TreeOk_n3]
                rw [show decide (((h.length : Nat) : Int) < ((h.length : Nat) : Int)) = false from decide_eq_false (by omega)]
                simp [List.drop_of_length_le (show (List.range h.length).length ≤ h.length by simp)])
          rw [hloop LL 0 ⟨0, rfl, by omega⟩ (by simp only [LL]; simp; omega)]
          simp only [Int.toNat_zero, List.drop_zero]
          cases ((List.range h.length).all fun k => (climb h h.length (k + 1)).isSome) <;> rfl

theorem l1In_eq (a b c : Int) : spec_l1In a b c = some (decide (b ≤ a) && decide (a ≤ c)) := by
  unfold spec_l1In spec_l1In_n1
  by_cases h : a ≥ b
  · have e : decide (a ≥ b) = true := decide_eq_true h
    rw [e]; rfl
  · have e : decide (a ≥ b) = false := decide_eq_false h
    rw [e]; rfl

/-- The model's way from a word upwards. -/
def goUp (h : List Int) : Nat → Int → Bool ⊕ Int
  | 0, a => .inr a
  | f + 1, a => if 0 < a then (match h[a.toNat - 1]? with
      | some x => if okHead h.length x then goUp h f x else .inl false
      | none => .inl false) else .inr a

theorem inner_eq (h : List Int) (hl : h.length ≤ 8) (a : Int) (ha0 : 0 ≤ a) (ha : a ≤ h.length) : spec_TreeOk_n7 h h.length a = some (goUp h h.length a) := by
  unfold spec_TreeOk_n7
  have hloop := nloop_run (body := fun (s : Int × Int) => ((spec_TreeOk_n6 h h.length s.1 s.2).map (Sum.elim (fun (t : Int × Int) => Sum.inl (t.1, t.2)) (Sum.elim (fun (t : Bool) => Sum.inr (Sum.inl t)) (fun (t : Int) => Sum.inr (Sum.inr t)))) : Option ((Int × Int) ⊕ (Bool ⊕ Int))))
    (I := fun s => ∃ k i : Nat, s = ((k : Int), (i : Int)) ∧ k ≤ h.length ∧ i ≤ h.length) (μ := fun s => h.length - s.2.toNat)
    (f := fun s => goUp h (h.length - s.2.toNat) s.1)
    (by
      rintro _ ⟨k, i, rfl, hk, hi⟩
      simp only [spec_TreeOk_n6, Int.toNat_natCast]
      by_cases h1 : 0 < k
      · have e1 : decide ((k : Int) > 0) = true := decide_eq_true (by omega)
        by_cases h2 : i < h.length
        · have e2 : decide ((i : Int) < ((h.length : Nat) : Int)) = true := decide_eq_true (by omega)
          have hk' : k - 1 < h.length := by omega
          rw [e1, e2, wrap64 (x := (k : Int) - 1) (by omega) (by omega), show (k : Int) - 1 = ((k - 1 : Nat) : Int) by omega, idx_lt hk', wrap64 (x := (i : Int) + 1) (by omega) (by omega)]
          simp only [cond_true, Option.bind_some, l1In_eq]
          have hf : h.length - i = (h.length - i - 1) + 1 := by omega
          have hg : goUp h (h.length - i) (k : Int) = if okHead h.length h[k - 1] then goUp h (h.length - i - 1) h[k - 1] else .inl false := by
            rw [hf]
            simp only [goUp]
            rw [if_pos (by omega)]
            simp [hk']
          rw [hg]
          by_cases h3 : okHead h.length h[k - 1] = true
          · left
            have h3' := h3
            simp only [okHead, Bool.and_eq_true, decide_eq_true_eq] at h3'
            refine ⟨(h[k - 1], ((i + 1 : Nat) : Int)), ?_, ⟨h[k - 1].toNat, i + 1, by
              have : ((h[k - 1].toNat : Nat) : Int) = h[k - 1] := by omega
              rw [this], by omega, by omega⟩, by simp; omega, ?_⟩
            · have e4 : (decide ((0 : Int) ≤ h[k - 1]) && decide (h[k - 1] ≤ ((h.length : Nat) : Int))) = true := h3
              rw [e4]; simp
            · have e5 : h.length - ((i + 1 : Nat) : Int).toNat = h.length - i - 1 := by simp; omega
              simp only [e5, h3, if_true]
          · right
            have h3' : okHead h.length h[k - 1] = false := by simpa using h3
            have e4 : (decide ((0 : Int) ≤ h[k - 1]) && decide (h[k - 1] ≤ ((h.length : Nat) : Int))) = false := h3'
            rw [e4]
            simp [h3']
        · right
          have e2 : decide ((i : Int) < ((h.length : Nat) : Int)) = false := decide_eq_false (by omega)
          have h0 : h.length - i = 0 := by omega
          rw [e1, e2, h0]
          simp [goUp]
      · right
        have hk0 : k = 0 := by omega
        subst hk0
        have e1 : decide (((0 : Nat) : Int) > 0) = false := by simp
        rw [e1]
        cases h.length - i <;> simp [goUp])
  exact hloop LL (a, 0) ⟨a.toNat, 0, by
    have : ((a.toNat : Nat) : Int) = a := by omega
    rw [this]; rfl, by omega, by omega⟩ (by simp only [LL]; simp; omega)

theorem goUp_climb {h : List Int} (hr : inRange h = true) : ∀ (f k : Nat), k < h.length → goUp h f ((k + 1 : Nat) : Int) = (if (climb h f (k + 1)).isSome then .inr 0 else goUp h f ((k + 1 : Nat) : Int)) ∧
    ((climb h f (k + 1)).isSome = false → ∃ a : Int, 0 < a ∧ goUp h f ((k + 1 : Nat) : Int) = .inr a)
  | 0, k, hk => by
    refine ⟨by simp [climb], fun _ => ⟨((k + 1 : Nat) : Int), by omega, rfl⟩⟩
  | f + 1, k, hk => by
    obtain ⟨h1, h2⟩ := inRange_get hr hk
    have hok : okHead h.length h[k] = true := by simp [okHead]; omega
    have hg : goUp h (f + 1) ((k + 1 : Nat) : Int) = goUp h f h[k] := by
      simp only [goUp]
      rw [if_pos (by omega)]
      simp [hk, hok]
    have hc : climb h (f + 1) (k + 1) = if h[k] = 0 then some (k + 1, 0) else (climb h f h[k].toNat).map fun p => (p.1, p.2 + 1) := by
      simp [climb, hk]
    rw [hg, hc]
    by_cases e : h[k] = 0
    · have : goUp h f 0 = .inr 0 := by cases f <;> simp [goUp]
      simp [e, this]
    · obtain ⟨j, hj⟩ : ∃ j : Nat, h[k] = ((j + 1 : Nat) : Int) := ⟨h[k].toNat - 1, by omega⟩
      have ih := goUp_climb hr f j (by omega)
      rw [hj]
      have ne : ¬ ((j + 1 : Nat) : Int) = 0 := by omega
      simp only [ne, if_false, Int.toNat_natCast, Option.isSome_map]
      exact ih

/-- What is asked of one word. -/
def wordOk1 (h : List Int) (k : Nat) : Bool := match h[k]? with
  | some x => okHead h.length x && !(x == ((k + 1 : Nat) : Int)) && (match goUp h h.length ((k + 1 : Nat) : Int) with | .inr a => !decide (a > 0) | .inl _ => false)
  | none => false

theorem specTree_eq0 (h : List Int) : spec_TreeOk h = some (decide (1 ≤ h.length) && decide (h.length ≤ 8) && (List.range h.length).all (wordOk1 h) && (h.count 0 == 1)) := by
  unfold spec_TreeOk spec_TreeOk_n22 spec_TreeOk_n1
  rw [l1In_eq]
  by_cases h1 : (decide ((1 : Int) ≤ ((h.length : Nat) : Int)) && decide (((h.length : Nat) : Int) ≤ 8)) = true
  · have h1' := h1
    simp only [Bool.and_eq_true, decide_eq_true_eq] at h1'
    have e1 : decide (1 ≤ h.length) = true := decide_eq_true (by omega)
    have e2 : decide (h.length ≤ 8) = true := decide_eq_true (by omega)
    simp only [h1, e1, e2, Option.bind_some, Bool.not_true, cond_false, Sum.elim_inl, Bool.true_and]
    unfold spec_TreeOk_n21 spec_TreeOk_n19 spec_TreeOk_n2 spec_TreeOk_n18 spec_TreeOk_n17
    have hloop := nloop_run (body := fun (s : Int × Int) => ((spec_TreeOk_n16 h h.length s.1 s.2).map (Sum.elim (fun (t : Int × Int) => Sum.inl (t.1, t.2)) (Sum.elim (fun (t : Bool) => Sum.inr (Sum.inl t)) (fun (t : Int) => Sum.inr (Sum.inr t)))) : Option ((Int × Int) ⊕ (Bool ⊕ Int))))
      (I := fun s => ∃ k r : Nat, s = ((r : Int), (k : Int)) ∧ k ≤ h.length ∧ r ≤ k) (μ := fun s => h.length - s.2.toNat)
      (f := fun s => cond (((List.range h.length).drop s.2.toNat).all (wordOk1 h)) (.inr (s.1 + ((h.drop s.2.toNat).count 0 : Nat))) (.inl false))
      (by
        rintro _ ⟨k, r, rfl, hk, hr⟩
        by_cases hlt : k < h.length
        · have hd : (List.range h.length).drop k = k :: (List.range h.length).drop (k + 1) := by
            rw [List.drop_eq_getElem_cons (by simpa using hlt)]
            simp
          simp only [spec_TreeOk_n16, spec_TreeOk_n3, Int.toNat_natCast]
          rw [show decide ((k : Int) < ((h.length : Nat) : Int)) = true from decide_eq_true (by omega)]
          simp only [cond_true, Option.bind_some, Sum.elim_inl]
          unfold spec_TreeOk_n15 spec_TreeOk_n13 spec_TreeOk_n12 spec_TreeOk_n4 spec_TreeOk_n14 spec_TreeOk_n11 spec_TreeOk_n9 spec_TreeOk_n5 spec_TreeOk_n8 spec_TreeOk_n10
          have hw : IntKind.wrap .i64 ((k : Int) + 1) = ((k + 1 : Nat) : Int) := by rw [wrap64 (by omega) (by omega)]; omega
          have hw2 : IntKind.wrap .i64 ((r : Int) + 1) = ((r + 1 : Nat) : Int) := by rw [wrap64 (by omega) (by omega)]; omega
          simp only [idx_lt hlt, Option.bind_some, l1In_eq, hw, hw2]
          rw [hd, List.all_cons, count_drop_cons hlt]
          have hwk : wordOk1 h k = (okHead h.length h[k] && !(h[k] == ((k + 1 : Nat) : Int)) && (match goUp h h.length ((k + 1 : Nat) : Int) with | .inr a => !decide (a > 0) | .inl _ => false)) := by
            simp [wordOk1, hlt]
          have hin := inner_eq h (by omega) ((k + 1 : Nat) : Int) (by omega) (by omega)
          rw [hwk]
          cases h3 : okHead h.length h[k] with
          | false =>
            right
            have e4 : (decide ((0 : Int) ≤ h[k]) && decide (h[k] ≤ ((h.length : Nat) : Int))) = false := h3
            rw [e4]; simp
          | true =>
            have e4 : (decide ((0 : Int) ≤ h[k]) && decide (h[k] ≤ ((h.length : Nat) : Int))) = true := h3
            rw [e4]
            simp only [Bool.not_true, cond_false, Bool.true_and]
            cases h5 : (h[k] == ((k + 1 : Nat) : Int)) with
            | true => right; simp
            | false =>
              simp only [cond_false, Bool.not_false, Bool.true_and]
              by_cases h6 : h[k] = 0
              · simp only [h6, beq_self_eq_true, cond_true, Option.bind_some, Sum.elim_inl, Option.map_some, hin, if_true]
                cases h7 : goUp h h.length ((k + 1 : Nat) : Int) with
                | inl b =>
                  right
                  have : b = false := by
                    have key : ∀ f a b, goUp h f a = .inl b → b = false := by
                      intro f
                      induction f with
                      | zero => intro a b hh; simp [goUp] at hh
                      | succ f ih =>
                        intro a b hh
                        simp only [goUp] at hh
                        split at hh
                        · split at hh
                          · split at hh
                            · exact ih _ _ hh
                            · simpa using hh.symm
                          · simpa using hh.symm
                        · cases hh
                    exact key _ _ _ h7
                  subst this
                  simp
                | inr a =>
                  by_cases h8 : a > 0
                  · right
                    simp [h8]
                  · left
                    refine ⟨(((r + 1 : Nat) : Int), ((k + 1 : Nat) : Int)), by simp [h8], ⟨k + 1, r + 1, rfl, hlt, by omega⟩, by simp; omega, ?_⟩
                    have e : ((k + 1 : Nat) : Int).toNat = k + 1 := by simp
                    simp only [e, h8, decide_false, Bool.not_false, Bool.true_and]
                    congr 2
                    push_cast
                    omega
              · have e9 : (h[k] == 0) = false := by simpa using h6
                simp only [e9, cond_false, Option.bind_some, Sum.elim_inl, Option.map_some, hin, h6, if_false]
                cases h7 : goUp h h.length ((k + 1 : Nat) : Int) with
                | inl b =>
                  right
                  have : b = false := by
                    have key : ∀ f a b, goUp h f a = .inl b → b = false := by
                      intro f
                      induction f with
                      | zero => intro a b hh; simp [goUp] at hh
                      | succ f ih =>
                        intro a b hh
                        simp only [goUp] at hh
                        split at hh
                        · split at hh
                          · split at hh
                            · exact ih _ _ hh
                            · simpa using hh.symm
                          · simpa using hh.symm
                        · cases hh
                    exact key _ _ _ h7
                  subst this
                  simp
                | inr a =>
                  by_cases h8 : a > 0
                  · right
                    simp [h8]
                  · left
                    refine ⟨((r : Int), ((k + 1 : Nat) : Int)), by simp [h8], ⟨k + 1, r, rfl, hlt, by omega⟩, by simp; omega, ?_⟩
                    have e : ((k + 1 : Nat) : Int).toNat = k + 1 := by simp
                    simp only [e, h8, decide_false, Bool.not_false, Bool.true_and]
                    congr 2
                    omega
        · right
          have e : k = h.length := by omega
          subst e
          simp only [spec_TreeOk_n16, spec_TreeOk_n3]
          rw [show decide (((h.length : Nat) : Int) < ((h.length : Nat) : Int)) = false from decide_eq_false (by omega)]
          simp [List.drop_of_length_le (show (List.range h.length).length ≤ h.length by simp)])
    simp only [Option.bind_some]
    rw [hloop LL (0, 0) ⟨0, 0, rfl, by omega, by omega⟩ (by simp only [LL]; simp; omega)]
    simp only [Int.toNat_zero, List.drop_zero, Option.bind_some]
    cases (List.range h.length).all (wordOk1 h) with
    | false => simp
    | true =>
      simp only [cond_true, Option.map_some, Sum.elim_inr, Option.bind_some, Sum.elim_inl, spec_TreeOk_n20, Bool.true_and]
      congr 1
      by_cases e : h.count 0 = 1
      · simp [e]
      · have e1 : ((0 : Int) + ((h.count 0 : Nat) : Int) == 1) = false := by rw [beq_eq_false_iff_ne]; omega
        have e2 : (h.count 0 == 1) = false := by rw [beq_eq_false_iff_ne]; exact e
        rw [e2]; exact e1
  · have h1' : (decide ((1 : Int) ≤ ((h.length : Nat) : Int)) && decide (((h.length : Nat) : Int) ≤ 8)) = false := by simpa using h1
    have e : (decide (1 ≤ h.length) && decide (h.length ≤ 8)) = false := by
      simp only [Bool.and_eq_true, decide_eq_true_eq] at h1
      simp only [Bool.and_eq_false_iff, decide_eq_false_iff_not]
      omega
    rw [h1']
    simp [e]

theorem specTree_eq (h : List Int) : spec_TreeOk h = some (treeB h) := by
  rw [specTree_eq0]
  congr 1
  unfold treeB
  have key : (List.range h.length).all (wordOk1 h) = (inRange h && (List.range h.length).all fun k => (climb h h.length (k + 1)).isSome) := by
    cases hr : inRange h with
    | false =>
      rw [Bool.false_and, List.all_eq_false]
      have : ¬ ∀ x ∈ h, okHead h.length x = true := fun hh => by
        have : inRange h = true := List.all_eq_true.2 hh
        rw [hr] at this; cases this
      have ⟨x, hx⟩ := Classical.not_forall.1 this
      have ⟨hm, hb⟩ := Classical.not_imp.1 hx
      obtain ⟨k, hk, rfl⟩ := List.getElem_of_mem hm
      refine ⟨k, by simpa using hk, ?_⟩
      simp [wordOk1, hk, hb]
    | true =>
      rw [Bool.true_and, Bool.eq_iff_iff, List.all_eq_true, List.all_eq_true]
      constructor
      · intro hh k hk
        have hk' : k < h.length := by simpa using hk
        have h1 := hh k hk
        cases hc : (climb h h.length (k + 1)).isSome with
        | true => rfl
        | false =>
          obtain ⟨a, ha, hg⟩ := (goUp_climb hr h.length k hk').2 hc
          have hg' : goUp h h.length ((k : Int) + 1) = .inr a := hg
          simp [wordOk1, hk', hg', ha] at h1
      · intro hh k hk
        have hk' : k < h.length := by simpa using hk
        have h1 := hh k hk
        have h2 := (goUp_climb hr h.length k hk').1
        rw [if_pos h1] at h2
        obtain ⟨h3, h4⟩ := inRange_get hr hk'
        have hok : okHead h.length h[k] = true := by simp [okHead]; omega
        have hself : ¬ h[k] = ((k + 1 : Nat) : Int) := fun e => by
          -- a word that is its own head never comes to the root
          have none : ∀ f, climb h f (k + 1) = none := by
            intro f
            induction f with
            | zero => rfl
            | succ f ih =>
              simp only [climb]
              have : h[k + 1 - 1]? = some h[k] := by simp [hk']
              rw [this]
              simp only
              rw [if_neg (by omega), e]
              simp [ih]
          rw [none] at h1
          cases h1
        have h2' : goUp h h.length ((k : Int) + 1) = .inr 0 := h2
        have hself' : ¬ h[k] = (k : Int) + 1 := hself
        simp [wordOk1, hk', hok, h2', hself']
  rw [key]
  cases inRange h <;> simp [Bool.and_comm, Bool.and_assoc, Bool.and_left_comm]

/-- What a tree is. -/
structure Tree (h : List Int) : Prop where
  pos : 1 ≤ h.length
  le : h.length ≤ 8
  rng : inRange h = true
  one : h.count 0 = 1
  way : ∀ k, k < h.length → (climb h h.length (k + 1)).isSome = true

theorem tree_iff (h : List Int) : treeB h = true ↔ Tree h := by
  unfold treeB
  simp only [Bool.and_eq_true, decide_eq_true_eq, beq_iff_eq, List.all_eq_true]
  constructor
  · rintro ⟨⟨⟨⟨h1, h2⟩, h3⟩, h4⟩, h5⟩
    exact ⟨h1, h2, h3, h4, fun k hk => h5 k (by simpa using hk)⟩
  · rintro ⟨h1, h2, h3, h4, h5⟩
    exact ⟨⟨⟨⟨h1, h2⟩, h3⟩, h4⟩, fun k hk => h5 k (by simpa using hk)⟩

/-- The head of a word, both from 1 on; 0 for none. -/
def hd (h : List Int) (w : Nat) : Nat := (h.getD (w - 1) 0).toNat

section
variable {h : List Int} (T : Tree h)
include T

theorem Tree.get {w : Nat} (h1 : 1 ≤ w) (h2 : w ≤ h.length) : h[w - 1]? = some ((hd h w : Nat) : Int) := by
  have hk : w - 1 < h.length := by omega
  have := inRange_get T.rng hk
  rw [List.getElem?_eq_getElem hk, hd, List.getD_eq_getElem?_getD, List.getElem?_eq_getElem hk]
  simp only [Option.getD_some, Option.some.injEq]
  omega

end

theorem nloop_to {σ ω : Type} {body : σ → Option (σ ⊕ ω)} (S : Nat → σ) (n : Nat) (w : ω) (hs : ∀ k, k < n → body (S k) = some (.inl (S (k + 1)))) (he : body (S n) = some (.inr w)) :
    ∀ (N : Nat), n < N → nloop body N (S 0) = some w := by
  have key : ∀ (m k N : Nat), k + m = n → m < N → nloop body N (S k) = some w := by
    intro m
    induction m with
    | zero =>
      intro k N hk hN
      obtain ⟨N', rfl⟩ : ∃ N', N = N' + 1 := ⟨N - 1, by omega⟩
      have : k = n := by omega
      subst this
      simp only [nloop, he, Option.bind_some]
    | succ m ih =>
      intro k N hk hN
      obtain ⟨N', rfl⟩ : ∃ N', N = N' + 1 := ⟨N - 1, by omega⟩
      simp only [nloop, hs k (by omega), Option.bind_some]
      exact ih (k + 1) N' (by omega) (by omega)
  intro N hN
  exact key n 0 N (by omega) hN

/-- A word is under another one: from head to head one comes to it. -/
inductive Und (h : List Int) : Nat → Nat → Prop
  | refl {a : Nat} (h1 : 1 ≤ a) (h2 : a ≤ h.length) : Und h a a
  | step {a b : Nat} (h1 : 1 ≤ a) (h2 : a ≤ h.length) (h3 : hd h a ≠ 0) (u : Und h (hd h a) b) : Und h a b

def dupB (o : List Int) : Bool := (List.range o.length).any fun j => (List.range j).any fun i => o.getD i 0 == o.getD j 0
def orderAll (o : List Int) (m : Int) : Bool := o.all (fun x => decide (1 ≤ x) && decide (x ≤ m)) && !dupB o
def orderB (o : List Int) (m : Int) : Bool := decide (1 ≤ m) && decide (m ≤ 8) && (((o.length : Nat) : Int) == m) && orderAll o m

def OrderP (o : List Int) (m : Int) : Prop := (∀ (k : Nat) (hk : k < o.length), 1 ≤ o[k] ∧ o[k] ≤ m) ∧ ∀ (i j : Nat) (hij : i < j) (hj : j < o.length), o[i] ≠ o[j]

theorem orderAll_iff (o : List Int) (m : Int) : orderAll o m = true ↔ OrderP o m := by
  unfold orderAll dupB OrderP
  simp only [Bool.and_eq_true, List.all_eq_true, decide_eq_true_eq, Bool.not_eq_true', List.any_eq_false, List.mem_range]
  constructor
  · rintro ⟨h1, h2⟩
    refine ⟨fun k hk => h1 _ (List.getElem_mem hk), fun i j hij hj e => ?_⟩
    have := h2 j hj
    rw [List.any_eq_true] at this
    refine this ⟨i, by simpa using hij, ?_⟩
    simp [List.getD, hj, show i < o.length by omega, e]
  · rintro ⟨h1, h2⟩
    refine ⟨fun x hx => ?_, fun j hj => ?_⟩
    · obtain ⟨k, hk, rfl⟩ := List.getElem_of_mem hx
      exact h1 k hk
    · rw [List.any_eq_true]
      rintro ⟨i, hi, e⟩
      have hi' : i < j := by simpa using hi
      simp only [List.getD, List.getElem?_eq_getElem hj, List.getElem?_eq_getElem (show i < o.length by omega), Option.getD_some, beq_iff_eq] at e
      exact h2 i j hi' hj e

theorem orderAll_false {o : List Int} {m : Int} (h : ¬ OrderP o m) : orderAll o m = false := by
  cases e : orderAll o m with
  | false => rfl
  | true => exact absurd ((orderAll_iff o m).1 e) h

theorem mem_take {o : List Int} {k : Nat} {x : Int} (hk : k ≤ o.length) : x ∈ o.take k ↔ ∃ (i : Nat) (hi : i < k), o[i]'(by omega) = x := by
  constructor
  · intro h
    obtain ⟨i, hi, e⟩ := List.getElem_of_mem h
    have hi' : i < k := by simp at hi; omega
    exact ⟨i, hi', by simpa using e⟩
  · rintro ⟨i, hi, e⟩
    have : (o.take k)[i]'(by simp; omega) = x := by simpa using e
    rw [← this]; exact List.getElem_mem _

/-- The places behind the first k numbers of an order. -/
def placesK (o : List Int) (k : Nat) : List Int := (List.range (o.length + 1)).map fun (v : Nat) => if (v : Int) ∈ o.take k then (o.idxOf (v : Int) : Int) + 1 else 0
def placesL (o : List Int) : List Int := placesK o o.length

theorem placesK_length (o : List Int) (k : Nat) : (placesK o k).length = o.length + 1 := by simp [placesK]
theorem placesK_get (o : List Int) (k v : Nat) (hv : v < o.length + 1) : (placesK o k)[v]? = some (if (v : Int) ∈ o.take k then (o.idxOf (v : Int) : Int) + 1 else 0) := by
  simp [placesK, hv]

theorem idxOf_get {o : List Int} {m : Int} (hP : OrderP o m) {k : Nat} (hk : k < o.length) : o.idxOf o[k] = k := by
  have hm : o[k] ∈ o := List.getElem_mem hk
  have hlt : o.idxOf o[k] < o.length := List.idxOf_lt_length_iff.2 hm
  have he : o[o.idxOf o[k]] = o[k] := by simp
  rcases Nat.lt_trichotomy (o.idxOf o[k]) k with h | h | h
  · exact absurd he (hP.2 _ _ h hk)
  · exact h
  · exact absurd he.symm (hP.2 _ _ h hlt)

theorem placesK_step {o : List Int} (hP : OrderP o (o.length : Nat)) {k v : Nat} (hk : k < o.length) (hv : o[k] = (v : Int)) : (placesK o k).set v ((k + 1 : Nat) : Int) = placesK o (k + 1) := by
  have hr := hP.1 k hk
  apply List.ext_getElem?
  intro u
  by_cases hu : u < o.length + 1
  · rw [placesK_get o (k + 1) u hu]
    rw [List.take_add_one, List.getElem?_eq_getElem hk, hv]
    simp only [Option.toList_some, List.mem_append, List.mem_singleton]
    by_cases e : v = u
    · subst e
      rw [List.getElem?_set_self (by rw [placesK_length]; omega)]
      have hidx : o.idxOf (v : Int) = k := by rw [← hv]; exact idxOf_get hP hk
      simp [hidx]
    · rw [List.getElem?_set_ne e, placesK_get o k u hu]
      have : ¬ (u : Int) = (v : Int) := by omega
      simp [this]
  · rw [List.getElem?_eq_none (by rw [List.length_set, placesK_length]; omega), List.getElem?_eq_none (by rw [placesK_length]; omega)]

theorem placesK_zero (o : List Int) : placesK o 0 = List.replicate (o.length + 1) 0 := by
  apply List.ext_getElem?
  intro u
  by_cases hu : u < o.length + 1
  · rw [placesK_get o 0 u hu, List.getElem?_replicate, if_pos hu]; simp
  · rw [List.getElem?_eq_none (by rw [placesK_length]; omega), List.getElem?_eq_none (by simp; omega)]

/-- The new head at place k, from 0 on. -/
def newHd (h o : List Int) (k : Nat) : Int := (placesL o).getD (h.getD (o.getD k 0 - 1).toNat 0).toNat 0
def putRow (h o : List Int) : List Int := (List.range o.length).map (newHd h o)
theorem putRow_length (h o : List Int) : (putRow h o).length = o.length := by simp [putRow]
theorem putRow_drop (h o : List Int) {k : Nat} (hk : k < o.length) : (putRow h o).drop k = newHd h o k :: (putRow h o).drop (k + 1) := by
  rw [List.drop_eq_getElem_cons (by rw [putRow_length]; exact hk)]
  simp [putRow]

/-- What is read on the way to a new head. -/
theorem put_reads {h o : List Int} (T : Tree h) (hl : o.length = h.length) (hP : OrderP o (o.length : Nat)) {k : Nat} (hk : k < o.length) :
    ∃ w x : Nat, o[k] = ((w + 1 : Nat) : Int) ∧ w < h.length ∧ h[w]? = some (x : Int) ∧ x < o.length + 1 ∧ (placesL o)[x]? = some (newHd h o k) := by
  have hr := hP.1 k hk
  refine ⟨o[k].toNat - 1, (h[o[k].toNat - 1]'(by omega)).toNat, by omega, by omega, ?_, ?_, ?_⟩
  · have := inRange_get T.rng (k := o[k].toNat - 1) (by omega)
    rw [List.getElem?_eq_getElem (by omega)]
    simp only [Option.some.injEq]
    omega
  · have := inRange_get T.rng (k := o[k].toNat - 1) (by omega); omega
  · have h1 := inRange_get T.rng (k := o[k].toNat - 1) (by omega)
    have hx : (h[o[k].toNat - 1]'(by omega)).toNat < (placesL o).length := by rw [placesL, placesK_length]; omega
    rw [List.getElem?_eq_getElem hx]
    have e1 : o.getD k 0 = o[k] := by simp [List.getD, hk]
    have e2 : h.getD (o[k] - 1).toNat 0 = h[o[k].toNat - 1]'(by omega) := by
      rw [show (o[k] - 1).toNat = o[k].toNat - 1 by omega]
      simp [List.getD, show o[k].toNat - 1 < h.length by omega]
    simp only [newHd, e1, e2]
    simp [List.getD, hx]

def Betw (a b j : Nat) : Prop := (a < j ∧ j < b) ∨ (b < j ∧ j < a)
/-- What holds of the machine: the next word, the stack from its top, the heads. -/
structure MInv (n i : Nat) (st : List Nat) (h : List Int) : Prop where
  len : h.length = n
  lo : 1 ≤ i
  hi : i ≤ n + 1
  ne : st = [] → i = 1
  dec : st.Pairwise (· > ·)
  rng : ∀ s ∈ st, 1 ≤ s ∧ s < i ∧ hd h s = 0
  num : ∀ x ∈ h, 0 ≤ x ∧ x ≤ (n : Int)
  rank : ∃ (m : Nat) (ρ : Nat → Nat), m + st.length + 1 = i ∧ ∀ w, 1 ≤ w → w < i → w ∉ st → ρ w < m ∧ 1 ≤ hd h w ∧ hd h w < i ∧ (hd h w ∈ st ∨ ρ w < ρ (hd h w))
  near : ∀ j, 1 ≤ j → j < i → ∃ s ∈ st, Und h j s ∧ ∀ t ∈ st, ¬ Betw j s t
  below : ∀ w j, 1 ≤ w → w < i → hd h w ≠ 0 → Betw w (hd h w) j → Und h j (hd h w)

theorem MInv.get {n i : Nat} {st : List Nat} {h : List Int} (M : MInv n i st h) {w : Nat} (w1 : 1 ≤ w) (w2 : w ≤ n) : h[w - 1]? = some ((hd h w : Nat) : Int) := by
  have hl := M.len
  have lt : w - 1 < h.length := by omega
  have := M.num _ (List.getElem_mem lt)
  rw [List.getElem?_eq_getElem lt]
  unfold hd
  rw [List.getD_eq_getElem?_getD, List.getElem?_eq_getElem lt, Option.getD_some]
  congr 1
  omega

theorem nloop_ex {σ ω : Type} {body : σ → Option (σ ⊕ ω)} (I : σ → Prop) (μ : σ → Nat) (Q : ω → Prop)
    (h : ∀ s, I s → (∃ s', body s = some (.inl s') ∧ I s' ∧ μ s' < μ s) ∨ (∃ o, body s = some (.inr o) ∧ Q o)) : ∀ (n : Nat) (s : σ), I s → μ s < n → ∃ o, nloop body n s = some o ∧ Q o
  | 0, s, _, hn => by omega
  | n + 1, s, hi, hn => by
    rcases h s hi with ⟨s', hb, hi', hm⟩ | ⟨o, hb, hq⟩
    · simp only [nloop, hb, Option.bind_some]
      exact nloop_ex I μ Q h n s' hi' (by omega)
    · simp only [nloop, hb, Option.bind_some]
      exact ⟨o, rfl, hq⟩

/-- Bytes. -/
structure Bytes (b : List Int) : Prop where
  rng : ∀ x ∈ b, 0 ≤ x ∧ x ≤ 255
  len : b.length ≤ 2000

theorem rem_ok {a b : Int} (h : 1 ≤ b) (ha : 0 ≤ a) : ∃ v, rem a b = some v ∧ 0 ≤ v ∧ v < b := by
  refine ⟨a.tmod b, by simp [rem]; omega, ?_, ?_⟩
  · exact Int.tmod_nonneg _ ha
  · exact Int.tmod_lt_of_pos _ (by omega)

theorem idx_ok {b : List Int} {i : Int} (h0 : 0 ≤ i) (h1 : i < b.length) : ∃ v, idx b i = some v ∧ v ∈ b := by
  have : i.toNat < b.length := by omega
  exact ⟨b[i.toNat], by simp [idx, h0, this], List.getElem_mem _⟩

theorem quo_ok {a b : Int} (h : 1 ≤ b) (ha : 0 ≤ a) (hm : a ≤ 9223372036854775807) : ∃ v, quo .i64 a b = some v ∧ 0 ≤ v ∧ v ≤ a := by
  have h1 : 0 ≤ a.tdiv b := Int.tdiv_nonneg ha (by omega)
  have h2 : a.tdiv b ≤ a := Int.tdiv_le_self _ ha
  refine ⟨a.tdiv b, ?_, h1, h2⟩
  simp only [quo]
  rw [if_neg (by omega), wrap64 (by omega) (by omega)]

theorem ixor_ok {a b : Int} (ha : 0 ≤ a) (ha2 : a < 9223372036854775808) (hb : 0 ≤ b) (hb2 : b < 9223372036854775808) : 0 ≤ ixor .i64 a b := by
  have e : (BitVec.ofInt 64 a ^^^ BitVec.ofInt 64 b).toNat < 9223372036854775808 := by
    rw [BitVec.toNat_xor]
    have h1 : (BitVec.ofInt 64 a).toNat < 2 ^ 63 := by
      rw [BitVec.toNat_ofInt]; omega
    have h2 : (BitVec.ofInt 64 b).toNat < 2 ^ 63 := by
      rw [BitVec.toNat_ofInt]; omega
    exact Nat.xor_lt_two_pow h1 h2
  unfold ixor
  have : IntKind.bits .i64 = 64 := rfl
  show 0 ≤ IntKind.wrap .i64 ((BitVec.ofInt 64 a ^^^ BitVec.ofInt 64 b).toNat : Int)
  rw [wrap64 (by omega) (by omega)]
  omega

theorem mixw {x1 x2 p q : Int} (h1 : 0 ≤ x1 ∧ x1 ≤ 255) (h2 : 0 ≤ x2 ∧ x2 ≤ 255) (hp : 0 ≤ p) (hp2 : p ≤ 1000000000) (qa : 0 ≤ q) (qb : q ≤ p) :
    IntKind.wrap .i64 (IntKind.wrap .i64 (IntKind.wrap .i64 (IntKind.wrap .i64 (IntKind.wrap .i64 x1 * 131) + IntKind.wrap .i64 (IntKind.wrap .i64 x2 * 1117)) + IntKind.wrap .i64 (p * 29)) + IntKind.wrap .i64 (q * 53)) = x1 * 131 + x2 * 1117 + p * 29 + q * 53 := by
  rw [wrap64 (x := x1) (by omega) (by omega), wrap64 (x := x1 * 131) (by omega) (by omega), wrap64 (x := x2) (by omega) (by omega), wrap64 (x := x2 * 1117) (by omega) (by omega),
      wrap64 (x := x1 * 131 + x2 * 1117) (by omega) (by omega), wrap64 (x := p * 29) (by omega) (by omega), wrap64 (x := x1 * 131 + x2 * 1117 + p * 29) (by omega) (by omega), wrap64 (x := q * 53) (by omega) (by omega),
      wrap64 (x := x1 * 131 + x2 * 1117 + p * 29 + q * 53) (by omega) (by omega)]
theorem mixb {x1 x2 p q : Int} (h1 : 0 ≤ x1 ∧ x1 ≤ 255) (h2 : 0 ≤ x2 ∧ x2 ≤ 255) (hp : 0 ≤ p) (hp2 : p ≤ 1000000000) (qa : 0 ≤ q) (qb : q ≤ p) :
    0 ≤ x1 * 131 + x2 * 1117 + p * 29 + q * 53 ∧ x1 * 131 + x2 * 1117 + p * 29 + q * 53 ≤ 1000000000000 := by omega

theorem bindO {α β : Type} {o : Option α} {a : α} {f : α → Option β} {K : β → Prop} (h : o = some a) (hk : ∃ r, f a = some r ∧ K r) : ∃ r, o.bind f = some r ∧ K r := by
  subst h; exact hk

theorem pick_far {b : List Int} (hb : Bytes b) {n : Int} (hn : 1 ≤ n) {p : Int} (hp : 0 ≤ p) (hp2 : p ≤ 1000000000) (h3 : ((b.length : Nat) : Int) ≤ p) (hl : 1 ≤ b.length) (K : Int × Int → Prop) (hK : ∀ v, 0 ≤ v → v < n → K (v, p + 1)) :
    ∃ r, ((rem p ((b.length : Nat) : Int)).bind fun (v171 : Int) => (idx b v171).bind fun (v172 : Int) => (rem (IntKind.wrap .i64 ((IntKind.wrap .i64 (p * 7)) + 3)) ((b.length : Nat) : Int)).bind fun (v178 : Int) => (idx b v178).bind fun (v179 : Int) => (quo .i64 p ((b.length : Nat) : Int)).bind fun (v186 : Int) => (quo .i64 (IntKind.wrap .i64 ((IntKind.wrap .i64 ((IntKind.wrap .i64 ((IntKind.wrap .i64 ((IntKind.wrap .i64 v172) * 131)) + (IntKind.wrap .i64 ((IntKind.wrap .i64 v179) * 1117)))) + (IntKind.wrap .i64 (p * 29)))) + (IntKind.wrap .i64 (v186 * 53)))) 64).bind fun (v189 : Int) =>
      (rem (ixor .i64 (IntKind.wrap .i64 ((IntKind.wrap .i64 ((IntKind.wrap .i64 ((IntKind.wrap .i64 ((IntKind.wrap .i64 v172) * 131)) + (IntKind.wrap .i64 ((IntKind.wrap .i64 v179) * 1117)))) + (IntKind.wrap .i64 (p * 29)))) + (IntKind.wrap .i64 (v186 * 53)))) v189) n).bind fun (v191 : Int) => some (v191, p + 1)) = some r ∧ K r := by
  obtain ⟨i1, e1, i1a, i1b⟩ := rem_ok (a := p) (b := b.length) (by omega) hp
  refine bindO e1 ?_
  obtain ⟨x1, ex1, hm1⟩ := idx_ok i1a i1b
  have hr1 := hb.rng x1 hm1
  refine bindO ex1 ?_
  obtain ⟨i2, e3, i2a, i2b⟩ := rem_ok (a := p * 7 + 3) (b := b.length) (by omega) (by omega)
  have e3' : rem (IntKind.wrap .i64 ((IntKind.wrap .i64 (p * 7)) + 3)) ((b.length : Nat) : Int) = some i2 := by
    rw [wrap64 (x := p * 7) (by omega) (by omega), wrap64 (x := p * 7 + 3) (by omega) (by omega)]; exact e3
  refine bindO e3' ?_
  obtain ⟨x2, ex2, hm2⟩ := idx_ok i2a i2b
  have hr2 := hb.rng x2 hm2
  refine bindO ex2 ?_
  obtain ⟨q, eq, qa, qb⟩ := quo_ok (a := p) (b := b.length) (by omega) hp (by omega)
  refine bindO eq ?_
  rw [mixw hr1 hr2 hp hp2 qa qb]
  obtain ⟨hX0, hX1⟩ := mixb hr1 hr2 hp hp2 qa qb
  generalize x1 * 131 + x2 * 1117 + p * 29 + q * 53 = X at hX0 hX1 ⊢
  obtain ⟨y, ey, ya, yb⟩ := quo_ok (a := X) (b := 64) (by omega) hX0 (by omega)
  refine bindO ey ?_
  obtain ⟨v, hv, h4, h5⟩ := rem_ok (b := n) (by omega) (ixor_ok hX0 (by omega) ya (by omega))
  refine bindO hv ?_
  exact ⟨_, rfl, hK v h4 h5⟩

theorem pick_ok {b : List Int} (hb : Bytes b) (n : Int) (hn : n ≤ 1000000) {p : Int} (hp : 0 ≤ p) (hp2 : p ≤ 1000000000) :
    ∃ v, spec_l20Rd_pick n b p = some (v, p + 1) ∧ 0 ≤ v ∧ (1 ≤ n → v < n) ∧ (n < 1 → v = 0) := by
  suffices H : ∃ r, spec_l20Rd_pick n b p = some r ∧ (r.2 = p + 1 ∧ 0 ≤ r.1 ∧ (1 ≤ n → r.1 < n) ∧ (n < 1 → r.1 = 0)) by
    obtain ⟨⟨v, q⟩, h1, h2, h3⟩ := H
    simp only at h2
    subst h2
    exact ⟨v, h1, h3⟩
  unfold spec_l20Rd_pick spec_l20Rd_pick_n1
  have hlen := hb.len
  rw [wrap64 (x := p + 1) (by omega) (by omega), show p + 1 - 1 = p by omega, wrap64 (x := p) (by omega) (by omega)]
  by_cases h1 : n < 1
  · rw [decide_eq_true h1]
    exact ⟨_, rfl, rfl, Int.le_refl _, fun h => by omega, fun _ => rfl⟩
  rw [decide_eq_false h1]
  by_cases h2 : b.length = 0
  · have e0 : ((((b.length : Nat) : Int)) == 0) = true := by simp; exact List.eq_nil_of_length_eq_zero h2
    rw [e0]
    exact ⟨_, rfl, rfl, Int.le_refl _, fun h => by show (0 : Int) < n; omega, fun _ => rfl⟩
  have e2 : ((((b.length : Nat) : Int)) == 0) = false := by simp; intro e; subst e; simp at h2
  rw [e2]
  by_cases h3 : p < ((b.length : Nat) : Int)
  · rw [decide_eq_true h3]
    obtain ⟨x, hx, hm⟩ := idx_ok hp h3
    have hr := hb.rng x hm
    simp only [cond_true, cond_false]
    refine bindO hx ?_
    obtain ⟨v, hv, h4, h5⟩ := rem_ok (b := n) (by omega) hr.1
    refine bindO (a := v) (by rw [wrap64 (x := x) (by omega) (by omega)]; exact hv) ?_
    exact ⟨_, rfl, rfl, h4, fun _ => h5, fun h => by omega⟩
  · rw [decide_eq_false h3]
    simp only [cond_false]
    exact pick_far hb (by omega) hp hp2 (by omega) (by omega) _ (fun v h4 h5 => ⟨rfl, h4, fun _ => h5, fun h => by omega⟩)

theorem odd_ok {b : List Int} (hb : Bytes b) (n : Int) (hn : n ≤ 1000000) {p : Int} (hp : 0 ≤ p) (hp2 : p ≤ 1000000000) :
    ∃ (v : Bool) (q : Int), spec_l20Rd_odd n b p = some (v, q) ∧ p ≤ q ∧ q ≤ p + 1 := by
  unfold spec_l20Rd_odd spec_l20Rd_odd_n1
  by_cases h : n > 0
  · obtain ⟨v, hv, _⟩ := pick_ok hb n hn hp hp2
    rw [decide_eq_true h, hv]
    exact ⟨_, _, rfl, by show p ≤ p + 1; omega, by show p + 1 ≤ p + 1; omega⟩
  · rw [decide_eq_false h]
    exact ⟨_, _, rfl, by omega, by omega⟩

theorem open_ok (x : List Int) (w : ∀ n ∈ x, (Lit.int .u8 n).wf = true) (l : x.length ≤ maxLen) : ∃ b, spec_l20Open x = some b ∧ Bytes b := by
  have hr : ∀ n ∈ x, 0 ≤ n ∧ n ≤ 255 := fun n hn => by
    have := w n hn
    simp only [Lit.wf, Bool.and_eq_true, decide_eq_true_eq] at this
    have e1 : IntKind.u8.min = 0 := rfl
    have e2 : IntKind.u8.max = 255 := rfl
    omega
  unfold spec_l20Open spec_l20Open_n1
  by_cases h : ((x.length : Nat) : Int) > 2000
  · rw [decide_eq_true h]
    have : inc 2000 x.length = some 2000 := by simp only [inc]; rw [if_pos (by omega)]; rfl
    rw [this]
    exact ⟨_, rfl, ⟨fun n hn => hr n (List.mem_of_mem_take (List.mem_of_mem_drop hn)), by simp; omega⟩⟩
  · rw [decide_eq_false h]
    exact ⟨x, rfl, ⟨hr, by omega⟩⟩

theorem inc_ok {i : Int} {n : Nat} (h0 : 0 ≤ i) (h1 : i ≤ n) : inc i n = some i.toNat := by simp only [inc]; rw [if_pos ⟨h0, h1⟩]
theorem inb_ok {i : Int} {n : Nat} (h0 : 0 ≤ i) (h1 : i < n) : inb i n = some i.toNat := by simp only [inb]; rw [if_pos ⟨h0, h1⟩]

/-- A number put into a row. -/
theorem ins_step {o : List Int} {i : Nat} {x : Int} (hi : i ≤ o.length) (hl : o.length ≤ 1000) :
    (room ((List.length ([] : List Int)) + List.length ((o.drop 0).take (i - 0)))) = some () ∧ room ((List.length (([] : List Int) ++ ((o.drop 0).take (i - 0)))) + List.length ([x])) = some () ∧
    room ((List.length ((([] : List Int) ++ ((o.drop 0).take (i - 0))) ++ ([x]))) + List.length ((o.drop i).take ((List.length o) - i))) = some () ∧
    (((([] : List Int) ++ ((o.drop 0).take (i - 0))) ++ ([x])) ++ ((o.drop i).take ((List.length o) - i))) = o.take i ++ [x] ++ o.drop i := by
  refine ⟨by rw [room_le]; simp; omega, by rw [room_le]; simp; omega, by rw [room_le]; simp; omega, ?_⟩
  simp only [List.nil_append, List.drop_zero, Nat.sub_zero]
  rw [List.take_of_length_le (l := o.drop i) (by simp)]

theorem order_ok {b : List Int} (hb : Bytes b) (n : Nat) (hn : n ≤ 20) {p : Int} (hp : 0 ≤ p) (hp2 : p ≤ 999999000) :
    ∃ (q : Int) (o : List Int), spec_l20Order n b p = some (q, o) ∧ p ≤ q ∧ q ≤ p + 100 ∧ o.length = n ∧ ∀ x ∈ o, 1 ≤ x ∧ x ≤ (n : Int) := by
  unfold spec_l20Order spec_l20Order_n9 spec_l20Order_n1
  obtain ⟨keep, hk, _⟩ := pick_ok hb 2 (by omega) hp (by omega)
  rw [hk]
  simp only [Option.bind_some]
  unfold spec_l20Order_n8 spec_l20Order_n6 spec_l20Order_n2 spec_l20Order_n5 spec_l20Order_n4
  obtain ⟨⟨q, o⟩, h1, h2, h3, h4, h5⟩ := nloop_ex (body := fun (s : Int × Int × List Int) => ((spec_l20Order_n3 n keep s.1 b s.2.1 s.2.2).map (Sum.elim (fun (t : Int × Int × List Int) => Sum.inl (t.1, t.2.1, t.2.2)) (fun (t : Int × List Int) => Sum.inr t)) : Option ((Int × Int × List Int) ⊕ ((Int × List Int)))))
    (I := fun s => ∃ (k : Nat) (q : Int) (o : List Int), s = (((k + 1 : Nat) : Int), q, o) ∧ k ≤ n ∧ p ≤ q ∧ q ≤ p + 1 + 2 * k ∧ o.length = k ∧ ∀ x ∈ o, 1 ≤ x ∧ x ≤ (k : Int)) (μ := fun s => n + 1 - s.1.toNat)
    (Q := fun t => p ≤ t.1 ∧ t.1 ≤ p + 100 ∧ t.2.length = n ∧ ∀ x ∈ t.2, 1 ≤ x ∧ x ≤ (n : Int))
    (by
      rintro _ ⟨k, q, o, rfl, hk, hq1, hq2, ho, hx⟩
      simp only [spec_l20Order_n3]
      by_cases hlt : k < n
      · left
        rw [show decide (((k + 1 : Nat) : Int) ≤ (n : Int)) = true from decide_eq_true (by omega), wrap64 (x := ((k + 1 : Nat) : Int) + 1) (by omega) (by omega)]
        have fin : ∀ (i : Nat) (q' : Int), i ≤ o.length → p ≤ q' → q' ≤ q + 2 → (∃ k_1 q_1 o_1, ((((k + 1 : Nat) : Int) + 1, q', o.take i ++ [((k + 1 : Nat) : Int)] ++ o.drop i) : Int × Int × List Int) = (((k_1 + 1 : Nat) : Int), q_1, o_1) ∧ k_1 ≤ n ∧ p ≤ q_1 ∧ q_1 ≤ p + 1 + 2 * (k_1 : Int) ∧ o_1.length = k_1 ∧ ∀ x ∈ o_1, 1 ≤ x ∧ x ≤ (k_1 : Int)) ∧
            n + 1 - (((k + 1 : Nat) : Int) + 1).toNat < n + 1 - (((k + 1 : Nat) : Int)).toNat := fun i q' hi hq3 hq4 => by
          refine ⟨⟨k + 1, q', _, by push_cast; rfl, by omega, hq3, by push_cast; omega, by simp; omega, fun x hxm => ?_⟩, by omega⟩
          simp only [List.mem_append, List.mem_singleton] at hxm
          rcases hxm with (h | h) | h
          · have := hx x (List.mem_of_mem_take h); push_cast; omega
          · subst h; push_cast; omega
          · have := hx x (List.mem_of_mem_drop h); push_cast; omega
        have one : ∀ (v : Int), 0 ≤ v → v ≤ o.length → ∀ q' : Int, (inc v (List.length o)).bind (fun (v426 : Nat) => (room ((List.length ([] : List Int)) + List.length ((o.drop 0).take (v426 - 0)))).bind fun (v430 : Unit) => (room ((List.length (([] : List Int) ++ ((o.drop 0).take (v426 - 0)))) + List.length ([((k + 1 : Nat) : Int)]))).bind fun (v434 : Unit) => (inc v (List.length o)).bind fun (v437 : Nat) => (room ((List.length ((([] : List Int) ++ ((o.drop 0).take (v426 - 0))) ++ ([((k + 1 : Nat) : Int)]))) + List.length ((o.drop v437).take ((List.length o) - v437)))).bind fun (v441 : Unit) =>
            some (Sum.inl ((((k + 1 : Nat) : Int) + 1), q', (((([] : List Int) ++ ((o.drop 0).take (v426 - 0))) ++ ([((k + 1 : Nat) : Int)])) ++ ((o.drop v437).take ((List.length o) - v437)))))) = (some (Sum.inl ((((k + 1 : Nat) : Int) + 1), q', o.take v.toNat ++ [((k + 1 : Nat) : Int)] ++ o.drop v.toNat)) : Option ((Int × Int × List Int) ⊕ (Int × List Int))) := fun v hv0 hv1 q' => by
          obtain ⟨r1, r2, r3, r4⟩ := ins_step (o := o) (i := v.toNat) (x := ((k + 1 : Nat) : Int)) (by omega) (by omega)
          simp only [inc_ok hv0 hv1, Option.bind_some, r1, r2, r3, r4]
        obtain ⟨v1, hv1, a1, b1, _⟩ := pick_ok hb ((k + 1 : Nat) : Int) (by omega) (p := q) (by omega) (by omega)
        have b1' := b1 (by omega)
        obtain ⟨v3, hv3, a3, b3, _⟩ := pick_ok hb 3 (by omega) (p := q) (by omega) (by omega)
        obtain ⟨v2, hv2, a2, b2, _⟩ := pick_ok hb ((k + 1 : Nat) : Int) (by omega) (p := q + 1) (by omega) (by omega)
        have b2' := b2 (by omega)
        cases hkeep : (keep == 0) with
        | true =>
          simp only [cond_true, hv1, Option.bind_some]
          rw [one v1 a1 (by omega) (q + 1)]
          exact ⟨_, rfl, fin v1.toNat (q + 1) (by omega) (by omega) (by omega)⟩
        | false =>
          simp only [cond_true, cond_false, hv3, Option.bind_some]
          cases h3 : (v3 == 0) with
          | true =>
            simp only [cond_true, hv2, Option.bind_some]
            rw [one v2 a2 (by omega) (q + 1 + 1)]
            exact ⟨_, rfl, fin v2.toNat (q + 1 + 1) (by omega) (by omega) (by omega)⟩
          | false =>
            simp only [cond_false]
            rw [one ((o.length : Nat) : Int) (by omega) (by omega) (q + 1)]
            exact ⟨_, rfl, fin (((o.length : Nat) : Int)).toNat (q + 1) (by omega) (by omega) (by omega)⟩
      · right
        have e : k = n := by omega
        subst e
        rw [show decide (((k + 1 : Nat) : Int) ≤ (k : Int)) = false from decide_eq_false (by omega)]
        exact ⟨_, rfl, hq1, by show q ≤ p + 100; omega, ho, hx⟩) LL (1, p + 1, []) ⟨0, p + 1, [], rfl, by omega, by omega, by omega, rfl, by simp⟩ (by simp only [LL]; omega)
  rw [h1]
  exact ⟨q, o, rfl, h2, h3, h4, h5⟩

def bytesN (mv : ByteArray) : List Nat := mv.data.toList.map fun b => b.toNat
theorem bytesN_length (mv : ByteArray) : (bytesN mv).length = mv.size := by rw [bytesN, List.length_map, Array.length_toList]; rfl

theorem toList_loop (b : ByteArray) : ∀ (n i : Nat) (r : List UInt8), i + n = b.size → ByteArray.toList.loop b i r = r.reverse ++ b.data.toList.drop i
  | 0, i, r, h => by
    have hs : b.size = b.data.toList.length := by rw [Array.length_toList]; rfl
    rw [ByteArray.toList.loop, if_neg (by omega), List.drop_eq_nil_of_le (by omega), List.append_nil]
  | n + 1, i, r, h => by
    have hs : b.size = b.data.toList.length := by rw [Array.length_toList]; rfl
    rw [ByteArray.toList.loop, if_pos (by omega), toList_loop b n (i + 1) _ (by omega), List.reverse_cons, List.append_assoc]
    have e : b.get! i = b.data.toList[i]'(by omega) := by
      have hi : i < b.data.size := by have : b.data.size = b.size := rfl; omega
      show b.data[i]! = _
      rw [getElem!_pos b.data i hi]
      rfl
    rw [e, List.drop_eq_getElem_cons (show i < b.data.toList.length by omega)]
    rfl
theorem toList_data (b : ByteArray) : b.toList = b.data.toList := by
  have := toList_loop b b.size 0 [] (by omega)
  unfold ByteArray.toList
  rw [this]
  rfl

theorem bytesN_inj {a b : ByteArray} (h : bytesN a = bytesN b) : a = b := by
  have h1 : a.data.toList = b.data.toList := by
    unfold bytesN at h
    refine List.map_inj_right (f := fun b : UInt8 => b.toNat) (fun x y e => UInt8.toNat_inj.mp e) |>.mp h
  exact ByteArray.ext (Array.toList_inj.mp h1)
theorem seqs_iff {a b : ByteArray} : seqs a b = true ↔ a = b := by
  unfold seqs
  rw [beq_iff_eq, toList_data, toList_data]
  exact ⟨fun h => ByteArray.ext (Array.toList_inj.mp h), fun h => by rw [h]⟩
theorem seqs_self (a : ByteArray) : seqs a a = true := seqs_iff.mpr rfl
theorem seqs_ne {a b : ByteArray} (h : a ≠ b) : seqs a b = false := by
  rw [Bool.eq_false_iff]
  exact fun x => h (seqs_iff.mp x)

theorem bytesN_app (a b : ByteArray) : bytesN (a ++ b) = bytesN a ++ bytesN b := by
  simp [bytesN, ByteArray.data_append]
theorem bytesN_extract (a : ByteArray) (i j : Nat) : bytesN (a.extract i j) = ((bytesN a).take j).drop i := by
  unfold bytesN
  rw [ByteArray.data_extract, Array.toList_extract, List.extract_eq_take_drop, List.map_take, List.map_drop, List.drop_take]
theorem bytesN_empty : bytesN ByteArray.empty = [] := rfl
theorem bytesN_lt {a : ByteArray} : ∀ x ∈ bytesN a, x < 256 := by
  intro x hx
  unfold bytesN at hx
  obtain ⟨b, _, rfl⟩ := List.mem_map.mp hx
  exact b.toNat_lt

theorem catT {a b : ByteArray} (h : a.size + b.size ≤ 1000000000) : cat a b = some (a ++ b) := by
  unfold cat
  rw [if_pos (by simp only [maxLen]; omega)]

/-- A text in pieces: what stands between bytes. -/
def cutL (sep : Nat) : List Nat → List Nat → List (List Nat)
  | acc, [] => [acc]
  | acc, x :: r => if x = sep then acc :: cutL sep [] r else cutL sep (acc ++ [x]) r

theorem cutL_plain {sep : Nat} : ∀ {l acc : List Nat}, sep ∉ l → cutL sep acc l = [acc ++ l]
  | [], acc, _ => by simp [cutL]
  | x :: l, acc, h => by
    have hx : x ≠ sep := fun e => h (by rw [e]; exact List.mem_cons_self ..)
    rw [cutL, if_neg hx, cutL_plain (fun m => h (List.mem_cons_of_mem _ m))]
    simp
theorem cutL_cut {sep : Nat} {r : List Nat} : ∀ {l acc : List Nat}, sep ∉ l → cutL sep acc (l ++ sep :: r) = (acc ++ l) :: cutL sep [] r
  | [], acc, _ => by simp [cutL]
  | x :: l, acc, h => by
    have hx : x ≠ sep := fun e => h (by rw [e]; exact List.mem_cons_self ..)
    rw [List.cons_append, cutL, if_neg hx, cutL_cut (fun m => h (List.mem_cons_of_mem _ m))]
    simp

/-- The text of a number. -/
noncomputable def numT (n : Nat) : ByteArray := (spec_l1Number (n : Int)).getD ByteArray.empty
/-- The number that digits tell. -/
def decB (l : List Nat) : Nat := l.foldl (fun a x => 10 * a + (x - 48)) 0
def numChk (n : Nat) : Bool := match spec_l1Number (n : Int) with
  | some t => decide (1 ≤ t.size) && decide (t.size ≤ 2) && (bytesN t).all (fun x => decide (48 ≤ x) && decide (x ≤ 57)) && (decB (bytesN t) == n)
  | none => false
theorem num_tab : ((List.range 100).all numChk) = true := by decide +kernel
theorem num_ok {n : Nat} (h : n < 100) : spec_l1Number (n : Int) = some (numT n) ∧ 1 ≤ (numT n).size ∧ (numT n).size ≤ 2 ∧ (∀ x ∈ bytesN (numT n), 48 ≤ x ∧ x ≤ 57) ∧ decB (bytesN (numT n)) = n := by
  have h1 := List.all_eq_true.mp num_tab n (List.mem_range.mpr h)
  unfold numChk at h1
  split at h1
  · rename_i t ht
    have e : numT n = t := by unfold numT; rw [ht]; rfl
    simp only [Bool.and_eq_true, decide_eq_true_eq, beq_iff_eq] at h1
    rw [e]
    refine ⟨ht, h1.1.1.1, h1.1.1.2, fun x hx => ?_, h1.2⟩
    have := List.all_eq_true.mp h1.1.2 x hx
    simpa using this
  · cases h1
/-- A deed that has a text. -/
def deedB (k a b : Int) : Bool :=
  (k == 0 && decide (0 ≤ a) && decide (a ≤ 99) && decide (0 ≤ b) && decide (b ≤ 99)) || (k == 1 && decide (0 ≤ a) && decide (a ≤ 99) && b == 0) || (decide (2 ≤ k) && decide (k ≤ 5) && a == 0 && b == 0)
/-- Its text. -/
noncomputable def deedT (k a b : Int) : ByteArray := (spec_DeedText k a b).getD ByteArray.empty

def headW : ByteArray := ByteArray.mk #[104, 101, 97, 100, 32]
def addW : ByteArray := ByteArray.mk #[97, 100, 100, 32]
def spaceW : ByteArray := ByteArray.mk #[32]
def wordW (k : Int) : ByteArray := if k = 2 then ByteArray.mk #[100, 114, 111, 112] else if k = 3 then ByteArray.mk #[116, 117, 114, 110] else if k = 4 then ByteArray.mk #[102, 108, 97, 116] else ByteArray.mk #[98, 97, 99, 107]

theorem deed_some (k a b : Int) : ∃ t, spec_DeedText k a b = some t ∧ (deedB k a b = false → t = ByteArray.empty) ∧
    (∀ n m : Nat, n < 100 → m < 100 → k = 0 → a = (n : Int) → b = (m : Int) → t = headW ++ numT n ++ spaceW ++ numT m) ∧
    (∀ n : Nat, n < 100 → k = 1 → a = (n : Int) → b = 0 → t = addW ++ numT n) ∧ (2 ≤ k → k ≤ 5 → a = 0 → b = 0 → t = wordW k) := by
  have e : spec_DeedText k a b = spec_DeedText_n12 k a b := by unfold spec_DeedText; rfl
  rw [e]
  unfold spec_DeedText_n12 spec_DeedText_n1 spec_DeedText_n11 spec_DeedText_n9 spec_DeedText_n8 spec_DeedText_n2
  simp only [Option.bind_some]
  by_cases k0 : k = 0
  · subst k0
    rw [l1In_eq, l1In_eq]
    by_cases r : (0 ≤ a ∧ a ≤ 99) ∧ (0 ≤ b ∧ b ≤ 99)
    · obtain ⟨n, rfl⟩ : ∃ n : Nat, a = (n : Int) := ⟨a.toNat, by omega⟩
      obtain ⟨m, rfl⟩ : ∃ m : Nat, b = (m : Int) := ⟨b.toNat, by omega⟩
      obtain ⟨n1, n2, n3, _⟩ := num_ok (n := n) (by omega)
      obtain ⟨m1, m2, m3, _⟩ := num_ok (n := m) (by omega)
      refine ⟨headW ++ numT n ++ spaceW ++ numT m, ?_, fun f => ?_, fun n' m' _ _ _ ea eb => ?_, fun _ _ h => by omega, fun h => by omega⟩
      · simp only [beq_self_eq_true, cond_true, Option.bind_some]
        rw [decide_eq_true r.1.1, decide_eq_true r.1.2, decide_eq_true r.2.1, decide_eq_true r.2.2]
        simp only [Bool.and_self, cond_true, Option.bind_some]
        unfold spec_DeedText_n7 spec_DeedText_n3
        have s1 : (headW ++ numT n).size ≤ 7 := by rw [ByteArray.size_append]; show 5 + _ ≤ 7; omega
        have s2 : (headW ++ numT n ++ spaceW).size ≤ 8 := by rw [ByteArray.size_append]; show _ + 1 ≤ 8; omega
        rw [n1, m1]
        simp only [Option.bind_some]
        rw [show cat (ByteArray.mk #[104, 101, 97, 100, 32]) (numT n) = some (headW ++ numT n) from catT (by show 5 + _ ≤ _; omega)]
        simp only [Option.bind_some]
        rw [show cat (headW ++ numT n) (ByteArray.mk #[32]) = some (headW ++ numT n ++ spaceW) from catT (by show _ + 1 ≤ _; omega)]
        simp only [Option.bind_some]
        rw [catT (by omega)]
        rfl
      · simp [deedB, r] at f
      · have h1 : n' = n := by omega
        have h2 : m' = m := by omega
        rw [h1, h2]
    · refine ⟨ByteArray.empty, ?_, fun _ => rfl, fun n' m' _ _ _ ea eb => absurd ⟨⟨by omega, by omega⟩, by omega, by omega⟩ r, fun _ _ h => by omega, fun h => by omega⟩
      simp only [beq_self_eq_true, cond_true, Option.bind_some]
      have f : (cond (decide (0 ≤ a) && decide (a ≤ 99)) (some (decide (0 ≤ b) && decide (b ≤ 99))) (some false)) = some false := by
        by_cases q : 0 ≤ a ∧ a ≤ 99
        · rw [decide_eq_true q.1, decide_eq_true q.2]
          simp only [Bool.and_self, cond_true]
          congr 1
          rw [Bool.eq_false_iff]
          intro x
          simp only [Bool.and_eq_true, decide_eq_true_eq] at x
          exact r ⟨q, x⟩
        · have : (decide (0 ≤ a) && decide (a ≤ 99)) = false := by
            rw [Bool.eq_false_iff]
            intro x
            simp only [Bool.and_eq_true, decide_eq_true_eq] at x
            exact q x
          rw [this]
          rfl
      rw [f]
      rfl
  · rw [beq_eq_false_iff_ne.mpr k0]
    simp only [cond_false, Option.bind_some]
    unfold spec_DeedText_n7 spec_DeedText_n6 spec_DeedText_n4
    simp only [cond_false]
    by_cases k1 : k = 1
    · subst k1
      rw [l1In_eq]
      by_cases r : (0 ≤ a ∧ a ≤ 99) ∧ b = 0
      · obtain ⟨n, rfl⟩ : ∃ n : Nat, a = (n : Int) := ⟨a.toNat, by omega⟩
        obtain ⟨n1, n2, n3, _⟩ := num_ok (n := n) (by omega)
        refine ⟨addW ++ numT n, ?_, fun f => ?_, fun _ _ _ _ h => by omega, fun n' _ _ ea _ => ?_, fun h => by omega⟩
        · simp only [beq_self_eq_true, cond_true, Option.bind_some]
          rw [decide_eq_true r.1.1, decide_eq_true r.1.2, r.2]
          simp only [Bool.and_self, cond_true, beq_self_eq_true, Option.bind_some]
          unfold spec_DeedText_n5
          simp only [cond_true]
          rw [n1]
          simp only [Option.bind_some]
          rw [show cat (ByteArray.mk #[97, 100, 100, 32]) (numT n) = some (addW ++ numT n) from catT (by show 4 + _ ≤ _; omega)]
          rfl
        · simp [deedB, r] at f
        · have h1 : n' = n := by omega
          rw [h1]
      · refine ⟨ByteArray.empty, ?_, fun _ => rfl, fun _ _ _ _ h => by omega, fun n' _ _ ea eb => absurd ⟨⟨by omega, by omega⟩, eb⟩ r, fun h => by omega⟩
        simp only [beq_self_eq_true, cond_true, Option.bind_some]
        have f : (cond (decide (0 ≤ a) && decide (a ≤ 99)) (some (b == 0)) (some false)) = some false := by
          by_cases q : 0 ≤ a ∧ a ≤ 99
          · rw [decide_eq_true q.1, decide_eq_true q.2]
            simp only [Bool.and_self, cond_true]
            congr 1
            rw [beq_eq_false_iff_ne]
            exact fun x => r ⟨q, x⟩
          · have : (decide (0 ≤ a) && decide (a ≤ 99)) = false := by
              rw [Bool.eq_false_iff]
              intro x
              simp only [Bool.and_eq_true, decide_eq_true_eq] at x
              exact q x
            rw [this]
            rfl
        rw [f]
        rfl
    · rw [beq_eq_false_iff_ne.mpr k1]
      simp only [cond_false, Option.bind_some]
      unfold spec_DeedText_n5
      simp only [cond_false, Bool.and_true]
      by_cases z : a = 0 ∧ b = 0
      · obtain ⟨rfl, rfl⟩ := z
        simp only [beq_self_eq_true, Bool.and_true]
        by_cases k2 : k = 2
        · subst k2
          exact ⟨_, rfl, fun f => by simp [deedB] at f, fun _ _ _ _ h => by omega, fun _ _ h => by omega, fun _ _ _ _ => rfl⟩
        · rw [beq_eq_false_iff_ne.mpr k2]
          by_cases k3 : k = 3
          · subst k3
            exact ⟨_, rfl, fun f => by simp [deedB] at f, fun _ _ _ _ h => by omega, fun _ _ h => by omega, fun _ _ _ _ => rfl⟩
          · rw [beq_eq_false_iff_ne.mpr k3]
            by_cases k4 : k = 4
            · subst k4
              exact ⟨_, rfl, fun f => by simp [deedB] at f, fun _ _ _ _ h => by omega, fun _ _ h => by omega, fun _ _ _ _ => rfl⟩
            · rw [beq_eq_false_iff_ne.mpr k4]
              by_cases k5 : k = 5
              · subst k5
                exact ⟨_, rfl, fun f => by simp [deedB] at f, fun _ _ _ _ h => by omega, fun _ _ h => by omega, fun _ _ _ _ => rfl⟩
              · rw [beq_eq_false_iff_ne.mpr k5]
                exact ⟨_, rfl, fun _ => rfl, fun _ _ _ _ h => by omega, fun _ _ h => by omega, fun _ _ _ _ => by omega⟩
      · have f : ((a == 0) && (b == 0)) = false := by
          rw [Bool.eq_false_iff]
          intro x
          simp only [Bool.and_eq_true, beq_iff_eq] at x
          exact z x
        rw [f]
        simp only [Bool.and_false]
        exact ⟨_, rfl, fun _ => rfl, fun _ _ _ _ h => by omega, fun _ _ h => by omega, fun _ _ ea eb => absurd ⟨ea, eb⟩ z⟩

theorem specDeed_eq (k a b : Int) : spec_DeedText k a b = some (deedT k a b) := by
  obtain ⟨t, h, _⟩ := deed_some k a b
  unfold deedT
  rw [h]
  rfl
theorem deedT_is {k a b : Int} {t : ByteArray} (h : spec_DeedText k a b = some t) : deedT k a b = t := by unfold deedT; rw [h]; rfl
theorem deed_none {k a b : Int} (h : deedB k a b = false) : deedT k a b = ByteArray.empty := by
  obtain ⟨t, h1, h2, _⟩ := deed_some k a b
  rw [deedT_is h1, h2 h]
theorem deed_head {n m : Nat} (hn : n < 100) (hm : m < 100) : deedT 0 (n : Int) (m : Int) = headW ++ numT n ++ spaceW ++ numT m := by
  obtain ⟨t, h1, _, h2, _⟩ := deed_some 0 (n : Int) (m : Int)
  rw [deedT_is h1, h2 n m hn hm rfl rfl rfl]
theorem deed_add {n : Nat} (hn : n < 100) : deedT 1 (n : Int) 0 = addW ++ numT n := by
  obtain ⟨t, h1, _, _, h2, _⟩ := deed_some 1 (n : Int) 0
  rw [deedT_is h1, h2 n hn rfl rfl rfl]
theorem deed_word {k : Int} (h2 : 2 ≤ k) (h5 : k ≤ 5) : deedT k 0 0 = wordW k := by
  obtain ⟨t, h1, _, _, _, h⟩ := deed_some k 0 0
  rw [deedT_is h1, h h2 h5 rfl rfl]

/-- The deeds that have a text, one kind after the other. -/
theorem deedB_cases {k a b : Int} (h : deedB k a b = true) : (∃ n m : Nat, n < 100 ∧ m < 100 ∧ k = 0 ∧ a = (n : Int) ∧ b = (m : Int)) ∨ (∃ n : Nat, n < 100 ∧ k = 1 ∧ a = (n : Int) ∧ b = 0) ∨ (2 ≤ k ∧ k ≤ 5 ∧ a = 0 ∧ b = 0) := by
  unfold deedB at h
  simp only [Bool.or_eq_true, Bool.and_eq_true, beq_iff_eq, decide_eq_true_eq] at h
  rcases h with (h | h) | h
  · exact .inl ⟨a.toNat, b.toNat, by omega, by omega, by omega, by omega, by omega⟩
  · exact .inr (.inl ⟨a.toNat, by omega, by omega, by omega, by omega⟩)
  · exact .inr (.inr ⟨h.1.1.1, h.1.1.2, h.1.2, h.2⟩)

theorem wordW_eq {k : Int} (h2 : 2 ≤ k) (h5 : k ≤ 5) : k = 2 ∨ k = 3 ∨ k = 4 ∨ k = 5 := by omega

/-- A text of a deed in pieces. -/
theorem no_space {n : Nat} (h : n < 100) : 32 ∉ bytesN (numT n) := fun m => by
  have := (num_ok h).2.2.2.1 32 m
  omega
theorem pieces_head {n m : Nat} (hn : n < 100) (hm : m < 100) : cutL 32 [] (bytesN (deedT 0 (n : Int) (m : Int))) = [[104, 101, 97, 100], bytesN (numT n), bytesN (numT m)] := by
  rw [deed_head hn hm, bytesN_app, bytesN_app, bytesN_app]
  have e : bytesN headW ++ bytesN (numT n) ++ bytesN spaceW ++ bytesN (numT m) = [104, 101, 97, 100] ++ 32 :: (bytesN (numT n) ++ 32 :: bytesN (numT m)) := by
    rw [show bytesN headW = [104, 101, 97, 100, 32] from rfl, show bytesN spaceW = [32] from rfl]
    simp
  rw [e, cutL_cut (by decide), cutL_cut (no_space hn), cutL_plain (no_space hm)]
  rfl
theorem pieces_add {n : Nat} (hn : n < 100) : cutL 32 [] (bytesN (deedT 1 (n : Int) 0)) = [[97, 100, 100], bytesN (numT n)] := by
  rw [deed_add hn, bytesN_app]
  have e : bytesN addW ++ bytesN (numT n) = [97, 100, 100] ++ 32 :: bytesN (numT n) := by
    rw [show bytesN addW = [97, 100, 100, 32] from rfl]
    simp
  rw [e, cutL_cut (by decide), cutL_plain (no_space hn)]
  rfl
theorem pieces_word {k : Int} (h2 : 2 ≤ k) (h5 : k ≤ 5) : cutL 32 [] (bytesN (deedT k 0 0)) = [bytesN (wordW k)] := by
  rw [deed_word h2 h5]
  rcases wordW_eq h2 h5 with rfl | rfl | rfl | rfl <;> exact cutL_plain (by decide)

theorem numT_inj {n m : Nat} (hn : n < 100) (hm : m < 100) (h : bytesN (numT n) = bytesN (numT m)) : n = m := by
  have a := (num_ok hn).2.2.2.2
  rw [h, (num_ok hm).2.2.2.2] at a
  exact a.symm
theorem deed_inj {k a b k' a' b' : Int} (h : deedB k a b = true) (h' : deedB k' a' b' = true) (e : deedT k a b = deedT k' a' b') : k = k' ∧ a = a' ∧ b = b' := by
  rcases deedB_cases h with ⟨n, m, hn, hm, rfl, rfl, rfl⟩ | ⟨n, hn, rfl, rfl, rfl⟩ | ⟨h2, h5, rfl, rfl⟩ <;>
    rcases deedB_cases h' with ⟨n', m', hn', hm', rfl, rfl, rfl⟩ | ⟨n', hn', rfl, rfl, rfl⟩ | ⟨h2', h5', rfl, rfl⟩
  · have c := congrArg (fun t => cutL 32 [] (bytesN t)) e
    simp only [pieces_head hn hm, pieces_head hn' hm', List.cons.injEq] at c
    have x := numT_inj hn hn' c.2.1
    have y := numT_inj hm hm' c.2.2.1
    exact ⟨rfl, by omega, by omega⟩
  · have c := congrArg (fun t => (cutL 32 [] (bytesN t)).length) e
    simp only [pieces_head hn hm, pieces_add hn'] at c
    simp at c
  · have c := congrArg (fun t => (cutL 32 [] (bytesN t)).length) e
    simp only [pieces_head hn hm, pieces_word h2' h5'] at c
    simp at c
  · have c := congrArg (fun t => (cutL 32 [] (bytesN t)).length) e
    simp only [pieces_head hn' hm', pieces_add hn] at c
    simp at c
  · have c := congrArg (fun t => cutL 32 [] (bytesN t)) e
    simp only [pieces_add hn, pieces_add hn', List.cons.injEq] at c
    have x := numT_inj hn hn' c.2.1
    exact ⟨rfl, by omega, rfl⟩
  · have c := congrArg (fun t => (cutL 32 [] (bytesN t)).length) e
    simp only [pieces_add hn, pieces_word h2' h5'] at c
    simp at c
  · have c := congrArg (fun t => (cutL 32 [] (bytesN t)).length) e
    simp only [pieces_head hn' hm', pieces_word h2 h5] at c
    simp at c
  · have c := congrArg (fun t => (cutL 32 [] (bytesN t)).length) e
    simp only [pieces_add hn', pieces_word h2 h5] at c
    simp at c
  · rw [deed_word h2 h5, deed_word h2' h5'] at e
    have c := congrArg bytesN e
    rcases wordW_eq h2 h5 with rfl | rfl | rfl | rfl <;> rcases wordW_eq h2' h5' with rfl | rfl | rfl | rfl <;> first | exact ⟨rfl, rfl, rfl⟩ | exact absurd c (by decide)

theorem deed_size {k a b : Int} (h : deedB k a b = true) : 1 ≤ (deedT k a b).size ∧ (deedT k a b).size ≤ 10 := by
  rcases deedB_cases h with ⟨n, m, hn, hm, rfl, rfl, rfl⟩ | ⟨n, hn, rfl, rfl, rfl⟩ | ⟨h2, h5, rfl, rfl⟩
  · have x := num_ok hn
    have y := num_ok hm
    rw [deed_head hn hm, ByteArray.size_append, ByteArray.size_append, ByteArray.size_append, show headW.size = 5 from rfl, show spaceW.size = 1 from rfl]
    omega
  · have x := num_ok hn
    rw [deed_add hn, ByteArray.size_append, show addW.size = 4 from rfl]
    omega
  · rw [deed_word h2 h5]
    rcases wordW_eq h2 h5 with rfl | rfl | rfl | rfl <;> exact ⟨by decide, by decide⟩
theorem deed_ne {k a b : Int} (h : deedB k a b = true) : deedT k a b ≠ ByteArray.empty := fun e => by
  have := (deed_size h).1
  rw [e] at this
  exact absurd this (by decide)
abbrev DeedL := Int × Int × Int × Unit

/-- What a text reads as: the deed whose text it is. -/
noncomputable def readI (s : ByteArray) : Bool × Int × Int × Int := open Classical in
  if h : ∃ d : Int × Int × Int, deedB d.1 d.2.1 d.2.2 = true ∧ deedT d.1 d.2.1 d.2.2 = s then (true, h.choose.1, h.choose.2.1, h.choose.2.2) else (false, 0, 0, 0)

theorem read_deed {k a b : Int} (h : deedB k a b = true) : readI (deedT k a b) = (true, k, a, b) := by
  have hx : ∃ d : Int × Int × Int, deedB d.1 d.2.1 d.2.2 = true ∧ deedT d.1 d.2.1 d.2.2 = deedT k a b := ⟨(k, a, b), h, rfl⟩
  unfold readI
  rw [dif_pos hx]
  obtain ⟨e1, e2, e3⟩ := deed_inj hx.choose_spec.1 h hx.choose_spec.2
  rw [e1, e2, e3]
theorem read_none {s : ByteArray} (h : ∀ k a b : Int, deedB k a b = true → deedT k a b ≠ s) : readI s = (false, 0, 0, 0) := by
  unfold readI
  rw [dif_neg]
  rintro ⟨⟨k, a, b⟩, h1, h2⟩
  exact h k a b h1 h2
def nlW : ByteArray := ByteArray.mk #[10]
noncomputable def textD (d : DeedL) : ByteArray := deedT d.1 d.2.1 d.2.2.1
def validD (d : DeedL) : Bool := deedB d.1 d.2.1 d.2.2.1
/-- The lines of deeds, one after the other. -/
noncomputable def journL : List DeedL → ByteArray
  | [] => ByteArray.empty
  | d :: r => textD d ++ nlW ++ journL r
noncomputable def journT (l : List DeedL) : ByteArray := if l.all validD = true then journL l else ByteArray.empty

theorem journL_size : ∀ {l : List DeedL}, l.all validD = true → (journL l).size ≤ 11 * l.length
  | [], _ => Nat.zero_le _
  | d :: l, h => by
    rw [List.all_cons, Bool.and_eq_true] at h
    have := journL_size h.2
    have h1 := deed_size (k := d.1) (a := d.2.1) (b := d.2.2.1) h.1
    rw [journL, ByteArray.size_append, ByteArray.size_append, List.length_cons, show nlW.size = 1 from rfl]
    unfold textD
    omega

abbrev jtBody (l : List DeedL) : ByteArray × Int → Option ((ByteArray × Int) ⊕ (ByteArray ⊕ ByteArray)) :=
  fun (s : ByteArray × Int) => ((spec_JournalText_n3 l s.1 s.2).map (Sum.elim (fun (t : ByteArray × Int) => Sum.inl (t.1, t.2)) (Sum.elim (fun (t : ByteArray) => Sum.inr (Sum.inl t)) (fun (t : ByteArray) => Sum.inr (Sum.inr t)))) : Option ((ByteArray × Int) ⊕ (ByteArray ⊕ ByteArray)))

theorem jt_loop (l : List DeedL) (hl : l.length ≤ 2000000) : ∀ (r k N : Nat) (out : ByteArray), k + r = l.length → r < N → out.size ≤ 11 * k →
    nloop (jtBody l) N (out, (k : Int)) = some (if (l.drop k).all validD = true then .inr (out ++ journL (l.drop k)) else .inl ByteArray.empty)
  | r, k, 0, out, _, h, _ => by omega
  | 0, k, N + 1, out, hk, _, _ => by
    have e : k = l.length := by omega
    subst e
    rw [nloop]
    simp only [jtBody, spec_JournalText_n3]
    rw [decide_eq_false (show ¬ ((l.length : Nat) : Int) < ((l.length : Nat) : Int) by omega), List.drop_length]
    simp only [cond_false, Option.map_some, Sum.elim_inr, Option.bind_some, List.all_nil, if_true, journL]
    rw [ByteArray.append_empty]
  | r + 1, k, N + 1, out, hk, hN, ho => by
    have hkl : k < l.length := by omega
    have g : idx l (k : Int) = some l[k] := by unfold idx; rw [if_pos (by omega), Int.toNat_natCast, List.getElem?_eq_getElem hkl]
    have w : IntKind.wrap .i64 ((k : Int) + 1) = ((k + 1 : Nat) : Int) := by rw [wrap64 (by omega) (by omega)]; omega
    have dr : l.drop k = l[k] :: l.drop (k + 1) := List.drop_eq_getElem_cons hkl
    rw [nloop, dr, List.all_cons]
    cases v : validD l[k] with
    | false =>
      have e : deedT l[k].1 l[k].2.1 l[k].2.2.1 = ByteArray.empty := deed_none v
      simp only [jtBody, spec_JournalText_n3]
      rw [decide_eq_true (show (k : Int) < ((l.length : Nat) : Int) by omega), g]
      simp only [cond_true, Option.bind_some, specDeed_eq, e, seqs_self]
      rfl
    | true =>
      have hs := deed_size (k := l[k].1) (a := l[k].2.1) (b := l[k].2.2.1) v
      have ne := deed_ne (k := l[k].1) (a := l[k].2.1) (b := l[k].2.2.1) v
      have s1 : (out ++ textD l[k]).size ≤ 11 * k + 10 := by rw [ByteArray.size_append]; unfold textD; omega
      have st : jtBody l (out, (k : Int)) = some (.inl (out ++ textD l[k] ++ nlW, ((k + 1 : Nat) : Int))) := by
        simp only [jtBody, spec_JournalText_n3]
        rw [decide_eq_true (show (k : Int) < ((l.length : Nat) : Int) by omega), g, w]
        simp only [cond_true, Option.bind_some, specDeed_eq]
        rw [seqs_ne ne]
        simp only [cond_false]
        rw [catT (by omega)]
        simp only [Option.bind_some]
        rw [show cat (out ++ deedT l[k].1 l[k].2.1 l[k].2.2.1) (ByteArray.mk #[10]) = some (out ++ textD l[k] ++ nlW) from catT (by
          have : (out ++ deedT l[k].1 l[k].2.1 l[k].2.2.1).size ≤ 11 * k + 10 := s1
          show _ + 1 ≤ _
          omega)]
        rfl
      rw [st]
      simp only [Option.bind_some, Bool.true_and]
      rw [jt_loop l hl r (k + 1) N _ (by omega) (by omega) (by rw [ByteArray.size_append, show nlW.size = 1 from rfl]; omega), journL, ← ByteArray.append_assoc, ← ByteArray.append_assoc]

theorem specJournal_eq (l : List DeedL) (hl : l.length ≤ 2000000) : spec_JournalText l = some (journT l) := by
  have e : spec_JournalText l = spec_JournalText_n9 l := by unfold spec_JournalText; rfl
  rw [e]
  unfold spec_JournalText_n9 spec_JournalText_n1 spec_JournalText_n8 spec_JournalText_n6 spec_JournalText_n2 spec_JournalText_n5 spec_JournalText_n4 spec_JournalText_n7
  have q := jt_loop l hl l.length 0 LL ByteArray.empty (by omega) (by simp only [LL]; omega) (Nat.zero_le _)
  have q' : nloop (jtBody l) LL (ByteArray.empty, 0) = _ := q
  simp only [Option.bind_some]
  rw [show (nloop _ LL (ByteArray.empty, (0 : Int)) : Option (ByteArray ⊕ ByteArray)) = _ from q', List.drop_zero, ByteArray.empty_append]
  unfold journT
  cases l.all validD <;> rfl

/-- The text of bytes. -/
def toB (l : List Nat) : ByteArray := ByteArray.mk (l.map Nat.toUInt8).toArray
theorem toB_bytes (a : ByteArray) : toB (bytesN a) = a := by
  refine ByteArray.ext (Array.toList_inj.mp ?_)
  unfold toB bytesN
  simp only [List.map_map]
  have : (Nat.toUInt8 ∘ fun b : UInt8 => b.toNat) = id := by
    funext b
    exact UInt8.ofNat_toNat
  rw [this, List.map_id]

/-- What lines tell: deeds, and how many bytes their lines have; acc is what was met of a line. -/
noncomputable def scanJ : List Nat → List Nat → List DeedL × Nat
  | _, [] => ([], 0)
  | acc, x :: r => if x = 10 then (if (readI (toB acc)).1 = true then (((readI (toB acc)).2.1, (readI (toB acc)).2.2.1, (readI (toB acc)).2.2.2, ()) :: (scanJ [] r).1, acc.length + 1 + (scanJ [] r).2) else ([], 0)) else scanJ (acc ++ [x]) r

/-- What a text tells of a journal. -/
noncomputable def readJ (s : ByteArray) : List DeedL × Nat := scanJ [] (bytesN s)

theorem textD_bytes {d : DeedL} (h : validD d = true) : 10 ∉ bytesN (textD d) := by
  have num : ∀ n, n < 100 → 10 ∉ bytesN (numT n) := fun n hn m => by
    have := (num_ok hn).2.2.2.1 10 m
    omega
  obtain ⟨k, a, b, _⟩ := d
  unfold textD
  simp only
  rcases deedB_cases h with ⟨n, m, hn, hm, e1, e2, e3⟩ | ⟨n, hn, e1, e2, e3⟩ | ⟨h2, h5, e1, e2⟩
  · simp only at e1 e2 e3
    rw [e1, e2, e3, deed_head hn hm, bytesN_app, bytesN_app, bytesN_app, List.mem_append, List.mem_append, List.mem_append]
    rintro (((x | x) | x) | x)
    · exact absurd x (by decide)
    · exact num n hn x
    · exact absurd x (by decide)
    · exact num m hm x
  · simp only at e1 e2 e3
    rw [e1, e2, e3, deed_add hn, bytesN_app, List.mem_append]
    rintro (x | x)
    · exact absurd x (by decide)
    · exact num n hn x
  · simp only at h2 h5 e1 e2
    rw [e1, e2, deed_word h2 h5]
    rcases wordW_eq h2 h5 with e | e | e | e <;> rw [e] <;> decide

theorem scan_line : ∀ (l acc r : List Nat), 10 ∉ l → scanJ acc (l ++ 10 :: r) = scanJ (acc ++ l) (10 :: r)
  | [], acc, r, _ => by simp
  | x :: l, acc, r, h => by
    have hx : x ≠ 10 := fun e => h (by rw [e]; exact List.mem_cons_self ..)
    rw [List.cons_append, scanJ, if_neg hx, scan_line l _ r (fun m => h (List.mem_cons_of_mem _ m)), List.append_assoc, List.singleton_append]

theorem scan_deed {d : DeedL} (h : validD d = true) (r : List Nat) : scanJ [] (bytesN (textD d) ++ 10 :: r) = (d :: (scanJ [] r).1, (textD d).size + 1 + (scanJ [] r).2) := by
  rw [scan_line _ _ _ (textD_bytes h), List.nil_append, scanJ, if_pos rfl, toB_bytes]
  have : readI (textD d) = (true, d.1, d.2.1, d.2.2.1) := read_deed h
  rw [this, if_pos rfl, bytesN_length]

/-- A journal that was written is read. -/
theorem read_written : ∀ {l : List DeedL}, l.all validD = true → scanJ [] (bytesN (journL l)) = (l, (journL l).size)
  | [], _ => rfl
  | d :: l, h => by
    rw [List.all_cons, Bool.and_eq_true] at h
    have e : bytesN (journL (d :: l)) = bytesN (textD d) ++ 10 :: bytesN (journL l) := by
      rw [journL, bytesN_app, bytesN_app, show bytesN nlW = [10] from rfl]
      simp
    rw [e, scan_deed h.1, read_written h.2, journL, ByteArray.size_append, ByteArray.size_append, show nlW.size = 1 from rfl]

theorem readJ_written {l : List DeedL} (h : l.all validD = true) : readJ (journL l) = (l, (journL l).size) := read_written h

theorem specOrder_eq (o : List Int) (m : Int) (hl : o.length ≤ 1048576) : spec_OrderOk o m = some (orderB o m) := by
  unfold spec_OrderOk spec_OrderOk_n18 spec_OrderOk_n1 spec_OrderOk_n17 spec_OrderOk_n15 spec_OrderOk_n2 spec_OrderOk_n14 spec_OrderOk_n13
  have hin : ∀ k, (hk : k < o.length) → spec_OrderOk_n6 o k = some (cond (decide (o[k] ∈ o.take k)) (.inl false) (.inr ())) := fun k hk => by
    unfold spec_OrderOk_n6
    have hloop := nloop_run (body := fun (s : Int) => ((spec_OrderOk_n5 o k s).map (Sum.elim (fun (t : Int) => Sum.inl t) (Sum.elim (fun (t : Bool) => Sum.inr (Sum.inl t)) (fun (t : Unit) => Sum.inr (Sum.inr t)))) : Option ((Int) ⊕ (Bool ⊕ Unit))))
      (I := fun s => ∃ j : Nat, s = (j : Int) ∧ j ≤ k ∧ o[k] ∉ o.take j) (μ := fun s => k - s.toNat) (f := fun _ => cond (decide (o[k] ∈ o.take k)) (.inl false) (.inr ()))
      (by
        rintro _ ⟨j, rfl, hj, hno⟩
        simp only [spec_OrderOk_n5]
        by_cases hlt : j < k
        · rw [show decide ((j : Int) < (k : Int)) = true from decide_eq_true (by omega), idx_lt (show j < o.length by omega), idx_lt hk, wrap64 (by omega) (by omega)]
          simp only [cond_true, Option.bind_some]
          by_cases e : o[j] = o[k]
          · right
            have : o[k] ∈ o.take k := (mem_take (by omega)).2 ⟨j, hlt, e⟩
            rw [decide_eq_true this]
            simp [e]
          · left
            have e1 : (o[j] == o[k]) = false := by simpa using e
            refine ⟨((j + 1 : Nat) : Int), by simp [e1], ⟨j + 1, rfl, hlt, ?_⟩, by simp; omega, trivial⟩
            rw [List.take_add_one, List.getElem?_eq_getElem (by omega)]
            simp only [Option.toList_some, List.mem_append, List.mem_singleton, not_or]
            exact ⟨hno, fun hh => e hh.symm⟩
        · right
          have e : j = k := by omega
          subst e
          rw [show decide ((j : Int) < (j : Int)) = false from decide_eq_false (by omega), decide_eq_false hno]
          rfl)
    exact hloop LL 0 ⟨0, rfl, by omega, by simp⟩ (by simp only [LL]; simp; omega)
  have hloop := nloop_run (body := fun (s : Int) => ((spec_OrderOk_n12 o m s).map (Sum.elim (fun (t : Int) => Sum.inl t) (Sum.elim (fun (t : Bool) => Sum.inr (Sum.inl t)) (fun (t : Unit) => Sum.inr (Sum.inr t)))) : Option ((Int) ⊕ (Bool ⊕ Unit))))
    (I := fun s => ∃ k : Nat, s = (k : Int) ∧ k ≤ o.length ∧ OrderP (o.take k) m) (μ := fun s => o.length - s.toNat) (f := fun _ => cond (orderAll o m) (.inr ()) (.inl false))
    (by
      rintro _ ⟨k, rfl, hk, hP⟩
      simp only [spec_OrderOk_n12, spec_OrderOk_n3]
      by_cases hlt : k < o.length
      · rw [show decide ((k : Int) < ((o.length : Nat) : Int)) = true from decide_eq_true (by omega)]
        simp only [cond_true, Option.bind_some, Sum.elim_inl]
        unfold spec_OrderOk_n11 spec_OrderOk_n9 spec_OrderOk_n8 spec_OrderOk_n4 spec_OrderOk_n7 spec_OrderOk_n10
        rw [idx_lt hlt, wrap64 (by omega) (by omega)]
        simp only [Option.bind_some, l1In_eq, hin k hlt]
        by_cases c : 1 ≤ o[k] ∧ o[k] ≤ m
        · have e1 : (decide (1 ≤ o[k]) && decide (o[k] ≤ m)) = true := by simp [c.1, c.2]
          rw [e1]
          by_cases c3 : o[k] ∈ o.take k
          · right
            obtain ⟨i, hi, e⟩ := (mem_take hk).1 c3
            rw [decide_eq_true c3, orderAll_false (fun hh => hh.2 i k hi hlt e)]
            rfl
          · left
            rw [decide_eq_false c3]
            refine ⟨((k + 1 : Nat) : Int), by simp, ⟨k + 1, rfl, hlt, ?_⟩, by simp; omega, trivial⟩
            have hl : (o.take (k + 1)).length = k + 1 := by simp; omega
            refine ⟨fun i hi => ?_, fun i j hij hj => ?_⟩
            · rw [hl] at hi
              rw [List.getElem_take]
              by_cases e : i = k
              · subst e; exact c
              · have := hP.1 i (by simp; omega)
                rwa [List.getElem_take] at this
            · rw [hl] at hj
              rw [List.getElem_take, List.getElem_take]
              by_cases e : j = k
              · subst e
                exact fun hh => c3 ((mem_take hk).2 ⟨i, hij, hh⟩)
              · have := hP.2 i j hij (by simp; omega)
                rwa [List.getElem_take, List.getElem_take] at this
        · right
          have e1 : (decide (1 ≤ o[k]) && decide (o[k] ≤ m)) = false := by
            simp only [Bool.and_eq_false_iff, decide_eq_false_iff_not]; omega
          rw [e1, orderAll_false (fun hh => c (hh.1 k hlt))]
          rfl
      · right
        have e : k = o.length := by omega
        subst e
        rw [List.take_length] at hP
        rw [show decide (((o.length : Nat) : Int) < ((o.length : Nat) : Int)) = false from decide_eq_false (by omega), (orderAll_iff o m).2 hP]
        rfl)
  simp only [Option.bind_some]
  rw [hloop LL 0 ⟨0, rfl, by omega, ⟨fun k hk => by simp at hk, fun i j hij hj => by simp at hj⟩⟩ (by simp only [LL]; simp; omega)]
  unfold orderB
  cases orderAll o m with
  | false => simp
  | true =>
    simp only [cond_true, Option.map_some, Sum.elim_inr, Option.bind_some, Sum.elim_inl, spec_OrderOk_n16, l1In_eq, Bool.and_true]
    cases (decide (1 ≤ m) && decide (m ≤ 8)) <;> simp

theorem places_loopS (o : List Int) (hl : o.length ≤ 8) (hP : OrderP o (o.length : Nat)) :
    nloop (fun (s : Int × (List Int)) => ((spec_PutInOrder_n3 o s.1 s.2).map (Sum.elim (fun (t : Int × (List Int)) => Sum.inl (t.1, t.2)) (fun (t : (List Int)) => Sum.inr t)) : Option ((Int × (List Int)) ⊕ (((List Int)))))) LL (0, List.replicate (o.length + 1) 0) = some (placesL o) := by
  have hloop := nloop_run (body := fun (s : Int × (List Int)) => ((spec_PutInOrder_n3 o s.1 s.2).map (Sum.elim (fun (t : Int × (List Int)) => Sum.inl (t.1, t.2)) (fun (t : (List Int)) => Sum.inr t)) : Option ((Int × (List Int)) ⊕ (((List Int))))))
    (I := fun s => ∃ k : Nat, s = ((k : Int), placesK o k) ∧ k ≤ o.length) (μ := fun s => o.length - s.1.toNat) (f := fun _ => placesL o)
    (by
      rintro _ ⟨k, rfl, hk⟩
      simp only [spec_PutInOrder_n3]
      by_cases hlt : k < o.length
      · left
        have hr := hP.1 k hlt
        obtain ⟨v, hv⟩ : ∃ v : Nat, o[k] = (v : Int) := ⟨o[k].toNat, by omega⟩
        refine ⟨(((k + 1 : Nat) : Int), placesK o (k + 1)), ?_, ⟨k + 1, rfl, hlt⟩, by simp; omega, trivial⟩
        rw [show decide ((k : Int) < ((o.length : Nat) : Int)) = true from decide_eq_true (by omega), idx_lt hlt, wrap64 (by omega) (by omega)]
        have hin : inb o[k] (placesK o k).length = some v := by rw [hv, placesK_length]; exact inb_nat (by omega)
        simp only [cond_true, Option.bind_some, hin]
        rw [show (k : Int) + 1 = ((k + 1 : Nat) : Int) by omega, placesK_step hP hlt hv]
        rfl
      · right
        have e : k = o.length := by omega
        subst e
        rw [show decide (((o.length : Nat) : Int) < ((o.length : Nat) : Int)) = false from decide_eq_false (by omega)]
        rfl)
  have := hloop LL (0, placesK o 0) ⟨0, rfl, by omega⟩ (by simp only [LL]; simp; omega)
  rw [placesK_zero] at this
  exact this

theorem specPut_eq (h o : List Int) (hlo : o.length ≤ 1048576) : spec_PutInOrder h o = some (if treeB h && orderB o h.length then (true, putRow h o) else (false, [])) := by
  unfold spec_PutInOrder spec_PutInOrder_n17 spec_PutInOrder_n1
  rw [specTree_eq, specOrder_eq o _ hlo]
  cases hT : treeB h with
  | false => simp
  | true =>
    cases hO : orderB o h.length with
    | false => simp
    | true =>
      have T := (tree_iff h).1 hT
      unfold orderB at hO
      simp only [Bool.and_eq_true, decide_eq_true_eq, beq_iff_eq] at hO
      obtain ⟨⟨_, hlen⟩, hA⟩ := hO
      have hl : o.length = h.length := by omega
      have hle := T.le
      have hP : OrderP o (o.length : Nat) := by rw [hl]; exact (orderAll_iff o _).1 hA
      rw [wrap64 (by omega) (by omega), show ((h.length : Nat) : Int) + 1 = ((o.length + 1 : Nat) : Int) by omega, mk_nat (by omega)]
      simp only [Option.bind_some, Bool.not_true, cond_false, Sum.elim_inl, Bool.and_self, if_true]
      unfold spec_PutInOrder_n16 spec_PutInOrder_n6 spec_PutInOrder_n2 spec_PutInOrder_n5 spec_PutInOrder_n4
      rw [places_loopS o (by omega) hP]
      unfold spec_PutInOrder_n15 spec_PutInOrder_n7 spec_PutInOrder_n14 spec_PutInOrder_n12 spec_PutInOrder_n8 spec_PutInOrder_n11 spec_PutInOrder_n10 spec_PutInOrder_n13
      simp only [Option.bind_some, Option.map_some]
      have hloop := nloop_run (body := fun (s : Int × (List Int)) => ((spec_PutInOrder_n9 h o s.1 (placesL o) s.2).map (Sum.elim (fun (t : Int × (List Int)) => Sum.inl (t.1, t.2)) (fun (t : (List Int)) => Sum.inr t)) : Option ((Int × (List Int)) ⊕ (((List Int))))))
        (I := fun s => ∃ k : Nat, s.1 = (k : Int) ∧ k ≤ o.length ∧ s.2.length ≤ k) (μ := fun s => o.length - s.1.toNat) (f := fun s => s.2 ++ (putRow h o).drop s.1.toNat)
        (by
          rintro ⟨_, out⟩ ⟨k, rfl, hk, ho⟩
          simp only at ho
          simp only [spec_PutInOrder_n9]
          by_cases hlt : k < o.length
          · left
            obtain ⟨w, x, h1, hw, h2, h3, h4⟩ := put_reads T hl hP hlt
            refine ⟨(((k + 1 : Nat) : Int), out ++ [newHd h o k]), ?_, ⟨k + 1, rfl, hlt, by simp; omega⟩, by simp; omega, ?_⟩
            · rw [show decide ((k : Int) < ((o.length : Nat) : Int)) = true from decide_eq_true (by omega), idx_lt hlt]
              simp only [cond_true, Option.bind_some]
              rw [h1, wrap64 (x := ((w + 1 : Nat) : Int) - 1) (by omega) (by omega), show ((w + 1 : Nat) : Int) - 1 = (w : Int) by omega, idx_nat, h2, wrap64 (by omega) (by omega)]
              simp only [Option.bind_some]
              rw [inb_nat (by rw [placesL, placesK_length]; exact h3)]
              simp only [Option.bind_some, h4, room_le (show out.length + [newHd h o k].length ≤ 1099511627776 by simp; omega)]
              simp
            · simp only [Int.toNat_natCast]
              rw [putRow_drop h o hlt]
              simp
          · right
            have e : k = o.length := by omega
            subst e
            rw [show decide (((o.length : Nat) : Int) < ((o.length : Nat) : Int)) = false from decide_eq_false (by omega)]
            simp [List.drop_of_length_le (Nat.le_of_eq (putRow_length h o))])
      rw [hloop LL (0, []) ⟨0, by simp, by omega, by simp⟩ (by simp only [LL]; simp; omega)]
      simp

theorem set_ok {o hs : List Int} {m : Nat} (hm : m ≤ 1000000) (ho : o.length = m) (hx : ∀ x ∈ o, 1 ≤ x ∧ x ≤ (m : Int)) (hh : hs.length = m) {k at_ : Int} (hk0 : 0 ≤ k) (hk : k < m) (ha0 : 0 ≤ at_) (ha : at_ < m) {α : Type} (f : List Int → α) :
    ∃ l : List Int, l.length = m ∧ ((inb k (List.length o)).bind fun (v638 : Nat) => (o[v638]?).bind fun (v639 : Int) => (inb at_ (List.length o)).bind fun (v641 : Nat) => (o[v641]?).bind fun (v642 : Int) => (inb (IntKind.wrap .i64 (v639 - 1)) (List.length hs)).bind fun (v643 : Nat) => some (f (hs.set v643 v642))) = some (f l) := by
  have h1 : k.toNat < o.length := by omega
  have h2 : at_.toNat < o.length := by omega
  have hr := hx o[k.toNat] (List.getElem_mem h1)
  refine ⟨hs.set (o[k.toNat] - 1).toNat o[at_.toNat], by simpa using hh, ?_⟩
  rw [inb_ok hk0 (by omega), inb_ok ha0 (by omega)]
  simp only [Option.bind_some, List.getElem?_eq_getElem h1, List.getElem?_eq_getElem h2]
  rw [wrap64 (by omega) (by omega), inb_ok (by omega) (by omega)]
  rfl

theorem tree_ok {b : List Int} (hb : Bytes b) (n : Int) (hn : n ≤ 1000) {p : Int} (hp : 0 ≤ p) (hp2 : p ≤ 999990000) :
    ∃ (q : Int) (h : List Int), spec_l20Tree n b p = some (q, h) ∧ p ≤ q ∧ q ≤ p + 300 ∧ h.length ≤ 8 := by
  unfold spec_l20Tree spec_l20Tree_n9 spec_l20Tree_n1
  obtain ⟨v, hv, va, vb, _⟩ := pick_ok hb 7 (by omega) hp (by omega)
  have vb' := vb (by omega)
  obtain ⟨m, hm⟩ : ∃ m : Nat, 1 + v = (m : Int) := ⟨(1 + v).toNat, by omega⟩
  obtain ⟨q1, o, ho, q1a, q1b, hol, hox⟩ := order_ok hb m (by omega) (p := p + 1) (by omega) (by omega)
  obtain ⟨nr, hnr, nra, _⟩ := pick_ok hb 2 (by omega) (p := q1) (by omega) (by omega)
  simp only [hv, Option.bind_some]
  rw [wrap64 (x := 1 + v) (by omega) (by omega), hm]
  simp only [ho, mk_nat (show m ≤ 1099511627776 by omega), hnr, Option.bind_some]
  unfold spec_l20Tree_n8 spec_l20Tree_n6 spec_l20Tree_n2 spec_l20Tree_n5 spec_l20Tree_n4
  obtain ⟨⟨q2, hs⟩, h1, h2, h3, h4⟩ := nloop_ex (body := fun (s : Int × Int × List Int) => ((spec_l20Tree_n3 m nr s.1 b s.2.1 o s.2.2).map (Sum.elim (fun (t : Int × Int × List Int) => Sum.inl (t.1, t.2.1, t.2.2)) (fun (t : Int × List Int) => Sum.inr t)) : Option ((Int × Int × List Int) ⊕ ((Int × List Int)))))
    (I := fun s => ∃ (k : Nat) (q : Int) (hs : List Int), s = ((k : Int), q, hs) ∧ 1 ≤ k ∧ k ≤ m ∧ q1 ≤ q ∧ q ≤ q1 + 1 + 2 * k ∧ hs.length = m) (μ := fun s => m - s.1.toNat)
    (Q := fun t => q1 ≤ t.1 ∧ t.1 ≤ q1 + 20 ∧ t.2.length = m)
    (by
      rintro _ ⟨k, q, hs, rfl, hk1, hk, qa, qb, hhs⟩
      simp only [spec_l20Tree_n3]
      by_cases hlt : k < m
      · left
        rw [show decide ((k : Int) < (m : Int)) = true from decide_eq_true (by omega), wrap64 (x := (k : Int) + 1) (by omega) (by omega), wrap64 (x := (k : Int) - 1) (by omega) (by omega)]
        obtain ⟨a, ha, aa, ab, _⟩ := pick_ok hb (k : Int) (by omega) (p := q) (by omega) (by omega)
        have ab' := ab (by omega)
        obtain ⟨c, hc, _⟩ := pick_ok hb 2 (by omega) (p := q + 1) (by omega) (by omega)
        simp only [cond_true, ha, Option.bind_some]
        have hmu : m - (((k : Int) + 1)).toNat < m - ((k : Int)).toNat := by omega
        cases hnear : (nr == 1) with
        | true =>
          simp only [cond_true, hc, Option.bind_some]
          cases h5 : (c == 0) with
          | true =>
            obtain ⟨l, hl, e⟩ := set_ok (by omega) hol hox hhs (k := (k : Int)) (at_ := (k : Int) - 1) (by omega) (by omega) (by omega) (by omega) (fun l => (Sum.inl ((k : Int) + 1, q + 1 + 1, l) : (Int × Int × List Int) ⊕ (Int × List Int)))
            simp only [cond_true]
            rw [e]
            exact ⟨_, rfl, ⟨k + 1, q + 1 + 1, l, by push_cast; rfl, by omega, by omega, by omega, by push_cast; omega, hl⟩, hmu⟩
          | false =>
            obtain ⟨l, hl, e⟩ := set_ok (by omega) hol hox hhs (k := (k : Int)) (at_ := a) (by omega) (by omega) (by omega) (by omega) (fun l => (Sum.inl ((k : Int) + 1, q + 1 + 1, l) : (Int × Int × List Int) ⊕ (Int × List Int)))
            simp only [cond_false]
            rw [e]
            exact ⟨_, rfl, ⟨k + 1, q + 1 + 1, l, by push_cast; rfl, by omega, by omega, by omega, by push_cast; omega, hl⟩, hmu⟩
        | false =>
          obtain ⟨l, hl, e⟩ := set_ok (by omega) hol hox hhs (k := (k : Int)) (at_ := a) (by omega) (by omega) (by omega) (by omega) (fun l => (Sum.inl ((k : Int) + 1, q + 1, l) : (Int × Int × List Int) ⊕ (Int × List Int)))
          simp only [cond_false]
          rw [e]
          exact ⟨_, rfl, ⟨k + 1, q + 1, l, by push_cast; rfl, by omega, by omega, by omega, by push_cast; omega, hl⟩, hmu⟩
      · right
        have e : k = m := by omega
        subst e
        rw [show decide ((k : Int) < (k : Int)) = false from decide_eq_false (by omega)]
        exact ⟨_, rfl, qa, by show q ≤ q1 + 20; omega, hhs⟩) LL (1, q1 + 1, List.replicate m 0) ⟨1, q1 + 1, _, rfl, by omega, by omega, by omega, by omega, by simp⟩ (by simp only [LL]; omega)
  rw [h1]
  simp only at h2 h3 h4
  simp only [Option.bind_some, Option.map_some]
  unfold spec_l20Tree_n7
  obtain ⟨od, q3, ho3, q3a, q3b⟩ := odd_ok hb n (by omega) (p := q2) (by omega) (by omega)
  obtain ⟨c, hc, ca, cb, _⟩ := pick_ok hb 4 (by omega) (p := q3) (by omega) (by omega)
  obtain ⟨d, hd, da, db, _⟩ := pick_ok hb (m : Int) (by omega) (p := q3 + 1) (by omega) (by omega)
  have db' := db (by omega)
  obtain ⟨e, he, ea, eb, _⟩ := pick_ok hb 3 (by omega) (p := q3 + 1) (by omega) (by omega)
  have eb' := eb (by omega)
  simp only [ho3, Option.bind_some]
  cases od with
  | false => exact ⟨_, _, rfl, by omega, by omega, by omega⟩
  | true =>
    simp only [cond_true, hc, Option.bind_some]
    cases (c == 0) with
    | true => exact ⟨_, _, rfl, by omega, by omega, by simp⟩
    | false =>
      cases (c == 1) with
      | true => exact ⟨_, _, rfl, by omega, by omega, by simp⟩
      | false =>
        cases (c == 2) with
        | true =>
          simp only [cond_true, cond_false, hd, Option.bind_some, inb_ok da (show d < (hs.length : Nat) by omega)]
          rw [room_le (by simp; omega)]
          exact ⟨_, _, rfl, by omega, by omega, by simp; omega⟩
        | false =>
          simp only [cond_true, cond_false, he, Option.bind_some]
          have hin : inb e (List.length ([1, (IntKind.wrap .i64 ((m : Int) + 1)), (-1)])) = some e.toNat := inb_ok ea (by simp; omega)
          have hin0 : inb 0 (List.length hs) = some 0 := inb_ok (by omega) (by omega)
          have hlt : e.toNat < ([1, (IntKind.wrap .i64 ((m : Int) + 1)), (-1)] : List Int).length := by simp; omega
          rw [hin]
          simp only [Option.bind_some, List.getElem?_eq_getElem hlt, hin0]
          exact ⟨_, _, rfl, by omega, by omega, by simp; omega⟩

theorem fill_ok {b : List Int} (hb : Bytes b) (m : Nat) (hm : m ≤ 20) : ∀ (f : Nat) (low high head p : Int) (hs : List Int), (high - low + 1).toNat < f → 1 ≤ low → low ≤ high + 1 → high ≤ m → hs.length = m → 0 ≤ p → p + 2 * (high - low + 1) ≤ 999980000 →
    ∃ (q : Int) (ks : List Int), spec_l20Fill_knot f low high head b p hs = some (q, ks) ∧ p ≤ q ∧ q ≤ p + 2 * (high - low + 1) ∧ (low ≤ high → q + 1 ≤ p + 2 * (high - low + 1)) ∧ ks.length = m := by
  intro f
  induction f with
  | zero => intro low high head p hs h; omega
  | succ f ih =>
    intro low high head p hs hf h1 h2 h3 hl hp hp2
    simp only [spec_l20Fill_knot]
    generalize hR : spec_l20Fill_knot f = R0 at ih
    unfold spec_l20Fill_one spec_l20Fill_n11 spec_l20Fill_n1
    by_cases h0 : low > high
    · rw [decide_eq_true h0]
      exact ⟨p, hs, rfl, by omega, by omega, by omega, hl⟩
    · rw [decide_eq_false h0]
      obtain ⟨v, hv, va, vb, _⟩ := pick_ok hb (high - low + 1) (by omega) (p := p) (by omega) (by omega)
      have vb' := vb (by omega)
      rw [wrap64 (x := high - low) (by omega) (by omega), wrap64 (x := high - low + 1) (by omega) (by omega)]
      simp only [cond_false, hv, Option.bind_some]
      rw [wrap64 (x := low + v) (by omega) (by omega), wrap64 (x := low + v - 1) (by omega) (by omega), inb_ok (by omega) (show low + v - 1 < (hs.length : Nat) by omega)]
      simp only [Option.bind_some, Sum.elim_inl]
      generalize hroot : low + v = root
      unfold spec_l20Fill_n10 spec_l20Fill_n4 spec_l20Fill_n3 spec_l20Fill_n9 spec_l20Fill_n5 spec_l20Fill_n8 spec_l20Fill_n7
      obtain ⟨⟨q1, k1⟩, e1, a1, a2, a3⟩ := nloop_ex (body := fun (s : Int × Int × (List Int)) => ((spec_l20Fill_n2 R0 root s.1 b s.2.1 s.2.2).map (Sum.elim (fun (t : Int × Int × (List Int)) => Sum.inl (t.1, t.2.1, t.2.2)) (fun (t : Int × (List Int)) => Sum.inr t)) : Option ((Int × Int × (List Int)) ⊕ ((Int × (List Int))))))
        (I := fun s => ∃ (fr q : Int) (ks : List Int), s = (fr, q, ks) ∧ low ≤ fr ∧ fr ≤ root ∧ p + 1 ≤ q ∧ q ≤ p + 1 + 2 * (fr - low) ∧ ks.length = m) (μ := fun s => (root - s.1).toNat)
        (Q := fun t => p + 1 ≤ t.1 ∧ t.1 ≤ p + 1 + 2 * (root - low) ∧ t.2.length = m)
        (by
          rintro _ ⟨fr, q, ks, rfl, i1, i2, i3, i4, i6⟩
          simp only [spec_l20Fill_n2]
          by_cases hlt : fr < root
          · left
            rw [decide_eq_true hlt, wrap64 (x := root - fr) (by omega) (by omega)]
            obtain ⟨w, hw, wa, wb, _⟩ := pick_ok hb (root - fr) (by omega) (p := q) (by omega) (by omega)
            have wb' := wb (by omega)
            simp only [cond_true, hw, Option.bind_some]
            rw [wrap64 (x := fr + w) (by omega) (by omega), wrap64 (x := fr + w + 1) (by omega) (by omega)]
            obtain ⟨q2, k2, e2, b1, b2, b4, b3⟩ := ih fr (fr + w) root (q + 1) ks (by omega) (by omega) (by omega) (by omega) i6 (by omega) (by omega)
            have b4' := b4 (by omega)
            rw [e2]
            exact ⟨(fr + w + 1, q2, k2), rfl, ⟨fr + w + 1, q2, k2, rfl, by omega, by omega, by omega, by omega, b3⟩, by simp only; omega⟩
          · right
            rw [decide_eq_false hlt]
            exact ⟨(q, ks), rfl, i3, by show q ≤ _; omega, i6⟩) LL (low, p + 1, hs.set (root - 1).toNat head) ⟨low, p + 1, _, rfl, by omega, by omega, by omega, by omega, by simpa using hl⟩ (by simp only [LL]; omega)
      simp only at a1 a2 a3
      rw [e1]
      simp only [Option.map_some, Option.bind_some]
      rw [wrap64 (x := root + 1) (by omega) (by omega)]
      obtain ⟨⟨q2, k2⟩, e2, c1, c2, c3⟩ := nloop_ex (body := fun (s : Int × Int × (List Int)) => ((spec_l20Fill_n6 R0 high root s.1 b s.2.1 s.2.2).map (Sum.elim (fun (t : Int × Int × (List Int)) => Sum.inl (t.1, t.2.1, t.2.2)) (fun (t : Int × (List Int)) => Sum.inr t)) : Option ((Int × Int × (List Int)) ⊕ ((Int × (List Int))))))
        (I := fun s => ∃ (fr q : Int) (ks : List Int), s = (fr, q, ks) ∧ root + 1 ≤ fr ∧ fr ≤ high + 1 ∧ p + 1 ≤ q ∧ q ≤ p + 1 + 2 * (root - low) + 2 * (fr - root - 1) ∧ ks.length = m) (μ := fun s => (high + 1 - s.1).toNat)
        (Q := fun t => p + 1 ≤ t.1 ∧ t.1 ≤ p + 1 + 2 * (high - low) ∧ t.2.length = m)
        (by
          rintro _ ⟨fr, q, ks, rfl, i1, i2, i3, i4, i6⟩
          simp only [spec_l20Fill_n6]
          by_cases hlt : fr ≤ high
          · left
            rw [decide_eq_true hlt, wrap64 (x := high - fr) (by omega) (by omega), wrap64 (x := high - fr + 1) (by omega) (by omega)]
            obtain ⟨w, hw, wa, wb, _⟩ := pick_ok hb (high - fr + 1) (by omega) (p := q) (by omega) (by omega)
            have wb' := wb (by omega)
            simp only [cond_true, hw, Option.bind_some]
            rw [wrap64 (x := fr + w) (by omega) (by omega), wrap64 (x := fr + w + 1) (by omega) (by omega)]
            obtain ⟨q2, k2, e2, b1, b2, b4, b3⟩ := ih fr (fr + w) root (q + 1) ks (by omega) (by omega) (by omega) (by omega) i6 (by omega) (by omega)
            have b4' := b4 (by omega)
            rw [e2]
            exact ⟨(fr + w + 1, q2, k2), rfl, ⟨fr + w + 1, q2, k2, rfl, by omega, by omega, by omega, by omega, b3⟩, by simp only; omega⟩
          · right
            rw [decide_eq_false hlt]
            exact ⟨(q, ks), rfl, i3, by show q ≤ _; omega, i6⟩) LL (root + 1, q1, k1) ⟨root + 1, q1, k1, rfl, by omega, by omega, by omega, by omega, a3⟩ (by simp only [LL]; omega)
      simp only at c1 c2 c3
      rw [e2]
      exact ⟨q2, k2, rfl, by omega, by omega, by omega, c3⟩

theorem flat_ok {b : List Int} (hb : Bytes b) (n : Int) (hn : n ≤ 1000) {p : Int} (hp : 0 ≤ p) (hp2 : p ≤ 999970000) :
    ∃ (q : Int) (h : List Int), spec_l20Flat n b p = some (q, h) ∧ p ≤ q ∧ q ≤ p + 400 ∧ h.length ≤ 8 := by
  have e : spec_l20Flat n b p = spec_l20Flat_n1 n b p := by unfold spec_l20Flat; rfl
  rw [e]
  unfold spec_l20Flat_n1
  obtain ⟨c, hc, ca, _⟩ := pick_ok hb 3 (by omega) (p := p) (by omega) (by omega)
  simp only [hc, Option.bind_some]
  cases (c == 0) with
  | true =>
    obtain ⟨q, h, hq, qa, qb, h8⟩ := tree_ok hb n hn (p := p + 1) (by omega) (by omega)
    simp only [cond_true, hq, Option.bind_some]
    exact ⟨q, h, rfl, by omega, by omega, h8⟩
  | false =>
    obtain ⟨v, hv, va, vb, _⟩ := pick_ok hb 7 (by omega) (p := p + 1) (by omega) (by omega)
    have vb' := vb (by omega)
    obtain ⟨m, hm⟩ : ∃ m : Nat, 1 + v = (m : Int) := ⟨(1 + v).toNat, by omega⟩
    simp only [cond_false, hv, Option.bind_some]
    rw [wrap64 (x := 1 + v) (by omega) (by omega), hm, mk_nat (by omega)]
    have e2 : spec_l20Fill 1 (m : Int) 0 b (p + 1 + 1) (List.replicate m 0) = spec_l20Fill_knot RR 1 (m : Int) 0 b (p + 1 + 1) (List.replicate m 0) := by unfold spec_l20Fill spec_l20Fill_fuel; rfl
    obtain ⟨q, ks, hq, qa, qb, _, hk⟩ := fill_ok hb m (by omega) RR 1 (m : Int) 0 (p + 1 + 1) (List.replicate m 0) (by simp only [RR]; omega) (by omega) (by omega) (by omega) (by simp) (by omega) (by omega)
    simp only [Option.bind_some, e2, hq]
    exact ⟨q, ks, rfl, by omega, by omega, by omega⟩

theorem wild_ok {b : List Int} (hb : Bytes b) (n : Int) (hn : n ≤ 1000) {p : Int} (hp : 0 ≤ p) (hp2 : p ≤ 999960000) :
    ∃ (q : Int) (h : List Int), spec_l20Wild n b p = some (q, h) ∧ p ≤ q ∧ q ≤ p + 1000 ∧ h.length ≤ 8 := by
  have e : spec_l20Wild n b p = spec_l20Wild_n1 n b p := by unfold spec_l20Wild; rfl
  rw [e]
  unfold spec_l20Wild_n1
  obtain ⟨q, h, hq, qa, qb, h8⟩ := tree_ok hb n hn hp (by omega)
  obtain ⟨c, hc, _⟩ := pick_ok hb 2 (by omega) (p := q) (by omega) (by omega)
  obtain ⟨d, hd, _⟩ := pick_ok hb 3 (by omega) (p := q + 1) (by omega) (by omega)
  obtain ⟨qf, hf, hqf, fa, fb, f8⟩ := flat_ok hb n hn (p := q + 1 + 1) (by omega) (by omega)
  obtain ⟨qo, o, ho, oa, ob, ol, _⟩ := order_ok hb h.length (by omega) (p := q + 1) (by omega) (by omega)
  have tail : ∃ (q' : Int) (h' : List Int), ((spec_l20Rd_pick 3 b (q + 1)).bind fun (v4853 : Int × Int) => cond ((v4853.1) == 0) ((spec_l20Flat n b (v4853.2)).bind fun (v4857 : Int × (List Int)) => some ((v4857.1), (v4857.2))) (some ((v4853.2), h))) = some (q', h') ∧ p ≤ q' ∧ q' ≤ p + 1000 ∧ h'.length ≤ 8 := by
    simp only [hd, Option.bind_some]
    cases (d == 0) with
    | true => simp only [cond_true, hqf, Option.bind_some]; exact ⟨_, _, rfl, by omega, by omega, f8⟩
    | false => exact ⟨_, _, rfl, by omega, by omega, h8⟩
  simp only [hq, hc, Option.bind_some]
  cases (c == 0) with
  | false => exact tail
  | true =>
    simp only [cond_true, specTree_eq, Option.bind_some]
    cases hT : treeB h with
    | false => exact tail
    | true =>
      simp only [cond_true, ho, Option.bind_some, specPut_eq h o (by omega)]
      refine ⟨_, _, rfl, by omega, by omega, ?_⟩
      split
      · rw [putRow_length]; omega
      · simp

theorem deed_ok {b : List Int} (hb : Bytes b) (h : List Int) (hl : h.length ≤ 1000) {p : Int} (hp : 0 ≤ p) (hp2 : p ≤ 999990000) :
    ∃ (q k a c : Int), spec_l20Deed h b p = some (q, k, a, c) ∧ p ≤ q ∧ q ≤ p + 10 := by
  suffices H : ∃ r, spec_l20Deed h b p = some r ∧ (p ≤ r.1 ∧ r.1 ≤ p + 10) by
    obtain ⟨⟨q, k, a, c⟩, h1, h2, h3⟩ := H
    exact ⟨q, k, a, c, h1, h2, h3⟩
  have e : spec_l20Deed h b p = spec_l20Deed_n1 h b p := by unfold spec_l20Deed; rfl
  rw [e]
  unfold spec_l20Deed_n1
  obtain ⟨v1, h1, a1, b1, _⟩ := pick_ok hb 8 (by omega) hp (by omega)
  have b1 := b1 (by omega)
  obtain ⟨v2, h2, a2, b2, _⟩ := pick_ok hb 60 (by omega) (p := p + 1) (by omega) (by omega)
  have b2 := b2 (by omega)
  obtain ⟨v3, h3, _⟩ := idx_ok (b := [0, 0, 1, 1, 2, 3, 4, 5]) a1 (by simp only [List.length_cons, List.length_nil]; omega)
  obtain ⟨v4, h4, _⟩ := quo_ok (a := v2) (b := 59) (by omega) a2 (by omega)
  have tail : ∀ (q k x y : Int), 0 ≤ q → q ≤ 999999000 → ∃ r : Int × Int × Int × Int, ((spec_l20Rd_odd 40 b q).bind fun (v : Bool × Int) => cond (v.1) ((spec_l20Rd_pick 3 b (v.2)).bind fun (w : Int × Int) => (inb (w.1) (List.length ([(-1), 9, 100] : List Int))).bind fun (m : Nat) => (([(-1), 9, 100] : List Int)[m]?).bind fun (c : Int) => some (w.2, k, x, c)) (some (v.2, k, x, y))) = some r ∧ (q ≤ r.1 ∧ r.1 ≤ q + 2) := by
    intro q k x y q0 q1
    obtain ⟨v, s, ho, oa, ob⟩ := odd_ok hb 40 (by omega) q0 (by omega)
    rw [ho, Option.bind_some]
    cases v with
    | false => exact ⟨_, rfl, by simp only; omega, by simp only; omega⟩
    | true =>
      obtain ⟨w, hw, wa, wb, _⟩ := pick_ok hb 3 (by omega) (p := s) (by omega) (by omega)
      have wb := wb (by omega)
      simp only [cond_true, hw, Option.bind_some]
      rw [inb_ok wa (by simp only [List.length_cons, List.length_nil]; omega), Option.bind_some, List.getElem?_eq_getElem (show w.toNat < ([(-1), 9, 100] : List Int).length by simp only [List.length_cons, List.length_nil]; omega), Option.bind_some]
      exact ⟨_, rfl, by simp only; omega, by simp only; omega⟩
  simp only [h1, h2, h3, h4, Option.bind_some]
  generalize IntKind.wrap .i64 (v3 + (IntKind.wrap .i64 (v4 * 6))) = kk
  have wl : IntKind.wrap .i64 ((((List.length h : Nat) : Int)) + 1) = ((List.length h + 1 : Nat) : Int) := by rw [wrap64 (by omega) (by omega)]; omega
  have im : imax (((List.length h : Nat) : Int)) 1 ≤ 1000 := by unfold imax; split <;> omega
  rw [wl]
  cases kk == 0 with
  | true =>
    obtain ⟨v5, h5, _⟩ := pick_ok hb (imax (((List.length h : Nat) : Int)) 1) (by omega) (p := p + 1 + 1) (by omega) (by omega)
    obtain ⟨v6, h6, _⟩ := pick_ok hb ((List.length h + 1 : Nat) : Int) (by omega) (p := p + 1 + 1 + 1) (by omega) (by omega)
    simp only [cond_true, h5, h6, Option.bind_some]
    obtain ⟨r, hr, ra, rb⟩ := tail (p + 1 + 1 + 1 + 1) kk (IntKind.wrap .i64 (1 + v5)) v6 (by omega) (by omega)
    exact ⟨r, hr, by omega, by omega⟩
  | false =>
    cases kk == 1 with
    | true =>
      obtain ⟨v5, h5, _⟩ := pick_ok hb ((List.length h + 1 : Nat) : Int) (by omega) (p := p + 1 + 1) (by omega) (by omega)
      obtain ⟨v6, h6, a6, b6, _⟩ := pick_ok hb 9 (by omega) (p := p + 1 + 1 + 1) (by omega) (by omega)
      have b6 := b6 (by omega)
      obtain ⟨v7, h7, _⟩ := quo_ok (a := v6) (b := 8) (by omega) a6 (by omega)
      simp only [cond_true, cond_false, h5, h6, h7, Option.bind_some]
      obtain ⟨r, hr, ra, rb⟩ := tail (p + 1 + 1 + 1 + 1) kk (IntKind.wrap .i64 (v5 + v7)) 0 (by omega) (by omega)
      exact ⟨r, hr, by omega, by omega⟩
    | false =>
      simp only [cond_false]
      obtain ⟨r, hr, ra, rb⟩ := tail (p + 1 + 1) kk 0 0 (by omega) (by omega)
      exact ⟨r, hr, by omega, by omega⟩

abbrev dsBody (h b : List Int) : Int × Int × List DeedL → Option ((Int × Int × List DeedL) ⊕ (Int × List DeedL)) :=
  fun (s : Int × Int × (List (Int × Int × Int × Unit))) => ((spec_l20Deeds_n3 h s.1 b s.2.1 s.2.2).map (Sum.elim (fun (t : Int × Int × (List (Int × Int × Int × Unit))) => Sum.inl (t.1, t.2.1, t.2.2)) (fun (t : Int × (List (Int × Int × Int × Unit))) => Sum.inr t)) : Option ((Int × Int × (List (Int × Int × Int × Unit))) ⊕ ((Int × (List (Int × Int × Int × Unit))))))

theorem deeds_ok {b : List Int} (hb : Bytes b) (h : List Int) (hl : h.length ≤ 1000) {p : Int} (hp : 0 ≤ p) (hp2 : p ≤ 999980000) :
    ∃ (q : Int) (l : List DeedL), spec_l20Deeds h b p = some (q, l) ∧ p ≤ q ∧ q ≤ p + 200 ∧ l.length ≤ 6 := by
  have e : spec_l20Deeds h b p = spec_l20Deeds_n9 h b p := by unfold spec_l20Deeds; rfl
  rw [e]
  unfold spec_l20Deeds_n9 spec_l20Deeds_n1 spec_l20Deeds_n8 spec_l20Deeds_n6 spec_l20Deeds_n2 spec_l20Deeds_n5 spec_l20Deeds_n4
  obtain ⟨m, hm, ma, mb, _⟩ := pick_ok hb 6 (by omega) hp (by omega)
  have mb := mb (by omega)
  simp only [hm, Option.bind_some]
  obtain ⟨r, hr, ra, rb, rs⟩ := nloop_ex (body := dsBody h b)
    (I := fun t => 0 ≤ t.1 ∧ t.1 + ((t.2.2.length : Nat) : Int) ≤ 6 ∧ p ≤ t.2.1 ∧ t.2.1 + 10 * t.1 ≤ p + 200)
    (μ := fun t => t.1.toNat) (Q := fun r => p ≤ r.1 ∧ r.1 ≤ p + 200 ∧ r.2.length ≤ 6)
    (by
      rintro ⟨k, s, l⟩ ⟨k0, k6, sa, sb⟩
      simp only at k0 k6 sa sb
      simp only [dsBody, spec_l20Deeds_n3]
      by_cases c : k > 0
      · left
        obtain ⟨s', kk, x, y, hd, da, db⟩ := deed_ok hb h hl (p := s) (by omega) (by omega)
        have w : IntKind.wrap .i64 (k - 1) = k - 1 := wrap64 (by omega) (by omega)
        rw [decide_eq_true c, w]
        simp only [cond_true, hd, Option.bind_some]
        rw [room_le (by simp only [List.length_cons, List.length_nil]; omega)]
        exact ⟨(k - 1, s', l ++ [(kk, x, y, ())]), rfl, ⟨by simp only; omega, by simp only [List.length_append, List.length_cons, List.length_nil]; omega, by simp only; omega, by simp only; omega⟩, by simp only; omega⟩
      · right
        rw [decide_eq_false c]
        exact ⟨(s, l), rfl, by simp only; omega, by simp only; omega, by simp only; omega⟩) LL (m, p + 1, ([] : List DeedL))
    ⟨by simp only; omega, by simp only [List.length_nil]; omega, by simp only; omega, by simp only; omega⟩ (by simp only [LL]; omega)
  rw [hr]
  obtain ⟨s, l⟩ := r
  exact ⟨s, l, rfl, by simpa using ra, by simpa using rb, rs⟩

abbrev wrBody (l : List DeedL) : Int × List DeedL → Option ((Int × List DeedL) ⊕ List DeedL) :=
  fun (s : Int × (List (Int × Int × Int × Unit))) => ((spec_l20Written_n3 s.1 s.2 l).map (Sum.elim (fun (t : Int × (List (Int × Int × Int × Unit))) => Sum.inl (t.1, t.2)) (fun (t : (List (Int × Int × Int × Unit))) => Sum.inr t)) : Option ((Int × (List (Int × Int × Int × Unit))) ⊕ (((List (Int × Int × Int × Unit))))))

theorem written_ok {b : List Int} (hb : Bytes b) {p : Int} (hp : 0 ≤ p) (hp2 : p ≤ 999950000) :
    ∃ (q : Int) (l : List DeedL), spec_l20Written b p = some (q, l) ∧ p ≤ q ∧ q ≤ p + 2000 ∧ l.length ≤ 6 := by
  have e : spec_l20Written b p = spec_l20Written_n9 b p := by unfold spec_l20Written; rfl
  rw [e]
  unfold spec_l20Written_n9 spec_l20Written_n1 spec_l20Written_n8 spec_l20Written_n6 spec_l20Written_n2 spec_l20Written_n5 spec_l20Written_n4
  obtain ⟨q, h, hq, qa, qb, h8⟩ := wild_ok hb 0 (by omega) hp (by omega)
  obtain ⟨s, l, hl, sa, sb, l6⟩ := deeds_ok hb h (by omega) (p := q) (by omega) (by omega)
  simp only [hq, hl, Option.bind_some]
  obtain ⟨r, hr, rl⟩ := nloop_ex (body := wrBody l)
    (I := fun t => ∃ k : Nat, t.1 = (k : Int) ∧ k ≤ l.length ∧ t.2.length ≤ k)
    (μ := fun t => l.length - t.1.toNat) (Q := fun r => r.length ≤ l.length)
    (by
      rintro ⟨i, o⟩ ⟨k, ei, hk, ho⟩
      simp only at ei ho
      subst ei
      simp only [wrBody, spec_l20Written_n3]
      by_cases c : k < l.length
      · left
        have w : IntKind.wrap .i64 ((k : Int) + 1) = ((k + 1 : Nat) : Int) := by rw [wrap64 (by omega) (by omega)]; omega
        rw [decide_eq_true (show (k : Int) < ((l.length : Nat) : Int) by omega), inb_nat c, w]
        simp only [cond_true, Option.bind_some, List.getElem?_eq_getElem c, specDeed_eq]
        cases seqs (deedT l[k].1 l[k].2.1 l[k].2.2.1) ByteArray.empty with
        | true => exact ⟨(((k + 1 : Nat) : Int), o), rfl, ⟨k + 1, rfl, c, by simp only; omega⟩, by simp only [Int.toNat_natCast]; omega⟩
        | false =>
          rw [room_le (by simp only [List.length_cons, List.length_nil]; omega)]
          exact ⟨(((k + 1 : Nat) : Int), o ++ [l[k]]), rfl, ⟨k + 1, rfl, c, by simp only [List.length_append, List.length_cons, List.length_nil]; omega⟩, by simp only [Int.toNat_natCast]; omega⟩
      · right
        rw [decide_eq_false (show ¬ (k : Int) < ((l.length : Nat) : Int) by omega)]
        exact ⟨o, rfl, by omega⟩) LL (0, ([] : List DeedL)) ⟨0, rfl, by omega, by simp⟩ (by simp only [LL, Int.toNat_zero]; omega)
  rw [hr]
  exact ⟨s, r, rfl, by omega, by omega, by omega⟩

theorem sameDeeds_refl (l : List DeedL) (h : l.length ≤ 1048576) : laws_sameDeeds l l = some true := by
  have e : laws_sameDeeds l l = laws_sameDeeds_n9 l l := by unfold laws_sameDeeds; rfl
  rw [e]
  unfold laws_sameDeeds_n9 laws_sameDeeds_n1 laws_sameDeeds_n8 laws_sameDeeds_n6 laws_sameDeeds_n2 laws_sameDeeds_n5 laws_sameDeeds_n4 laws_sameDeeds_n7
  have lp := nloop_to (body := fun (s : Int) => ((laws_sameDeeds_n3 l l s).map (Sum.elim (fun (t : Int) => Sum.inl t) (Sum.elim (fun (t : Bool) => Sum.inr (Sum.inl t)) (fun (t : Unit) => Sum.inr (Sum.inr t)))) : Option ((Int) ⊕ (Bool ⊕ Unit))))
    (fun k => (k : Int)) l.length (Sum.inr ())
    (by
      intro k hk
      have w : IntKind.wrap .i64 ((k : Int) + 1) = ((k + 1 : Nat) : Int) := by rw [wrap64 (by omega) (by omega)]; omega
      simp only [laws_sameDeeds_n3]
      rw [decide_eq_true (show (k : Int) < ((l.length : Nat) : Int) by omega), idx_lt hk, w]
      simp)
    (by
      simp only [laws_sameDeeds_n3]
      rw [decide_eq_false (show ¬ ((l.length : Nat) : Int) < ((l.length : Nat) : Int) by omega)]
      rfl) LL (by simp only [LL]; omega)
  have lp' := lp
  rw [show ((0 : Nat) : Int) = 0 from rfl] at lp'
  simp only [bne_self_eq_false, cond_false, Option.bind_some, Sum.elim_inl]
  rw [lp']
  rfl

theorem tree0 : treeB [0] = true := by decide
theorem tree1 : treeB [1] = false := by decide
theorem alive_eq : laws_alive = some true := by
  unfold laws_alive laws_alive_n1
  simp [implTree_eq, tree0, tree1]

def restB (k x y : Int) : Bool := (((k == 0) || (k == 1)) || (x == 0)) && ((k == 0) || (y == 0))
theorem implRest_eq (k x y : Int) : impl_Deed_restOk k x y = some (restB k x y) := by
  unfold impl_Deed_restOk impl_Deed_restOk_n1 impl_numbersIn impl_numbersIn_n1 restB
  cases k == 0 <;> cases k == 1 <;> cases x == 0 <;> cases y == 0 <;> rfl

def ddL (n : Nat) : List UInt8 := if n < 10 then [UInt8.ofNat (48 + n)] else [UInt8.ofNat (48 + n / 10), UInt8.ofNat (48 + n % 10)]
theorem dd_eq {n : Nat} (h : n < 100) : Lib.decDigits n = ddL n := by
  unfold ddL
  rw [Lib.decDigits]
  by_cases c : n < 10
  · rw [dif_pos c, if_pos c]
  · rw [dif_neg c, if_neg c, Lib.decDigits, dif_pos (show n / 10 < 10 by omega)]
    rfl
def numChk2 (n : Nat) : Bool := match spec_l1Number (n : Int) with
  | some t => t.data.toList == ddL n
  | none => false
theorem num_tab2 : ((List.range 100).all numChk2) = true := by decide +kernel
theorem num_itoa {n : Nat} (h : n < 100) : itoaS (n : Int) = some (numT n) := by
  have h1 := List.all_eq_true.mp num_tab2 n (List.mem_range.mpr h)
  unfold numChk2 at h1
  rw [(num_ok h).1] at h1
  simp only [beq_iff_eq] at h1
  unfold itoaS
  rw [if_pos (by omega), Int.toNat_natCast, dd_eq h, ← h1]
def numChk3 (n : Nat) : Bool := match spec_l1Number (n : Int) with
  | some t => (atoiE t).1 == (n : Int)
  | none => false
theorem num_tab3 : ((List.range 100).all numChk3) = true := by decide +kernel
theorem num_atoi {n : Nat} (h : n < 100) : (atoiE (numT n)).1 = (n : Int) := by
  have h1 := List.all_eq_true.mp num_tab3 n (List.mem_range.mpr h)
  unfold numChk3 at h1
  rw [(num_ok h).1] at h1
  simpa using h1

theorem inText_eq (k a b : Int) : impl_Deed_inText k a b = some (deedB k a b) := by
  unfold impl_Deed_inText impl_Deed_inText_n1 deedB
  rw [implRest_eq]
  unfold restB
  by_cases k0 : k = 0
  · subst k0
    by_cases a0 : 0 ≤ a <;> by_cases a9 : a ≤ 99 <;> by_cases b0 : 0 ≤ b <;> by_cases b9 : b ≤ 99 <;> simp [a0, a9, b0, b9]
  · have z0 : (k == 0) = false := beq_eq_false_iff_ne.mpr k0
    by_cases k1 : k = 1
    · subst k1
      by_cases b0 : b = 0
      · subst b0
        by_cases a0 : 0 ≤ a <;> by_cases a9 : a ≤ 99 <;> simp [a0, a9]
      · rw [beq_eq_false_iff_ne.mpr b0]
        simp
    · have z1 : (k == 1) = false := beq_eq_false_iff_ne.mpr k1
      rw [z0, z1]
      by_cases k2 : 2 ≤ k ∧ k ≤ 5
      · rw [decide_eq_true (show k ≥ 0 by omega), decide_eq_true (show k < 6 by omega), decide_eq_true k2.1, decide_eq_true k2.2]
        by_cases a0 : a = 0
        · by_cases b0 : b = 0
          · subst a0
            subst b0
            rfl
          · rw [beq_eq_false_iff_ne.mpr b0]
            simp
        · rw [beq_eq_false_iff_ne.mpr a0]
          simp
      · have r : (false && decide (0 ≤ a) && decide (a ≤ 99) && decide (0 ≤ b) && decide (b ≤ 99) || false && decide (0 ≤ a) && decide (a ≤ 99) && b == 0 || decide (2 ≤ k) && decide (k ≤ 5) && a == 0 && b == 0) = false := by
          by_cases c2 : 2 ≤ k
          · rw [decide_eq_false (show ¬ k ≤ 5 from fun h => k2 ⟨c2, h⟩)]
            simp
          · rw [decide_eq_false c2]
            simp
        rw [r]
        by_cases c0 : k ≥ 0
        · rw [decide_eq_true c0, decide_eq_false (show ¬ k < 6 by omega)]
          rfl
        · rw [decide_eq_false c0]
          rfl

theorem nloop_s {σ ω : Type} {body : σ → Option (σ ⊕ ω)} {s s' : σ} (h : body s = some (.inl s')) (N : Nat) : nloop body (N + 1) s = nloop body N s' := by
  rw [nloop, h]
  rfl
theorem nloop_e {σ ω : Type} {body : σ → Option (σ ⊕ ω)} {s : σ} {o : ω} (h : body s = some (.inr o)) (N : Nat) : nloop body (N + 1) s = some o := by
  rw [nloop, h]
  rfl
theorem LL3 : ∃ N, LL = N + 1 + 1 + 1 := ⟨LL - 3, by simp only [LL]⟩

abbrev dtBody (xs : List Int) (n : Int) : ByteArray × Int → Option ((ByteArray × Int) ⊕ ByteArray) :=
  fun (s : ByteArray × Int) => ((impl_DeedText_n3 s.1 xs n s.2).map (Sum.elim (fun (t : ByteArray × Int) => Sum.inl (t.1, t.2)) (fun (t : ByteArray) => Sum.inr t)) : Option ((ByteArray × Int) ⊕ (ByteArray)))

theorem dt_step {t : ByteArray} {xs : List Int} {n : Int} {k m : Nat} (ht : t.size ≤ 1000) (hk : k < xs.length) (h1000 : k < 1000) (hn : (k : Int) < n) (hm : m < 100) (hx : xs[k] = (m : Int)) :
    dtBody xs n (t, (k : Int)) = some (.inl (t ++ (spaceW ++ numT m), ((k + 1 : Nat) : Int))) := by
  obtain ⟨_, n2, n3, _⟩ := num_ok hm
  have w : IntKind.wrap .i64 ((k : Int) + 1) = ((k + 1 : Nat) : Int) := by rw [wrap64 (by omega) (by omega)]; omega
  have s1 : (spaceW ++ numT m).size ≤ 3 := by rw [ByteArray.size_append]; show 1 + _ ≤ 3; omega
  simp only [dtBody, impl_DeedText_n3]
  rw [decide_eq_true hn, idx_lt hk, hx, w]
  simp only [cond_true, Option.bind_some, strconv_Itoa, num_itoa hm]
  rw [show cat (ByteArray.mk #[32]) (numT m) = some (spaceW ++ numT m) from catT (by show 1 + _ ≤ _; omega)]
  simp only [Option.bind_some]
  rw [catT (by omega)]
  rfl
theorem dt_end {t : ByteArray} {xs : List Int} {n k : Int} (hn : ¬ k < n) : dtBody xs n (t, k) = some (.inr t) := by
  simp only [dtBody, impl_DeedText_n3]
  rw [decide_eq_false hn]
  rfl

theorem implDeedText_eq (k a b : Int) : impl_DeedText k a b = some (deedT k a b) := by
  have e : impl_DeedText k a b = impl_DeedText_n9 k a b := by unfold impl_DeedText; rfl
  rw [e]
  unfold impl_DeedText_n9 impl_DeedText_n1
  rw [inText_eq, Option.bind_some]
  cases d : deedB k a b with
  | false => rw [deed_none d]; rfl
  | true =>
    simp only [Bool.not_true, cond_false]
    rcases deedB_cases d with ⟨n, m, hn, hm, rfl, rfl, rfl⟩ | ⟨n, hn, rfl, rfl, rfl⟩ | ⟨h2, h5, rfl, rfl⟩
    · have i : idx tabW 0 = some (ByteArray.mk #[104, 101, 97, 100]) := rfl
      rw [i, show same (List.length tabW) 6 = some () from rfl]
      simp only [Option.bind_some, Sum.elim_inl]
      unfold impl_DeedText_n8 impl_DeedText_n6 impl_DeedText_n2 impl_DeedText_n5 impl_DeedText_n4 impl_DeedText_n7
      have nn : impl_numbersIn 0 = some 2 := by unfold impl_numbersIn; rfl
      rw [nn, Option.bind_some, show inc 2 (List.length [(n : Int), (m : Int)]) = some 2 from rfl]
      simp only [Option.bind_some]
      have L : nloop (dtBody [(n : Int), (m : Int)] 2) LL (ByteArray.mk #[104, 101, 97, 100], ((0 : Nat) : Int)) = some (ByteArray.mk #[104, 101, 97, 100] ++ (spaceW ++ numT n) ++ (spaceW ++ numT m)) := by
        obtain ⟨_, n2, n3, _⟩ := num_ok hn
        obtain ⟨N, hN⟩ := LL3
        rw [hN, nloop_s (dt_step (m := n) (by decide) (by simp) (by decide) (by decide) hn rfl), nloop_s (dt_step (m := m) (by rw [ByteArray.size_append, ByteArray.size_append]; show 4 + (1 + _) ≤ 1000; omega) (by simp) (by decide) (by decide) hm rfl), nloop_e (dt_end (by decide))]
      have L' : nloop _ LL (ByteArray.mk #[104, 101, 97, 100], (0 : Int)) = _ := L
      refine (congrArg (fun x : Option ByteArray => (x.map fun t => t).bind fun t => some t) L').trans ?_
      rw [deed_head hn hm]
      simp only [Option.map_some, Option.bind_some]
      congr 1
      refine bytesN_inj ?_
      simp only [bytesN_app]
      rw [show bytesN headW = bytesN (ByteArray.mk #[104, 101, 97, 100]) ++ bytesN spaceW from rfl]
      simp
    · have i : idx tabW 1 = some (ByteArray.mk #[97, 100, 100]) := rfl
      rw [i, show same (List.length tabW) 6 = some () from rfl]
      simp only [Option.bind_some, Sum.elim_inl]
      unfold impl_DeedText_n8 impl_DeedText_n6 impl_DeedText_n2 impl_DeedText_n5 impl_DeedText_n4 impl_DeedText_n7
      have nn : impl_numbersIn 1 = some 1 := by unfold impl_numbersIn; rfl
      rw [nn, Option.bind_some, show inc 1 (List.length [(n : Int), 0]) = some 1 from rfl]
      simp only [Option.bind_some]
      have L : nloop (dtBody [(n : Int)] 1) LL (ByteArray.mk #[97, 100, 100], ((0 : Nat) : Int)) = some (ByteArray.mk #[97, 100, 100] ++ (spaceW ++ numT n)) := by
        obtain ⟨N, hN⟩ := LL3
        rw [hN, nloop_s (dt_step (m := n) (by decide) (by simp) (by decide) (by decide) hn rfl), nloop_e (dt_end (by decide))]
      have L' : nloop _ LL (ByteArray.mk #[97, 100, 100], (0 : Int)) = _ := L
      refine (congrArg (fun x : Option ByteArray => (x.map fun t => t).bind fun t => some t) L').trans ?_
      rw [deed_add hn]
      simp only [Option.map_some, Option.bind_some]
      congr 1
    · rw [deed_word h2 h5, show same (List.length tabW) 6 = some () from rfl]
      have nn : impl_numbersIn k = some 0 := by
        unfold impl_numbersIn impl_numbersIn_n1
        rw [beq_eq_false_iff_ne.mpr (show k ≠ 0 by omega), beq_eq_false_iff_ne.mpr (show k ≠ 1 by omega)]
        rfl
      have i : idx tabW k = some (wordW k) := by
        rcases wordW_eq h2 h5 with rfl | rfl | rfl | rfl <;> rfl
      rw [i]
      simp only [Option.bind_some, Sum.elim_inl]
      unfold impl_DeedText_n8 impl_DeedText_n6 impl_DeedText_n2 impl_DeedText_n5 impl_DeedText_n4 impl_DeedText_n7
      rw [nn, Option.bind_some, show inc 0 (List.length [(0 : Int), 0]) = some 0 from rfl]
      simp only [Option.bind_some]
      have L : nloop (dtBody ([] : List Int) 0) LL (wordW k, ((0 : Nat) : Int)) = some (wordW k) := by
        obtain ⟨N, hN⟩ := LL3
        rw [hN, nloop_e (dt_end (by decide))]
      have L' : nloop _ LL (wordW k, (0 : Int)) = _ := L
      exact (congrArg (fun x : Option ByteArray => (x.map fun t => t).bind fun t => some t) L').trans rfl

theorem indexByte_is : ∀ (l : List UInt8) (c : UInt8), (Lib.indexByte l c = -1 ∧ c ∉ l) ∨ ∃ l1 l2, l = l1 ++ c :: l2 ∧ c ∉ l1 ∧ Lib.indexByte l c = (l1.length : Int)
  | [], c => .inl ⟨rfl, by simp⟩
  | b :: l, c => by
    rw [Lib.indexByte]
    by_cases e : b = c
    · subst e
      rw [beq_self_eq_true, if_pos rfl]
      exact .inr ⟨[], l, rfl, by simp, rfl⟩
    · rw [beq_eq_false_iff_ne.mpr e, if_neg (by simp)]
      rcases indexByte_is l c with ⟨h1, h2⟩ | ⟨l1, l2, rfl, h2, h3⟩
      · rw [h1]
        exact .inl ⟨rfl, fun m => by
          rcases List.mem_cons.1 m with m | m
          · exact e m.symm
          · exact h2 m⟩
      · rw [h3, beq_eq_false_iff_ne.mpr (show ((l1.length : Nat) : Int) ≠ -1 by omega), if_neg (by simp)]
        exact .inr ⟨b :: l1, l2, rfl, fun m => by
          rcases List.mem_cons.1 m with m | m
          · exact e m.symm
          · exact h2 m, by simp⟩

theorem cut_unique {α : Type} {x : α} : ∀ {l1 m1 l2 m2 : List α}, l1 ++ x :: l2 = m1 ++ x :: m2 → x ∉ l1 → x ∉ m1 → l1 = m1 ∧ l2 = m2
  | [], [], l2, m2, h, _, _ => by simpa using h
  | [], y :: m1, l2, m2, h, _, n => by simp at h; exact absurd (by rw [h.1]; exact List.mem_cons_self ..) n
  | y :: l1, [], l2, m2, h, n, _ => by simp at h; exact absurd (by rw [← h.1]; exact List.mem_cons_self ..) n
  | y :: l1, z :: m1, l2, m2, h, n1, n2 => by
    simp only [List.cons_append, List.cons.injEq] at h
    obtain ⟨rfl, h⟩ := h
    obtain ⟨rfl, rfl⟩ := cut_unique h (fun m => n1 (List.mem_cons_of_mem _ m)) (fun m => n2 (List.mem_cons_of_mem _ m))
    exact ⟨rfl, rfl⟩

theorem sidx_is (s : ByteArray) (c : UInt8) : (sidx s (ByteArray.mk #[c]) = some (-1) ∧ c.toNat ∉ bytesN s) ∨ ∃ l1 l2, bytesN s = l1 ++ c.toNat :: l2 ∧ c.toNat ∉ l1 ∧ sidx s (ByteArray.mk #[c]) = some (l1.length : Int) := by
  have e : sidx s (ByteArray.mk #[c]) = some (Lib.indexByte s.data.toList c) := rfl
  have inj : ∀ (l : List UInt8), c ∉ l → c.toNat ∉ l.map (fun b : UInt8 => b.toNat) := fun l h m => by
    obtain ⟨b, hb, e⟩ := List.mem_map.1 m
    exact h (UInt8.toNat_inj.mp e ▸ hb)
  rw [e]
  rcases indexByte_is s.data.toList c with ⟨h1, h2⟩ | ⟨l1, l2, h1, h2, h3⟩
  · exact .inl ⟨by rw [h1], inj _ h2⟩
  · refine .inr ⟨l1.map (fun b : UInt8 => b.toNat), l2.map (fun b : UInt8 => b.toNat), ?_, inj _ h2, by rw [h3]; simp⟩
    unfold bytesN
    rw [h1]
    simp
theorem sidx_none {s : ByteArray} {c : UInt8} (h : c.toNat ∉ bytesN s) : sidx s (ByteArray.mk #[c]) = some (-1) := by
  rcases sidx_is s c with ⟨h1, _⟩ | ⟨l1, l2, h1, _, _⟩
  · exact h1
  · exact absurd (by rw [h1]; simp) h
theorem sidx_cut {s : ByteArray} {c : UInt8} {l1 l2 : List Nat} (h : bytesN s = l1 ++ c.toNat :: l2) (n : c.toNat ∉ l1) : sidx s (ByteArray.mk #[c]) = some (l1.length : Int) := by
  rcases sidx_is s c with ⟨_, h2⟩ | ⟨m1, m2, h1, h2, h3⟩
  · exact absurd (by rw [h]; simp) h2
  · obtain ⟨rfl, _⟩ := cut_unique (h.symm.trans h1) n h2
    exact h3

/-- The parts of a text on both sides of a byte. -/
theorem cut_left {s : ByteArray} {x : Nat} {l1 l2 : List Nat} (h : bytesN s = l1 ++ x :: l2) : s.extract 0 l1.length = toB l1 := by
  rw [← toB_bytes (s.extract 0 l1.length), bytesN_extract, h, List.drop_zero, List.take_left']
  rfl
theorem cut_right {s : ByteArray} {x : Nat} {l1 l2 : List Nat} (h : bytesN s = l1 ++ x :: l2) : s.extract (l1.length + 1) s.size = toB l2 := by
  have hl : s.size = l1.length + (l2.length + 1) := by rw [← bytesN_length, h]; simp
  rw [← toB_bytes (s.extract (l1.length + 1) s.size), bytesN_extract, h, List.take_of_length_le (by simp; omega)]
  congr 1
  rw [List.drop_append]
  simp
theorem bytesN_toB {l : List Nat} (h : ∀ x ∈ l, x < 256) : bytesN (toB l) = l := by
  unfold bytesN toB
  simp only [List.map_map]
  refine (List.map_congr_left (g := id) fun y hy => ?_).trans (List.map_id _)
  exact UInt8.toNat_ofNat_of_lt' (h y hy)
theorem cut_lt {s : ByteArray} {x : Nat} {l1 l2 : List Nat} (h : bytesN s = l1 ++ x :: l2) : (∀ y ∈ l1, y < 256) ∧ (∀ y ∈ l2, y < 256) ∧ l1.length + (l2.length + 1) = s.size := by
  refine ⟨fun y hy => bytesN_lt (a := s) y (by rw [h]; simp [hy]), fun y hy => bytesN_lt (a := s) y (by rw [h]; simp [hy]), ?_⟩
  rw [← bytesN_length, h]
  simp

abbrev gsBody (n : Int) : ByteArray × Int × List ByteArray → Option ((ByteArray × Int × List ByteArray) ⊕ (ByteArray × Int × List ByteArray)) :=
  fun (s : ByteArray × Int × (List ByteArray)) => ((strings_genSplit_n2 s.1 (ByteArray.mk #[32]) 0 n s.2.1 s.2.2).map (Sum.elim (fun (t : ByteArray × Int × (List ByteArray)) => Sum.inl (t.1, t.2.1, t.2.2)) (fun (t : ByteArray × Int × (List ByteArray)) => Sum.inr t)) : Option ((ByteArray × Int × (List ByteArray)) ⊕ ((ByteArray × Int × (List ByteArray)))))

theorem strIndex_eq (s t : ByteArray) : strings_Index s t = (sidx s t).bind some := by
  unfold strings_Index strings_Index_n1 internal_stringslite_Index
  rfl
theorem gs_end {n i : Int} {t : ByteArray} {row : List ByteArray} (h : ¬ i < n) : gsBody n (t, i, row) = some (.inr (t, i, row)) := by
  simp only [gsBody, strings_genSplit_n2]
  rw [decide_eq_false h]
  rfl
theorem gs_none {n i : Int} {t : ByteArray} {row : List ByteArray} (h : i < n) (c : 32 ∉ bytesN t) : gsBody n (t, i, row) = some (.inr (t, i, row)) := by
  simp only [gsBody, strings_genSplit_n2]
  rw [decide_eq_true h, strIndex_eq, sidx_none (c := 32) c]
  rfl
theorem gs_cut {n : Int} {k : Nat} {t : ByteArray} {row : List ByteArray} {l1 l2 : List Nat} (h : (k : Int) < n) (hk : k < row.length) (hr : k ≤ 1000) (ht : t.size ≤ 1000000000) (c : bytesN t = l1 ++ 32 :: l2) (d : 32 ∉ l1) :
    gsBody n (t, (k : Int), row) = some (.inl (toB l2, ((k + 1 : Nat) : Int), row.set k (toB l1))) := by
  obtain ⟨_, _, hl⟩ := cut_lt c
  have w1 : IntKind.wrap .i64 (((l1.length : Nat) : Int) + 0) = ((l1.length : Nat) : Int) := by rw [wrap64 (by omega) (by omega)]; omega
  have w2 : IntKind.wrap .i64 (((l1.length : Nat) : Int) + (((ByteArray.mk #[32]).size : Nat) : Int)) = ((l1.length + 1 : Nat) : Int) := by
    show IntKind.wrap .i64 (((l1.length : Nat) : Int) + 1) = _
    rw [wrap64 (by omega) (by omega)]; omega
  have w3 : IntKind.wrap .i64 ((k : Int) + 1) = ((k + 1 : Nat) : Int) := by rw [wrap64 (by omega) (by omega)]; omega
  simp only [gsBody, strings_genSplit_n2]
  rw [decide_eq_true h, strIndex_eq, sidx_cut (c := 32) c d]
  simp only [cond_true, Option.bind_some]
  rw [decide_eq_false (by omega), w1, w2, w3, cond_false, inc_ok (by omega) (by omega), Option.bind_some, inb_nat hk, Option.bind_some, inc_ok (by omega) (by omega), Option.bind_some, Int.toNat_natCast, Int.toNat_natCast, cut_left c, cut_right c]
  rfl

/-- What a text in parts is. -/
def PartsAt (s : ByteArray) (n : Nat) (row : List ByteArray) : Prop :=
  n ≤ row.length ∧ 1 ≤ n ∧ n ≤ 3 ∧ (∀ x ∈ row, x.size ≤ s.size) ∧
  (32 ∉ bytesN s → n = 1 ∧ row[0]? = some s) ∧
  (∀ l1 l2, bytesN s = l1 ++ 32 :: l2 → 32 ∉ l1 → 32 ∉ l2 → n = 2 ∧ row[0]? = some (toB l1) ∧ row[1]? = some (toB l2)) ∧
  (∀ l1 l2 l3, bytesN s = l1 ++ 32 :: (l2 ++ 32 :: l3) → 32 ∉ l1 → 32 ∉ l2 → n = 3 ∧ row[0]? = some (toB l1) ∧ row[1]? = some (toB l2) ∧ row[2]? = some (toB l3))

theorem toB_size (l : List Nat) : (toB l).size = l.length := by
  show (Array.size _) = _
  simp [toB]

theorem in_space {s : ByteArray} (h : ¬ 32 ∉ bytesN s) : ∃ l1 l2, bytesN s = l1 ++ 32 :: l2 ∧ 32 ∉ l1 := by
  rcases sidx_is s 32 with ⟨_, h2⟩ | ⟨l1, l2, h1, h2, _⟩
  · exact absurd h2 h
  · exact ⟨l1, l2, h1, h2⟩

theorem splitN_ok (s : ByteArray) (hs : s.size ≤ 1000000000) : ∃ n row, strings_SplitN s (ByteArray.mk #[32]) 3 = some (n, row) ∧ PartsAt s n row := by
  obtain ⟨N, hN⟩ := LL3
  have e : strings_SplitN s (ByteArray.mk #[32]) 3 = strings_SplitN_n1 s (ByteArray.mk #[32]) 3 := by unfold strings_SplitN; rfl
  have e2 : strings_genSplit s (ByteArray.mk #[32]) 0 3 = strings_genSplit_n7 s (ByteArray.mk #[32]) 0 3 := by unfold strings_genSplit; rfl
  rw [e]
  unfold strings_SplitN_n1
  rw [e2]
  unfold strings_genSplit_n7 strings_genSplit_n1
  have w : IntKind.wrap .i64 (((s.size : Nat) : Int) + 1) = ((s.size + 1 : Nat) : Int) := by rw [wrap64 (by omega) (by omega)]; omega
  have sp : seqs (ByteArray.mk #[32]) ByteArray.empty = false := seqs_ne (by decide)
  rw [sp, w, show ((3 : Int) == 0) = false from rfl, show decide ((3 : Int) < 0) = false from rfl]
  simp only [cond_false]
  -- how many parts there may be
  obtain ⟨m, hm, m1, m3, ms⟩ : ∃ m : Nat, imin 3 ((s.size + 1 : Nat) : Int) = (m : Int) ∧ 1 ≤ m ∧ m ≤ 3 ∧ ∀ q, q ≤ s.size → q ≤ 2 → q < m := by
    by_cases c : s.size + 1 ≤ 3
    · refine ⟨s.size + 1, ?_, by omega, by omega, fun q h1 h2 => by omega⟩
      unfold imin
      split <;> omega
    · refine ⟨3, ?_, by omega, by omega, fun q h1 h2 => by omega⟩
      unfold imin
      split <;> omega
  rw [hm, mk_nat (by omega), Option.bind_some, wrap64 (x := (m : Int) - 1) (by omega) (by omega)]
  simp only [Option.bind_some, Sum.elim_inl]
  unfold strings_genSplit_n6 strings_genSplit_n4 strings_genSplit_n3
  -- how it ends
  have fin : ∀ (t : ByteArray) (k : Nat) (row : List ByteArray), row.length = m → k < m → nloop (gsBody ((m : Int) - 1)) LL (s, ((0 : Nat) : Int), List.replicate m ByteArray.empty) = some (t, ((k : Nat) : Int), row) → PartsAt s (k + 1) (row.set k t) →
      ∃ n row', ((((nloop (gsBody ((m : Int) - 1)) LL (s, ((0 : Nat) : Int), List.replicate m ByteArray.empty)).map (fun (t : ByteArray × Int × (List ByteArray)) => (t.1, t.2.1, t.2.2))).bind (fun (t : ByteArray × Int × (List ByteArray)) => strings_genSplit_n5 t.1 t.2.1 t.2.2)).bind fun (v : Nat × (List ByteArray)) => some ((v.1), (v.2))) = some (n, row') ∧ PartsAt s n row' := by
    intro t k row hl hk hL hP
    rw [hL]
    simp only [Option.map_some, Option.bind_some]
    unfold strings_genSplit_n5
    have w3 : IntKind.wrap .i64 ((k : Int) + 1) = ((k + 1 : Nat) : Int) := by rw [wrap64 (by omega) (by omega)]; omega
    rw [inb_nat (by omega), Option.bind_some, w3, inc_ok (by omega) (by rw [List.length_set]; omega), Option.bind_some, Option.bind_some, Int.toNat_natCast, Nat.sub_zero]
    exact ⟨k + 1, row.set k t, rfl, hP⟩
  have r0 : (List.replicate m ByteArray.empty).length = m := List.length_replicate ..
  have small : ∀ x ∈ List.replicate m ByteArray.empty, x.size ≤ s.size := fun x hx => by rw [(List.mem_replicate.1 hx).2]; exact Nat.zero_le _
  have setle : ∀ {row : List ByteArray} {k : Nat} {y : ByteArray}, (∀ x ∈ row, x.size ≤ s.size) → y.size ≤ s.size → ∀ x ∈ row.set k y, x.size ≤ s.size := fun {row k y} h hy x hx => by
    rcases List.mem_or_eq_of_mem_set hx with h' | h'
    · exact h x h'
    · rw [h']; exact hy
  by_cases c1 : 32 ∉ bytesN s
  · refine fin s 0 _ r0 (by omega) ?_ ⟨by rw [List.length_set]; omega, by omega, by omega, setle small (Nat.le_refl _), fun _ => ⟨rfl, by rw [List.getElem?_set_self (by omega)]⟩, fun l1 l2 h _ _ => absurd (by rw [h]; simp) c1, fun l1 l2 l3 h _ _ => absurd (by rw [h]; simp) c1⟩
    rw [hN]
    by_cases q : ((0 : Nat) : Int) < (m : Int) - 1
    · exact nloop_e (gs_none q c1) _
    · exact nloop_e (gs_end q) _
  · obtain ⟨l1, l2, h1, d1⟩ := in_space c1
    obtain ⟨b1, b2, hl⟩ := cut_lt h1
    have m2 : 1 < m := ms 1 (by omega) (by omega)
    have st1 := gs_cut (n := (m : Int) - 1) (k := 0) (t := s) (row := List.replicate m ByteArray.empty) (by omega) (by omega) (by omega) hs h1 d1
    have z1 : (toB l1).size ≤ s.size := by rw [toB_size]; omega
    have z2 : (toB l2).size ≤ s.size := by rw [toB_size]; omega
    have bb : bytesN (toB l2) = l2 := bytesN_toB b2
    by_cases c2 : 32 ∉ l2
    · refine fin (toB l2) 1 ((List.replicate m ByteArray.empty).set 0 (toB l1)) (by rw [List.length_set]; omega) (by omega) ?_ ⟨by rw [List.length_set, List.length_set]; omega, by omega, by omega, setle (setle small z1) z2, fun h => absurd h c1, fun a b h da db => ?_, fun a b c h da db => ?_⟩
      · rw [hN, nloop_s st1]
        by_cases q : ((0 + 1 : Nat) : Int) < (m : Int) - 1
        · exact nloop_e (gs_none q (by rw [bb]; exact c2)) _
        · exact nloop_e (gs_end q) _
      · obtain ⟨rfl, rfl⟩ := cut_unique (h1.symm.trans h) d1 da
        refine ⟨rfl, ?_, by rw [List.getElem?_set_self (by rw [List.length_set]; omega)]⟩
        rw [List.getElem?_set_ne (by omega), List.getElem?_set_self (by omega)]
      · obtain ⟨rfl, rfl⟩ := cut_unique (h1.symm.trans h) d1 da
        exact absurd (by simp) c2
    · obtain ⟨k1, k2, h2, d2⟩ := in_space (s := toB l2) (by rw [bb]; exact c2)
      obtain ⟨b3, b4, hl2⟩ := cut_lt h2
      rw [toB_size] at hl2
      have m3' : 2 < m := ms 2 (by omega) (by omega)
      have st2 := gs_cut (n := (m : Int) - 1) (k := 1) (t := toB l2) (row := (List.replicate m ByteArray.empty).set 0 (toB l1)) (by omega) (by rw [List.length_set]; omega) (by omega) (by rw [toB_size]; omega) h2 d2
      have z3 : (toB k1).size ≤ s.size := by rw [toB_size]; omega
      have z4 : (toB k2).size ≤ s.size := by rw [toB_size]; omega
      rw [bb] at h2
      refine fin (toB k2) 2 (((List.replicate m ByteArray.empty).set 0 (toB l1)).set 1 (toB k1)) (by rw [List.length_set, List.length_set]; omega) (by omega) ?_ ⟨by rw [List.length_set, List.length_set, List.length_set]; omega, by omega, by omega, setle (setle (setle small z1) z3) z4, fun h => absurd h c1, fun a b h da db => ?_, fun a b c h da db => ?_⟩
      · rw [hN, nloop_s st1, nloop_s st2]
        exact nloop_e (gs_end (by omega)) _
      · obtain ⟨rfl, rfl⟩ := cut_unique (h1.symm.trans h) d1 da
        exact absurd db c2
      · obtain ⟨rfl, e2⟩ := cut_unique (h1.symm.trans h) d1 da
        obtain ⟨rfl, rfl⟩ := cut_unique (h2.symm.trans e2) d2 db
        refine ⟨rfl, ?_, ?_, by rw [List.getElem?_set_self (by rw [List.length_set, List.length_set]; omega)]⟩
        · rw [List.getElem?_set_ne (by omega), List.getElem?_set_ne (by omega), List.getElem?_set_self (by omega)]
        · rw [List.getElem?_set_ne (by omega), List.getElem?_set_self (by rw [List.length_set]; omega)]

theorem kind_some (w : ByteArray) : ∃ k, impl_kindFor w = some k := by
  have e : impl_kindFor w = impl_kindFor_n9 w := by unfold impl_kindFor; rfl
  rw [e]
  unfold impl_kindFor_n9 impl_kindFor_n1 impl_kindFor_n8 impl_kindFor_n6 impl_kindFor_n2 impl_kindFor_n5 impl_kindFor_n4 impl_kindFor_n7
  rw [show same (List.length tabW) 6 = some () from rfl]
  simp only [Option.bind_some]
  obtain ⟨r, hr, _⟩ := nloop_ex (body := fun (s : Int) => ((impl_kindFor_n3 w (tabW.getD 0 ByteArray.empty) (tabW.getD 1 ByteArray.empty) (tabW.getD 2 ByteArray.empty) (tabW.getD 3 ByteArray.empty) (tabW.getD 4 ByteArray.empty) (tabW.getD 5 ByteArray.empty) s).map (Sum.elim (fun (t : Int) => Sum.inl t) (Sum.elim (fun (t : Int) => Sum.inr (Sum.inl t)) (fun (t : Unit) => Sum.inr (Sum.inr t)))) : Option ((Int) ⊕ (Int ⊕ Unit))))
    (I := fun s => 0 ≤ s ∧ s ≤ 6) (μ := fun s => (6 - s).toNat) (Q := fun _ => True)
    (by
      intro s ⟨s0, s6⟩
      unfold impl_kindFor_n3
      by_cases c : s < 6
      · rw [decide_eq_true c]
        obtain ⟨j, rfl⟩ := Int.eq_ofNat_of_zero_le s0
        have hj : j < [tabW.getD 0 ByteArray.empty, tabW.getD 1 ByteArray.empty, tabW.getD 2 ByteArray.empty, tabW.getD 3 ByteArray.empty, tabW.getD 4 ByteArray.empty, tabW.getD 5 ByteArray.empty].length := by simp; omega
        rw [cond_true, idx_lt hj, Option.bind_some, wrap64 (by omega) (by omega)]
        cases seqs _ w with
        | true => exact .inr ⟨_, rfl, trivial⟩
        | false => exact .inl ⟨_, rfl, ⟨by omega, by omega⟩, by omega⟩
      · rw [decide_eq_false c]
        exact .inr ⟨_, rfl, trivial⟩) LL 0 ⟨by omega, by omega⟩ (by simp only [LL]; omega)
  have hr' : nloop _ LL (0 : Int) = some r := hr
  rw [hr']
  cases r with
  | inl x => exact ⟨_, rfl⟩
  | inr x => exact ⟨_, rfl⟩

theorem kind_word : impl_kindFor (ByteArray.mk #[104, 101, 97, 100]) = some 0 ∧ impl_kindFor (ByteArray.mk #[97, 100, 100]) = some 1 ∧ impl_kindFor (wordW 2) = some 2 ∧ impl_kindFor (wordW 3) = some 3 ∧ impl_kindFor (wordW 4) = some 4 ∧ impl_kindFor (wordW 5) = some 5 := by
  decide +kernel

theorem atoi_some {t : ByteArray} (h : t.size ≤ 1000000000) : strconv_Atoi t = some (atoiE t) := by
  unfold strconv_Atoi atoiS
  rw [if_pos (by omega)]

def guessR (s : ByteArray) (k x y : Int) (t : ByteArray) : Bool × Int × Int × Int := cond (seqs s ByteArray.empty) (false, 0, 0, 0) (cond (!(seqs t s)) (false, 0, 0, 0) (true, k, x, y))

theorem implRead_eq (s : ByteArray) (hs : s.size ≤ 100000000) : impl_ReadDeed s = some (readI s) := by
  obtain ⟨n, row, hsp, hn, n1, n3, hsz, p1, p2, p3⟩ := splitN_ok s (by omega)
  have e : impl_ReadDeed s = impl_ReadDeed_n1 s := by unfold impl_ReadDeed; rfl
  have rs : ∀ i (hi : i < row.length), row[i].size ≤ 1000000000 := fun i hi => by have := hsz _ (List.getElem_mem hi); omega
  obtain ⟨k, hk⟩ := kind_some (row[0]'(by omega))
  -- what is told
  have G : impl_ReadDeed s = some (guessR s k (if h : 1 < n then (atoiE (row[1]'(by omega))).1 else 0) (if h : 2 < n then (atoiE (row[2]'(by omega))).1 else 0) (deedT k (if h : 1 < n then (atoiE (row[1]'(by omega))).1 else 0) (if h : 2 < n then (atoiE (row[2]'(by omega))).1 else 0))) := by
    rw [e]
    unfold impl_ReadDeed_n1 guessR
    rw [hsp]
    simp only [Option.bind_some, Nat.zero_add]
    rw [show (0 : Int) = ((0 : Nat) : Int) from rfl, inb_nat (show 0 < n by omega), Option.bind_some, List.getElem?_eq_getElem (show 0 < row.length by omega), Option.bind_some, hk, Option.bind_some]
    by_cases c1 : 1 < n
    · rw [decide_eq_true (show (n : Int) > 1 by omega), cond_true, show (1 : Int) = ((1 : Nat) : Int) from rfl, inb_nat c1, Option.bind_some, List.getElem?_eq_getElem (show 1 < row.length by omega), Option.bind_some, atoi_some (rs 1 _), Option.bind_some, dif_pos c1]
      by_cases c2 : 2 < n
      · rw [decide_eq_true (show (n : Int) > 2 by omega), cond_true, show (2 : Int) = ((2 : Nat) : Int) from rfl, inb_nat c2, Option.bind_some, List.getElem?_eq_getElem (show 2 < row.length by omega), Option.bind_some, atoi_some (rs 2 _), Option.bind_some, dif_pos c2, implDeedText_eq]
        cases seqs s ByteArray.empty with
        | true => rfl
        | false =>
          simp only [cond_false, Option.bind_some]
          cases seqs _ s <;> rfl
      · rw [decide_eq_false (show ¬ (n : Int) > 2 by omega), cond_false, dif_neg c2]
        have := implDeedText_eq k (atoiE (row[1]'(by omega))).1 0
        rw [show ((0 : Nat) : Int) = 0 from rfl, this]
        cases seqs s ByteArray.empty with
        | true => rfl
        | false =>
          simp only [cond_false, Option.bind_some]
          cases seqs _ s <;> rfl
    · rw [decide_eq_false (show ¬ (n : Int) > 1 by omega), cond_false, decide_eq_false (show ¬ (n : Int) > 2 by omega), cond_false, dif_neg c1, dif_neg (show ¬ 2 < n by omega)]
      have := implDeedText_eq k 0 0
      rw [show ((0 : Nat) : Int) = 0 from rfl, this]
      cases seqs s ByteArray.empty with
      | true => rfl
      | false =>
        simp only [cond_false, Option.bind_some]
        cases seqs _ s <;> rfl
  rw [G]
  by_cases q : ∃ d : Int × Int × Int, deedB d.1 d.2.1 d.2.2 = true ∧ deedT d.1 d.2.1 d.2.2 = s
  · obtain ⟨⟨k', a, b⟩, d, t⟩ := q
    simp only at d t
    have R := read_deed d
    rw [t] at R
    have ne := deed_ne d
    rw [t] at ne
    rw [R]
    -- what is told is the deed
    have same : k = k' ∧ (if h : 1 < n then (atoiE (row[1]'(by omega))).1 else 0) = a ∧ (if h : 2 < n then (atoiE (row[2]'(by omega))).1 else 0) = b := by
      have at0 : ∀ {x : ByteArray}, row[0]? = some x → row[0]'(by omega) = x := fun h => by
        rw [List.getElem?_eq_getElem (show 0 < row.length by omega)] at h
        exact Option.some.inj h
      rcases deedB_cases d with ⟨u, v, hu, hv, rfl, rfl, rfl⟩ | ⟨u, hu, rfl, rfl, rfl⟩ | ⟨h2, h5, rfl, rfl⟩
      · have hb : bytesN s = [104, 101, 97, 100] ++ 32 :: (bytesN (numT u) ++ 32 :: bytesN (numT v)) := by
          rw [← t, deed_head hu hv, bytesN_app, bytesN_app, bytesN_app]
          rw [show bytesN headW = [104, 101, 97, 100] ++ [32] from rfl, show bytesN spaceW = [32] from rfl]
          simp
        obtain ⟨rfl, r0, r1, r2⟩ := p3 _ _ _ hb (by decide) (no_space hu)
        rw [toB_bytes] at r1 r2
        have k0 := at0 r0
        rw [k0, show toB [104, 101, 97, 100] = ByteArray.mk #[104, 101, 97, 100] from rfl, kind_word.1] at hk
        rw [List.getElem?_eq_getElem (show 1 < row.length by omega)] at r1
        rw [List.getElem?_eq_getElem (show 2 < row.length by omega)] at r2
        refine ⟨(Option.some.inj hk).symm, ?_, ?_⟩
        · rw [dif_pos (by omega), Option.some.inj r1, num_atoi hu]
        · rw [dif_pos (by omega), Option.some.inj r2, num_atoi hv]
      · have hb : bytesN s = [97, 100, 100] ++ 32 :: bytesN (numT u) := by
          rw [← t, deed_add hu, bytesN_app]
          rw [show bytesN addW = [97, 100, 100] ++ [32] from rfl]
          simp
        obtain ⟨rfl, r0, r1⟩ := p2 _ _ hb (by decide) (no_space hu)
        rw [toB_bytes] at r1
        have k0 := at0 r0
        rw [k0, show toB [97, 100, 100] = ByteArray.mk #[97, 100, 100] from rfl, kind_word.2.1] at hk
        rw [List.getElem?_eq_getElem (show 1 < row.length by omega)] at r1
        refine ⟨(Option.some.inj hk).symm, ?_, ?_⟩
        · rw [dif_pos (by omega), Option.some.inj r1, num_atoi hu]
        · rw [dif_neg (by omega)]
      · have hw : s = wordW k' := by rw [← t, deed_word h2 h5]
        obtain ⟨rfl, r0⟩ := p1 (by
          rw [hw]
          rcases wordW_eq h2 h5 with rfl | rfl | rfl | rfl <;> decide)
        have k0 := at0 r0
        rw [k0, hw] at hk
        refine ⟨?_, by rw [dif_neg (by omega)], by rw [dif_neg (by omega)]⟩
        have kw := kind_word
        rcases wordW_eq h2 h5 with rfl | rfl | rfl | rfl
        · rw [kw.2.2.1] at hk; exact (Option.some.inj hk).symm
        · rw [kw.2.2.2.1] at hk; exact (Option.some.inj hk).symm
        · rw [kw.2.2.2.2.1] at hk; exact (Option.some.inj hk).symm
        · rw [kw.2.2.2.2.2] at hk; exact (Option.some.inj hk).symm
    obtain ⟨e1, e2, e3⟩ := same
    rw [e1, e2, e3]
    unfold guessR
    rw [seqs_ne ne, t, seqs_self]
    rfl
  · rw [read_none (fun k a b hd ht => q ⟨(k, a, b), hd, ht⟩)]
    unfold guessR
    by_cases em : s = ByteArray.empty
    · rw [em, seqs_self]
      rfl
    · rw [seqs_ne em]
      generalize (if h : 1 < n then (atoiE (row[1]'(by omega))).1 else 0) = x
      generalize (if h : 2 < n then (atoiE (row[2]'(by omega))).1 else 0) = y
      have : seqs (deedT k x y) s = false := seqs_ne (fun t => by
        cases d : deedB k x y with
        | true => exact q ⟨(k, x, y), d, t⟩
        | false =>
          rw [deed_none d] at t
          exact em t.symm)
      rw [this]
      rfl

theorem strCut_none {t : ByteArray} {c : UInt8} (h : c.toNat ∉ bytesN t) : strings_Cut t (ByteArray.mk #[c]) = some (t, ByteArray.empty, false) := by
  have e : strings_Cut t (ByteArray.mk #[c]) = strings_Cut_n1 t (ByteArray.mk #[c]) := by unfold strings_Cut; rfl
  have e2 : internal_stringslite_Cut t (ByteArray.mk #[c]) = internal_stringslite_Cut_n1 t (ByteArray.mk #[c]) := by unfold internal_stringslite_Cut; rfl
  rw [e]
  unfold strings_Cut_n1
  rw [e2]
  unfold internal_stringslite_Cut_n1 internal_stringslite_Index
  rw [sidx_none h]
  rfl
theorem strCut_cut {t : ByteArray} {c : UInt8} (ht : t.size ≤ 1000000000) {l1 l2 : List Nat} (h : bytesN t = l1 ++ c.toNat :: l2) (d : c.toNat ∉ l1) : strings_Cut t (ByteArray.mk #[c]) = some (toB l1, toB l2, true) := by
  have e : strings_Cut t (ByteArray.mk #[c]) = strings_Cut_n1 t (ByteArray.mk #[c]) := by unfold strings_Cut; rfl
  have e2 : internal_stringslite_Cut t (ByteArray.mk #[c]) = internal_stringslite_Cut_n1 t (ByteArray.mk #[c]) := by unfold internal_stringslite_Cut; rfl
  obtain ⟨_, _, hl⟩ := cut_lt h
  have w2 : IntKind.wrap .i64 (((l1.length : Nat) : Int) + (((ByteArray.mk #[c]).size : Nat) : Int)) = ((l1.length + 1 : Nat) : Int) := by
    show IntKind.wrap .i64 (((l1.length : Nat) : Int) + 1) = _
    rw [wrap64 (by omega) (by omega)]; omega
  rw [e]
  unfold strings_Cut_n1
  rw [e2]
  unfold internal_stringslite_Cut_n1 internal_stringslite_Index
  rw [sidx_cut h d, Option.bind_some, decide_eq_true (by omega), cond_true, w2, inc_ok (by omega) (by omega), Option.bind_some, inc_ok (by omega) (by omega), Option.bind_some, Int.toNat_natCast, Int.toNat_natCast, cut_left h, cut_right h]
  rfl

theorem scan_none : ∀ {r acc : List Nat}, 10 ∉ r → scanJ acc r = ([], 0)
  | [], acc, _ => by rw [scanJ]
  | x :: r, acc, h => by
    rw [scanJ, if_neg (fun e => h (by rw [e]; exact List.mem_cons_self ..))]
    exact scan_none fun m => h (List.mem_cons_of_mem _ m)

abbrev ijBody (s : ByteArray) : Int × List DeedL → Option ((Int × List DeedL) ⊕ (Int × List DeedL)) :=
  fun (t : Int × (List (Int × Int × Int × Unit))) => ((impl_ReadJournal_n2 s t.1 t.2).map (Sum.elim (fun (t : Int × (List (Int × Int × Int × Unit))) => Sum.inl (t.1, t.2)) (fun (t : Int × (List (Int × Int × Int × Unit))) => Sum.inr t)) : Option ((Int × (List (Int × Int × Int × Unit))) ⊕ ((Int × (List (Int × Int × Int × Unit))))))

theorem ij_loop (s : ByteArray) (hs : s.size ≤ 100000000) : ∀ (N f : Nat) (out : List DeedL), f ≤ s.size → out.length ≤ f → s.size - f < N →
    nloop (ijBody s) N ((f : Int), out) = some (((f + (scanJ [] ((bytesN s).drop f)).2 : Nat) : Int), out ++ (scanJ [] ((bytesN s).drop f)).1)
  | 0, f, out, _, _, h => by omega
  | N + 1, f, out, hf, ho, hN => by
    have hb : bytesN (s.extract f s.size) = (bytesN s).drop f := by
      rw [bytesN_extract, List.take_of_length_le (by rw [bytesN_length]; omega)]
    have hz : (s.extract f s.size).size ≤ s.size := by rw [← bytesN_length, hb, List.length_drop, bytesN_length]; omega
    by_cases c : 10 ∉ bytesN (s.extract f s.size)
    · refine (nloop_e (o := ((f : Int), out)) ?_ N).trans ?_
      · simp only [ijBody, impl_ReadJournal_n2]
        rw [inc_ok (by omega) (by omega), Option.bind_some, Int.toNat_natCast, strCut_none (c := 10) c]
        simp only [Option.bind_some]
        rw [implRead_eq _ (by omega)]
        rfl
      · rw [hb] at c
        rw [scan_none c]
        simp
    · obtain ⟨l1, l2, h1, d1⟩ : ∃ l1 l2, bytesN (s.extract f s.size) = l1 ++ 10 :: l2 ∧ 10 ∉ l1 := by
        rcases sidx_is (s.extract f s.size) 10 with ⟨_, h2⟩ | ⟨l1, l2, h1, h2, _⟩
        · exact absurd h2 c
        · exact ⟨l1, l2, h1, h2⟩
      obtain ⟨_, _, hl⟩ := cut_lt h1
      have hR : (bytesN s).drop f = l1 ++ 10 :: l2 := by rw [← hb, h1]
      have hlen : s.size - f = l1.length + (l2.length + 1) := by
        have := congrArg List.length hR
        rw [List.length_drop, bytesN_length] at this
        simpa using this
      have hrd := implRead_eq (toB l1) (by rw [toB_size]; omega)
      have sc : scanJ [] ((bytesN s).drop f) = if (readI (toB l1)).1 = true then (((readI (toB l1)).2.1, (readI (toB l1)).2.2.1, (readI (toB l1)).2.2.2, ()) :: (scanJ [] l2).1, l1.length + 1 + (scanJ [] l2).2) else ([], 0) := by
        rw [hR, scan_line _ _ _ d1, List.nil_append, scanJ, if_pos rfl]
      cases v : (readI (toB l1)).1 with
      | false =>
        refine (nloop_e (o := ((f : Int), out)) ?_ N).trans ?_
        · simp only [ijBody, impl_ReadJournal_n2]
          rw [inc_ok (by omega) (by omega), Option.bind_some, Int.toNat_natCast, strCut_cut (c := 10) (by omega) h1 d1]
          simp only [Option.bind_some, hrd, v]
          rfl
        · rw [sc, v, if_neg (by simp)]
          simp
      | true =>
        have w1 : IntKind.wrap .i64 (((toB l1).size : Nat) + 1 : Int) = ((l1.length + 1 : Nat) : Int) := by rw [toB_size, wrap64 (by omega) (by omega)]; omega
        have w2 : IntKind.wrap .i64 ((f : Int) + ((l1.length + 1 : Nat) : Int)) = ((f + (l1.length + 1) : Nat) : Int) := by rw [wrap64 (by omega) (by omega)]; omega
        refine (nloop_s (s' := (((f + (l1.length + 1) : Nat) : Int), out ++ [((readI (toB l1)).2.1, (readI (toB l1)).2.2.1, (readI (toB l1)).2.2.2, ())])) ?_ N).trans ?_
        · simp only [ijBody, impl_ReadJournal_n2]
          rw [inc_ok (by omega) (by omega), Option.bind_some, Int.toNat_natCast, strCut_cut (c := 10) (by omega) h1 d1]
          simp only [Option.bind_some, hrd, v, Bool.not_true, cond_false]
          rw [room_le (by simp only [List.length_cons, List.length_nil]; omega), Option.bind_some, w1, w2]
          rfl
        · rw [ij_loop s hs N (f + (l1.length + 1)) _ (by omega) (by simp; omega) (by omega)]
          have hd : (bytesN s).drop (f + (l1.length + 1)) = l2 := by
            rw [← List.drop_drop, hR, List.drop_append]
            simp
          rw [hd, sc, v, if_pos rfl]
          simp only [List.append_assoc, List.singleton_append]
          congr 2
          omega

theorem implReadJ_eq (s : ByteArray) (hs : s.size ≤ 100000000) : impl_ReadJournal s = some (((readJ s).2 : Int), (readJ s).1) := by
  have e : impl_ReadJournal s = impl_ReadJournal_n5 s := by unfold impl_ReadJournal; rfl
  rw [e]
  unfold impl_ReadJournal_n5 impl_ReadJournal_n1 impl_ReadJournal_n4 impl_ReadJournal_n3
  have L := ij_loop s hs LL 0 [] (by omega) (by simp) (by simp only [LL]; omega)
  have L' : nloop _ LL ((0 : Int), ([] : List DeedL)) = _ := L
  simp only [Option.bind_some]
  rw [L']
  simp only [List.drop_zero, Nat.zero_add, List.nil_append, Option.map_some]
  rfl

theorem ba_empty_append (a : ByteArray) : ByteArray.empty ++ a = a := bytesN_inj (by rw [bytesN_app, bytesN_empty, List.nil_append])

theorem jtext_is : ∀ (l : List DeedL) (acc : ByteArray), acc.size + 11 * l.length ≤ 100000000 →
    jtext (fun d : Int × Int × Int × Unit => impl_DeedText d.1 d.2.1 d.2.2.1) l acc = some (if l.all validD = true then acc ++ journL l else ByteArray.empty)
  | [], acc, _ => by
    rw [jtext, List.all_nil, if_pos rfl]
    congr 1
    exact bytesN_inj (by rw [bytesN_app, show bytesN (journL []) = [] from rfl, List.append_nil])
  | d :: l, acc, h => by
    rw [List.length_cons] at h
    have e : impl_DeedText d.1 d.2.1 d.2.2.1 = some (textD d) := implDeedText_eq d.1 d.2.1 d.2.2.1
    rw [jtext, e, Option.bind_some]
    cases v : validD d with
    | false =>
      have : textD d = ByteArray.empty := deed_none v
      rw [if_pos this, List.all_cons, v, Bool.false_and, if_neg (by simp)]
    | true =>
      obtain ⟨_, s10⟩ := deed_size v
      have ne : textD d ≠ ByteArray.empty := deed_ne v
      have s10 : (textD d).size ≤ 10 := s10
      rw [if_neg ne, if_pos ⟨by omega, by omega⟩, jtext_is l _ (by rw [ByteArray.size_append, ByteArray.size_append]; show acc.size + ((textD d).size + 1) + _ ≤ _; omega), List.all_cons, v, Bool.true_and]
      cases l.all validD with
      | false => rw [if_neg (by simp), if_neg (by simp)]
      | true =>
        rw [if_pos rfl, if_pos rfl]
        congr 1
        refine bytesN_inj ?_
        rw [journL]
        simp only [bytesN_app]
        rw [show bytesN (ByteArray.mk #[10]) = bytesN nlW from rfl]
        simp

theorem implJournal_eq (l : List DeedL) (h : l.length ≤ 1048576) : impl_JournalText l = some (journT l) := by
  unfold impl_JournalText journT jtextL
  rw [if_pos (by omega)]
  rw [jtext_is l _ (by show 0 + _ ≤ _; omega)]
  cases l.all validD with
  | false => rfl
  | true => rw [if_pos rfl, if_pos rfl, ba_empty_append]

end Go.Rv
