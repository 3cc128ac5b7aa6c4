/-
  Plain mathematics of what the law reaches. Conditions: none.
-/
import Derived.Test.YteefjoepogdgpaaDoorGFnScoreOf
set_option linter.unusedVariables false
set_option linter.unusedSimpArgs false
namespace Go.Rv
theorem nloop_run {σ ω : Type} {body : σ → Option (σ ⊕ ω)} (I : σ → Prop) (μ : σ → Nat) (f : σ → ω)
    (h : ∀ s, I s → (∃ s', body s = some (.inl s') ∧ I s' ∧ μ s' < μ s ∧ f s' = f s) ∨ body s = some (.inr (f s))) : ∀ (n : Nat) (s : σ), I s → μ s < n → nloop body n s = some (f s)
  | 0, s, _, hn => by omega
  | n + 1, s, hi, hn => by
    rcases h s hi with ⟨s', hb, hi', hm, hf⟩ | hb
    · simp only [nloop, hb, Option.bind_some]
      rw [nloop_run I μ f h n s' hi' (by omega), hf]
    · simp only [nloop, hb, Option.bind_some]

/-- A loop that counts from a number on: state (k, x), k < n goes on. -/
theorem wrap64 {x : Int} (h1 : -9223372036854775808 ≤ x) (h2 : x ≤ 9223372036854775807) : IntKind.wrap .i64 x = x := by
  simp only [IntKind.wrap, IntKind.bits, IntKind.signed]
  simp
  omega

theorem idx_nat {α : Type} (xs : List α) (k : Nat) : idx xs (k : Int) = xs[k]? := by simp [idx]
theorem idx_lt {α : Type} {xs : List α} {k : Nat} (h : k < xs.length) : idx xs (k : Int) = some xs[k] := by simp [idx, h]
theorem inb_nat {k n : Nat} (h : k < n) : inb (k : Int) n = some k := by
  simp only [inb]
  rw [if_pos (by omega)]
  simp
theorem mk_nat {n : Nat} (h : n ≤ 1099511627776) : mk (n : Int) (n : Int) = some n := by
  simp only [mk]
  rw [if_pos (by omega)]
  simp
theorem room_le {n : Nat} (h : n ≤ 1099511627776) : room n = some () := by simp [room, h]

theorem drop_cons {α : Type} {xs : List α} {k : Nat} (h : k < xs.length) : xs.drop k = xs[k] :: xs.drop (k + 1) := List.drop_eq_getElem_cons h

/-- From a word to the root, with so many steps at most: the root, and how many steps lead to it. -/
def climb (h : List Int) : Nat → Nat → Option (Nat × Nat)
  | 0, _ => none
  | f + 1, w => match h[w - 1]? with
    | none => none
    | some x => if x = 0 then some (w, 0) else (climb h f x.toNat).map fun p => (p.1, p.2 + 1)

def okHead (n : Nat) (x : Int) : Bool := decide (0 ≤ x) && decide (x ≤ n)

def inRange (h : List Int) : Bool := h.all (okHead h.length)

/-- The heads of a tree. -/
def treeB (h : List Int) : Bool :=
  decide (1 ≤ h.length) && decide (h.length ≤ 8) && inRange h && (h.count 0 == 1) && (List.range h.length).all fun k => (climb h h.length (k + 1)).isSome

theorem all_drop_cons {h : List Int} {p : Int → Bool} {k : Nat} (hk : k < h.length) : (h.drop k).all p = (p h[k] && (h.drop (k + 1)).all p) := by
  rw [drop_cons hk]; rfl

theorem count_drop_cons {h : List Int} {k : Nat} (hk : k < h.length) : (h.drop k).count 0 = (if h[k] = 0 then 1 else 0) + (h.drop (k + 1)).count 0 := by
  rw [drop_cons hk, List.count_cons]
  by_cases e : h[k] = 0 <;> simp [e] <;> omega

theorem oneRoot_eq (h : List Int) (hl : h.length ≤ 1048576) : impl_oneRoot h = some (inRange h && (h.count 0 == 1)) := by
  have hloop := nloop_run (body := fun (s : Int × Int) => ((impl_oneRoot_n3 h s.1 h.length s.2).map (Sum.elim (fun (t : Int × Int) => Sum.inl (t.1, t.2)) (Sum.elim (fun (t : Bool) => Sum.inr (Sum.inl t)) (fun (t : Int) => Sum.inr (Sum.inr t)))) : Option ((Int × Int) ⊕ (Bool ⊕ Int))))
    (I := fun s => ∃ k r : Nat, s = ((r : Int), (k : Int)) ∧ k ≤ h.length ∧ r ≤ k) (μ := fun s => h.length - s.2.toNat)
    (f := fun s => cond ((h.drop s.2.toNat).all (okHead h.length)) (.inr (s.1 + ((h.drop s.2.toNat).count 0 : Nat))) (.inl false))
    (by
      rintro _ ⟨k, r, rfl, hk, hr⟩
      by_cases hlt : k < h.length
      · simp only [impl_oneRoot_n3]
        rw [show decide ((k : Int) < ((h.length : Nat) : Int)) = true from decide_eq_true (by omega)]
        simp only [cond_true, idx_lt hlt, Option.bind_some, Int.toNat_natCast]
        rw [wrap64 (x := (k : Int) + 1) (by omega) (by omega), wrap64 (x := (r : Int) + 1) (by omega) (by omega), all_drop_cons hlt, count_drop_cons hlt]
        by_cases h1 : h[k] < 0
        · right
          have : okHead h.length h[k] = false := by simp [okHead]; omega
          simp [h1, this]
        · by_cases h2 : h[k] > (h.length : Int)
          · right
            have : okHead h.length h[k] = false := by simp [okHead]; omega
            simp [h1, h2, this]
          · left
            have hok : okHead h.length h[k] = true := by simp [okHead]; omega
            by_cases h3 : h[k] = 0
            · refine ⟨(((r + 1 : Nat) : Int), ((k + 1 : Nat) : Int)), ?_, ⟨k + 1, r + 1, rfl, hlt, by omega⟩, by simp; omega, ?_⟩
              · have h4 : decide ((h.length : Int) < 0) = false := decide_eq_false (by omega)
                simp [h3, h4]
              · have e : ((k + 1 : Nat) : Int).toNat = k + 1 := by simp
                rw [e, hok]
                simp only [h3, if_true, Bool.true_and]
                congr 2
                push_cast
                omega
            · refine ⟨((r : Int), ((k + 1 : Nat) : Int)), ?_, ⟨k + 1, r, rfl, hlt, by omega⟩, by simp; omega, ?_⟩
              · have e1 : (h[k] == 0) = false := by simpa using h3
                have e2 : decide (h[k] < 0) = false := decide_eq_false h1
                have e3 : decide (h[k] > (h.length : Int)) = false := decide_eq_false h2
                simp [e1, e2, e3]
              · have e : ((k + 1 : Nat) : Int).toNat = k + 1 := by simp
                rw [e, hok]
                simp [h3]
      · right
        have e : k = h.length := by omega
        subst e
        simp only [impl_oneRoot_n3]
        rw [show decide (((h.length : Nat) : Int) < ((h.length : Nat) : Int)) = false from decide_eq_false (by omega)]
        simp)
  unfold impl_oneRoot impl_oneRoot_n9 impl_oneRoot_n1 impl_oneRoot_n8 impl_oneRoot_n6 impl_oneRoot_n2 impl_oneRoot_n5 impl_oneRoot_n4
  simp only [Option.bind_some]
  rw [hloop LL (0, 0) ⟨0, 0, rfl, by omega, by omega⟩ (by simp only [LL]; simp; omega)]
  simp only [Int.toNat_zero, List.drop_zero]
  unfold inRange
  cases ha : h.all (okHead h.length) with
  | false => simp
  | true =>
    simp only [cond_true, Option.map_some, Sum.elim_inr, Option.bind_some, Sum.elim_inl, impl_oneRoot_n7, Bool.true_and]
    congr 1
    by_cases e : h.count 0 = 1
    · simp [e]
    · have e1 : ((0 : Int) + ((h.count 0 : Nat) : Int) == 1) = false := by rw [beq_eq_false_iff_ne]; omega
      have e2 : (h.count 0 == 1) = false := by rw [beq_eq_false_iff_ne]; exact e
      rw [e2]; exact e1

theorem inRange_get {h : List Int} (hr : inRange h = true) {k : Nat} (hk : k < h.length) : 0 ≤ h[k] ∧ h[k] ≤ h.length := by
  have := List.all_eq_true.1 hr h[k] (List.getElem_mem hk)
  simpa [okHead] using this

theorem up_eq (h : List Int) (k : Nat) (s : Nat) (hk : k < h.length) (hl : h.length ≤ 1048576) (hs : s ≤ h.length) :
    impl_walker_up h ((k + 1 : Nat) : Int) (s : Int) = some (if h[k] = 0 then (false, ((k + 1 : Nat) : Int), (s : Int)) else (true, h[k], ((s + 1 : Nat) : Int))) := by
  unfold impl_walker_up impl_walker_up_n1
  rw [wrap64 (by omega) (by omega), show ((k + 1 : Nat) : Int) - 1 = (k : Int) by omega, idx_lt hk]
  simp only [Option.bind_some]
  rw [wrap64 (by omega) (by omega)]
  by_cases e : h[k] = 0
  · simp [e]
  · have e1 : (h[k] == 0) = false := by simpa using e
    simp [e, e1]

theorem steps_eq (h : List Int) (hl : h.length ≤ 1048576) (hr : inRange h = true) (k : Nat) (hk : k < h.length) :
    impl_stepsToRoot h ((k + 1 : Nat) : Int) = some (match climb h h.length (k + 1) with | some p => ((p.2 : Int), true) | none => (0, false)) := by
  have hloop := nloop_run (body := fun (s : Int × Int) => ((impl_stepsToRoot_n2 h s.1 s.2).map (Sum.elim (fun (t : Int × Int) => Sum.inl (t.1, t.2)) (Sum.elim (fun (t : Int × Bool) => Sum.inr (Sum.inl t)) (fun (t : Int × Int) => Sum.inr (Sum.inr t)))) : Option ((Int × Int) ⊕ ((Int × Bool) ⊕ (Int × Int)))))
    (I := fun s => ∃ k i : Nat, s = (((k + 1 : Nat) : Int), (i : Int)) ∧ k < h.length ∧ i < h.length) (μ := fun s => h.length - s.2.toNat)
    (f := fun s => match climb h (h.length - s.2.toNat) s.1.toNat with | some p => .inr ((p.1 : Int), s.2 + (p.2 : Int)) | none => .inl (0, false))
    (by
      rintro _ ⟨k, i, rfl, hk, hi⟩
      simp only [impl_stepsToRoot_n2]
      rw [up_eq h k i hk hl (by omega)]
      obtain ⟨hr1, hr2⟩ := inRange_get hr hk
      have hf : h.length - i = (h.length - i - 1) + 1 := by omega
      have hg : h[k + 1 - 1]? = some h[k] := by simp [hk]
      have hcl : climb h (h.length - i) (k + 1) = if h[k] = 0 then some (k + 1, 0) else (climb h (h.length - i - 1) h[k].toNat).map fun p => (p.1, p.2 + 1) := by
        rw [hf]; simp only [climb, hg]; simp
      simp only [Option.bind_some, Int.toNat_natCast]
      rw [hcl]
      by_cases e : h[k] = 0
      · right
        simp [e]
      · simp only [e, if_false, cond_true]
        by_cases hlast : i + 1 ≥ h.length
        · right
          have h0 : h.length - i - 1 = 0 := by omega
          have hd : decide (((i + 1 : Nat) : Int) ≥ ((h.length : Nat) : Int)) = true := decide_eq_true (by omega)
          simp only [hd, h0, climb]
          simp
        · left
          have hd : decide (((i + 1 : Nat) : Int) ≥ ((h.length : Nat) : Int)) = false := decide_eq_false (by omega)
          refine ⟨(h[k], ((i + 1 : Nat) : Int)), by simp only [hd]; simp, ⟨h[k].toNat - 1, i + 1, by
            have : ((h[k].toNat - 1 + 1 : Nat) : Int) = h[k] := by omega
            rw [this], by omega, by omega⟩, by simp; omega, ?_⟩
          have e2 : h.length - ((i + 1 : Nat) : Int).toNat = h.length - i - 1 := by simp; omega
          simp only [e2]
          cases climb h (h.length - i - 1) h[k].toNat with
          | none => rfl
          | some p => simp; omega)
  unfold impl_stepsToRoot impl_stepsToRoot_n7 impl_stepsToRoot_n1 impl_stepsToRoot_n6 impl_stepsToRoot_n4 impl_stepsToRoot_n3
  simp only [Option.bind_some]
  rw [hloop LL (((k + 1 : Nat) : Int), 0) ⟨k, 0, rfl, hk, by omega⟩ (by simp only [LL]; simp; omega)]
  simp only [Int.toNat_natCast, Int.toNat_zero, Nat.sub_zero]
  cases climb h h.length (k + 1) with
  | none => simp
  | some p => simp [impl_stepsToRoot_n5]

theorem implTree_eq (h : List Int) : impl_TreeOk h = some (treeB h) := by
  unfold impl_TreeOk impl_TreeOk_n9 impl_TreeOk_n1 impl_TreeOk_n8 impl_TreeOk_n6 impl_TreeOk_n2 impl_TreeOk_n5 impl_TreeOk_n4
  unfold treeB
  by_cases h1 : h.length < 1
  · have e : decide (1 ≤ h.length) = false := decide_eq_false (by omega)
    have e2 : decide ((((h.length : Nat) : Int)) < 1) = true := decide_eq_true (by omega)
    simp [e, e2]
  · have e1 : decide ((((h.length : Nat) : Int)) < 1) = false := decide_eq_false (by omega)
    have e1' : decide (1 ≤ h.length) = true := decide_eq_true (by omega)
    by_cases h2 : h.length > 8
    · have e : decide (h.length ≤ 8) = false := decide_eq_false (by omega)
      have e2 : decide ((((h.length : Nat) : Int)) > 8) = true := decide_eq_true (by omega)
      simp only [e1, e2, e]
      simp
    · have e2 : decide ((((h.length : Nat) : Int)) > 8) = false := decide_eq_false (by omega)
      have e2' : decide (h.length ≤ 8) = true := decide_eq_true (by omega)
      simp only [e1, e2, e1', e2', cond_false, oneRoot_eq h (by omega), Option.bind_some, Bool.true_and]
      cases hr : inRange h with
      | false => simp
      | true =>
        cases hc : (h.count 0 == 1) with
        | false => simp
        | true =>
          simp only [Bool.true_and, Bool.not_true, cond_false, Option.bind_some, Sum.elim_inl]
          have hloop := nloop_run (body := fun (s : Int) => ((impl_TreeOk_n3 h h.length s).map (Sum.elim (fun (t : Int) => Sum.inl t) (Sum.elim (fun (t : Bool) => Sum.inr (Sum.inl t)) (fun (t : Unit) => Sum.inr (Sum.inr t)))) : Option ((Int) ⊕ (Bool ⊕ Unit))))
            (I := fun s => ∃ k : Nat, s = (k : Int) ∧ k ≤ h.length) (μ := fun s => h.length - s.toNat)
            (f := fun s => cond (((List.range h.length).drop s.toNat).all fun k => (climb h h.length (k + 1)).isSome) (.inr ()) (.inl false))
            (by
              rintro _ ⟨k, rfl, hk⟩
              by_cases hlt : k < h.length
              · simp only [impl_TreeOk_n3]
                rw [show decide ((k : Int) < ((h.length : Nat) : Int)) = true from decide_eq_true (by omega)]
                rw [wrap64 (x := (k : Int) + 1) (by omega) (by omega), show (k : Int) + 1 = ((k + 1 : Nat) : Int) by omega, steps_eq h (by omega) hr k hlt]
                simp only [cond_true, Option.bind_some, Int.toNat_natCast]
                have hd : (List.range h.length).drop k = k :: (List.range h.length).drop (k + 1) := by
                  rw [List.drop_eq_getElem_cons (by simpa using hlt)]
                  simp
                rw [hd]
                simp only [List.all_cons]
                cases hcl : climb h h.length (k + 1) with
                | none => right; simp
                | some p =>
                  left
                  refine ⟨((k + 1 : Nat) : Int), by simp, ⟨k + 1, rfl, hlt⟩, by simp; omega, by simp⟩
              · right
                have e : k = h.length := by omega
                subst e
                simp only [impl_TreeOk_n3]
                rw [show decide (((h.length : Nat) : Int) < ((h.length : Nat) : Int)) = false from decide_eq_false (by omega)]
                simp [List.drop_of_length_le (show (List.range h.length).length ≤ h.length by simp)])
          rw [hloop LL 0 ⟨0, rfl, by omega⟩ (by simp only [LL]; simp; omega)]
          simp only [Int.toNat_zero, List.drop_zero]
          cases ((List.range h.length).all fun k => (climb h h.length (k + 1)).isSome) <;> rfl

theorem l1In_eq (a b c : Int) : spec_l1In a b c = some (decide (b ≤ a) && decide (a ≤ c)) := by
  unfold spec_l1In spec_l1In_n1
  by_cases h : a ≥ b
  · have e : decide (a ≥ b) = true := decide_eq_true h
    rw [e]; rfl
  · have e : decide (a ≥ b) = false := decide_eq_false h
    rw [e]; rfl

/-- The model's way from a word upwards. -/
def goUp (h : List Int) : Nat → Int → Bool ⊕ Int
  | 0, a => .inr a
  | f + 1, a => if 0 < a then (match h[a.toNat - 1]? with
      | some x => if okHead h.length x then goUp h f x else .inl false
      | none => .inl false) else .inr a

theorem inner_eq (h : List Int) (hl : h.length ≤ 8) (a : Int) (ha0 : 0 ≤ a) (ha : a ≤ h.length) : spec_TreeOk_n7 h h.length a = some (goUp h h.length a) := by
  unfold spec_TreeOk_n7
  have hloop := nloop_run (body := fun (s : Int × Int) => ((spec_TreeOk_n6 h h.length s.1 s.2).map (Sum.elim (fun (t : Int × Int) => Sum.inl (t.1, t.2)) (Sum.elim (fun (t : Bool) => Sum.inr (Sum.inl t)) (fun (t : Int) => Sum.inr (Sum.inr t)))) : Option ((Int × Int) ⊕ (Bool ⊕ Int))))
    (I := fun s => ∃ k i : Nat, s = ((k : Int), (i : Int)) ∧ k ≤ h.length ∧ i ≤ h.length) (μ := fun s => h.length - s.2.toNat)
    (f := fun s => goUp h (h.length - s.2.toNat) s.1)
    (by
      rintro _ ⟨k, i, rfl, hk, hi⟩
      simp only [spec_TreeOk_n6, Int.toNat_natCast]
      by_cases h1 : 0 < k
      · have e1 : decide ((k : Int) > 0) = true := decide_eq_true (by omega)
        by_cases h2 : i < h.length
        · have e2 : decide ((i : Int) < ((h.length : Nat) : Int)) = true := decide_eq_true (by omega)
          have hk' : k - 1 < h.length := by omega
          rw [e1, e2, wrap64 (x := (k : Int) - 1) (by omega) (by omega), show (k : Int) - 1 = ((k - 1 : Nat) : Int) by omega, idx_lt hk', wrap64 (x := (i : Int) + 1) (by omega) (by omega)]
          simp only [cond_true, Option.bind_some, l1In_eq]
          have hf : h.length - i = (h.length - i - 1) + 1 := by omega
          have hg : goUp h (h.length - i) (k : Int) = if okHead h.length h[k - 1] then goUp h (h.length - i - 1) h[k - 1] else .inl false := by
            rw [hf]
            simp only [goUp]
            rw [if_pos (by omega)]
            simp [hk']
          rw [hg]
          by_cases h3 : okHead h.length h[k - 1] = true
          · left
            have h3' := h3
            simp only [okHead, Bool.and_eq_true, decide_eq_true_eq] at h3'
            refine ⟨(h[k - 1], ((i + 1 : Nat) : Int)), ?_, ⟨h[k - 1].toNat, i + 1, by
              have : ((h[k - 1].toNat : Nat) : Int) = h[k - 1] := by omega
              rw [this], by omega, by omega⟩, by simp; omega, ?_⟩
            · have e4 : (decide ((0 : Int) ≤ h[k - 1]) && decide (h[k - 1] ≤ ((h.length : Nat) : Int))) = true := h3
              rw [e4]; simp
            · have e5 : h.length - ((i + 1 : Nat) : Int).toNat = h.length - i - 1 := by simp; omega
              simp only [e5, h3, if_true]
          · right
            have h3' : okHead h.length h[k - 1] = false := by simpa using h3
            have e4 : (decide ((0 : Int) ≤ h[k - 1]) && decide (h[k - 1] ≤ ((h.length : Nat) : Int))) = false := h3'
            rw [e4]
            simp [h3']
        · right
          have e2 : decide ((i : Int) < ((h.length : Nat) : Int)) = false := decide_eq_false (by omega)
          have h0 : h.length - i = 0 := by omega
          rw [e1, e2, h0]
          simp [goUp]
      · right
        have hk0 : k = 0 := by omega
        subst hk0
        have e1 : decide (((0 : Nat) : Int) > 0) = false := by simp
        rw [e1]
        cases h.length - i <;> simp [goUp])
  exact hloop LL (a, 0) ⟨a.toNat, 0, by
    have : ((a.toNat : Nat) : Int) = a := by omega
    rw [this]; rfl, by omega, by omega⟩ (by simp only [LL]; simp; omega)

theorem goUp_climb {h : List Int} (hr : inRange h = true) : ∀ (f k : Nat), k < h.length → goUp h f ((k + 1 : Nat) : Int) = (if (climb h f (k + 1)).isSome then .inr 0 else goUp h f ((k + 1 : Nat) : Int)) ∧
    ((climb h f (k + 1)).isSome = false → ∃ a : Int, 0 < a ∧ goUp h f ((k + 1 : Nat) : Int) = .inr a)
  | 0, k, hk => by
    refine ⟨by simp [climb], fun _ => ⟨((k + 1 : Nat) : Int), by omega, rfl⟩⟩
  | f + 1, k, hk => by
    obtain ⟨h1, h2⟩ := inRange_get hr hk
    have hok : okHead h.length h[k] = true := by simp [okHead]; omega
    have hg : goUp h (f + 1) ((k + 1 : Nat) : Int) = goUp h f h[k] := by
      simp only [goUp]
      rw [if_pos (by omega)]
      simp [hk, hok]
    have hc : climb h (f + 1) (k + 1) = if h[k] = 0 then some (k + 1, 0) else (climb h f h[k].toNat).map fun p => (p.1, p.2 + 1) := by
      simp [climb, hk]
    rw [hg, hc]
    by_cases e : h[k] = 0
    · have : goUp h f 0 = .inr 0 := by cases f <;> simp [goUp]
      simp [e, this]
    · obtain ⟨j, hj⟩ : ∃ j : Nat, h[k] = ((j + 1 : Nat) : Int) := ⟨h[k].toNat - 1, by omega⟩
      have ih := goUp_climb hr f j (by omega)
      rw [hj]
      have ne : ¬ ((j + 1 : Nat) : Int) = 0 := by omega
      simp only [ne, if_false, Int.toNat_natCast, Option.isSome_map]
      exact ih

/-- What is asked of one word. -/
def wordOk1 (h : List Int) (k : Nat) : Bool := match h[k]? with
  | some x => okHead h.length x && !(x == ((k + 1 : Nat) : Int)) && (match goUp h h.length ((k + 1 : Nat) : Int) with | .inr a => !decide (a > 0) | .inl _ => false)
  | none => false

theorem specTree_eq0 (h : List Int) : spec_TreeOk h = some (decide (1 ≤ h.length) && decide (h.length ≤ 8) && (List.range h.length).all (wordOk1 h) && (h.count 0 == 1)) := by
  unfold spec_TreeOk spec_TreeOk_n22 spec_TreeOk_n1
  rw [l1In_eq]
  by_cases h1 : (decide ((1 : Int) ≤ ((h.length : Nat) : Int)) && decide (((h.length : Nat) : Int) ≤ 8)) = true
  · have h1' := h1
    simp only [Bool.and_eq_true, decide_eq_true_eq] at h1'
    have e1 : decide (1 ≤ h.length) = true := decide_eq_true (by omega)
    have e2 : decide (h.length ≤ 8) = true := decide_eq_true (by omega)
    simp only [h1, e1, e2, Option.bind_some, Bool.not_true, cond_false, Sum.elim_inl, Bool.true_and]
    unfold spec_TreeOk_n21 spec_TreeOk_n19 spec_TreeOk_n2 spec_TreeOk_n18 spec_TreeOk_n17
    have hloop := nloop_run (body := fun (s : Int × Int) => ((spec_TreeOk_n16 h h.length s.1 s.2).map (Sum.elim (fun (t : Int × Int) => Sum.inl (t.1, t.2)) (Sum.elim (fun (t : Bool) => Sum.inr (Sum.inl t)) (fun (t : Int) => Sum.inr (Sum.inr t)))) : Option ((Int × Int) ⊕ (Bool ⊕ Int))))
      (I := fun s => ∃ k r : Nat, s = ((r : Int), (k : Int)) ∧ k ≤ h.length ∧ r ≤ k) (μ := fun s => h.length - s.2.toNat)
      (f := fun s => cond (((List.range h.length).drop s.2.toNat).all (wordOk1 h)) (.inr (s.1 + ((h.drop s.2.toNat).count 0 : Nat))) (.inl false))
      (by
        rintro _ ⟨k, r, rfl, hk, hr⟩
        by_cases hlt : k < h.length
        · have hd : (List.range h.length).drop k = k :: (List.range h.length).drop (k + 1) := by
            rw [List.drop_eq_getElem_cons (by simpa using hlt)]
            simp
          simp only [spec_TreeOk_n16, spec_TreeOk_n3, Int.toNat_natCast]
          rw [show decide ((k : Int) < ((h.length : Nat) : Int)) = true from decide_eq_true (by omega)]
          simp only [cond_true, Option.bind_some, Sum.elim_inl]
          unfold spec_TreeOk_n15 spec_TreeOk_n13 spec_TreeOk_n12 spec_TreeOk_n4 spec_TreeOk_n14 spec_TreeOk_n11 spec_TreeOk_n9 spec_TreeOk_n5 spec_TreeOk_n8 spec_TreeOk_n10
          have hw : IntKind.wrap .i64 ((k : Int) + 1) = ((k + 1 : Nat) : Int) := by rw [wrap64 (by omega) (by omega)]; omega
          have hw2 : IntKind.wrap .i64 ((r : Int) + 1) = ((r + 1 : Nat) : Int) := by rw [wrap64 (by omega) (by omega)]; omega
          simp only [idx_lt hlt, Option.bind_some, l1In_eq, hw, hw2]
          rw [hd, List.all_cons, count_drop_cons hlt]
          have hwk : wordOk1 h k = (okHead h.length h[k] && !(h[k] == ((k + 1 : Nat) : Int)) && (match goUp h h.length ((k + 1 : Nat) : Int) with | .inr a => !decide (a > 0) | .inl _ => false)) := by
            simp [wordOk1, hlt]
          have hin := inner_eq h (by omega) ((k + 1 : Nat) : Int) (by omega) (by omega)
          rw [hwk]
          cases h3 : okHead h.length h[k] with
          | false =>
            right
            have e4 : (decide ((0 : Int) ≤ h[k]) && decide (h[k] ≤ ((h.length : Nat) : Int))) = false := h3
            rw [e4]; simp
          | true =>
            have e4 : (decide ((0 : Int) ≤ h[k]) && decide (h[k] ≤ ((h.length : Nat) : Int))) = true := h3
            rw [e4]
            simp only [Bool.not_true, cond_false, Bool.true_and]
            cases h5 : (h[k] == ((k + 1 : Nat) : Int)) with
            | true => right; simp
            | false =>
              simp only [cond_false, Bool.not_false, Bool.true_and]
              by_cases h6 : h[k] = 0
              · simp only [h6, beq_self_eq_true, cond_true, Option.bind_some, Sum.elim_inl, Option.map_some, hin, if_true]
                cases h7 : goUp h h.length ((k + 1 : Nat) : Int) with
                | inl b =>
                  right
                  have : b = false := by
                    have key : ∀ f a b, goUp h f a = .inl b → b = false := by
                      intro f
                      induction f with
                      | zero => intro a b hh; simp [goUp] at hh
                      | succ f ih =>
                        intro a b hh
                        simp only [goUp] at hh
                        split at hh
                        · split at hh
                          · split at hh
                            · exact ih _ _ hh
                            · simpa using hh.symm
                          · simpa using hh.symm
                        · cases hh
                    exact key _ _ _ h7
                  subst this
                  simp
                | inr a =>
                  by_cases h8 : a > 0
                  · right
                    simp [h8]
                  · left
                    refine ⟨(((r + 1 : Nat) : Int), ((k + 1 : Nat) : Int)), by simp [h8], ⟨k + 1, r + 1, rfl, hlt, by omega⟩, by simp; omega, ?_⟩
                    have e : ((k + 1 : Nat) : Int).toNat = k + 1 := by simp
                    simp only [e, h8, decide_false, Bool.not_false, Bool.true_and]
                    congr 2
                    push_cast
                    omega
              · have e9 : (h[k] == 0) = false := by simpa using h6
                simp only [e9, cond_false, Option.bind_some, Sum.elim_inl, Option.map_some, hin, h6, if_false]
                cases h7 : goUp h h.length ((k + 1 : Nat) : Int) with
                | inl b =>
                  right
                  have : b = false := by
                    have key : ∀ f a b, goUp h f a = .inl b → b = false := by
                      intro f
                      induction f with
                      | zero => intro a b hh; simp [goUp] at hh
                      | succ f ih =>
                        intro a b hh
                        simp only [goUp] at hh
                        split at hh
                        · split at hh
                          · split at hh
                            · exact ih _ _ hh
                            · simpa using hh.symm
                          · simpa using hh.symm
                        · cases hh
                    exact key _ _ _ h7
                  subst this
                  simp
                | inr a =>
                  by_cases h8 : a > 0
                  · right
                    simp [h8]
                  · left
                    refine ⟨((r : Int), ((k + 1 : Nat) : Int)), by simp [h8], ⟨k + 1, r, rfl, hlt, by omega⟩, by simp; omega, ?_⟩
                    have e : ((k + 1 : Nat) : Int).toNat = k + 1 := by simp
                    simp only [e, h8, decide_false, Bool.not_false, Bool.true_and]
                    congr 2
                    omega
        · right
          have e : k = h.length := by omega
          subst e
          simp only [spec_TreeOk_n16, spec_TreeOk_n3]
          rw [show decide (((h.length : Nat) : Int) < ((h.length : Nat) : Int)) = false from decide_eq_false (by omega)]
          simp [List.drop_of_length_le (show (List.range h.length).length ≤ h.length by simp)])
    simp only [Option.bind_some]
    rw [hloop LL (0, 0) ⟨0, 0, rfl, by omega, by omega⟩ (by simp only [LL]; simp; omega)]
    simp only [Int.toNat_zero, List.drop_zero, Option.bind_some]
    cases (List.range h.length).all (wordOk1 h) with
    | false => simp
    | true =>
      simp only [cond_true, Option.map_some, Sum.elim_inr, Option.bind_some, Sum.elim_inl, spec_TreeOk_n20, Bool.true_and]
      congr 1
      by_cases e : h.count 0 = 1
      · simp [e]
      · have e1 : ((0 : Int) + ((h.count 0 : Nat) : Int) == 1) = false := by rw [beq_eq_false_iff_ne]; omega
        have e2 : (h.count 0 == 1) = false := by rw [beq_eq_false_iff_ne]; exact e
        rw [e2]; exact e1
  · have h1' : (decide ((1 : Int) ≤ ((h.length : Nat) : Int)) && decide (((h.length : Nat) : Int) ≤ 8)) = false := by simpa using h1
    have e : (decide (1 ≤ h.length) && decide (h.length ≤ 8)) = false := by
      simp only [Bool.and_eq_true, decide_eq_true_eq] at h1
      simp only [Bool.and_eq_false_iff, decide_eq_false_iff_not]
      omega
    rw [h1']
    simp [e]

theorem specTree_eq (h : List Int) : spec_TreeOk h = some (treeB h) := by
  rw [specTree_eq0]
  congr 1
  unfold treeB
  have key : (List.range h.length).all (wordOk1 h) = (inRange h && (List.range h.length).all fun k => (climb h h.length (k + 1)).isSome) := by
    cases hr : inRange h with
    | false =>
      rw [Bool.false_and, List.all_eq_false]
      have : ¬ ∀ x ∈ h, okHead h.length x = true := fun hh => by
        have : inRange h = true := List.all_eq_true.2 hh
        rw [hr] at this; cases this
      have ⟨x, hx⟩ := Classical.not_forall.1 this
      have ⟨hm, hb⟩ := Classical.not_imp.1 hx
      obtain ⟨k, hk, rfl⟩ := List.getElem_of_mem hm
      refine ⟨k, by simpa using hk, ?_⟩
      simp [wordOk1, hk, hb]
    | true =>
      rw [Bool.true_and, Bool.eq_iff_iff, List.all_eq_true, List.all_eq_true]
      constructor
      · intro hh k hk
        have hk' : k < h.length := by simpa using hk
        have h1 := hh k hk
        cases hc : (climb h h.length (k + 1)).isSome with
        | true => rfl
        | false =>
          obtain ⟨a, ha, hg⟩ := (goUp_climb hr h.length k hk').2 hc
          have hg' : goUp h h.length ((k : Int) + 1) = .inr a := hg
          simp [wordOk1, hk', hg', ha] at h1
      · intro hh k hk
        have hk' : k < h.length := by simpa using hk
        have h1 := hh k hk
        have h2 := (goUp_climb hr h.length k hk').1
        rw [if_pos h1] at h2
        obtain ⟨h3, h4⟩ := inRange_get hr hk'
        have hok : okHead h.length h[k] = true := by simp [okHead]; omega
        have hself : ¬ h[k] = ((k + 1 : Nat) : Int) := fun e => by
          -- a word that is its own head never comes to the root
          have none : ∀ f, climb h f (k + 1) = none := by
            intro f
            induction f with
            | zero => rfl
            | succ f ih =>
              simp only [climb]
              have : h[k + 1 - 1]? = some h[k] := by simp [hk']
              rw [this]
              simp only
              rw [if_neg (by omega), e]
              simp [ih]
          rw [none] at h1
          cases h1
        have h2' : goUp h h.length ((k : Int) + 1) = .inr 0 := h2
        have hself' : ¬ h[k] = (k : Int) + 1 := hself
        simp [wordOk1, hk', hok, h2', hself']
  rw [key]
  cases inRange h <;> simp [Bool.and_comm, Bool.and_assoc, Bool.and_left_comm]

theorem climb_mono {h : List Int} : ∀ {f w : Nat} {p : Nat × Nat}, climb h f w = some p → climb h (f + 1) w = some p
  | 0, w, p, e => by simp [climb] at e
  | f + 1, w, p, e => by
    simp only [climb] at e
    rw [climb]
    split at e
    · cases e
    · rename_i x hx
      split at e
      · rename_i h0
        simp only [h0, if_true]; exact e
      · rename_i h0
        simp only [h0, if_false]
        obtain ⟨q, hq, rfl⟩ := Option.map_eq_some_iff.1 e
        rw [climb_mono hq]; rfl

theorem climb_le {h : List Int} {f g w : Nat} {p : Nat × Nat} (hfg : f ≤ g) (e : climb h f w = some p) : climb h g w = some p := by
  induction hfg with
  | refl => exact e
  | step _ ih => exact climb_mono ih

theorem climb_lt {h : List Int} : ∀ {f w : Nat} {p : Nat × Nat}, climb h f w = some p → p.2 < f
  | 0, w, p, e => by simp [climb] at e
  | f + 1, w, p, e => by
    simp only [climb] at e
    split at e
    · cases e
    · split at e
      · cases e; simp
      · obtain ⟨q, hq, rfl⟩ := Option.map_eq_some_iff.1 e
        have := climb_lt hq
        simp; omega

theorem climb_root {h : List Int} : ∀ {f w : Nat} {p : Nat × Nat}, climb h f w = some p → h[p.1 - 1]? = some 0
  | 0, w, p, e => by simp [climb] at e
  | f + 1, w, p, e => by
    simp only [climb] at e
    split at e
    · cases e
    · rename_i x hx
      split at e
      · rename_i h0
        cases e
        rw [hx, h0]
      · obtain ⟨q, hq, rfl⟩ := Option.map_eq_some_iff.1 e
        show h[q.1 - 1]? = some 0
        exact climb_root hq

theorem climb_pos {h : List Int} (hr : inRange h = true) : ∀ {f w : Nat} {p : Nat × Nat}, 1 ≤ w → climb h f w = some p → 1 ≤ p.1
  | 0, w, p, _, e => by simp [climb] at e
  | f + 1, w, p, hw, e => by
    simp only [climb] at e
    split at e
    · cases e
    · rename_i x hx
      split at e
      · cases e; exact hw
      · rename_i h0
        obtain ⟨q, hq, rfl⟩ := Option.map_eq_some_iff.1 e
        obtain ⟨hlt, hx'⟩ := List.getElem?_eq_some_iff.1 hx
        have := inRange_get hr hlt
        show 1 ≤ q.1
        exact climb_pos hr (by rw [hx'] at this; omega) hq

/-- What a tree is. -/
structure Tree (h : List Int) : Prop where
  pos : 1 ≤ h.length
  le : h.length ≤ 8
  rng : inRange h = true
  one : h.count 0 = 1
  way : ∀ k, k < h.length → (climb h h.length (k + 1)).isSome = true

theorem tree_iff (h : List Int) : treeB h = true ↔ Tree h := by
  unfold treeB
  simp only [Bool.and_eq_true, decide_eq_true_eq, beq_iff_eq, List.all_eq_true]
  constructor
  · rintro ⟨⟨⟨⟨h1, h2⟩, h3⟩, h4⟩, h5⟩
    exact ⟨h1, h2, h3, h4, fun k hk => h5 k (by simpa using hk)⟩
  · rintro ⟨h1, h2, h3, h4, h5⟩
    exact ⟨⟨⟨⟨h1, h2⟩, h3⟩, h4⟩, fun k hk => h5 k (by simpa using hk)⟩

/-- The head of a word, both from 1 on; 0 for none. -/
def hd (h : List Int) (w : Nat) : Nat := (h.getD (w - 1) 0).toNat

/-- How deep a word is. -/
def dep (h : List Int) (w : Nat) : Nat := ((climb h h.length w).getD (0, 0)).2
def top (h : List Int) : Nat := h.idxOf 0 + 1
theorem top_pos (h : List Int) : 1 ≤ top h := by simp [top]

section
variable {h : List Int} (T : Tree h)
include T

theorem Tree.get {w : Nat} (h1 : 1 ≤ w) (h2 : w ≤ h.length) : h[w - 1]? = some ((hd h w : Nat) : Int) := by
  have hk : w - 1 < h.length := by omega
  have := inRange_get T.rng hk
  rw [List.getElem?_eq_getElem hk, hd, List.getD_eq_getElem?_getD, List.getElem?_eq_getElem hk]
  simp only [Option.getD_some, Option.some.injEq]
  omega

theorem Tree.hd_le {w : Nat} (h1 : 1 ≤ w) (h2 : w ≤ h.length) : hd h w ≤ h.length := by
  have hk : w - 1 < h.length := by omega
  have := inRange_get T.rng hk
  rw [hd, List.getD_eq_getElem?_getD, List.getElem?_eq_getElem hk]
  simp only [Option.getD_some]
  omega

theorem Tree.top_lt : h.idxOf 0 < h.length := by
  rw [List.idxOf_lt_length_iff]
  exact List.count_pos_iff.1 (by rw [T.one]; omega)

theorem Tree.top_le : top h ≤ h.length := T.top_lt

/-- Just one word has no head. -/
theorem Tree.root_unique {i : Nat} (hi : h[i]? = some 0) : i = h.idxOf 0 := by
  have hlt := T.top_lt
  have h0 : h[h.idxOf 0]? = some 0 := by rw [List.getElem?_eq_getElem hlt]; simp
  -- two places would count twice
  have two : ∀ (l : List Int) (i j : Nat), i < j → l[i]? = some 0 → l[j]? = some 0 → 2 ≤ l.count 0 := by
    intro l
    induction l with
    | nil => intro i j _ h1; simp at h1
    | cons a r ih =>
      intro i j hij h1 h2
      cases j with
      | zero => omega
      | succ j =>
        rw [List.count_cons]
        cases i with
        | zero =>
          simp at h1 h2
          have : 0 < r.count 0 := List.count_pos_iff.2 (List.mem_of_getElem? h2)
          rw [h1]
          simp only [beq_self_eq_true, if_true]
          omega
        | succ i =>
          simp at h1 h2
          have := ih i j (by omega) h1 h2
          omega
  rcases Nat.lt_trichotomy i (h.idxOf 0) with hl | he | hg
  · have := two h i _ hl hi h0; have := T.one; omega
  · exact he
  · have := two h _ i hg h0 hi; have := T.one; omega

theorem Tree.hd_zero {w : Nat} (h1 : 1 ≤ w) (h2 : w ≤ h.length) : hd h w = 0 ↔ w = top h := by
  have hg := T.get h1 h2
  constructor
  · intro e
    rw [e] at hg
    have := T.root_unique hg
    unfold top; omega
  · intro e
    have hlt := T.top_lt
    have h0 : h[h.idxOf 0]? = some 0 := by rw [List.getElem?_eq_getElem hlt]; simp
    have : w - 1 = h.idxOf 0 := by unfold top at e; omega
    rw [this, h0] at hg
    simp at hg
    omega

theorem Tree.climb_some {w : Nat} (h1 : 1 ≤ w) (h2 : w ≤ h.length) : climb h h.length w = some (top h, dep h w) := by
  have hs := T.way (w - 1) (by omega)
  rw [show w - 1 + 1 = w by omega] at hs
  obtain ⟨p, hp⟩ := Option.isSome_iff_exists.1 hs
  have hr := climb_root hp
  have h3 := T.root_unique hr
  have h4 := climb_pos T.rng h1 hp
  have e1 : p.1 = top h := by unfold top; omega
  have e2 : dep h w = p.2 := by simp [dep, hp]
  rw [hp, e2, ← e1]

theorem Tree.dep_lt {w : Nat} (h1 : 1 ≤ w) (h2 : w ≤ h.length) : dep h w < h.length := by
  have := climb_lt (T.climb_some h1 h2)
  exact this

theorem Tree.dep_top : dep h (top h) = 0 := by
  have h1 := T.climb_some (top_pos h) T.top_le
  have hg := T.get (top_pos h) T.top_le
  rw [(T.hd_zero (top_pos h) T.top_le).2 rfl] at hg
  obtain ⟨n, hn⟩ : ∃ n, h.length = n + 1 := ⟨h.length - 1, by have := T.pos; omega⟩
  rw [hn] at h1
  simp only [climb, hg] at h1
  simp at h1
  exact h1.symm

theorem Tree.dep_step {w : Nat} (h1 : 1 ≤ w) (h2 : w ≤ h.length) (h3 : hd h w ≠ 0) : dep h w = dep h (hd h w) + 1 := by
  have hc := T.climb_some h1 h2
  have hg := T.get h1 h2
  have hc2 := T.climb_some (w := hd h w) (by omega) (T.hd_le h1 h2)
  obtain ⟨n, hn⟩ : ∃ n, h.length = n + 1 := ⟨h.length - 1, by have := T.pos; omega⟩
  rw [hn] at hc
  simp only [climb, hg] at hc
  rw [if_neg (by omega)] at hc
  simp only [Int.toNat_natCast] at hc
  obtain ⟨q, hq, e⟩ := Option.map_eq_some_iff.1 hc
  have hq2 := climb_le (show n ≤ h.length by omega) hq
  rw [hc2] at hq2
  cases hq2
  simp at e
  exact e.symm

theorem Tree.dep_zero {w : Nat} (h1 : 1 ≤ w) (h2 : w ≤ h.length) : dep h w = 0 ↔ w = top h := by
  constructor
  · intro e
    by_cases h3 : hd h w = 0
    · exact (T.hd_zero h1 h2).1 h3
    · have := T.dep_step h1 h2 h3; omega
  · intro e; rw [e]; exact T.dep_top

end

theorem nloop_to {σ ω : Type} {body : σ → Option (σ ⊕ ω)} (S : Nat → σ) (n : Nat) (w : ω) (hs : ∀ k, k < n → body (S k) = some (.inl (S (k + 1)))) (he : body (S n) = some (.inr w)) :
    ∀ (N : Nat), n < N → nloop body N (S 0) = some w := by
  have key : ∀ (m k N : Nat), k + m = n → m < N → nloop body N (S k) = some w := by
    intro m
    induction m with
    | zero =>
      intro k N hk hN
      obtain ⟨N', rfl⟩ : ∃ N', N = N' + 1 := ⟨N - 1, by omega⟩
      have : k = n := by omega
      subst this
      simp only [nloop, he, Option.bind_some]
    | succ m ih =>
      intro k N hk hN
      obtain ⟨N', rfl⟩ : ∃ N', N = N' + 1 := ⟨N - 1, by omega⟩
      simp only [nloop, hs k (by omega), Option.bind_some]
      exact ih (k + 1) N' (by omega) (by omega)
  intro N hN
  exact key n 0 N (by omega) hN

/-- A loop that stops at the first place where p does not hold. -/
theorem nloop_while {σ ω : Type} {body : σ → Option (σ ⊕ ω)} (S : Nat → σ) (n : Nat) (p : Nat → Bool) (w : Bool → ω) (hs : ∀ k, k < n → p k = true → body (S k) = some (.inl (S (k + 1))))
    (hb : ∀ k, k < n → p k = false → body (S k) = some (.inr (w false))) (he : body (S n) = some (.inr (w true))) (N : Nat) (hN : n < N) :
    nloop body N (S 0) = some (w ((List.range n).all p)) := by
  have key : ∀ (m k N : Nat), k + m = n → m < N → nloop body N (S k) = some (w ((List.range' k m).all p)) := by
    intro m
    induction m with
    | zero =>
      intro k N hk hN
      obtain ⟨N', rfl⟩ : ∃ N', N = N' + 1 := ⟨N - 1, by omega⟩
      have : k = n := by omega
      subst this
      simp only [nloop, he, Option.bind_some]
      rfl
    | succ m ih =>
      intro k N hk hN
      obtain ⟨N', rfl⟩ : ∃ N', N = N' + 1 := ⟨N - 1, by omega⟩
      rw [List.range'_succ, List.all_cons]
      cases hp : p k with
      | false => simp only [nloop, hb k (by omega) hp, Option.bind_some, Bool.false_and]
      | true =>
        simp only [nloop, hs k (by omega) hp, Option.bind_some, Bool.true_and]
        exact ih (k + 1) N' (by omega) (by omega)
  rw [List.range_eq_range']
  exact key n 0 N (by omega) hN

def maskN (p : Nat → Bool) : Nat → Nat
  | 0 => 0
  | n + 1 => maskN p n ||| (if p n then 2 ^ n else 0)

theorem maskN_lt (p : Nat → Bool) : ∀ n, maskN p n < 2 ^ n
  | 0 => by simp [maskN]
  | n + 1 => by
    have h1 := maskN_lt p n
    have h2 : 2 ^ n < 2 ^ (n + 1) := by rw [Nat.pow_succ]; have := Nat.two_pow_pos n; omega
    simp only [maskN]
    refine Nat.or_lt_two_pow (by omega) ?_
    split
    · exact h2
    · exact Nat.two_pow_pos _

theorem maskN_bit (p : Nat → Bool) (n i : Nat) : (maskN p n).testBit i = (decide (i < n) && p i) := by
  induction n with
  | zero => simp [maskN]
  | succ n ih =>
    simp only [maskN, Nat.testBit_or, ih]
    by_cases e : i = n
    · subst e
      cases hp : p i <;> simp
    · have h1 : decide (i < n + 1) = decide (i < n) := by
        rw [Bool.eq_iff_iff]; simp only [decide_eq_true_eq]; omega
      rw [h1]
      have : (if p n = true then 2 ^ n else 0).testBit i = false := by
        split
        · rw [Nat.testBit_two_pow]; simp; omega
        · simp
      rw [this, Bool.or_false]

theorem eq_maskN {m n : Nat} {p : Nat → Bool} (hm : m < 2 ^ n) (h : ∀ i, i < n → m.testBit i = p i) : m = maskN p n := by
  apply Nat.eq_of_testBit_eq
  intro i
  rw [maskN_bit]
  by_cases hi : i < n
  · rw [h i hi]; simp [hi]
  · rw [Nat.testBit_lt_two_pow (Nat.lt_of_lt_of_le hm (Nat.pow_le_pow_right (by omega) (by omega)))]
    simp [hi]

theorem maskN_congr {p q : Nat → Bool} {n : Nat} (h : ∀ i, i < n → p i = q i) : maskN p n = maskN q n :=
  eq_maskN (maskN_lt p n) (fun i hi => by rw [maskN_bit, h i hi]; simp [hi])

theorem lt256 {m n : Nat} (h : n ≤ 8) (hm : m < 2 ^ n) : m < 256 :=
  Nat.lt_of_lt_of_le hm (Nat.pow_le_pow_right (n := 2) (by omega) h)

theorem nloop_ex {σ ω : Type} {body : σ → Option (σ ⊕ ω)} (I : σ → Prop) (μ : σ → Nat) (Q : ω → Prop)
    (h : ∀ s, I s → (∃ s', body s = some (.inl s') ∧ I s' ∧ μ s' < μ s) ∨ (∃ o, body s = some (.inr o) ∧ Q o)) : ∀ (n : Nat) (s : σ), I s → μ s < n → ∃ o, nloop body n s = some o ∧ Q o
  | 0, s, _, hn => by omega
  | n + 1, s, hi, hn => by
    rcases h s hi with ⟨s', hb, hi', hm⟩ | ⟨o, hb, hq⟩
    · simp only [nloop, hb, Option.bind_some]
      exact nloop_ex I μ Q h n s' hi' (by omega)
    · simp only [nloop, hb, Option.bind_some]
      exact ⟨o, rfl, hq⟩

/-- Bytes. -/
structure Bytes (b : List Int) : Prop where
  rng : ∀ x ∈ b, 0 ≤ x ∧ x ≤ 255
  len : b.length ≤ 2000

theorem rem_ok {a b : Int} (h : 1 ≤ b) (ha : 0 ≤ a) : ∃ v, rem a b = some v ∧ 0 ≤ v ∧ v < b := by
  refine ⟨a.tmod b, by simp [rem]; omega, ?_, ?_⟩
  · exact Int.tmod_nonneg _ ha
  · exact Int.tmod_lt_of_pos _ (by omega)

theorem idx_ok {b : List Int} {i : Int} (h0 : 0 ≤ i) (h1 : i < b.length) : ∃ v, idx b i = some v ∧ v ∈ b := by
  have : i.toNat < b.length := by omega
  exact ⟨b[i.toNat], by simp [idx, h0, this], List.getElem_mem _⟩

theorem quo_ok {a b : Int} (h : 1 ≤ b) (ha : 0 ≤ a) (hm : a ≤ 9223372036854775807) : ∃ v, quo .i64 a b = some v ∧ 0 ≤ v ∧ v ≤ a := by
  have h1 : 0 ≤ a.tdiv b := Int.tdiv_nonneg ha (by omega)
  have h2 : a.tdiv b ≤ a := Int.tdiv_le_self _ ha
  refine ⟨a.tdiv b, ?_, h1, h2⟩
  simp only [quo]
  rw [if_neg (by omega), wrap64 (by omega) (by omega)]

theorem ixor_ok {a b : Int} (ha : 0 ≤ a) (ha2 : a < 9223372036854775808) (hb : 0 ≤ b) (hb2 : b < 9223372036854775808) : 0 ≤ ixor .i64 a b := by
  have e : (BitVec.ofInt 64 a ^^^ BitVec.ofInt 64 b).toNat < 9223372036854775808 := by
    rw [BitVec.toNat_xor]
    have h1 : (BitVec.ofInt 64 a).toNat < 2 ^ 63 := by
      rw [BitVec.toNat_ofInt]; omega
    have h2 : (BitVec.ofInt 64 b).toNat < 2 ^ 63 := by
      rw [BitVec.toNat_ofInt]; omega
    exact Nat.xor_lt_two_pow h1 h2
  unfold ixor
  have : IntKind.bits .i64 = 64 := rfl
  show 0 ≤ IntKind.wrap .i64 ((BitVec.ofInt 64 a ^^^ BitVec.ofInt 64 b).toNat : Int)
  rw [wrap64 (by omega) (by omega)]
  omega

theorem mixw {x1 x2 p q : Int} (h1 : 0 ≤ x1 ∧ x1 ≤ 255) (h2 : 0 ≤ x2 ∧ x2 ≤ 255) (hp : 0 ≤ p) (hp2 : p ≤ 1000000000) (qa : 0 ≤ q) (qb : q ≤ p) :
    IntKind.wrap .i64 (IntKind.wrap .i64 (IntKind.wrap .i64 (IntKind.wrap .i64 (IntKind.wrap .i64 x1 * 131) + IntKind.wrap .i64 (IntKind.wrap .i64 x2 * 1117)) + IntKind.wrap .i64 (p * 29)) + IntKind.wrap .i64 (q * 53)) = x1 * 131 + x2 * 1117 + p * 29 + q * 53 := by
  rw [wrap64 (x := x1) (by omega) (by omega), wrap64 (x := x1 * 131) (by omega) (by omega), wrap64 (x := x2) (by omega) (by omega), wrap64 (x := x2 * 1117) (by omega) (by omega),
      wrap64 (x := x1 * 131 + x2 * 1117) (by omega) (by omega), wrap64 (x := p * 29) (by omega) (by omega), wrap64 (x := x1 * 131 + x2 * 1117 + p * 29) (by omega) (by omega), wrap64 (x := q * 53) (by omega) (by omega),
      wrap64 (x := x1 * 131 + x2 * 1117 + p * 29 + q * 53) (by omega) (by omega)]
theorem mixb {x1 x2 p q : Int} (h1 : 0 ≤ x1 ∧ x1 ≤ 255) (h2 : 0 ≤ x2 ∧ x2 ≤ 255) (hp : 0 ≤ p) (hp2 : p ≤ 1000000000) (qa : 0 ≤ q) (qb : q ≤ p) :
    0 ≤ x1 * 131 + x2 * 1117 + p * 29 + q * 53 ∧ x1 * 131 + x2 * 1117 + p * 29 + q * 53 ≤ 1000000000000 := by omega

theorem bindO {α β : Type} {o : Option α} {a : α} {f : α → Option β} {K : β → Prop} (h : o = some a) (hk : ∃ r, f a = some r ∧ K r) : ∃ r, o.bind f = some r ∧ K r := by
  subst h; exact hk

theorem pick_far {b : List Int} (hb : Bytes b) {n : Int} (hn : 1 ≤ n) {p : Int} (hp : 0 ≤ p) (hp2 : p ≤ 1000000000) (h3 : ((b.length : Nat) : Int) ≤ p) (hl : 1 ≤ b.length) (K : Int × Int → Prop) (hK : ∀ v, 0 ≤ v → v < n → K (v, p + 1)) :
    ∃ r, ((rem p ((b.length : Nat) : Int)).bind fun (v171 : Int) => (idx b v171).bind fun (v172 : Int) => (rem (IntKind.wrap .i64 ((IntKind.wrap .i64 (p * 7)) + 3)) ((b.length : Nat) : Int)).bind fun (v178 : Int) => (idx b v178).bind fun (v179 : Int) => (quo .i64 p ((b.length : Nat) : Int)).bind fun (v186 : Int) => (quo .i64 (IntKind.wrap .i64 ((IntKind.wrap .i64 ((IntKind.wrap .i64 ((IntKind.wrap .i64 ((IntKind.wrap .i64 v172) * 131)) + (IntKind.wrap .i64 ((IntKind.wrap .i64 v179) * 1117)))) + (IntKind.wrap .i64 (p * 29)))) + (IntKind.wrap .i64 (v186 * 53)))) 64).bind fun (v189 : Int) =>
      (rem (ixor .i64 (IntKind.wrap .i64 ((IntKind.wrap .i64 ((IntKind.wrap .i64 ((IntKind.wrap .i64 ((IntKind.wrap .i64 v172) * 131)) + (IntKind.wrap .i64 ((IntKind.wrap .i64 v179) * 1117)))) + (IntKind.wrap .i64 (p * 29)))) + (IntKind.wrap .i64 (v186 * 53)))) v189) n).bind fun (v191 : Int) => some (v191, p + 1)) = some r ∧ K r := by
  obtain ⟨i1, e1, i1a, i1b⟩ := rem_ok (a := p) (b := b.length) (by omega) hp
  refine bindO e1 ?_
  obtain ⟨x1, ex1, hm1⟩ := idx_ok i1a i1b
  have hr1 := hb.rng x1 hm1
  refine bindO ex1 ?_
  obtain ⟨i2, e3, i2a, i2b⟩ := rem_ok (a := p * 7 + 3) (b := b.length) (by omega) (by omega)
  have e3' : rem (IntKind.wrap .i64 ((IntKind.wrap .i64 (p * 7)) + 3)) ((b.length : Nat) : Int) = some i2 := by
    rw [wrap64 (x := p * 7) (by omega) (by omega), wrap64 (x := p * 7 + 3) (by omega) (by omega)]; exact e3
  refine bindO e3' ?_
  obtain ⟨x2, ex2, hm2⟩ := idx_ok i2a i2b
  have hr2 := hb.rng x2 hm2
  refine bindO ex2 ?_
  obtain ⟨q, eq, qa, qb⟩ := quo_ok (a := p) (b := b.length) (by omega) hp (by omega)
  refine bindO eq ?_
  rw [mixw hr1 hr2 hp hp2 qa qb]
  obtain ⟨hX0, hX1⟩ := mixb hr1 hr2 hp hp2 qa qb
  generalize x1 * 131 + x2 * 1117 + p * 29 + q * 53 = X at hX0 hX1 ⊢
  obtain ⟨y, ey, ya, yb⟩ := quo_ok (a := X) (b := 64) (by omega) hX0 (by omega)
  refine bindO ey ?_
  obtain ⟨v, hv, h4, h5⟩ := rem_ok (b := n) (by omega) (ixor_ok hX0 (by omega) ya (by omega))
  refine bindO hv ?_
  exact ⟨_, rfl, hK v h4 h5⟩

theorem pick_ok {b : List Int} (hb : Bytes b) (n : Int) (hn : n ≤ 1000000) {p : Int} (hp : 0 ≤ p) (hp2 : p ≤ 1000000000) :
    ∃ v, spec_l20Rd_pick n b p = some (v, p + 1) ∧ 0 ≤ v ∧ (1 ≤ n → v < n) ∧ (n < 1 → v = 0) := by
  suffices H : ∃ r, spec_l20Rd_pick n b p = some r ∧ (r.2 = p + 1 ∧ 0 ≤ r.1 ∧ (1 ≤ n → r.1 < n) ∧ (n < 1 → r.1 = 0)) by
    obtain ⟨⟨v, q⟩, h1, h2, h3⟩ := H
    simp only at h2
    subst h2
    exact ⟨v, h1, h3⟩
  unfold spec_l20Rd_pick spec_l20Rd_pick_n1
  have hlen := hb.len
  rw [wrap64 (x := p + 1) (by omega) (by omega), show p + 1 - 1 = p by omega, wrap64 (x := p) (by omega) (by omega)]
  by_cases h1 : n < 1
  · rw [decide_eq_true h1]
    exact ⟨_, rfl, rfl, Int.le_refl _, fun h => by omega, fun _ => rfl⟩
  rw [decide_eq_false h1]
  by_cases h2 : b.length = 0
  · have e0 : ((((b.length : Nat) : Int)) == 0) = true := by simp; exact List.eq_nil_of_length_eq_zero h2
    rw [e0]
    exact ⟨_, rfl, rfl, Int.le_refl _, fun h => by show (0 : Int) < n; omega, fun _ => rfl⟩
  have e2 : ((((b.length : Nat) : Int)) == 0) = false := by simp; intro e; subst e; simp at h2
  rw [e2]
  by_cases h3 : p < ((b.length : Nat) : Int)
  · rw [decide_eq_true h3]
    obtain ⟨x, hx, hm⟩ := idx_ok hp h3
    have hr := hb.rng x hm
    simp only [cond_true, cond_false]
    refine bindO hx ?_
    obtain ⟨v, hv, h4, h5⟩ := rem_ok (b := n) (by omega) hr.1
    refine bindO (a := v) (by rw [wrap64 (x := x) (by omega) (by omega)]; exact hv) ?_
    exact ⟨_, rfl, rfl, h4, fun _ => h5, fun h => by omega⟩
  · rw [decide_eq_false h3]
    simp only [cond_false]
    exact pick_far hb (by omega) hp hp2 (by omega) (by omega) _ (fun v h4 h5 => ⟨rfl, h4, fun _ => h5, fun h => by omega⟩)

theorem odd_ok {b : List Int} (hb : Bytes b) (n : Int) (hn : n ≤ 1000000) {p : Int} (hp : 0 ≤ p) (hp2 : p ≤ 1000000000) :
    ∃ (v : Bool) (q : Int), spec_l20Rd_odd n b p = some (v, q) ∧ p ≤ q ∧ q ≤ p + 1 := by
  unfold spec_l20Rd_odd spec_l20Rd_odd_n1
  by_cases h : n > 0
  · obtain ⟨v, hv, _⟩ := pick_ok hb n hn hp hp2
    rw [decide_eq_true h, hv]
    exact ⟨_, _, rfl, by show p ≤ p + 1; omega, by show p + 1 ≤ p + 1; omega⟩
  · rw [decide_eq_false h]
    exact ⟨_, _, rfl, by omega, by omega⟩

theorem open_ok (x : List Int) (w : ∀ n ∈ x, (Lit.int .u8 n).wf = true) (l : x.length ≤ maxLen) : ∃ b, spec_l20Open x = some b ∧ Bytes b := by
  have hr : ∀ n ∈ x, 0 ≤ n ∧ n ≤ 255 := fun n hn => by
    have := w n hn
    simp only [Lit.wf, Bool.and_eq_true, decide_eq_true_eq] at this
    have e1 : IntKind.u8.min = 0 := rfl
    have e2 : IntKind.u8.max = 255 := rfl
    omega
  unfold spec_l20Open spec_l20Open_n1
  by_cases h : ((x.length : Nat) : Int) > 2000
  · rw [decide_eq_true h]
    have : inc 2000 x.length = some 2000 := by simp only [inc]; rw [if_pos (by omega)]; rfl
    rw [this]
    exact ⟨_, rfl, ⟨fun n hn => hr n (List.mem_of_mem_take (List.mem_of_mem_drop hn)), by simp; omega⟩⟩
  · rw [decide_eq_false h]
    exact ⟨x, rfl, ⟨hr, by omega⟩⟩

theorem inc_ok {i : Int} {n : Nat} (h0 : 0 ≤ i) (h1 : i ≤ n) : inc i n = some i.toNat := by simp only [inc]; rw [if_pos ⟨h0, h1⟩]
theorem inb_ok {i : Int} {n : Nat} (h0 : 0 ≤ i) (h1 : i < n) : inb i n = some i.toNat := by simp only [inb]; rw [if_pos ⟨h0, h1⟩]

/-- A number put into a row. -/
theorem ins_step {o : List Int} {i : Nat} {x : Int} (hi : i ≤ o.length) (hl : o.length ≤ 1000) :
    (room ((List.length ([] : List Int)) + List.length ((o.drop 0).take (i - 0)))) = some () ∧ room ((List.length (([] : List Int) ++ ((o.drop 0).take (i - 0)))) + List.length ([x])) = some () ∧
    room ((List.length ((([] : List Int) ++ ((o.drop 0).take (i - 0))) ++ ([x]))) + List.length ((o.drop i).take ((List.length o) - i))) = some () ∧
    (((([] : List Int) ++ ((o.drop 0).take (i - 0))) ++ ([x])) ++ ((o.drop i).take ((List.length o) - i))) = o.take i ++ [x] ++ o.drop i := by
  refine ⟨by rw [room_le]; simp; omega, by rw [room_le]; simp; omega, by rw [room_le]; simp; omega, ?_⟩
  simp only [List.nil_append, List.drop_zero, Nat.sub_zero]
  rw [List.take_of_length_le (l := o.drop i) (by simp)]

theorem order_ok {b : List Int} (hb : Bytes b) (n : Nat) (hn : n ≤ 20) {p : Int} (hp : 0 ≤ p) (hp2 : p ≤ 999999000) :
    ∃ (q : Int) (o : List Int), spec_l20Order n b p = some (q, o) ∧ p ≤ q ∧ q ≤ p + 100 ∧ o.length = n ∧ ∀ x ∈ o, 1 ≤ x ∧ x ≤ (n : Int) := by
  unfold spec_l20Order spec_l20Order_n9 spec_l20Order_n1
  obtain ⟨keep, hk, _⟩ := pick_ok hb 2 (by omega) hp (by omega)
  rw [hk]
  simp only [Option.bind_some]
  unfold spec_l20Order_n8 spec_l20Order_n6 spec_l20Order_n2 spec_l20Order_n5 spec_l20Order_n4
  obtain ⟨⟨q, o⟩, h1, h2, h3, h4, h5⟩ := nloop_ex (body := fun (s : Int × Int × List Int) => ((spec_l20Order_n3 n keep s.1 b s.2.1 s.2.2).map (Sum.elim (fun (t : Int × Int × List Int) => Sum.inl (t.1, t.2.1, t.2.2)) (fun (t : Int × List Int) => Sum.inr t)) : Option ((Int × Int × List Int) ⊕ ((Int × List Int)))))
    (I := fun s => ∃ (k : Nat) (q : Int) (o : List Int), s = (((k + 1 : Nat) : Int), q, o) ∧ k ≤ n ∧ p ≤ q ∧ q ≤ p + 1 + 2 * k ∧ o.length = k ∧ ∀ x ∈ o, 1 ≤ x ∧ x ≤ (k : Int)) (μ := fun s => n + 1 - s.1.toNat)
    (Q := fun t => p ≤ t.1 ∧ t.1 ≤ p + 100 ∧ t.2.length = n ∧ ∀ x ∈ t.2, 1 ≤ x ∧ x ≤ (n : Int))
    (by
      rintro _ ⟨k, q, o, rfl, hk, hq1, hq2, ho, hx⟩
      simp only [spec_l20Order_n3]
      by_cases hlt : k < n
      · left
        rw [show decide (((k + 1 : Nat) : Int) ≤ (n : Int)) = true from decide_eq_true (by omega), wrap64 (x := ((k + 1 : Nat) : Int) + 1) (by omega) (by omega)]
        have fin : ∀ (i : Nat) (q' : Int), i ≤ o.length → p ≤ q' → q' ≤ q + 2 → (∃ k_1 q_1 o_1, ((((k + 1 : Nat) : Int) + 1, q', o.take i ++ [((k + 1 : Nat) : Int)] ++ o.drop i) : Int × Int × List Int) = (((k_1 + 1 : Nat) : Int), q_1, o_1) ∧ k_1 ≤ n ∧ p ≤ q_1 ∧ q_1 ≤ p + 1 + 2 * (k_1 : Int) ∧ o_1.length = k_1 ∧ ∀ x ∈ o_1, 1 ≤ x ∧ x ≤ (k_1 : Int)) ∧
            n + 1 - (((k + 1 : Nat) : Int) + 1).toNat < n + 1 - (((k + 1 : Nat) : Int)).toNat := fun i q' hi hq3 hq4 => by
          refine ⟨⟨k + 1, q', _, by push_cast; rfl, by omega, hq3, by push_cast; omega, by simp; omega, fun x hxm => ?_⟩, by omega⟩
          simp only [List.mem_append, List.mem_singleton] at hxm
          rcases hxm with (h | h) | h
          · have := hx x (List.mem_of_mem_take h); push_cast; omega
          · subst h; push_cast; omega
          · have := hx x (List.mem_of_mem_drop h); push_cast; omega
        have one : ∀ (v : Int), 0 ≤ v → v ≤ o.length → ∀ q' : Int, (inc v (List.length o)).bind (fun (v426 : Nat) => (room ((List.length ([] : List Int)) + List.length ((o.drop 0).take (v426 - 0)))).bind fun (v430 : Unit) => (room ((List.length (([] : List Int) ++ ((o.drop 0).take (v426 - 0)))) + List.length ([((k + 1 : Nat) : Int)]))).bind fun (v434 : Unit) => (inc v (List.length o)).bind fun (v437 : Nat) => (room ((List.length ((([] : List Int) ++ ((o.drop 0).take (v426 - 0))) ++ ([((k + 1 : Nat) : Int)]))) + List.length ((o.drop v437).take ((List.length o) - v437)))).bind fun (v441 : Unit) =>
            some (Sum.inl ((((k + 1 : Nat) : Int) + 1), q', (((([] : List Int) ++ ((o.drop 0).take (v426 - 0))) ++ ([((k + 1 : Nat) : Int)])) ++ ((o.drop v437).take ((List.length o) - v437)))))) = (some (Sum.inl ((((k + 1 : Nat) : Int) + 1), q', o.take v.toNat ++ [((k + 1 : Nat) : Int)] ++ o.drop v.toNat)) : Option ((Int × Int × List Int) ⊕ (Int × List Int))) := fun v hv0 hv1 q' => by
          obtain ⟨r1, r2, r3, r4⟩ := ins_step (o := o) (i := v.toNat) (x := ((k + 1 : Nat) : Int)) (by omega) (by omega)
          simp only [inc_ok hv0 hv1, Option.bind_some, r1, r2, r3, r4]
        obtain ⟨v1, hv1, a1, b1, _⟩ := pick_ok hb ((k + 1 : Nat) : Int) (by omega) (p := q) (by omega) (by omega)
        have b1' := b1 (by omega)
        obtain ⟨v3, hv3, a3, b3, _⟩ := pick_ok hb 3 (by omega) (p := q) (by omega) (by omega)
        obtain ⟨v2, hv2, a2, b2, _⟩ := pick_ok hb ((k + 1 : Nat) : Int) (by omega) (p := q + 1) (by omega) (by omega)
        have b2' := b2 (by omega)
        cases hkeep : (keep == 0) with
        | true =>
          simp only [cond_true, hv1, Option.bind_some]
          rw [one v1 a1 (by omega) (q + 1)]
          exact ⟨_, rfl, fin v1.toNat (q + 1) (by omega) (by omega) (by omega)⟩
        | false =>
          simp only [cond_true, cond_false, hv3, Option.bind_some]
          cases h3 : (v3 == 0) with
          | true =>
            simp only [cond_true, hv2, Option.bind_some]
            rw [one v2 a2 (by omega) (q + 1 + 1)]
            exact ⟨_, rfl, fin v2.toNat (q + 1 + 1) (by omega) (by omega) (by omega)⟩
          | false =>
            simp only [cond_false]
            rw [one ((o.length : Nat) : Int) (by omega) (by omega) (q + 1)]
            exact ⟨_, rfl, fin (((o.length : Nat) : Int)).toNat (q + 1) (by omega) (by omega) (by omega)⟩
      · right
        have e : k = n := by omega
        subst e
        rw [show decide (((k + 1 : Nat) : Int) ≤ (k : Int)) = false from decide_eq_false (by omega)]
        exact ⟨_, rfl, hq1, by show q ≤ p + 100; omega, ho, hx⟩) LL (1, p + 1, []) ⟨0, p + 1, [], rfl, by omega, by omega, by omega, rfl, by simp⟩ (by simp only [LL]; omega)
  rw [h1]
  exact ⟨q, o, rfl, h2, h3, h4, h5⟩

def tot (l : List (List Int)) : Nat := (l.map List.length).sum
theorem tot_snoc (l : List (List Int)) (r : List Int) : tot (l ++ [r]) = tot l + r.length := by unfold tot; simp
theorem tot_take {S : List (List Int)} {k : Nat} (h : k < S.length) : tot (S.take (k + 1)) = tot (S.take k) + S[k].length := by
  rw [List.take_add_one, List.getElem?_eq_getElem h]
  exact tot_snoc _ _
theorem tot_le (S : List (List Int)) : ∀ k, tot (S.take k) ≤ tot S := fun k => by
  have : tot S = tot (S.take k) + tot (S.drop k) := by
    unfold tot
    rw [← List.sum_append, ← List.map_append, List.take_append_drop]
  omega
def szT (S : List (List Int)) : Nat := S.length + tot S

theorem row_le {S : List (List Int)} {k : Nat} (h : k < S.length) : S[k].length ≤ tot S := by
  have := tot_take h
  have := tot_le S (k + 1)
  omega

def arcX (l r l' r' : Int) : Bool := decide ((l < l' ∧ l' < r ∧ r < r') ∨ (l' < l ∧ l < r' ∧ r' < r))
theorem min_max {a b : Int} (h : a ≠ b) : imin a b < imax a b := by
  unfold imin imax
  split <;> split <;> omega

/-- The arcs of the first k words, the lesser end first. -/
def arcsK (h : List Int) (k : Nat) : List (Int × Int) := ((List.range k).filter fun i => decide (h.getD i 0 > 0)).map fun (i : Nat) => (imin ((i : Int) + 1) (h.getD i 0), imax ((i : Int) + 1) (h.getD i 0))
def arcsP (h : List Int) : List (Int × Int) := arcsK h h.length

theorem Tree.getD_hd {h : List Int} (T : Tree h) {k : Nat} (hk : k < h.length) : h.getD k 0 = ((hd h (k + 1) : Nat) : Int) := by
  have hg := T.get (w := k + 1) (by omega) (by omega)
  rw [Nat.add_sub_cancel] at hg
  rw [List.getD_eq_getElem?_getD, hg]; rfl

/-- No word is its own head. -/
theorem Tree.hd_other {h : List Int} (T : Tree h) {w : Nat} (h1 : 1 ≤ w) (h2 : w ≤ h.length) : hd h w ≠ w := by
  intro e
  have := T.dep_step h1 h2 (by omega)
  rw [e] at this
  omega

/-- The arc of a word that has a head. -/
theorem mem_arcs {h : List Int} (T : Tree h) {p : Int × Int} : p ∈ arcsP h ↔ ∃ w, 1 ≤ w ∧ w ≤ h.length ∧ hd h w ≠ 0 ∧ p = (imin (w : Int) ((hd h w : Nat) : Int), imax (w : Int) ((hd h w : Nat) : Int)) := by
  unfold arcsP arcsK
  rw [List.mem_map]
  constructor
  · rintro ⟨i, hi, rfl⟩
    rw [List.mem_filter, List.mem_range, decide_eq_true_eq] at hi
    rw [T.getD_hd hi.1] at hi ⊢
    refine ⟨i + 1, by omega, by omega, by omega, ?_⟩
    rw [show ((i + 1 : Nat) : Int) = (i : Int) + 1 by omega]
  · rintro ⟨w, h1, h2, h3, rfl⟩
    refine ⟨w - 1, ?_, ?_⟩
    · rw [List.mem_filter, List.mem_range, decide_eq_true_eq, T.getD_hd (by omega), show w - 1 + 1 = w by omega]
      omega
    · rw [T.getD_hd (show w - 1 < h.length by omega), show w - 1 + 1 = w by omega, show ((w - 1 : Nat) : Int) + 1 = (w : Int) by omega]

def covB (h : List Int) (v : Int) : Bool := (arcsP h).any fun p => decide (p.1 < v ∧ v < p.2)

def crossP (p q : Int × Int) : Bool := arcX p.1 p.2 q.1 q.2

/-- How many pairs of a list cross. -/
def pairsN (X : Int × Int → Int × Int → Bool) : List (Int × Int) → Nat
  | [] => 0
  | a :: r => r.countP (X a) + pairsN X r

theorem pairsN_zero {X : Int × Int → Int × Int → Bool} : ∀ l, pairsN X l = 0 ↔ l.Pairwise fun p q => X p q = false
  | [] => by simp [pairsN]
  | a :: r => by
    simp only [pairsN, List.pairwise_cons, ← pairsN_zero r]
    constructor
    · intro h
      have h1 : r.countP (X a) = 0 := by omega
      rw [List.countP_eq_zero] at h1
      exact ⟨fun q hq => by simpa using h1 q hq, by omega⟩
    · rintro ⟨h1, h2⟩
      have : r.countP (X a) = 0 := List.countP_eq_zero.2 fun q hq => by rw [h1 q hq]; simp
      omega

theorem crossP_comm (p q : Int × Int) : crossP p q = crossP q p := by
  unfold crossP arcX
  apply Bool.eq_iff_iff.2
  simp only [decide_eq_true_eq]
  omega

def crossN (h : List Int) : Nat := pairsN crossP (arcsP h)
theorem covB_iff {h : List Int} (T : Tree h) {v : Nat} : covB h (v : Int) = true ↔ ∃ w, 1 ≤ w ∧ w ≤ h.length ∧ hd h w ≠ 0 ∧ ((w < v ∧ v < hd h w) ∨ (hd h w < v ∧ v < w)) := by
  unfold covB
  rw [List.any_eq_true]
  constructor
  · rintro ⟨p, hp, hc⟩
    obtain ⟨w, h1, h2, h3, rfl⟩ := (mem_arcs T).1 hp
    rw [decide_eq_true_eq] at hc
    refine ⟨w, h1, h2, h3, ?_⟩
    revert hc
    unfold imin imax
    simp only
    split <;> split <;> omega
  · rintro ⟨w, h1, h2, h3, hc⟩
    refine ⟨_, (mem_arcs T).2 ⟨w, h1, h2, h3, rfl⟩, ?_⟩
    rw [decide_eq_true_eq]
    unfold imin imax
    simp only
    split <;> split <;> omega

theorem wrapu64 {x : Int} (h1 : 0 ≤ x) (h2 : x < 18446744073709551616) : IntKind.wrap .u64 x = x := by
  simp only [IntKind.wrap, IntKind.bits, IntKind.signed]
  simp
  omega

theorem ofInt_nat {a : Nat} (h : a < 18446744073709551616) : (BitVec.ofInt 64 (a : Int)).toNat = a := by
  rw [BitVec.toNat_ofInt]; omega

theorem ioru {a b : Nat} (ha : a < 2 ^ 62) (hb : b < 2 ^ 62) : ior .u64 (a : Int) (b : Int) = ((a ||| b : Nat) : Int) := by
  have h := Nat.or_lt_two_pow ha hb
  show IntKind.wrap .u64 ((BitVec.ofInt 64 (a : Int) ||| BitVec.ofInt 64 (b : Int)).toNat : Int) = _
  rw [BitVec.toNat_or, ofInt_nat (by omega), ofInt_nat (by omega), wrapu64 (by omega) (by omega)]
theorem all_lt {n : Nat} {p : Nat → Bool} (h : (List.range n).all p = true) {i : Nat} (hi : i < n) : p i = true :=
  List.all_eq_true.1 h i (List.mem_range.2 hi)

theorem only_tab : ((List.range 8).all fun i => impl_only ((i : Int) + 1) == some ((2 ^ i : Nat) : Int)) = true := by decide +kernel
theorem only_eq {w : Nat} (h1 : 1 ≤ w) (h2 : w ≤ 8) : impl_only (w : Int) = some ((2 ^ (w - 1) : Nat) : Int) := by
  have h := all_lt only_tab (i := w - 1) (by omega)
  rw [show ((w - 1 : Nat) : Int) + 1 = (w : Int) by omega] at h
  simpa using h

/-- The words of a set, in ascending order. -/
def wordsL (m : Nat) : List Int := ((List.range 8).filter fun i => m.testBit i).map fun i => ((i + 1 : Nat) : Int)

theorem filter_upto (p : Nat → Bool) (n : Nat) : ∀ N, n ≤ N → (List.range N).filter (fun i => decide (i < n) && p i) = (List.range n).filter p
  | 0, h => by
    have : n = 0 := by omega
    subst this; rfl
  | N + 1, h => by
    by_cases e : n = N + 1
    · subst e
      apply List.filter_congr
      intro i hi
      rw [List.mem_range] at hi
      simp [hi]
    · rw [List.range_succ, List.filter_append, filter_upto p n N (by omega)]
      have : ¬ N < n := by omega
      simp [this]

theorem wordsL_mask (p : Nat → Bool) {n : Nat} (h : n ≤ 8) : wordsL (maskN p n) = ((List.range n).filter p).map fun i => ((i + 1 : Nat) : Int) := by
  unfold wordsL
  rw [← filter_upto p n 8 h]
  congr 1
  apply List.filter_congr
  intro i _
  rw [maskN_bit]

theorem mem_wordsL {p : Nat → Bool} {n : Nat} (h : n ≤ 8) {x : Int} : x ∈ wordsL (maskN p n) ↔ ∃ i, i < n ∧ p i = true ∧ x = ((i + 1 : Nat) : Int) := by
  rw [wordsL_mask p h, List.mem_map]
  constructor
  · rintro ⟨i, hi, e⟩
    rw [List.mem_filter, List.mem_range] at hi
    exact ⟨i, hi.1, hi.2, e.symm⟩
  · rintro ⟨i, h1, h2, e⟩
    exact ⟨i, by rw [List.mem_filter, List.mem_range]; exact ⟨h1, h2⟩, e.symm⟩

theorem wordsL_length_le (m : Nat) : (wordsL m).length ≤ 8 := by
  unfold wordsL
  rw [List.length_map]
  exact Nat.le_trans (List.length_filter_le _ _) (by simp)

/-- Who has a head. -/
def headB (h : List Int) (v : Int) (i : Nat) : Bool := h.getD i 0 == v

theorem dependents_eq (h : List Int) (v : Int) (hl : h.length ≤ 8) : impl_dependents h v = some ((maskN (headB h v) h.length : Nat) : Int) := by
  have e : impl_dependents h v = impl_dependents_n9 h v := by unfold impl_dependents; rfl
  rw [e]
  unfold impl_dependents_n9 impl_dependents_n8 impl_dependents_n6 impl_dependents_n2 impl_dependents_n5 impl_dependents_n4 impl_dependents_n1
  have hloop := nloop_to (body := fun (s : Int × Int) => ((impl_dependents_n3 h v s.1 h.length s.2).map (Sum.elim (fun (t : Int × Int) => Sum.inl (t.1, t.2)) (fun (t : Int) => Sum.inr t)) : Option ((Int × Int) ⊕ (Int))))
    (fun k => (((maskN (headB h v) k : Nat) : Int), (k : Int))) h.length ((maskN (headB h v) h.length : Nat) : Int)
    (by
      intro k hk
      have hb : headB h v k = (h[k] == v) := by simp [headB, List.getD, hk]
      have h1 := maskN_lt (headB h v) k
      have h2 : (2 : Nat) ^ k < 2 ^ 62 := Nat.pow_lt_pow_right (by omega) (by omega)
      simp only [impl_dependents_n3]
      rw [show decide ((k : Int) < ((h.length : Nat) : Int)) = true from decide_eq_true (by omega), idx_lt hk, wrap64 (by omega) (by omega), show (k : Int) + 1 = ((k + 1 : Nat) : Int) by omega,
        only_eq (by omega) (by omega), Nat.add_sub_cancel]
      simp only [cond_true, Option.bind_some, ← hb, maskN]
      rw [ioru (by omega) h2]
      cases headB h v k with
      | true => rfl
      | false => simp)
    (by
      simp only [impl_dependents_n3]
      rw [show decide (((h.length : Nat) : Int) < ((h.length : Nat) : Int)) = false from decide_eq_false (by omega)]
      rfl)
  simp only [Option.bind_some]
  have := hloop LL (by simp only [LL]; omega)
  simp only [maskN] at this
  rw [show (((0 : Nat) : Int), ((0 : Nat) : Int)) = ((0 : Int), (0 : Int)) from rfl] at this
  rw [this]
  rfl

theorem list_tab : ((List.range 256).all fun m => impl_wordSet_list (m : Int) == some (wordsL m)) = true := by decide +kernel
theorem list_eq {m : Nat} (h : m < 256) : impl_wordSet_list (m : Int) = some (wordsL m) := by simpa using all_lt list_tab h

def rootI (h : List Int) : Int := if treeB h then (top h : Int) else -1

theorem implRoot_eq (h : List Int) : impl_RootOf h = some (rootI h) := by
  unfold impl_RootOf impl_RootOf_n7 impl_RootOf_n1 impl_RootOf_n6 impl_RootOf_n4 impl_RootOf_n3 rootI
  rw [implTree_eq]
  cases hT : treeB h with
  | false => simp
  | true =>
    have T := (tree_iff h).1 hT
    simp only [Option.bind_some, Bool.not_true, cond_false, Sum.elim_inl, if_true]
    have hloop := nloop_run (body := fun (s : Int × Int) => ((impl_RootOf_n2 h s.1 s.2).map (Sum.elim (fun (t : Int × Int) => Sum.inl (t.1, t.2)) (fun (t : Int × Int) => Sum.inr t)) : Option ((Int × Int) ⊕ ((Int × Int)))))
      (I := fun s => ∃ k i : Nat, s = (((k + 1 : Nat) : Int), (i : Int)) ∧ k < h.length ∧ i + dep h (k + 1) < h.length) (μ := fun s => dep h s.1.toNat)
      (f := fun s => ((top h : Int), s.2 + (dep h s.1.toNat : Int)))
      (by
        rintro _ ⟨k, i, rfl, hk, hi⟩
        have hle := T.le
        simp only [impl_RootOf_n2]
        rw [up_eq h k i hk (by omega) (by omega)]
        have hg := T.get (w := k + 1) (by omega) (by omega)
        rw [show k + 1 - 1 = k by omega, List.getElem?_eq_getElem hk] at hg
        have hg' : h[k] = ((hd h (k + 1) : Nat) : Int) := by simpa using hg
        by_cases e : hd h (k + 1) = 0
        · right
          have ht := (T.hd_zero (w := k + 1) (by omega) (by omega)).1 e
          have hd0 : dep h (k + 1) = 0 := by rw [ht]; exact T.dep_top
          have hd0' : dep h (((k + 1 : Nat) : Int)).toNat = 0 := hd0
          rw [if_pos (by omega)]
          simp only [Option.bind_some, cond_false, Option.map_some, Sum.elim_inr, hd0']
          rw [← ht]
          simp
        · left
          have hs := T.dep_step (w := k + 1) (by omega) (by omega) e
          have hle2 := T.hd_le (w := k + 1) (by omega) (by omega)
          rw [if_neg (by omega)]
          refine ⟨(h[k], ((i + 1 : Nat) : Int)), by simp, ⟨hd h (k + 1) - 1, i + 1, ?_, by omega, ?_⟩, ?_, ?_⟩
          · rw [hg', show hd h (k + 1) - 1 + 1 = hd h (k + 1) by omega]
          · rw [show hd h (k + 1) - 1 + 1 = hd h (k + 1) by omega]; omega
          · simp only [hg', Int.toNat_natCast]; omega
          · simp only [hg', Int.toNat_natCast]
            rw [hs]
            simp; omega)
    rw [hloop LL (1, 0) ⟨0, 0, rfl, by have := T.pos; omega, by have := T.dep_lt (w := 0 + 1) (by omega) (by have := T.pos; omega); omega⟩ (by
      have := T.dep_lt (w := 1) (by omega) T.pos; have := T.le; simp only [LL]; simp; omega)]
    simp [impl_RootOf_n5]

/-- A word is under another one: from head to head one comes to it. -/
inductive Und (h : List Int) : Nat → Nat → Prop
  | refl {a : Nat} (h1 : 1 ≤ a) (h2 : a ≤ h.length) : Und h a a
  | step {a b : Nat} (h1 : 1 ≤ a) (h2 : a ≤ h.length) (h3 : hd h a ≠ 0) (u : Und h (hd h a) b) : Und h a b

theorem Tree.climbInd {h : List Int} (T : Tree h) {P : Nat → Prop} (h0 : P (top h)) (hs : ∀ w, 1 ≤ w → w ≤ h.length → hd h w ≠ 0 → P (hd h w) → P w) : ∀ w, 1 ≤ w → w ≤ h.length → P w := by
  have key : ∀ (d w : Nat), dep h w = d → 1 ≤ w → w ≤ h.length → P w := by
    intro d
    induction d with
    | zero =>
      intro w e h1 h2
      rw [(T.dep_zero h1 h2).1 e]; exact h0
    | succ d ih =>
      intro w e h1 h2
      have hne : hd h w ≠ 0 := fun e0 => by
        have := (T.dep_zero h1 h2).2 ((T.hd_zero h1 h2).1 e0)
        omega
      have := T.dep_step h1 h2 hne
      exact hs w h1 h2 hne (ih _ (by omega) (by omega) (T.hd_le h1 h2))
  intro w
  exact key _ w rfl

theorem Tree.fallInd {h : List Int} (T : Tree h) {P : Nat → Prop} (hs : ∀ w, 1 ≤ w → w ≤ h.length → (∀ c, 1 ≤ c → c ≤ h.length → hd h c = w → P c) → P w) : ∀ w, 1 ≤ w → w ≤ h.length → P w := by
  have key : ∀ (d w : Nat), h.length - dep h w ≤ d → 1 ≤ w → w ≤ h.length → P w := by
    intro d
    induction d with
    | zero =>
      intro w e h1 h2
      have := T.dep_lt h1 h2
      omega
    | succ d ih =>
      intro w e h1 h2
      refine hs w h1 h2 fun c hc1 hc2 hc => ih c ?_ hc1 hc2
      have := T.dep_step hc1 hc2 (by omega)
      rw [hc] at this
      have := T.dep_lt h1 h2
      omega
  intro w
  exact key _ w (Nat.le_refl _)

theorem Tree.und_rng {h : List Int} (T : Tree h) {a b : Nat} (u : Und h a b) : (1 ≤ a ∧ a ≤ h.length) ∧ (1 ≤ b ∧ b ≤ h.length) := by
  induction u with
  | refl h1 h2 => exact ⟨⟨h1, h2⟩, h1, h2⟩
  | step h1 h2 h3 u ih => exact ⟨⟨h1, h2⟩, ih.2⟩

theorem Tree.und_hd {h : List Int} (T : Tree h) {a : Nat} (h1 : 1 ≤ a) (h2 : a ≤ h.length) (h3 : hd h a ≠ 0) : Und h a (hd h a) :=
  .step h1 h2 h3 (.refl (by omega) (T.hd_le h1 h2))

theorem Tree.und_top {h : List Int} (T : Tree h) {a : Nat} (h1 : 1 ≤ a) (h2 : a ≤ h.length) : Und h a (top h) :=
  T.climbInd (P := fun w => Und h w (top h)) (.refl (top_pos h) T.top_le) (fun w a b c d => .step a b c d) a h1 h2

theorem Tree.und_trans {h : List Int} (T : Tree h) {a b c : Nat} (u : Und h a b) (v : Und h b c) : Und h a c := by
  induction u with
  | refl => exact v
  | step h1 h2 h3 u ih => exact .step h1 h2 h3 (ih v)

theorem Tree.und_dep {h : List Int} (T : Tree h) {a b : Nat} (u : Und h a b) : dep h b ≤ dep h a ∧ (dep h b = dep h a → a = b) := by
  induction u with
  | refl => exact ⟨Nat.le_refl _, fun _ => rfl⟩
  | step h1 h2 h3 u ih =>
    have := T.dep_step h1 h2 h3
    exact ⟨by omega, fun e => by omega⟩

theorem Tree.und_anti {h : List Int} (T : Tree h) {a b : Nat} (u : Und h a b) (v : Und h b a) : a = b := by
  have h1 := T.und_dep u
  have h2 := T.und_dep v
  exact h1.2 (by omega)

theorem Tree.und_iff {h : List Int} (T : Tree h) {a b : Nat} (h1 : 1 ≤ a) (h2 : a ≤ h.length) : Und h a b ↔ a = b ∨ (hd h a ≠ 0 ∧ Und h (hd h a) b) := by
  constructor
  · intro u
    cases u with
    | refl => exact .inl rfl
    | step _ _ h3 u => exact .inr ⟨h3, u⟩
  · rintro (rfl | ⟨h3, u⟩)
    · exact .refl h1 h2
    · exact .step h1 h2 h3 u

theorem Tree.und_of_top {h : List Int} (T : Tree h) {b : Nat} (u : Und h (top h) b) : b = top h := by
  rcases (T.und_iff (top_pos h) T.top_le).1 u with e | ⟨e, _⟩
  · exact e.symm
  · exact absurd ((T.hd_zero (top_pos h) T.top_le).2 rfl) e

theorem Tree.und_child {h : List Int} (T : Tree h) {a b : Nat} : Und h a b ↔ (a = b ∧ 1 ≤ a ∧ a ≤ h.length) ∨ (b ≠ 0 ∧ ∃ c, 1 ≤ c ∧ c ≤ h.length ∧ hd h c = b ∧ Und h a c) := by
  constructor
  · intro u
    induction u with
    | refl h1 h2 => exact .inl ⟨rfl, h1, h2⟩
    | step h1 h2 h3 u ih =>
      rcases ih with ⟨e, e2, _⟩ | ⟨hb, c, c1, c2, c3, c4⟩
      · exact .inr ⟨by omega, _, h1, h2, e, .refl h1 h2⟩
      · exact .inr ⟨hb, c, c1, c2, c3, .step h1 h2 h3 c4⟩
  · rintro (⟨rfl, h1, h2⟩ | ⟨hb, c, c1, c2, rfl, c4⟩)
    · exact .refl h1 h2
    · exact T.und_trans c4 (T.und_hd c1 c2 hb)

/-- Whether a word is under another one. -/
noncomputable def undB (h : List Int) (a b : Nat) : Bool := @decide (Und h a b) (Classical.propDecidable _)
theorem undB_iff {h : List Int} {a b : Nat} : undB h a b = true ↔ Und h a b := by simp [undB]
theorem undB_false {h : List Int} {a b : Nat} : undB h a b = false ↔ ¬ Und h a b := by simp [undB]

/-- The yield of a word as bits. -/
noncomputable def ymask (h : List Int) (k : Nat) : Nat := maskN (fun i => undB h (i + 1) k) h.length

theorem ymask_lt {h : List Int} (hl : h.length ≤ 8) (k : Nat) : ymask h k < 256 := lt256 hl (maskN_lt _ _)

theorem ymask_bit {h : List Int} {k i : Nat} (T : Tree h) : (ymask h k).testBit i = undB h (i + 1) k := by
  unfold ymask
  rw [maskN_bit]
  by_cases hi : i < h.length
  · simp [hi]
  · have : undB h (i + 1) k = false := undB_false.2 fun u => by have := T.und_rng u; omega
    rw [this]; simp

/-- The words that depend on a word. -/
def kidsL (h : List Int) (w : Nat) : List Int := wordsL (maskN (headB h (w : Int)) h.length)

theorem mem_kids {h : List Int} (T : Tree h) {w : Nat} {x : Int} : x ∈ kidsL h w ↔ ∃ c, 1 ≤ c ∧ c ≤ h.length ∧ hd h c = w ∧ x = (c : Int) := by
  unfold kidsL
  rw [mem_wordsL T.le]
  constructor
  · rintro ⟨i, h1, h2, e⟩
    refine ⟨i + 1, by omega, by omega, ?_, e⟩
    have hg := T.get (w := i + 1) (by omega) (by omega)
    rw [Nat.add_sub_cancel] at hg
    simp only [headB, List.getD_eq_getElem?_getD, hg, Option.getD_some, beq_iff_eq] at h2
    omega
  · rintro ⟨c, h1, h2, h3, rfl⟩
    refine ⟨c - 1, by omega, ?_, by omega⟩
    have hg := T.get (w := c) (by omega) (by omega)
    simp only [headB, List.getD_eq_getElem?_getD, hg, Option.getD_some, beq_iff_eq, h3]

theorem kids_length (h : List Int) (w : Nat) : (kidsL h w).length ≤ 8 := wordsL_length_le _

/-- Words of a yield: the word, and those under what depends on it. -/
noncomputable def partB (h : List Int) (w : Nat) (cs : List Int) (i : Nat) : Bool := (i + 1 == w) || cs.any fun c => undB h (i + 1) c.toNat

theorem part_all {h : List Int} (T : Tree h) {w : Nat} (h1 : 1 ≤ w) (h2 : w ≤ h.length) {i : Nat} (hi : i < h.length) : partB h w (kidsL h w) i = undB h (i + 1) w := by
  rw [Bool.eq_iff_iff, undB_iff, T.und_child]
  simp only [partB, Bool.or_eq_true, beq_iff_eq, List.any_eq_true, undB_iff]
  constructor
  · rintro (e | ⟨x, hx, u⟩)
    · exact .inl ⟨e, by omega, by omega⟩
    · obtain ⟨c, c1, c2, c3, rfl⟩ := (mem_kids T).1 hx
      exact .inr ⟨by omega, c, c1, c2, c3, by simpa using u⟩
  · rintro (⟨e, _⟩ | ⟨_, c, c1, c2, c3, u⟩)
    · exact .inl e
    · exact .inr ⟨(c : Int), (mem_kids T).2 ⟨c, c1, c2, c3, rfl⟩, by simpa using u⟩

theorem part_step (h : List Int) (w : Nat) (cs : List Int) {j : Nat} (hj : j < cs.length) {n : Nat} :
    maskN (partB h w (cs.take (j + 1))) n = maskN (partB h w (cs.take j)) n ||| maskN (fun i => undB h (i + 1) cs[j].toNat) n := by
  refine (eq_maskN (Nat.or_lt_two_pow (maskN_lt _ _) (maskN_lt _ _)) fun i hi => ?_).symm
  rw [Nat.testBit_or, maskN_bit, maskN_bit]
  simp only [hi, decide_true, Bool.true_and, partB]
  rw [List.take_add_one, List.getElem?_eq_getElem hj]
  simp only [Option.toList_some, List.any_append, List.any_cons, List.any_nil, Bool.or_false, Bool.or_assoc]

theorem part_none (h : List Int) {w n : Nat} (h1 : 1 ≤ w) (h2 : w ≤ n) : maskN (partB h w []) n = 2 ^ (w - 1) := by
  refine (eq_maskN (Nat.pow_lt_pow_right (by omega) (by omega)) fun i hi => ?_).symm
  rw [Nat.testBit_two_pow]
  simp only [partB, List.any_nil, Bool.or_false]
  rw [Bool.eq_iff_iff]
  simp only [decide_eq_true_eq, beq_iff_eq]
  omega

/-- The yields, filled for those under some words. -/
noncomputable def fillL (h : List Int) (ys cs : List Int) : List Int := (List.range h.length).map fun i => if (cs.any fun c => undB h (i + 1) c.toNat) = true then ((ymask h (i + 1) : Nat) : Int) else ys.getD i 0

theorem fillL_length (h ys cs : List Int) : (fillL h ys cs).length = h.length := by simp [fillL]
theorem fillL_get (h ys cs : List Int) {i : Nat} (hi : i < h.length) : (fillL h ys cs)[i]? = some (if (cs.any fun c => undB h (i + 1) c.toNat) = true then ((ymask h (i + 1) : Nat) : Int) else ys.getD i 0) := by
  simp [fillL, hi]
theorem fillL_nil {h ys : List Int} (hl : ys.length = h.length) : fillL h ys [] = ys := by
  apply List.ext_getElem?
  intro i
  by_cases hi : i < h.length
  · rw [fillL_get h ys [] hi]
    simp [List.getD, show i < ys.length by omega]
  · rw [List.getElem?_eq_none (by rw [fillL_length]; omega), List.getElem?_eq_none (by omega)]

theorem fillL_step (h ys cs : List Int) {j : Nat} (hj : j < cs.length) : fillL h (fillL h ys (cs.take j)) [cs[j]] = fillL h ys (cs.take (j + 1)) := by
  apply List.ext_getElem?
  intro i
  by_cases hi : i < h.length
  · rw [fillL_get h _ _ hi, fillL_get h _ _ hi, List.getD_eq_getElem?_getD, fillL_get h _ _ hi, List.take_add_one, List.getElem?_eq_getElem hj]
    simp only [List.any_cons, List.any_nil, Bool.or_false, Option.getD_some, Option.toList_some, List.any_append]
    cases undB h (i + 1) cs[j].toNat <;> cases ((List.take j cs).any fun c => undB h (i + 1) c.toNat) <;> simp
  · rw [List.getElem?_eq_none (by rw [fillL_length]; omega), List.getElem?_eq_none (by rw [fillL_length]; omega)]

theorem fillL_set {h ys : List Int} (T : Tree h) {w : Nat} (h1 : 1 ≤ w) (h2 : w ≤ h.length) : (fillL h ys (kidsL h w)).set (w - 1) ((ymask h w : Nat) : Int) = fillL h ys [(w : Int)] := by
  apply List.ext_getElem?
  intro i
  by_cases hi : i < h.length
  · by_cases e : i = w - 1
    · subst e
      rw [List.getElem?_set_self (by rw [fillL_length]; omega), fillL_get h _ _ hi, if_pos]
      · rw [show w - 1 + 1 = w by omega]
      · have : undB h (w - 1 + 1) w = true := undB_iff.2 (by rw [show w - 1 + 1 = w by omega]; exact .refl h1 h2)
        simpa using this
    · rw [List.getElem?_set_ne (fun e' => e e'.symm), fillL_get h _ _ hi, fillL_get h _ _ hi]
      have hp := part_all T h1 h2 hi
      have hne : (i + 1 == w) = false := by rw [beq_eq_false_iff_ne]; omega
      simp only [partB, hne, Bool.false_or] at hp
      rw [hp]
      simp
  · rw [List.getElem?_eq_none (by rw [List.length_set, fillL_length]; omega), List.getElem?_eq_none (by rw [fillL_length]; omega)]

theorem fill_fuel {h : List Int} (T : Tree h) : ∀ w, 1 ≤ w → w ≤ h.length → ∀ (f : Nat) (ys : List Int), h.length - dep h w < f → ys.length = h.length →
    impl_fillYields_knot f h (w : Int) ys = some (((ymask h w : Nat) : Int), fillL h ys [(w : Int)]) := by
  refine T.fallInd (P := fun w => ∀ (f : Nat) (ys : List Int), h.length - dep h w < f → ys.length = h.length → impl_fillYields_knot f h (w : Int) ys = some (((ymask h w : Nat) : Int), fillL h ys [(w : Int)])) ?_
  intro w h1 h2 ih f ys hf hys
  obtain ⟨f, rfl⟩ : ∃ g, f = g + 1 := ⟨f - 1, by omega⟩
  have hle := T.le
  simp only [impl_fillYields_knot]
  generalize hR : impl_fillYields_knot f = R0
  have ih' : ∀ c, 1 ≤ c → c ≤ h.length → hd h c = w → ∀ zs : List Int, zs.length = h.length → R0 h (c : Int) zs = some (((ymask h c : Nat) : Int), fillL h zs [(c : Int)]) := by
    intro c c1 c2 c3 zs hz
    rw [← hR]
    refine ih c c1 c2 c3 f zs ?_ hz
    have := T.dep_step c1 c2 (by omega)
    rw [c3] at this
    have := T.dep_lt h1 h2
    omega
  have hkl := kids_length h w
  have hloop := nloop_to (body := fun (s : Int × Int × (List Int)) => ((impl_fillYields_n3 R0 h s.1 (kidsL h w).length s.2.1 s.2.2 (kidsL h w)).map (Sum.elim (fun (t : Int × Int × (List Int)) => Sum.inl (t.1, t.2.1, t.2.2)) (fun (t : Int × (List Int)) => Sum.inr t)) : Option ((Int × Int × (List Int)) ⊕ ((Int × (List Int))))))
    (fun j => (((maskN (partB h w ((kidsL h w).take j)) h.length : Nat) : Int), (j : Int), fillL h ys ((kidsL h w).take j))) (kidsL h w).length (((maskN (partB h w (kidsL h w)) h.length : Nat) : Int), fillL h ys (kidsL h w))
    (by
      intro j hj
      simp only [impl_fillYields_n3]
      obtain ⟨c, c1, c2, c3, hc⟩ := (mem_kids T).1 (List.getElem_mem hj)
      have ihc := ih' c c1 c2 c3 (fillL h ys ((kidsL h w).take j)) (fillL_length _ _ _)
      have l1 : maskN (partB h w ((kidsL h w).take j)) h.length < 256 := lt256 hle (maskN_lt _ _)
      have l2 := ymask_lt hle c
      rw [show decide ((j : Int) < (((kidsL h w).length : Nat) : Int)) = true from decide_eq_true (by omega), inb_nat hj, wrap64 (by omega) (by omega)]
      simp only [cond_true, Option.bind_some, List.getElem?_eq_getElem hj]
      rw [hc, ihc]
      simp only [Option.bind_some]
      rw [ioru (by omega) (by omega), part_step h w _ hj, ← fillL_step h ys _ hj, hc]
      rfl)
    (by
      simp only [impl_fillYields_n3]
      rw [show decide ((((kidsL h w).length : Nat) : Int) < (((kidsL h w).length : Nat) : Int)) = false from decide_eq_false (by omega), List.take_length]
      rfl)
  have hl := hloop LL (by simp only [LL]; omega)
  rw [List.take_zero, part_none h h1 h2, fillL_nil hys] at hl
  unfold impl_fillYields_one impl_fillYields_n9 impl_fillYields_n1 impl_fillYields_n8 impl_fillYields_n6 impl_fillYields_n2 impl_fillYields_n5 impl_fillYields_n4 impl_fillYields_n7
  rw [only_eq h1 (by omega), dependents_eq h _ hle]
  simp only [Option.bind_some]
  rw [list_eq (lt256 hle (maskN_lt _ _))]
  show (((((some _).bind fun v1208 => some (((List.length v1208 : Nat) : Int), v1208)).bind _) : Option _).bind _) = _
  simp only [Option.bind_some]
  change ((Option.map _ (nloop (fun (s : Int × Int × (List Int)) => ((impl_fillYields_n3 R0 h s.1 (kidsL h w).length s.2.1 s.2.2 (kidsL h w)).map (Sum.elim (fun (t : Int × Int × (List Int)) => Sum.inl (t.1, t.2.1, t.2.2)) (fun (t : Int × (List Int)) => Sum.inr t)) : Option ((Int × Int × (List Int)) ⊕ ((Int × (List Int)))))) LL (((2 ^ (w - 1) : Nat) : Int), ((0 : Nat) : Int), ys))).bind _) = _
  rw [hl]
  simp only [Option.map_some, Option.bind_some]
  rw [wrap64 (by omega) (by omega), show (w : Int) - 1 = ((w - 1 : Nat) : Int) by omega, inb_nat (by rw [fillL_length]; omega)]
  simp only [Option.bind_some]
  have hm : maskN (partB h w (kidsL h w)) h.length = ymask h w := maskN_congr fun i hi => part_all T h1 h2 hi
  rw [hm, fillL_set T h1 h2]

/-- The yields of all words. -/
noncomputable def yieldL (h : List Int) : List Int := (List.range h.length).map fun i => ((ymask h (i + 1) : Nat) : Int)
theorem yieldL_length (h : List Int) : (yieldL h).length = h.length := by simp [yieldL]
theorem yieldL_get (h : List Int) {i : Nat} (hi : i < h.length) : (yieldL h)[i]? = some ((ymask h (i + 1) : Nat) : Int) := by simp [yieldL, hi]

theorem yields_eq {h : List Int} (T : Tree h) : impl_yieldsOf h = some (yieldL h) := by
  have hle := T.le
  have e : impl_yieldsOf h = impl_yieldsOf_n1 h := by unfold impl_yieldsOf; rfl
  rw [e]
  unfold impl_yieldsOf_n1
  rw [mk_nat (by omega), implRoot_eq]
  have hT : treeB h = true := (tree_iff h).2 T
  simp only [Option.bind_some, rootI, hT, if_true]
  have e2 : impl_fillYields h (top h : Int) (List.replicate h.length 0) = impl_fillYields_knot RR h (top h : Int) (List.replicate h.length 0) := by unfold impl_fillYields impl_fillYields_fuel; rfl
  rw [e2, fill_fuel T (top h) (top_pos h) T.top_le RR _ (by simp only [RR]; omega) (by simp)]
  simp only [Option.bind_some]
  congr 1
  apply List.ext_getElem?
  intro i
  by_cases hi : i < h.length
  · rw [fillL_get h _ _ hi, yieldL_get h hi, if_pos]
    have : undB h (i + 1) (top h) = true := undB_iff.2 (T.und_top (by omega) (by omega))
    simpa using this
  · rw [List.getElem?_eq_none (by rw [fillL_length]; omega), List.getElem?_eq_none (by rw [yieldL_length]; omega)]

/-- Whether a set is a row: what is between two of its words is in it. -/
def rowN (m : Nat) : Bool := (List.range 8).all fun c => (List.range c).all fun b => (List.range b).all fun a => !(m.testBit a && m.testBit c) || m.testBit b

theorem rowN_iff (m : Nat) : rowN m = true ↔ ∀ a b c, a < b → b < c → c < 8 → m.testBit a = true → m.testBit c = true → m.testBit b = true := by
  unfold rowN
  simp only [List.all_eq_true, List.mem_range, Bool.or_eq_true, Bool.not_eq_true', Bool.and_eq_false_iff]
  constructor
  · intro h a b c h1 h2 h3 h4 h5
    rcases h c h3 b h2 a h1 with (e | e) | e
    · rw [h4] at e; cases e
    · rw [h5] at e; cases e
    · exact e
  · intro h c h3 b h2 a h1
    cases x : m.testBit a with
    | false => exact .inl (.inl rfl)
    | true =>
      cases y : m.testBit c with
      | false => exact .inl (.inr rfl)
      | true => exact .inr (h a b c h1 h2 h3 x y)

theorem isRow_tab : ((List.range 256).all fun m => impl_wordSet_isRow (m : Int) == some (rowN m)) = true := by decide +kernel
theorem isRow_eq {m : Nat} (h : m < 256) : impl_wordSet_isRow (m : Int) = some (rowN m) := by simpa using all_lt isRow_tab h
/-- A tree is flat: each yield is a row. -/
def FlatP (h : List Int) : Prop := ∀ k a b c, a < b → b < c → Und h a k → Und h c k → Und h b k

noncomputable def flatB (h : List Int) : Bool := @decide (FlatP h) (Classical.propDecidable _)
theorem flatB_iff {h : List Int} : flatB h = true ↔ FlatP h := by simp [flatB]
noncomputable def flatI (h : List Int) : Bool := treeB h && flatB h

theorem row_iff {h : List Int} (T : Tree h) (k : Nat) : rowN (ymask h k) = true ↔ ∀ a b c, a < b → b < c → Und h a k → Und h c k → Und h b k := by
  rw [rowN_iff]
  simp only [ymask_bit T, undB_iff]
  have hle := T.le
  constructor
  · intro x a b c h1 h2 u v
    have ru := T.und_rng u
    have rv := T.und_rng v
    have := x (a - 1) (b - 1) (c - 1) (by omega) (by omega) (by omega) (by rw [show a - 1 + 1 = a by omega]; exact u) (by rw [show c - 1 + 1 = c by omega]; exact v)
    rw [show b - 1 + 1 = b by omega] at this
    exact this
  · intro x a b c h1 h2 _ u v
    exact x (a + 1) (b + 1) (c + 1) (by omega) (by omega) u v

theorem flat_rows {h : List Int} (T : Tree h) : flatB h = (List.range h.length).all fun i => rowN (ymask h (i + 1)) := by
  rw [Bool.eq_iff_iff, flatB_iff, List.all_eq_true]
  constructor
  · intro F i hi
    exact (row_iff T (i + 1)).2 (F (i + 1))
  · intro x k a b c h1 h2 u v
    have ru := T.und_rng u
    have := (row_iff T (k - 1 + 1)).1 (x (k - 1) (by rw [List.mem_range]; omega))
    rw [show k - 1 + 1 = k by omega] at this
    exact this a b c h1 h2 u v

theorem implFlat_eq (h : List Int) : impl_FlatOk h = some (flatI h) := by
  have e : impl_FlatOk h = impl_FlatOk_n9 h := by unfold impl_FlatOk; rfl
  rw [e]
  unfold impl_FlatOk_n9 impl_FlatOk_n1 impl_FlatOk_n8 impl_FlatOk_n6 impl_FlatOk_n2 impl_FlatOk_n5 impl_FlatOk_n4 impl_FlatOk_n7 flatI
  rw [implTree_eq]
  cases hT : treeB h with
  | false => rfl
  | true =>
    have T := (tree_iff h).1 hT
    have hle := T.le
    simp only [Option.bind_some, Bool.not_true, cond_false, Sum.elim_inl, yields_eq T, yieldL_length, Bool.true_and]
    have hloop := nloop_while (body := fun (s : Int) => ((impl_FlatOk_n3 h.length s (yieldL h)).map (Sum.elim (fun (t : Int) => Sum.inl t) (Sum.elim (fun (t : Bool) => Sum.inr (Sum.inl t)) (fun (t : Unit) => Sum.inr (Sum.inr t)))) : Option ((Int) ⊕ (Bool ⊕ Unit))))
      (fun k => (k : Int)) h.length (fun i => rowN (ymask h (i + 1))) (fun b => cond b (.inr ()) (.inl false))
      (by
        intro k hk hp
        simp only [impl_FlatOk_n3]
        rw [show decide ((k : Int) < ((h.length : Nat) : Int)) = true from decide_eq_true (by omega), inb_nat (by rw [yieldL_length]; exact hk), wrap64 (by omega) (by omega)]
        simp only [cond_true, Option.bind_some, yieldL_get h hk, isRow_eq (ymask_lt hle _), hp]
        rfl)
      (by
        intro k hk hp
        simp only [impl_FlatOk_n3]
        rw [show decide ((k : Int) < ((h.length : Nat) : Int)) = true from decide_eq_true (by omega), inb_nat (by rw [yieldL_length]; exact hk), wrap64 (by omega) (by omega)]
        simp only [cond_true, Option.bind_some, yieldL_get h hk, isRow_eq (ymask_lt hle _), hp]
        rfl)
      (by
        simp only [impl_FlatOk_n3]
        rw [show decide (((h.length : Nat) : Int) < ((h.length : Nat) : Int)) = false from decide_eq_false (by omega)]
        rfl)
    rw [show (0 : Int) = ((0 : Nat) : Int) from rfl, hloop LL (by simp only [LL]; omega), flat_rows T]
    cases (List.range h.length).all fun i => rowN (ymask h (i + 1)) <;> rfl

def Betw (a b j : Nat) : Prop := (a < j ∧ j < b) ∨ (b < j ∧ j < a)
def Outs (a b j : Nat) : Prop := (j < a ∧ j < b) ∨ (a < j ∧ b < j)

/-- Arcs of two words cross: just one end of the one is between both ends of the other one. -/
def CrossW (h : List Int) (w v : Nat) : Prop :=
  (Betw w (hd h w) v ∧ Outs w (hd h w) (hd h v)) ∨ (Betw w (hd h w) (hd h v) ∧ Outs w (hd h w) v)

/-- All words between a word and its head are under that head. -/
def BelowP (h : List Int) : Prop := ∀ w j, 1 ≤ w → w ≤ h.length → hd h w ≠ 0 → ((w < j ∧ j < hd h w) ∨ (hd h w < j ∧ j < w)) → Und h j (hd h w)

theorem flat_below {h : List Int} (T : Tree h) : FlatP h ↔ BelowP h := by
  constructor
  · intro F w j h1 h2 h3 hj
    have hh := T.hd_le h1 h2
    have u := T.und_hd h1 h2 h3
    have r : Und h (hd h w) (hd h w) := .refl (by omega) hh
    rcases hj with ⟨a, b⟩ | ⟨a, b⟩
    · exact F (hd h w) w j (hd h w) a b u r
    · exact F (hd h w) (hd h w) j w a b r u
  · intro Bl
    have key : ∀ k a, Und h a k → ∀ b, Betw a k b → Und h b k := by
      intro k a u
      induction u with
      | refl h1 h2 => intro b hb; unfold Betw at hb; omega
      | @step a k h1 h2 h3 u ih =>
        intro b hb
        have hh := T.hd_le h1 h2
        by_cases e : b = hd h a
        · rw [e]; exact u
        · by_cases hm : (a < b ∧ b < hd h a) ∨ (hd h a < b ∧ b < a)
          · exact T.und_trans (Bl a b h1 h2 h3 hm) u
          · refine ih b ?_
            unfold Betw at hb ⊢
            omega
    intro k a b c h1 h2 u v
    by_cases e : b = k
    · have r := T.und_rng u
      rw [e]; exact .refl r.2.1 r.2.2
    · rcases Nat.lt_or_ge b k with h | h
      · exact key k a u b (.inl ⟨h1, h⟩)
      · exact key k c v b (.inr ⟨by omega, h2⟩)

/-- The root lies under no arc, and no two arcs cross. -/
def PlanP (h : List Int) : Prop :=
  (∀ w, 1 ≤ w → w ≤ h.length → hd h w ≠ 0 → ¬ Betw w (hd h w) (top h)) ∧ ∀ w v, 1 ≤ w → w ≤ h.length → hd h w ≠ 0 → 1 ≤ v → v ≤ h.length → hd h v ≠ 0 → ¬ CrossW h w v

theorem below_plan {h : List Int} (T : Tree h) : BelowP h ↔ PlanP h := by
  constructor
  · intro Bl
    refine ⟨fun w h1 h2 h3 hb => ?_, fun w v h1 h2 h3 v1 v2 v3 hc => ?_⟩
    · have u := Bl w (top h) h1 h2 h3 hb
      have := T.und_of_top u
      unfold Betw at hb
      omega
    · have hw := T.hd_le h1 h2
      have hv := T.hd_le v1 v2
      -- the arcs' heads are under each other
      have s1 : Und h (hd h v) (hd h w) := by
        rcases hc with ⟨hb, ho⟩ | ⟨hb, ho⟩
        · have u := Bl w v h1 h2 h3 hb
          rcases (T.und_iff v1 v2).1 u with e | ⟨_, u'⟩
          · unfold Betw at hb; omega
          · exact u'
        · exact Bl w (hd h v) h1 h2 h3 hb
      have s2 : Und h (hd h w) (hd h v) := by
        have ht : (Betw v (hd h v) w) ∨ (Betw v (hd h v) (hd h w)) := by
          unfold CrossW Betw Outs at hc
          unfold Betw
          omega
        rcases ht with hb | hb
        · have u := Bl v w v1 v2 v3 hb
          rcases (T.und_iff h1 h2).1 u with e | ⟨_, u'⟩
          · unfold Betw at hb; omega
          · exact u'
        · exact Bl v (hd h w) v1 v2 v3 hb
      have e := T.und_anti s1 s2
      unfold CrossW Betw Outs at hc
      omega
  · rintro ⟨P1, P2⟩ w j h1 h2 h3 hj
    have hw := T.hd_le h1 h2
    have j1 : 1 ≤ j := by omega
    have j2 : j ≤ h.length := by omega
    revert hj
    refine T.climbInd (P := fun j => (w < j ∧ j < hd h w) ∨ (hd h w < j ∧ j < w) → Und h j (hd h w)) (fun hj => absurd hj (P1 w h1 h2 h3)) (fun v v1 v2 v3 ih hj => ?_) j j1 j2
    have hv := T.hd_le v1 v2
    have nc := P2 w v h1 h2 h3 v1 v2 v3
    by_cases e1 : hd h v = hd h w
    · rw [← e1]; exact T.und_hd v1 v2 v3
    · by_cases e2 : hd h v = w
      · refine .step v1 v2 v3 ?_
        rw [e2]; exact T.und_hd h1 h2 h3
      · refine .step v1 v2 v3 (ih ?_)
        unfold CrossW Betw Outs at nc
        omega

theorem pairwise_all {α : Type} {R : α → α → Prop} (hs : ∀ x y, R x y → R y x) (hr : ∀ x, R x x) : ∀ l : List α, l.Pairwise R ↔ ∀ x ∈ l, ∀ y ∈ l, R x y
  | [] => by simp
  | a :: r => by
    rw [List.pairwise_cons, pairwise_all hs hr r]
    constructor
    · rintro ⟨h1, h2⟩ x hx y hy
      rcases List.mem_cons.1 hx with ex | hx' <;> rcases List.mem_cons.1 hy with ey | hy'
      · rw [ex, ey]; exact hr _
      · rw [ex]; exact h1 y hy'
      · rw [ey]; exact hs _ _ (h1 x hx')
      · exact h2 x hx' y hy'
    · intro h
      exact ⟨fun y hy => h a List.mem_cons_self y (List.mem_cons_of_mem _ hy), fun x hx y hy => h x (List.mem_cons_of_mem _ hx) y (List.mem_cons_of_mem _ hy)⟩

theorem arcs_pairs {h : List Int} (T : Tree h) : crossN h = 0 ↔ ∀ w v, 1 ≤ w → w ≤ h.length → hd h w ≠ 0 → 1 ≤ v → v ≤ h.length → hd h v ≠ 0 → ¬ CrossW h w v := by
  have one : ∀ w v, hd h w ≠ w → hd h v ≠ v → (crossP (imin (w : Int) ((hd h w : Nat) : Int), imax (w : Int) ((hd h w : Nat) : Int)) (imin (v : Int) ((hd h v : Nat) : Int), imax (v : Int) ((hd h v : Nat) : Int)) = true ↔ CrossW h w v) := by
    intro w v e1 e2
    unfold crossP arcX CrossW Betw Outs
    rw [decide_eq_true_eq]
    have m1 := min_max (a := (w : Int)) (b := ((hd h w : Nat) : Int)) (by omega)
    have m2 := min_max (a := (v : Int)) (b := ((hd h v : Nat) : Int)) (by omega)
    simp only
    unfold imin imax at m1 m2 ⊢
    split <;> split <;> split <;> split <;> omega
  unfold crossN
  rw [pairsN_zero, pairwise_all (fun x y e => by rw [crossP_comm]; exact e) (fun x => by unfold crossP arcX; rw [decide_eq_false_iff_not]; omega)]
  constructor
  · intro H w v h1 h2 h3 v1 v2 v3 hc
    have := H _ ((mem_arcs T).2 ⟨w, h1, h2, h3, rfl⟩) _ ((mem_arcs T).2 ⟨v, v1, v2, v3, rfl⟩)
    rw [(one w v (T.hd_other h1 h2) (T.hd_other v1 v2)).2 hc] at this
    cases this
  · intro H p hp q hq
    obtain ⟨w, h1, h2, h3, rfl⟩ := (mem_arcs T).1 hp
    obtain ⟨v, v1, v2, v3, rfl⟩ := (mem_arcs T).1 hq
    cases hc : crossP (imin (w : Int) ((hd h w : Nat) : Int), imax (w : Int) ((hd h w : Nat) : Int)) (imin (v : Int) ((hd h v : Nat) : Int), imax (v : Int) ((hd h v : Nat) : Int)) with
    | false => rfl
    | true => exact absurd ((one w v (T.hd_other h1 h2) (T.hd_other v1 v2)).1 hc) (H w v h1 h2 h3 v1 v2 v3)

theorem plan_iff {h : List Int} (T : Tree h) : FlatP h ↔ crossN h = 0 ∧ covB h ((top h : Nat) : Int) = false := by
  rw [flat_below T, below_plan T, arcs_pairs T]
  unfold PlanP
  constructor
  · rintro ⟨h1, h2⟩
    refine ⟨h2, ?_⟩
    cases hc : covB h ((top h : Nat) : Int) with
    | false => rfl
    | true =>
      obtain ⟨w, w1, w2, w3, hw⟩ := (covB_iff T).1 hc
      exact absurd (by unfold Betw; omega) (h1 w w1 w2 w3)
  · rintro ⟨h2, hc⟩
    refine ⟨fun w w1 w2 w3 hb => ?_, h2⟩
    rw [(covB_iff T).2 ⟨w, w1, w2, w3, by unfold Betw at hb; omega⟩] at hc
    cases hc

/-- The sum of what belongs to each number below n. -/
def sumR (f : Nat → Nat) : Nat → Nat
  | 0 => 0
  | n + 1 => sumR f n + f n

theorem sumR_congr {f g : Nat → Nat} : ∀ {n : Nat}, (∀ i, i < n → f i = g i) → sumR f n = sumR g n
  | 0, _ => rfl
  | n + 1, h => by rw [sumR, sumR, sumR_congr fun i hi => h i (by omega), h n (by omega)]

section
variable {h : List Int} (T : Tree h)
include T

theorem hd_self {w : Nat} (w1 : 1 ≤ w) (w2 : w ≤ h.length) : hd h w ≠ w := by
  intro e
  have := T.dep_step w1 w2 (by omega)
  rw [e] at this
  omega

end

theorem imaxN (y z : Nat) : imax (y : Int) (z : Int) = ((max y z : Nat) : Int) := by unfold imax; split <;> omega
def okRow (n : Nat) (r : List Int) : Bool := r.length == n + 1 && (List.range r.length).all fun j => decide (0 ≤ r.getD j 0) && decide (r.getD j 0 ≤ 20)
def okB (S : List (List Int)) : Bool := ((List.range S.length).all fun k => okRow S.length (S.getD k [])) && (decide (1 ≤ S.length) && decide (S.length ≤ 5))

/-- What word k + 1 gets for head j. -/
def scN (S : List (List Int)) (k j : Nat) : Nat := ((S.getD k []).getD j 0).toNat
def scoreN (S : List (List Int)) (h : List Int) : Nat := sumR (fun k => scN S k (hd h (k + 1))) h.length
def scoreI (S : List (List Int)) (h : List Int) : Int := if okB S && treeB h && (h.length == S.length) then ((scoreN S h : Nat) : Int) else -1

theorem idx_getD {α : Type} {l : List α} {k : Nat} (h : k < l.length) (d : α) : idx l (k : Int) = some (l.getD k d) := by
  rw [idx_nat, List.getD_eq_getElem?_getD, List.getElem?_eq_getElem h, Option.getD_some]

theorem okB_word {S : List (List Int)} (o : okB S = true) {k j : Nat} (hk : k < S.length) (hj : j ≤ S.length) : (S.getD k []).length = S.length + 1 ∧ (S.getD k []).getD j 0 = ((scN S k j : Nat) : Int) ∧ scN S k j ≤ 20 := by
  unfold okB at o
  simp only [Bool.and_eq_true, List.all_eq_true, List.mem_range] at o
  have r := o.1 k hk
  unfold okRow at r
  simp only [Bool.and_eq_true, List.all_eq_true, List.mem_range, beq_iff_eq, decide_eq_true_eq] at r
  have b := r.2 j (by omega)
  refine ⟨r.1, ?_, ?_⟩
  · unfold scN
    omega
  · unfold scN
    omega

theorem okB_len {S : List (List Int)} (o : okB S = true) : 1 ≤ S.length ∧ S.length ≤ 5 := by
  unfold okB at o
  simp only [Bool.and_eq_true, decide_eq_true_eq] at o
  exact o.2

theorem okRow_loop {S : List (List Int)} {k : Nat} (hk : k < S.length) (hl : (S.getD k []).length ≤ 10000000) :
    spec_ScoresOk_n6 S (k : Int) = some (if ((List.range (S.getD k []).length).all fun j => decide (0 ≤ (S.getD k []).getD j 0) && decide ((S.getD k []).getD j 0 ≤ 20)) = true then Sum.inr () else Sum.inl false) := by
  unfold spec_ScoresOk_n6
  have lp := nloop_while (body := fun (s : Int) => ((spec_ScoresOk_n5 S (k : Int) s).map (Sum.elim (fun (t : Int) => Sum.inl t) (Sum.elim (fun (t : Bool) => Sum.inr (Sum.inl t)) (fun (t : Unit) => Sum.inr (Sum.inr t)))) : Option ((Int) ⊕ (Bool ⊕ Unit))))
    (fun j => (j : Int)) (S.getD k []).length (fun j => decide (0 ≤ (S.getD k []).getD j 0) && decide ((S.getD k []).getD j 0 ≤ 20)) (fun b => if b = true then Sum.inr () else Sum.inl false)
    (by
      intro j hj p
      have w : IntKind.wrap .i64 ((j : Int) + 1) = ((j + 1 : Nat) : Int) := by rw [wrap64 (by omega) (by omega)]; omega
      simp only [spec_ScoresOk_n5]
      rw [idx_getD hk []]
      simp only [Option.bind_some]
      rw [decide_eq_true (show (j : Int) < (((S.getD k []).length : Nat) : Int) by omega), idx_getD hj 0]
      simp only [cond_true, Option.bind_some, l1In_eq]
      rw [p, w]
      rfl)
    (by
      intro j hj p
      simp only [spec_ScoresOk_n5]
      rw [idx_getD hk []]
      simp only [Option.bind_some]
      rw [decide_eq_true (show (j : Int) < (((S.getD k []).length : Nat) : Int) by omega), idx_getD hj 0]
      simp only [cond_true, Option.bind_some, l1In_eq]
      rw [p]
      rfl)
    (by
      simp only [spec_ScoresOk_n5]
      rw [idx_getD hk []]
      simp only [Option.bind_some]
      rw [decide_eq_false (show ¬ (((S.getD k []).length : Nat) : Int) < (((S.getD k []).length : Nat) : Int) by omega)]
      rfl) LL (by simp only [LL]; omega)
  exact lp

theorem specScores_eq (S : List (List Int)) (hl : S.length ≤ 1048576) : spec_ScoresOk S = some (okB S) := by
  have e : spec_ScoresOk S = spec_ScoresOk_n18 S := by unfold spec_ScoresOk; rfl
  rw [e]
  unfold spec_ScoresOk_n18 spec_ScoresOk_n1 spec_ScoresOk_n17 spec_ScoresOk_n15 spec_ScoresOk_n2 spec_ScoresOk_n14 spec_ScoresOk_n13
  have w1 : IntKind.wrap .i64 (((S.length : Nat) : Int) + 1) = ((S.length + 1 : Nat) : Int) := by rw [wrap64 (by omega) (by omega)]; omega
  have step : ∀ k, k < S.length → spec_ScoresOk_n12 S (k : Int) = some (if okRow S.length (S.getD k []) = true then Sum.inl ((k + 1 : Nat) : Int) else Sum.inr (Sum.inl false)) := fun k hk => by
    have w : IntKind.wrap .i64 ((k : Int) + 1) = ((k + 1 : Nat) : Int) := by rw [wrap64 (by omega) (by omega)]; omega
    simp only [spec_ScoresOk_n12, spec_ScoresOk_n3, spec_ScoresOk_n11, spec_ScoresOk_n9, spec_ScoresOk_n8, spec_ScoresOk_n4, spec_ScoresOk_n7, spec_ScoresOk_n10, w, w1]
    rw [decide_eq_true (show (k : Int) < ((S.length : Nat) : Int) by omega), idx_getD hk []]
    simp only [cond_true, Option.bind_some, Sum.elim_inl]
    unfold okRow
    by_cases q : (S.getD k []).length = S.length + 1
    · rw [show ((((S.getD k []).length : Nat) : Int) != ((S.length + 1 : Nat) : Int)) = false by rw [q]; simp, beq_iff_eq.mpr q, Bool.true_and, okRow_loop hk (show (S.getD k []).length ≤ 10000000 by rw [q]; omega)]
      cases (List.range (S.getD k []).length).all fun j => decide (0 ≤ (S.getD k []).getD j 0) && decide ((S.getD k []).getD j 0 ≤ 20) <;> rfl
    · rw [show ((((S.getD k []).length : Nat) : Int) != ((S.length + 1 : Nat) : Int)) = true from bne_iff_ne.mpr (fun z => q (by omega)), beq_eq_false_iff_ne.mpr q, Bool.false_and]
      rfl
  have lp := nloop_while (body := fun (s : Int) => ((spec_ScoresOk_n12 S s).map (Sum.elim (fun (t : Int) => Sum.inl t) (Sum.elim (fun (t : Bool) => Sum.inr (Sum.inl t)) (fun (t : Unit) => Sum.inr (Sum.inr t)))) : Option ((Int) ⊕ (Bool ⊕ Unit))))
    (fun k => (k : Int)) S.length (fun k => okRow S.length (S.getD k [])) (fun b => if b = true then Sum.inr () else Sum.inl false)
    (by
      intro k hk p
      simp only [step k hk]
      rw [p]
      rfl)
    (by
      intro k hk p
      simp only [step k hk]
      rw [p]
      rfl)
    (by
      simp only [spec_ScoresOk_n12, spec_ScoresOk_n3]
      rw [decide_eq_false (show ¬ ((S.length : Nat) : Int) < ((S.length : Nat) : Int) by omega)]
      rfl) LL (by simp only [LL]; omega)
  have lp' := lp
  rw [show ((0 : Nat) : Int) = 0 from rfl] at lp'
  simp only [Option.bind_some]
  rw [lp']
  unfold okB
  cases (List.range S.length).all fun k => okRow S.length (S.getD k []) with
  | false => rfl
  | true =>
    simp only [if_true, Option.map_some, Sum.elim_inr, Option.bind_some, Sum.elim_inl, spec_ScoresOk_n16, l1In_eq, Bool.true_and]
    congr 2
    · rw [Bool.eq_iff_iff]; simp only [decide_eq_true_eq]; omega
    · rw [Bool.eq_iff_iff]; simp only [decide_eq_true_eq]; omega

theorem scoreN_le {S : List (List Int)} (o : okB S = true) {h : List Int} (T : Tree h) (hl : h.length = S.length) : ∀ k, k ≤ h.length → sumR (fun k => scN S k (hd h (k + 1))) k ≤ 20 * k
  | 0, _ => by simp [sumR]
  | k + 1, hk => by
    have ih := scoreN_le o T hl k (by omega)
    have hle := T.hd_le (w := k + 1) (by omega) (by omega)
    have b := (okB_word o (k := k) (j := hd h (k + 1)) (by omega) (by omega)).2.2
    rw [sumR]
    omega

theorem specScoreOf_eq (S : List (List Int)) (h : List Int) (hl : S.length ≤ 1048576) : spec_ScoreOf S h = some (scoreI S h) := by
  have e : spec_ScoreOf S h = spec_ScoreOf_n9 S h := by unfold spec_ScoreOf; rfl
  rw [e]
  unfold spec_ScoreOf_n9 spec_ScoreOf_n1 scoreI
  rw [specScores_eq S hl, specTree_eq h]
  cases o : okB S with
  | false => rfl
  | true =>
    cases t : treeB h with
    | false => rfl
    | true =>
      have T := (tree_iff h).mp t
      by_cases q : h.length = S.length
      · rw [show ((((h.length : Nat) : Int)) != ((S.length : Nat) : Int)) = false by rw [q]; simp, beq_iff_eq.mpr q]
        have l5 := okB_len o
        have lp := nloop_to (body := fun (s : Int × Int) => ((spec_ScoreOf_n3 S h s.1 s.2).map (Sum.elim (fun (t : Int × Int) => Sum.inl (t.1, t.2)) (fun (t : Int) => Sum.inr t)) : Option ((Int × Int) ⊕ (Int))))
          (fun k => (((sumR (fun k => scN S k (hd h (k + 1))) k : Nat) : Int), (k : Int))) h.length ((scoreN S h : Nat) : Int)
          (by
            intro k hk
            have g := T.get (w := k + 1) (by omega) (by omega)
            rw [Nat.add_sub_cancel] at g
            have hle := T.hd_le (w := k + 1) (by omega) (by omega)
            obtain ⟨b1, b2, b3⟩ := okB_word o (k := k) (j := hd h (k + 1)) (by omega) (by omega)
            have sb := scoreN_le o T q k (by omega)
            have w : IntKind.wrap .i64 ((k : Int) + 1) = ((k + 1 : Nat) : Int) := by rw [wrap64 (by omega) (by omega)]; omega
            simp only [spec_ScoreOf_n3]
            rw [decide_eq_true (show (k : Int) < ((h.length : Nat) : Int) by omega), idx_getD (show k < S.length by omega) [], idx_nat h, g, w]
            simp only [cond_true, Option.bind_some]
            rw [idx_getD (show hd h (k + 1) < (S.getD k []).length by omega) 0, b2]
            simp only [Option.bind_some, Option.map_some, Sum.elim_inl]
            rw [sumR, wrap64 (by omega) (by omega)]
            rfl)
          (by
            simp only [spec_ScoreOf_n3]
            rw [decide_eq_false (show ¬ ((h.length : Nat) : Int) < ((h.length : Nat) : Int) by omega)]
            rfl) LL (by simp only [LL]; omega)
        simp only [Option.bind_some, Bool.not_true, cond_false, Sum.elim_inl, Bool.and_self, if_true]
        unfold spec_ScoreOf_n8 spec_ScoreOf_n6 spec_ScoreOf_n2 spec_ScoreOf_n5 spec_ScoreOf_n4 spec_ScoreOf_n7
        have lp' := lp
        rw [show sumR (fun k => scN S k (hd h (k + 1))) 0 = 0 from rfl, show ((0 : Nat) : Int) = 0 from rfl] at lp'
        simp only [Option.bind_some]
        rw [lp']
        rfl
      · rw [show ((((h.length : Nat) : Int)) != ((S.length : Nat) : Int)) = true by simpa using fun z => q (by omega), beq_eq_false_iff_ne.mpr q]
        rfl

/-- What holds of the machine: the next word, the stack from its top, the heads. -/
structure MInv (n i : Nat) (st : List Nat) (h : List Int) : Prop where
  len : h.length = n
  lo : 1 ≤ i
  hi : i ≤ n + 1
  ne : st = [] → i = 1
  dec : st.Pairwise (· > ·)
  rng : ∀ s ∈ st, 1 ≤ s ∧ s < i ∧ hd h s = 0
  num : ∀ x ∈ h, 0 ≤ x ∧ x ≤ (n : Int)
  rank : ∃ (m : Nat) (ρ : Nat → Nat), m + st.length + 1 = i ∧ ∀ w, 1 ≤ w → w < i → w ∉ st → ρ w < m ∧ 1 ≤ hd h w ∧ hd h w < i ∧ (hd h w ∈ st ∨ ρ w < ρ (hd h w))
  near : ∀ j, 1 ≤ j → j < i → ∃ s ∈ st, Und h j s ∧ ∀ t ∈ st, ¬ Betw j s t
  below : ∀ w j, 1 ≤ w → w < i → hd h w ≠ 0 → Betw w (hd h w) j → Und h j (hd h w)

theorem MInv.get {n i : Nat} {st : List Nat} {h : List Int} (M : MInv n i st h) {w : Nat} (w1 : 1 ≤ w) (w2 : w ≤ n) : h[w - 1]? = some ((hd h w : Nat) : Int) := by
  have hl := M.len
  have lt : w - 1 < h.length := by omega
  have := M.num _ (List.getElem_mem lt)
  rw [List.getElem?_eq_getElem lt]
  unfold hd
  rw [List.getD_eq_getElem?_getD, List.getElem?_eq_getElem lt, Option.getD_some]
  congr 1
  omega

theorem room_ok {n : Nat} (h : n ≤ 1099511627776) : room n = some () := by unfold room; rw [if_pos h]

theorem imax_le {a b : Int} : a ≤ imax a b ∧ b ≤ imax a b ∧ (imax a b = a ∨ imax a b = b) := by
  unfold imax
  split <;> omega

/-- The best of the first j heads for the next word. -/
def bestF (n : Nat) (F : List Int → Int) (pre : List Int) : Nat → Int
  | 0 => -1
  | j + 1 => if j = pre.length + 1 then bestF n F pre j else imax (bestF n F pre j) (F (pre ++ [(j : Int)]))
/-- The best of all trees that go on some heads. -/
def bestE (S : List (List Int)) : Nat → List Int → Int
  | 0, pre => scoreI S pre
  | k + 1, pre => bestF S.length (bestE S k) pre (S.length + 1)

theorem bestF_ge {n : Nat} {F : List Int → Int} {pre : List Int} : ∀ {j : Nat} {v : Nat}, v < j → v ≠ pre.length + 1 → F (pre ++ [(v : Int)]) ≤ bestF n F pre j
  | j + 1, v, hv, nv => by
    rw [bestF]
    by_cases e : v = j
    · subst e
      rw [if_neg nv]
      exact imax_le.2.1
    · have := bestF_ge (n := n) (F := F) (j := j) (v := v) (pre := pre) (by omega) nv
      split
      · exact this
      · exact Int.le_trans this imax_le.1

theorem bestF_at {n : Nat} {F : List Int → Int} {pre : List Int} : ∀ j : Nat, bestF n F pre j = -1 ∨ ∃ v, v < j ∧ v ≠ pre.length + 1 ∧ bestF n F pre j = F (pre ++ [(v : Int)])
  | 0 => .inl rfl
  | j + 1 => by
    have ih := bestF_at (n := n) (F := F) (pre := pre) j
    rw [bestF]
    have up : (bestF n F pre j = -1 ∨ ∃ v, v < j ∧ v ≠ pre.length + 1 ∧ bestF n F pre j = F (pre ++ [(v : Int)])) → (bestF n F pre j = -1 ∨ ∃ v, v < j + 1 ∧ v ≠ pre.length + 1 ∧ bestF n F pre j = F (pre ++ [(v : Int)])) := fun z => z.imp id fun ⟨v, a, b, c⟩ => ⟨v, by omega, b, c⟩
    by_cases e : j = pre.length + 1
    · rw [if_pos e]
      exact up ih
    · rw [if_neg e]
      rcases (imax_le (a := bestF n F pre j) (b := F (pre ++ [(j : Int)]))).2.2 with q | q
      · rw [q]
        exact up ih
      · rw [q]
        exact .inr ⟨j, by omega, e, rfl⟩

theorem bestE_at (S : List (List Int)) : ∀ (k : Nat) (pre : List Int), bestE S k pre = -1 ∨ ∃ h, bestE S k pre = scoreI S h
  | 0, pre => .inr ⟨pre, rfl⟩
  | k + 1, pre => by
    rw [bestE]
    rcases bestF_at (n := S.length) (F := bestE S k) (pre := pre) (S.length + 1) with e | ⟨v, _, _, e⟩
    · exact .inl e
    · rw [e]
      exact bestE_at S k _

theorem bestE_ge {S : List (List Int)} {h : List Int} (T : Tree h) (hl : h.length = S.length) : ∀ (k j : Nat), j + k = h.length → scoreI S h ≤ bestE S k (h.take j)
  | 0, j, e => by
    rw [bestE, List.take_of_length_le (by omega)]
    exact Int.le_refl _
  | k + 1, j, e => by
    have ih := bestE_ge T hl k (j + 1) (by omega)
    have hle := T.hd_le (w := j + 1) (by omega) (by omega)
    have ne := hd_self T (w := j + 1) (by omega) (by omega)
    have g := T.get (w := j + 1) (by omega) (by omega)
    rw [Nat.add_sub_cancel] at g
    have lt : (h.take j).length = j := by rw [List.length_take]; omega
    have tk : h.take (j + 1) = h.take j ++ [((hd h (j + 1) : Nat) : Int)] := by rw [List.take_add_one, g]; rfl
    rw [bestE]
    rw [tk] at ih
    exact Int.le_trans ih (bestF_ge (by omega) (by rw [lt]; exact ne))

def bestI (S : List (List Int)) : Int := if okB S then bestE S S.length [] else -1

theorem best_up {S : List (List Int)} (o : okB S = true) {h : List Int} (T : Tree h) (hl : h.length = S.length) : ((scoreN S h : Nat) : Int) ≤ bestI S := by
  have := bestE_ge T hl h.length 0 (by omega)
  rw [List.take_zero, hl] at this
  unfold bestI
  rw [if_pos o]
  unfold scoreI at this
  rw [o, (tree_iff h).mpr T, beq_iff_eq.mpr hl] at this
  exact this

theorem chain_trees : ((List.range 6).all fun n => n == 0 || treeB ((List.range n).map fun k => ((k : Nat) : Int))) = true := by decide +kernel

theorem best_is {S : List (List Int)} (o : okB S = true) : ∃ h, Tree h ∧ h.length = S.length ∧ bestI S = ((scoreN S h : Nat) : Int) := by
  have l5 := okB_len o
  have c := all_lt chain_trees (i := S.length) (by omega)
  rw [Bool.or_eq_true, beq_iff_eq] at c
  have ct := c.resolve_left (by omega)
  have up := best_up o ((tree_iff _).mp ct) (by simp)
  rcases bestE_at S S.length [] with e | ⟨h, e⟩
  · unfold bestI at up
    rw [if_pos o] at up
    omega
  · have e2 : bestI S = scoreI S h := by unfold bestI; rw [if_pos o]; exact e
    rw [e2] at up ⊢
    unfold scoreI at up ⊢
    by_cases q : (okB S && treeB h && (h.length == S.length)) = true
    · rw [if_pos q]
      simp only [Bool.and_eq_true, beq_iff_eq] at q
      exact ⟨h, (tree_iff h).mp q.1.2, q.2, rfl⟩
    · rw [if_neg q] at up
      omega

/-- The least of a row. -/
theorem min_ok {r : List Int} (h0 : 0 < r.length) (hl : r.length ≤ 1048576) : ∃ m, slices_Min_int_int r = some m ∧ m ∈ r ∧ ∀ x ∈ r, m ≤ x := by
  have e : slices_Min_int_int r = slices_Min_int_int_n9 r := by unfold slices_Min_int_int; rfl
  rw [e]
  unfold slices_Min_int_int_n9 slices_Min_int_int_n1 slices_Min_int_int_n8 slices_Min_int_int_n6 slices_Min_int_int_n2 slices_Min_int_int_n5 slices_Min_int_int_n4 slices_Min_int_int_n7
  rw [decide_eq_false (show ¬ ((r.length : Nat) : Int) < 1 by omega), show (0 : Int) = ((0 : Nat) : Int) from rfl, idx_lt h0]
  simp only [cond_false, Option.bind_some]
  have ex := nloop_ex (body := fun (s : Int × Int) => ((slices_Min_int_int_n3 r s.1 s.2).map (Sum.elim (fun (t : Int × Int) => Sum.inl (t.1, t.2)) (fun (t : Int) => Sum.inr t)) : Option ((Int × Int) ⊕ (Int))))
    (I := fun t => ∃ k : Nat, t.2 = (k : Int) ∧ 1 ≤ k ∧ k ≤ r.length ∧ t.1 ∈ r ∧ ∀ j (hj : j < r.length), j < k → t.1 ≤ r[j])
    (μ := fun t => r.length - t.2.toNat) (Q := fun m => m ∈ r ∧ ∀ x ∈ r, m ≤ x)
    (by
      rintro ⟨m, kk⟩ ⟨k, ek, h1, hk, hm, up⟩
      simp only at ek hm up
      subst ek
      simp only [slices_Min_int_int_n3]
      by_cases lt : k < r.length
      · left
        have w : IntKind.wrap .i64 ((k : Int) + 1) = ((k + 1 : Nat) : Int) := by rw [wrap64 (by omega) (by omega)]; omega
        rw [decide_eq_true (show (k : Int) < ((r.length : Nat) : Int) by omega), idx_lt lt, w]
        have im : imin m r[k] ≤ m ∧ imin m r[k] ≤ r[k] ∧ (imin m r[k] = m ∨ imin m r[k] = r[k]) := by
          unfold imin
          split <;> omega
        refine ⟨(imin m r[k], ((k + 1 : Nat) : Int)), rfl, ⟨k + 1, rfl, by omega, lt, ?_, fun j hj hjk => ?_⟩, by simp only [Int.toNat_natCast]; omega⟩
        · rcases im.2.2 with q | q
          · simp only [q]; exact hm
          · simp only [q]; exact List.getElem_mem lt
        · by_cases q : j = k
          · subst q; exact im.2.1
          · exact Int.le_trans im.1 (up j hj (by omega))
      · right
        have : k = r.length := by omega
        subst this
        rw [decide_eq_false (show ¬ ((r.length : Nat) : Int) < ((r.length : Nat) : Int) by omega)]
        refine ⟨m, rfl, hm, fun x hx => ?_⟩
        obtain ⟨j, hj, e⟩ := List.mem_iff_getElem.mp hx
        exact e ▸ up j hj hj) LL (r[0], 1) ⟨1, rfl, by omega, by omega, List.getElem_mem h0, fun j hj hj1 => by
          have : j = 0 := by omega
          subst this
          exact Int.le_refl _⟩ (by simp only [LL]; omega)
  obtain ⟨m, hm, q⟩ := ex
  rw [hm]
  exact ⟨m, rfl, q⟩

/-- The greatest of a row. -/
theorem max_ok {r : List Int} (h0 : 0 < r.length) (hl : r.length ≤ 1048576) : ∃ m, slices_Max_int_int r = some m ∧ m ∈ r ∧ ∀ x ∈ r, x ≤ m := by
  have e : slices_Max_int_int r = slices_Max_int_int_n9 r := by unfold slices_Max_int_int; rfl
  rw [e]
  unfold slices_Max_int_int_n9 slices_Max_int_int_n1 slices_Max_int_int_n8 slices_Max_int_int_n6 slices_Max_int_int_n2 slices_Max_int_int_n5 slices_Max_int_int_n4 slices_Max_int_int_n7
  rw [decide_eq_false (show ¬ ((r.length : Nat) : Int) < 1 by omega), show (0 : Int) = ((0 : Nat) : Int) from rfl, idx_lt h0]
  simp only [cond_false, Option.bind_some]
  have ex := nloop_ex (body := fun (s : Int × Int) => ((slices_Max_int_int_n3 r s.1 s.2).map (Sum.elim (fun (t : Int × Int) => Sum.inl (t.1, t.2)) (fun (t : Int) => Sum.inr t)) : Option ((Int × Int) ⊕ (Int))))
    (I := fun t => ∃ k : Nat, t.2 = (k : Int) ∧ 1 ≤ k ∧ k ≤ r.length ∧ t.1 ∈ r ∧ ∀ j (hj : j < r.length), j < k → r[j] ≤ t.1)
    (μ := fun t => r.length - t.2.toNat) (Q := fun m => m ∈ r ∧ ∀ x ∈ r, x ≤ m)
    (by
      rintro ⟨m, kk⟩ ⟨k, ek, h1, hk, hm, up⟩
      simp only at ek hm up
      subst ek
      simp only [slices_Max_int_int_n3]
      by_cases lt : k < r.length
      · left
        have w : IntKind.wrap .i64 ((k : Int) + 1) = ((k + 1 : Nat) : Int) := by rw [wrap64 (by omega) (by omega)]; omega
        rw [decide_eq_true (show (k : Int) < ((r.length : Nat) : Int) by omega), idx_lt lt, w]
        have im := imax_le (a := m) (b := r[k])
        refine ⟨(imax m r[k], ((k + 1 : Nat) : Int)), rfl, ⟨k + 1, rfl, by omega, lt, ?_, fun j hj hjk => ?_⟩, by simp only [Int.toNat_natCast]; omega⟩
        · rcases im.2.2 with q | q
          · simp only [q]; exact hm
          · simp only [q]; exact List.getElem_mem lt
        · by_cases q : j = k
          · subst q; exact im.2.1
          · exact Int.le_trans (up j hj (by omega)) im.1
      · right
        have : k = r.length := by omega
        subst this
        rw [decide_eq_false (show ¬ ((r.length : Nat) : Int) < ((r.length : Nat) : Int) by omega)]
        refine ⟨m, rfl, hm, fun x hx => ?_⟩
        obtain ⟨j, hj, e⟩ := List.mem_iff_getElem.mp hx
        exact e ▸ up j hj hj) LL (r[0], 1) ⟨1, rfl, by omega, by omega, List.getElem_mem h0, fun j hj hj1 => by
          have : j = 0 := by omega
          subst this
          exact Int.le_refl _⟩ (by simp only [LL]; omega)
  obtain ⟨m, hm, q⟩ := ex
  rw [hm]
  exact ⟨m, rfl, q⟩

theorem okRow_iff {n : Nat} {r : List Int} (h : r.length = n + 1) : okRow n r = true ↔ ∀ x ∈ r, 0 ≤ x ∧ x ≤ 20 := by
  unfold okRow
  rw [Bool.and_eq_true, beq_iff_eq, List.all_eq_true]
  constructor
  · rintro ⟨_, a⟩ x hx
    obtain ⟨j, hj, e⟩ := List.mem_iff_getElem.mp hx
    have := a j (List.mem_range.mpr hj)
    rw [List.getD_eq_getElem?_getD, List.getElem?_eq_getElem hj, Option.getD_some, e, Bool.and_eq_true, decide_eq_true_eq, decide_eq_true_eq] at this
    exact this
  · intro a
    refine ⟨h, fun j hj => ?_⟩
    have hj := List.mem_range.mp hj
    have := a r[j] (List.getElem_mem hj)
    rw [List.getD_eq_getElem?_getD, List.getElem?_eq_getElem hj, Option.getD_some, Bool.and_eq_true, decide_eq_true_eq, decide_eq_true_eq]
    exact this

theorem implRow_eq {n : Nat} (hn : n ≤ 5) (r : List Int) (hl : r.length ≤ 1048576) : impl_scoreRowOk r (n : Int) = some (okRow n r) := by
  have e : impl_scoreRowOk r (n : Int) = impl_scoreRowOk_n1 r (n : Int) := by unfold impl_scoreRowOk; rfl
  rw [e]
  unfold impl_scoreRowOk_n1
  have w : IntKind.wrap .i64 ((n : Int) + 1) = ((n + 1 : Nat) : Int) := by rw [wrap64 (by omega) (by omega)]; omega
  rw [w]
  by_cases q : r.length = n + 1
  · rw [show (((r.length : Nat) : Int) == ((n + 1 : Nat) : Int)) = true by rw [q]; simp]
    obtain ⟨m, hm, m1, m2⟩ := min_ok (r := r) (by omega) hl
    obtain ⟨M, hM, M1, M2⟩ := max_ok (r := r) (by omega) hl
    simp only [cond_true, hm, Option.bind_some, hM]
    by_cases a : 0 ≤ m
    · rw [decide_eq_true (show m ≥ 0 from a)]
      simp only [cond_true]
      congr 1
      by_cases b : M ≤ 20
      · rw [decide_eq_true b, eq_comm, okRow_iff q]
        intro x hx
        have := m2 x hx
        have := M2 x hx
        omega
      · rw [decide_eq_false b, eq_comm, Bool.eq_false_iff, ne_eq, okRow_iff q]
        intro h
        exact b (h M M1).2
    · rw [decide_eq_false (show ¬ m ≥ 0 from a)]
      simp only [cond_false]
      congr 1
      rw [eq_comm, Bool.eq_false_iff, ne_eq, okRow_iff q]
      intro h
      exact a (h m m1).1
  · rw [show (((r.length : Nat) : Int) == ((n + 1 : Nat) : Int)) = false by rw [beq_eq_false_iff_ne]; omega]
    unfold okRow
    rw [beq_eq_false_iff_ne.mpr q]
    rfl

theorem implScores_eq (S : List (List Int)) (sz : szT S ≤ 1048576) : impl_ScoresOk S = some (okB S) := by
  have e : impl_ScoresOk S = impl_ScoresOk_n9 S := by unfold impl_ScoresOk; rfl
  rw [e]
  unfold impl_ScoresOk_n9 impl_ScoresOk_n1 impl_ScoresOk_n8 impl_ScoresOk_n6 impl_ScoresOk_n2 impl_ScoresOk_n5 impl_ScoresOk_n4 impl_ScoresOk_n7 okB
  by_cases l1 : S.length < 1
  · rw [decide_eq_true (show ((S.length : Nat) : Int) < 1 by omega), decide_eq_false (show ¬ 1 ≤ S.length by omega)]
    simp
  · by_cases l5 : S.length ≤ 5
    · rw [decide_eq_false (show ¬ ((S.length : Nat) : Int) < 1 by omega), decide_eq_false (show ¬ ((S.length : Nat) : Int) > 5 by omega), decide_eq_true (show 1 ≤ S.length by omega), decide_eq_true l5]
      have lp := nloop_while (body := fun (s : Int) => ((impl_ScoresOk_n3 S ((S.length : Nat) : Int) s).map (Sum.elim (fun (t : Int) => Sum.inl t) (Sum.elim (fun (t : Bool) => Sum.inr (Sum.inl t)) (fun (t : Unit) => Sum.inr (Sum.inr t)))) : Option ((Int) ⊕ (Bool ⊕ Unit))))
        (fun j => (j : Int)) S.length (fun k => okRow S.length (S.getD k [])) (fun b => if b = true then Sum.inr () else Sum.inl false)
        (by
          intro j hj p
          have w : IntKind.wrap .i64 ((j : Int) + 1) = ((j + 1 : Nat) : Int) := by rw [wrap64 (by omega) (by omega)]; omega
          have rl := row_le hj
          simp only [impl_ScoresOk_n3]
          rw [decide_eq_true (show (j : Int) < ((S.length : Nat) : Int) by omega), idx_getD hj []]
          simp only [cond_true, Option.bind_some]
          rw [implRow_eq l5 _ (by rw [List.getD_eq_getElem?_getD, List.getElem?_eq_getElem hj, Option.getD_some]; unfold szT at sz; omega), p, w]
          rfl)
        (by
          intro j hj p
          have rl := row_le hj
          simp only [impl_ScoresOk_n3]
          rw [decide_eq_true (show (j : Int) < ((S.length : Nat) : Int) by omega), idx_getD hj []]
          simp only [cond_true, Option.bind_some]
          rw [implRow_eq l5 _ (by rw [List.getD_eq_getElem?_getD, List.getElem?_eq_getElem hj, Option.getD_some]; unfold szT at sz; omega), p]
          rfl)
        (by
          simp only [impl_ScoresOk_n3]
          rw [decide_eq_false (show ¬ ((S.length : Nat) : Int) < ((S.length : Nat) : Int) by omega)]
          rfl) LL (by simp only [LL]; omega)
      have lp' := lp
      rw [show ((0 : Nat) : Int) = 0 from rfl] at lp'
      simp only [cond_false, Option.bind_some, Sum.elim_inl]
      rw [lp']
      cases c : (List.range S.length).all fun k => okRow S.length (S.getD k []) <;> rfl
    · rw [decide_eq_false (show ¬ ((S.length : Nat) : Int) < 1 by omega), decide_eq_true (show ((S.length : Nat) : Int) > 5 by omega), decide_eq_false l5]
      simp

theorem implScoreOf_eq (S : List (List Int)) (h : List Int) (sz : szT S ≤ 1048576) (hl : h.length ≤ 1048576) : impl_ScoreOf S h = some (scoreI S h) := by
  have e : impl_ScoreOf S h = impl_ScoreOf_n9 S h := by unfold impl_ScoreOf; rfl
  rw [e]
  unfold impl_ScoreOf_n9 impl_ScoreOf_n1 scoreI
  rw [implScores_eq S sz, implTree_eq h]
  cases o : okB S with
  | false => rfl
  | true =>
    cases t : treeB h with
    | false => rfl
    | true =>
      have T := (tree_iff h).mp t
      by_cases q : h.length = S.length
      · rw [show ((((h.length : Nat) : Int)) != ((S.length : Nat) : Int)) = false by rw [q]; simp, beq_iff_eq.mpr q]
        have l5 := okB_len o
        have lp := nloop_to (body := fun (s : Int × Int) => ((impl_ScoreOf_n3 S s.1 h ((h.length : Nat) : Int) s.2).map (Sum.elim (fun (t : Int × Int) => Sum.inl (t.1, t.2)) (fun (t : Int) => Sum.inr t)) : Option ((Int × Int) ⊕ (Int))))
          (fun k => (((sumR (fun k => scN S k (hd h (k + 1))) k : Nat) : Int), (k : Int))) h.length ((scoreN S h : Nat) : Int)
          (by
            intro k hk
            have g := T.get (w := k + 1) (by omega) (by omega)
            rw [Nat.add_sub_cancel] at g
            have hle := T.hd_le (w := k + 1) (by omega) (by omega)
            obtain ⟨b1, b2, b3⟩ := okB_word o (k := k) (j := hd h (k + 1)) (by omega) (by omega)
            have sb := scoreN_le o T q k (by omega)
            have w : IntKind.wrap .i64 ((k : Int) + 1) = ((k + 1 : Nat) : Int) := by rw [wrap64 (by omega) (by omega)]; omega
            simp only [impl_ScoreOf_n3]
            rw [decide_eq_true (show (k : Int) < ((h.length : Nat) : Int) by omega), idx_getD (show k < S.length by omega) [], idx_nat h, g, w]
            simp only [cond_true, Option.bind_some]
            rw [idx_getD (show hd h (k + 1) < (S.getD k []).length by omega) 0, b2]
            simp only [Option.bind_some, Option.map_some, Sum.elim_inl]
            rw [sumR, wrap64 (by omega) (by omega)]
            rfl)
          (by
            simp only [impl_ScoreOf_n3]
            rw [decide_eq_false (show ¬ ((h.length : Nat) : Int) < ((h.length : Nat) : Int) by omega)]
            rfl) LL (by simp only [LL]; omega)
        simp only [Option.bind_some, Bool.not_true, cond_false, Sum.elim_inl, Bool.and_self, if_true]
        unfold impl_ScoreOf_n8 impl_ScoreOf_n6 impl_ScoreOf_n2 impl_ScoreOf_n5 impl_ScoreOf_n4 impl_ScoreOf_n7
        have lp' := lp
        rw [show sumR (fun k => scN S k (hd h (k + 1))) 0 = 0 from rfl, show ((0 : Nat) : Int) = 0 from rfl] at lp'
        simp only [Option.bind_some]
        rw [lp']
        rfl
      · rw [show ((((h.length : Nat) : Int)) != ((S.length : Nat) : Int)) = true by simpa using fun z => q (by omega), beq_eq_false_iff_ne.mpr q]
        rfl

/-- What a word with its head gets. -/
def gotN (S : List (List Int)) (h : List Int) (j : Nat) : Nat := scN S j (hd h (j + 1))

theorem scoreN_got (S : List (List Int)) (h : List Int) : scoreN S h = sumR (gotN S h) h.length := rfl

/-- What the words from a place on get at most. -/
def BndAt (S : List (List Int)) (B : List Int) (j : Nat) : Prop := ∃ b : Nat, B[j]? = some (b : Int) ∧ b ≤ 20 * (S.length - j) ∧ ∀ h, Tree h → h.length = S.length → scoreN S h ≤ sumR (gotN S h) j + b

structure Bnd (S : List (List Int)) (B : List Int) : Prop where
  len : B.length = S.length + 1
  at_ : ∀ j, j ≤ S.length → BndAt S B j

section
variable {S : List (List Int)} (o : okB S = true) (sz : szT S ≤ 1048576)
include o

theorem max_word {k : Nat} (hk : k < S.length) : ∃ M : Nat, slices_Max_int_int (S.getD k []) = some (M : Int) ∧ M ≤ 20 ∧ ∀ j, j ≤ S.length → scN S k j ≤ M := by
  have l5 := okB_len o
  have rl := (okB_word o hk (Nat.zero_le _)).1
  obtain ⟨m, hm, mem, up⟩ := max_ok (r := S.getD k []) (by omega) (by omega)
  obtain ⟨j, hj, e⟩ := List.mem_iff_getElem.mp mem
  obtain ⟨_, b2, b3⟩ := okB_word o hk (j := j) (by omega)
  rw [List.getD_eq_getElem?_getD, List.getElem?_eq_getElem hj, Option.getD_some, e] at b2
  refine ⟨scN S k j, by rw [hm, b2], b3, fun i hi => ?_⟩
  obtain ⟨_, c2, c3⟩ := okB_word o hk (j := i) hi
  have hil : i < (S.getD k []).length := by omega
  have := up _ (List.getElem_mem hil)
  rw [List.getD_eq_getElem?_getD, List.getElem?_eq_getElem hil, Option.getD_some] at c2
  rw [c2, b2] at this
  omega

theorem bounds_eq : ∃ B, impl_scoreBounds S = some B ∧ Bnd S B := by
  have l5 := okB_len o
  have e : impl_scoreBounds S = impl_scoreBounds_n9 S := by unfold impl_scoreBounds; rfl
  rw [e]
  unfold impl_scoreBounds_n9 impl_scoreBounds_n1 impl_scoreBounds_n8 impl_scoreBounds_n6 impl_scoreBounds_n2 impl_scoreBounds_n5 impl_scoreBounds_n4 impl_scoreBounds_n7
  have w : IntKind.wrap .i64 (((S.length : Nat) : Int) + 1) = ((S.length + 1 : Nat) : Int) := by rw [wrap64 (by omega) (by omega)]; omega
  have w2 : IntKind.wrap .i64 (((S.length : Nat) : Int) - 1) = ((S.length : Nat) : Int) - 1 := wrap64 (by omega) (by omega)
  rw [w, w2, mk_nat (by omega)]
  simp only [Option.bind_some]
  have ex := nloop_ex (body := fun (s : Int × (List Int)) => ((impl_scoreBounds_n3 S s.1 s.2).map (Sum.elim (fun (t : Int × (List Int)) => Sum.inl (t.1, t.2)) (fun (t : (List Int)) => Sum.inr t)) : Option ((Int × (List Int)) ⊕ (((List Int))))))
    (I := fun t => ∃ k : Nat, t.1 = (k : Int) - 1 ∧ k ≤ S.length ∧ t.2.length = S.length + 1 ∧ ∀ j, k ≤ j → j ≤ S.length → BndAt S t.2 j)
    (μ := fun t => (t.1 + 1).toNat) (Q := fun B => Bnd S B)
    (by
      rintro ⟨a, B⟩ ⟨k, ek, hk, hl, hb⟩
      simp only at ek hl hb
      subst ek
      simp only [impl_scoreBounds_n3]
      by_cases z : k = 0
      · right
        subst z
        rw [decide_eq_false (by omega)]
        exact ⟨B, rfl, hl, fun j hj => hb j (Nat.zero_le _) hj⟩
      · left
        obtain ⟨k, rfl⟩ : ∃ k', k = k' + 1 := ⟨k - 1, by omega⟩
        have e1 : ((k + 1 : Nat) : Int) - 1 = (k : Int) := by omega
        have w3 : IntKind.wrap .i64 ((k : Int) + 1) = ((k + 1 : Nat) : Int) := by rw [wrap64 (by omega) (by omega)]; omega
        have w4 : IntKind.wrap .i64 ((k : Int) - 1) = (k : Int) - 1 := wrap64 (by omega) (by omega)
        obtain ⟨b, hb1, hb2, hb3⟩ := hb (k + 1) (Nat.le_refl _) hk
        obtain ⟨M, hM, M1, M2⟩ := max_word o (k := k) (by omega)
        rw [e1, w3, w4, decide_eq_true (show (k : Int) ≥ 0 by omega), idx_getD (show k < S.length by omega) [], inb_nat (by omega), inb_nat (by omega)]
        simp only [cond_true, Option.bind_some, hb1, hM]
        have w5 : IntKind.wrap .i64 ((M : Int) + (b : Int)) = ((M + b : Nat) : Int) := by rw [wrap64 (by omega) (by omega)]; omega
        rw [w5]
        refine ⟨((k : Int) - 1, B.set k ((M + b : Nat) : Int)), rfl, ⟨k, rfl, by omega, by simp [hl], fun j h1 h2 => ?_⟩, by simp only; omega⟩
        by_cases q : j = k
        · subst q
          refine ⟨M + b, by simp only; rw [List.getElem?_set_self (by omega)], by omega, fun h T hh => ?_⟩
          have h3 := hb3 h T hh
          have hle := T.hd_le (w := j + 1) (by omega) (by omega)
          have := M2 (hd h (j + 1)) (by omega)
          rw [sumR] at h3
          have e2 : gotN S h j = scN S j (hd h (j + 1)) := rfl
          omega
        · obtain ⟨b', c1, c2, c3⟩ := hb j (by omega) h2
          exact ⟨b', by simp only; rw [List.getElem?_set_ne (by omega)]; exact c1, c2, c3⟩) LL (((S.length : Nat) : Int) - 1, List.replicate (S.length + 1) 0) ⟨S.length, rfl, Nat.le_refl _, by simp, fun j h1 h2 => by
          have : j = S.length := by omega
          subst this
          refine ⟨0, ?_, by omega, fun h T hh => ?_⟩
          · simp only
            rw [List.getElem?_replicate, if_pos (by omega)]
            rfl
          · rw [scoreN_got, hh]
            omega⟩ (by simp only [LL]; omega)
  obtain ⟨B, hB, P⟩ := ex
  rw [hB]
  exact ⟨B, rfl, P⟩

theorem got_le {h : List Int} : ∀ k, k ≤ S.length → (∀ j, j < k → hd h (j + 1) ≤ S.length) → sumR (gotN S h) k ≤ 20 * k
  | 0, _, _ => by simp [sumR]
  | k + 1, hk, hj => by
    have ih := got_le k (by omega) (fun j q => hj j (by omega))
    have b := (okB_word o (k := k) (j := hd h (k + 1)) (by omega) (hj k (by omega))).2.2
    rw [sumR]
    have e2 : gotN S h k = scN S k (hd h (k + 1)) := rfl
    omega

/-- What the search comes to. -/
def Found (S : List (List Int)) (k : Nat) (b0 : Int) (h0 : List Int) (b : Int) (h : List Int) : Prop :=
  h.length = S.length ∧ (∀ j, j < k → h[j]? = h0[j]?) ∧ b0 ≤ b ∧ (b = b0 ∨ ∃ t, Tree t ∧ t.length = S.length ∧ b = ((scoreN S t : Nat) : Int))

omit o in
theorem hd_congr {a b : List Int} {j : Nat} (h : a[j]? = b[j]?) : hd a (j + 1) = hd b (j + 1) := by
  unfold hd
  rw [Nat.add_sub_cancel, List.getD_eq_getElem?_getD, List.getD_eq_getElem?_getD, h]

omit o in
theorem got_congr {a b : List Int} {k : Nat} (h : ∀ j, j < k → a[j]? = b[j]?) : sumR (gotN S a) k = sumR (gotN S b) k :=
  sumR_congr fun j hj => by unfold gotN; rw [hd_congr (h j hj)]

theorem give_ok {B : List Int} (hB : Bnd S B) : ∀ (f k : Nat) (best : Int) (heads : List Int), k ≤ S.length → S.length - k < f → heads.length = S.length → (∀ j, j < k → hd heads (j + 1) ≤ S.length) → -1 ≤ best → best ≤ 1000 →
    ∃ b h, impl_headSearch_giveFrom_knot f (k : Int) ((sumR (gotN S heads) k : Nat) : Int) S best heads B = some (b, h) ∧ Found S k best heads b h ∧ (∀ t, Tree t → t.length = S.length → (∀ j, j < k → t[j]? = heads[j]?) → ((scoreN S t : Nat) : Int) ≤ b)
  | 0, k, best, heads, hk, hf, hl, hp, b1, b2 => by omega
  | f + 1, k, best, heads, hk, hf, hl, hp, b1, b2 => by
    have l5 := okB_len o
    have sb := got_le o k hk hp
    obtain ⟨bd, hb1, hb2, hb3⟩ := hB.at_ k hk
    have bl := hB.len
    show ∃ b h, impl_headSearch_giveFrom_one (impl_headSearch_giveFrom_knot f) (k : Int) ((sumR (gotN S heads) k : Nat) : Int) S best heads B = some (b, h) ∧ _
    unfold impl_headSearch_giveFrom_one impl_headSearch_giveFrom_n5 impl_headSearch_giveFrom_n1
    rw [inb_nat (show k < B.length by omega)]
    simp only [Option.bind_some, hb1]
    rw [wrap64 (x := ((sumR (gotN S heads) k : Nat) : Int) + (bd : Int)) (by omega) (by omega)]
    by_cases pr : ((sumR (gotN S heads) k : Nat) : Int) + (bd : Int) ≤ best
    · rw [decide_eq_true pr]
      refine ⟨best, heads, rfl, ⟨hl, fun j _ => rfl, Int.le_refl _, .inl rfl⟩, fun t T tl ta => ?_⟩
      have h3 := hb3 t T tl
      rw [got_congr ta] at h3
      omega
    · rw [decide_eq_false pr]
      simp only [cond_false]
      by_cases en : k = S.length
      · rw [show ((k : Int) == ((heads.length : Nat) : Int)) = true by rw [hl, en]; simp]
        simp only [cond_true]
        rw [implTree_eq heads]
        have bz : bd = 0 := by omega
        cases t : treeB heads with
        | true =>
          have T := (tree_iff heads).mp t
          refine ⟨((sumR (gotN S heads) k : Nat) : Int), heads, rfl, ⟨hl, fun j _ => rfl, by omega, .inr ⟨heads, T, hl, by rw [scoreN_got, hl, en]⟩⟩, fun t T tl ta => ?_⟩
          have : t = heads := List.ext_getElem? fun j => by
            by_cases q : j < k
            · exact ta j q
            · rw [List.getElem?_eq_none (by omega), List.getElem?_eq_none (by omega)]
          rw [this, scoreN_got, hl, en]
          exact Int.le_refl _
        | false =>
          refine ⟨best, heads, rfl, ⟨hl, fun j _ => rfl, Int.le_refl _, .inl rfl⟩, fun t' T tl ta => ?_⟩
          have : t' = heads := List.ext_getElem? fun j => by
            by_cases q : j < k
            · exact ta j q
            · rw [List.getElem?_eq_none (by omega), List.getElem?_eq_none (by omega)]
          rw [this] at T
          rw [(tree_iff heads).mpr T] at t
          cases t
      · have hk' : k < S.length := by omega
        rw [show ((k : Int) == ((heads.length : Nat) : Int)) = false by rw [beq_eq_false_iff_ne]; omega]
        have rl := (okB_word o hk' (Nat.zero_le _)).1
        simp only [cond_false]
        rw [idx_getD hk' []]
        simp only [Option.bind_some, Sum.elim_inl]
        unfold impl_headSearch_giveFrom_n4 impl_headSearch_giveFrom_n3
        have ex := nloop_ex (body := fun (s : Int × Int × (List Int)) => ((impl_headSearch_giveFrom_n2 (impl_headSearch_giveFrom_knot f) (k : Int) ((sumR (gotN S heads) k : Nat) : Int) (S.getD k []) (((S.getD k []).length : Nat) : Int) s.1 S s.2.1 s.2.2 B).map (Sum.elim (fun (t : Int × Int × (List Int)) => Sum.inl (t.1, t.2.1, t.2.2)) (fun (t : Int × (List Int)) => Sum.inr t)) : Option ((Int × Int × (List Int)) ⊕ ((Int × (List Int))))))
          (I := fun s => ∃ v : Nat, s.1 = (v : Int) ∧ v ≤ S.length + 1 ∧ Found S k best heads s.2.1 s.2.2 ∧ s.2.1 ≤ 1000 ∧ ∀ t, Tree t → t.length = S.length → (∀ j, j < k → t[j]? = heads[j]?) → hd t (k + 1) < v → ((scoreN S t : Nat) : Int) ≤ s.2.1)
          (μ := fun s => S.length + 1 - s.1.toNat)
          (Q := fun r => Found S k best heads r.1 r.2 ∧ ∀ t, Tree t → t.length = S.length → (∀ j, j < k → t[j]? = heads[j]?) → ((scoreN S t : Nat) : Int) ≤ r.1)
          (by
            rintro ⟨vv, b, h⟩ ⟨v, ev, hv, F, c2, up⟩
            simp only at ev F c2 up
            subst ev
            simp only [impl_headSearch_giveFrom_n2, rl]
            by_cases lt : v < S.length + 1
            · left
              obtain ⟨f1, f2, f3, f4⟩ := F
              obtain ⟨_, s2, s3⟩ := okB_word o hk' (j := v) (by omega)
              have w1 : IntKind.wrap .i64 ((v : Int) + 1) = ((v + 1 : Nat) : Int) := by rw [wrap64 (by omega) (by omega)]; omega
              have w2 : IntKind.wrap .i64 ((k : Int) + 1) = ((k + 1 : Nat) : Int) := by rw [wrap64 (by omega) (by omega)]; omega
              have hdk : hd (h.set k (v : Int)) (k + 1) = v := by
                unfold hd
                rw [Nat.add_sub_cancel, List.getD_eq_getElem?_getD, List.getElem?_set_self (by omega)]
                rfl
              have ag : ∀ j, j < k → (h.set k (v : Int))[j]? = heads[j]? := fun j hj => by rw [List.getElem?_set_ne (by omega)]; exact f2 j hj
              have es : sumR (gotN S (h.set k (v : Int))) (k + 1) = sumR (gotN S heads) k + scN S k v := by
                rw [sumR, got_congr ag]
                unfold gotN
                rw [hdk]
              have w3 : IntKind.wrap .i64 (((sumR (gotN S heads) k : Nat) : Int) + ((scN S k v : Nat) : Int)) = ((sumR (gotN S (h.set k (v : Int))) (k + 1) : Nat) : Int) := by
                rw [es, wrap64 (by omega) (by omega)]; omega
              rw [decide_eq_true (show (v : Int) < ((S.length + 1 : Nat) : Int) by omega), idx_getD (show v < (S.getD k []).length by omega) 0, s2, w1, w2]
              simp only [cond_true, Option.bind_some]
              rw [w3, inb_nat (by omega)]
              simp only [Option.bind_some]
              obtain ⟨b', h', e', G, up'⟩ := give_ok hB f (k + 1) b (h.set k (v : Int)) (by omega) (by omega) (by simp [f1]) (fun j hj => by
                by_cases q : j = k
                · subst q; rw [hdk]; omega
                · rw [hd_congr (ag j (by omega))]; exact hp j (by omega)) (by omega) c2
              rw [e']
              obtain ⟨g1, g2, g3, g4⟩ := G
              have c3 : b' ≤ 1000 := by
                rcases g4 with q | ⟨t, T, tl, q⟩
                · omega
                · have : scoreN S t ≤ 20 * t.length := scoreN_le o T tl t.length (Nat.le_refl _)
                  omega
              refine ⟨(((v + 1 : Nat) : Int), b', h'), rfl, ⟨v + 1, rfl, by omega, ⟨g1, fun j hj => (g2 j (by omega)).trans (ag j hj), by simp only; omega, ?_⟩, c3, fun t T tl ta tv => ?_⟩, by simp only [Int.toNat_natCast]; omega⟩
              · rcases g4 with q | q
                · simp only [q]; exact f4
                · exact .inr q
              · by_cases q : hd t (k + 1) = v
                · refine up' t T tl fun j hj => ?_
                  by_cases z : j = k
                  · subst z
                    rw [List.getElem?_set_self (by omega)]
                    have := T.get (w := j + 1) (by omega) (by omega)
                    rw [Nat.add_sub_cancel, q] at this
                    exact this
                  · rw [ag j (by omega)]
                    exact ta j (by omega)
                · exact Int.le_trans (up t T tl ta (by omega)) g3
            · right
              have : v = S.length + 1 := by omega
              subst this
              rw [decide_eq_false (show ¬ ((S.length + 1 : Nat) : Int) < ((S.length + 1 : Nat) : Int) by omega)]
              refine ⟨(b, h), rfl, F, fun t T tl ta => up t T tl ta ?_⟩
              have := T.hd_le (w := k + 1) (by omega) (by omega)
              omega) LL (0, best, heads) ⟨0, rfl, by omega, ⟨hl, fun j _ => rfl, Int.le_refl _, .inl rfl⟩, b2, fun t T tl ta tv => by omega⟩ (by simp only [LL]; omega)
        obtain ⟨⟨b, h⟩, hr, F, up⟩ := ex
        rw [hr]
        exact ⟨b, h, rfl, F, up⟩

end

theorem implBest_eq (S : List (List Int)) (sz : szT S ≤ 1048576) : impl_BestScore S = some (bestI S) := by
  have e : impl_BestScore S = impl_BestScore_n1 S := by unfold impl_BestScore; rfl
  rw [e]
  unfold impl_BestScore_n1
  rw [implScores_eq S sz]
  cases o : okB S with
  | false =>
    unfold bestI
    rw [o]
    rfl
  | true =>
    have l5 := okB_len o
    obtain ⟨B, hB, P⟩ := bounds_eq o
    have e2 : impl_newHeadSearch S = some (List.replicate S.length 0, B) := by
      have e : impl_newHeadSearch S = impl_newHeadSearch_n1 S := by unfold impl_newHeadSearch; rfl
      rw [e]
      unfold impl_newHeadSearch_n1
      rw [hB]
      simp only [Option.bind_some]
      rw [mk_nat (by omega)]
      rfl
    obtain ⟨b, h, e3, F, up⟩ := give_ok o P RR 0 (-1) (List.replicate S.length 0) (Nat.zero_le _) (by simp only [RR]; omega) (by simp) (fun j hj => by omega) (by omega) (by omega)
    have e4 : impl_headSearch_giveFrom 0 0 S (-1) (List.replicate S.length 0) B = some (b, h) := by
      have e : impl_headSearch_giveFrom 0 0 S (-1) (List.replicate S.length 0) B = impl_headSearch_giveFrom_fuel RR 0 0 S (-1) (List.replicate S.length 0) B := by unfold impl_headSearch_giveFrom; rfl
      rw [e]
      exact e3
    simp only [Option.bind_some, Bool.not_true, cond_false, e2, e4]
    congr 1
    obtain ⟨t, T, tl, et⟩ := best_is o
    have u1 := up t T tl (fun j hj => by omega)
    rw [← et] at u1
    obtain ⟨f1, f2, f3, f4⟩ := F
    rcases f4 with q | ⟨t', T', tl', q⟩
    · omega
    · have := best_up o T' tl'
      omega

/-- What words and heads get. -/
def sumP (S : List (List Int)) : List (Nat × Nat) → Nat
  | [] => 0
  | p :: r => scN S (p.1 - 1) p.2 + sumP S r
theorem sumP_app (S : List (List Int)) : ∀ a b, sumP S (a ++ b) = sumP S a + sumP S b
  | [], b => by simp [sumP]
  | p :: r, b => by
    rw [List.cons_append, sumP, sumP, sumP_app S r b]
    omega
theorem sumP_perm (S : List (List Int)) {a b : List (Nat × Nat)} (p : a.Perm b) : sumP S a = sumP S b := by
  induction p with
  | nil => rfl
  | cons x _ ih => simp only [sumP]; omega
  | swap x y l => simp only [sumP]; omega
  | trans _ _ i1 i2 => omega

/-- The greatest of some. -/
def MaxP (S : List (List Int)) (L : List (List (Nat × Nat))) (v : Nat) : Prop := (∃ l, l ∈ L ∧ sumP S l = v) ∧ ∀ l, l ∈ L → sumP S l ≤ v

theorem MaxP.mix {S : List (List Int)} {A B : List (List (Nat × Nat))} {a b c : Nat} (ha : MaxP S A a) (hb : MaxP S B b) {k : List (Nat × Nat) → List (Nat × Nat) → List (Nat × Nat)}
    (hk : ∀ x y, sumP S (k x y) = c + sumP S x + sumP S y) : MaxP S (A.flatMap fun x => B.map fun y => k x y) (c + a + b) := by
  obtain ⟨⟨x, hx, ex⟩, ua⟩ := ha
  obtain ⟨⟨y, hy, ey⟩, ub⟩ := hb
  refine ⟨⟨k x y, List.mem_flatMap.mpr ⟨x, hx, List.mem_map.mpr ⟨y, hy, rfl⟩⟩, by rw [hk, ex, ey]⟩, fun l hl => ?_⟩
  obtain ⟨x', hx', hm⟩ := List.mem_flatMap.mp hl
  obtain ⟨y', hy', e⟩ := List.mem_map.mp hm
  have := ua x' hx'
  have := ub y' hy'
  rw [← e, hk]
  omega

theorem MaxP.app {S : List (List Int)} {A B : List (List (Nat × Nat))} {a b : Nat} (ha : MaxP S A a) (hb : MaxP S B b) : MaxP S (A ++ B) (max a b) := by
  obtain ⟨⟨x, hx, ex⟩, ua⟩ := ha
  obtain ⟨⟨y, hy, ey⟩, ub⟩ := hb
  refine ⟨?_, fun l hl => ?_⟩
  · by_cases q : a ≤ b
    · exact ⟨y, List.mem_append_right _ hy, by omega⟩
    · exact ⟨x, List.mem_append_left _ hx, by omega⟩
  · rcases List.mem_append.mp hl with h | h
    · have := ua l h; omega
    · have := ub l h; omega

/-- All flat trees over a row of words, and all rows of such, one after another. -/
def gen : Nat → (Nat → Nat → Nat → List (List (Nat × Nat))) × (Nat → Nat → Nat → List (List (Nat × Nat)))
  | 0 => (fun _ _ _ => [], fun _ _ _ => [])
  | f + 1 => (fun low high head => (List.range (high + 1 - low)).flatMap fun d => ((gen f).2 low (low + d - 1) (low + d)).flatMap fun a => ((gen f).2 (low + d + 1) high (low + d)).map fun b => (low + d, head) :: (a ++ b),
      fun low high head => if high < low then [[]] else (List.range (high + 1 - low)).flatMap fun d => ((gen f).1 low (low + d) head).flatMap fun a => ((gen f).2 (low + d + 1) high head).map fun b => a ++ b)

def btwN (a b j : Nat) : Bool := (Nat.blt a j && Nat.blt j b) || (Nat.blt b j && Nat.blt j a)
def outN (a b j : Nat) : Bool := (Nat.blt j a && Nat.blt j b) || (Nat.blt a j && Nat.blt b j)
/-- Two words, each with its head or 0, cross. -/
def crsN (a b c d : Nat) : Bool := (btwN a b c && outN a b d) || (btwN a b d && outN a b c)

def noCrs (w v : Nat) : Nat → List Nat → Bool
  | _, [] => true
  | i, x :: xs => !(crsN i x w v) && noCrs w v (i + 1) xs
/-- From head to head one does not come to the word. -/
def chaseN (pre : List Nat) (w : Nat) : Nat → Nat → Bool
  | 0, _ => true
  | f + 1, x => Nat.beq x 0 || Nat.blt w x || (!(Nat.beq x w) && chaseN pre w f (pre.getD (x - 1) 0))

/-- Whether a head may follow these heads. -/
def okN (pre : List Nat) (v : Nat) : Bool :=
  chaseN pre (pre.length + 1) 9 v && noCrs (pre.length + 1) v 1 pre && !(Nat.beq v 0 && pre.contains 0)

/-- All flat trees of `n` words that begin so. -/
def srchN (P : List Int → Bool) (n : Nat) : Nat → List Nat → Bool
  | 0, pre => P (pre.map Int.ofNat)
  | k + 1, pre => (List.range (n + 1)).all fun v => !(okN pre v) || srchN P n k (pre ++ [v])

def hdsN (h : List Int) (j : Nat) : List Nat := (List.range j).map fun i => hd h (i + 1)

theorem hdsN_succ (h : List Int) (j : Nat) : hdsN h (j + 1) = hdsN h j ++ [hd h (j + 1)] := by
  simp [hdsN, List.range_succ]

theorem hdsN_all {h : List Int} (T : Tree h) : (hdsN h h.length).map Int.ofNat = h := by
  apply List.ext_getElem
  · simp [hdsN]
  · intro i h1 h2
    have := T.get (w := i + 1) (by omega) (by omega)
    rw [show i + 1 - 1 = i by omega, List.getElem?_eq_getElem h2] at this
    injection this with this
    simp [hdsN, this]

theorem crsN_iff (a b c d : Nat) : crsN a b c d = true ↔ (Betw a b c ∧ Outs a b d) ∨ (Betw a b d ∧ Outs a b c) := by
  have b (x y : Nat) : Nat.blt x y = true ↔ x < y := by rw [Nat.blt_eq]
  unfold crsN btwN outN Betw Outs
  simp only [Bool.or_eq_true, Bool.and_eq_true, b]

theorem flat_crs {h : List Int} (T : Tree h) (F : FlatP h) {w v : Nat} (w1 : 1 ≤ w) (w2 : w ≤ h.length) (v1 : 1 ≤ v) (v2 : v ≤ h.length) (ne : w ≠ v) :
    crsN w (hd h w) v (hd h v) = false := by
  rw [Bool.eq_false_iff]
  intro x
  rw [crsN_iff] at x
  have B := (flat_below T).mp F
  by_cases hw : hd h w = 0
  · have e := (T.hd_zero w1 w2).mp hw
    have hv : hd h v ≠ 0 := fun y => ne (e.trans ((T.hd_zero v1 v2).mp y).symm)
    have b : Betw v (hd h v) w := by
      rw [hw] at x
      unfold Betw Outs at *
      omega
    have := B v w v1 v2 hv b
    rw [e] at this
    have := T.und_of_top this
    unfold Betw at b
    omega
  · by_cases hv : hd h v = 0
    · have e := (T.hd_zero v1 v2).mp hv
      have b : Betw w (hd h w) v := by
        rw [hv] at x
        unfold Betw Outs at *
        omega
      have := B w v w1 w2 hw b
      rw [e] at this
      have := T.und_of_top this
      unfold Betw at b
      omega
    · have N := (arcs_pairs T).mp ((plan_iff T).mp F).1 w v w1 w2 hw v1 v2 hv
      exact N x

theorem noCrs_ok (w v : Nat) : ∀ (l : List Nat) (i : Nat), (∀ k (hk : k < l.length), crsN (i + k) l[k] w v = false) → noCrs w v i l = true
  | [], _, _ => rfl
  | x :: xs, i, h => by
    unfold noCrs
    have h0 := h 0 (by simp)
    simp only [Nat.add_zero, List.getElem_cons_zero] at h0
    rw [h0, noCrs_ok w v xs (i + 1) (fun k hk => by
      have := h (k + 1) (by simp; omega)
      simp only [List.getElem_cons_succ] at this
      rwa [show i + 1 + k = i + (k + 1) by omega])]
    rfl

theorem hdsN_getD (h : List Int) {i j : Nat} (hi : i < j) : (hdsN h j).getD i 0 = hd h (i + 1) := by simp [hdsN, List.getD, hi]

theorem chase_ok {h : List Int} (T : Tree h) {j : Nat} (hj : j < h.length) : ∀ (f x : Nat), (x = 0 ∨ Und h (hd h (j + 1)) x) → chaseN (hdsN h j) (j + 1) f x = true
  | 0, _, _ => rfl
  | f + 1, x, u => by
    unfold chaseN
    simp only [Bool.or_eq_true, Bool.and_eq_true, Nat.beq_eq_true_eq, Nat.blt_eq, Bool.not_eq_true']
    by_cases x0 : x = 0
    · exact .inl (.inl (by rw [x0]; rfl))
    · have u := u.resolve_left x0
      have r := T.und_rng u
      by_cases xl : j + 1 < x
      · exact .inl (.inr xl)
      · have xne : x ≠ j + 1 := by
          intro e
          have z : hd h (j + 1) ≠ 0 := by
            have := r.1.1
            omega
          have a := T.und_hd (a := j + 1) (by omega) (by omega) z
          rw [e] at u
          have := T.und_anti a u
          exact T.hd_other (w := j + 1) (by omega) (by omega) this.symm
        refine .inr ⟨?_, ?_⟩
        · rw [Bool.eq_false_iff]
          intro y
          exact xne (Nat.eq_of_beq_eq_true y)
        · rw [hdsN_getD h (show x - 1 < j by omega), show x - 1 + 1 = x by omega]
          refine chase_ok T hj f _ ?_
          by_cases z : hd h x = 0
          · exact .inl z
          · exact .inr (T.und_trans u (T.und_hd r.2.1 r.2.2 z))

theorem okN_ok {h : List Int} (T : Tree h) (F : FlatP h) {j : Nat} (hj : j < h.length) : okN (hdsN h j) (hd h (j + 1)) = true := by
  have lj : (hdsN h j).length = j := by simp [hdsN]
  unfold okN
  rw [lj]
  have c1 : chaseN (hdsN h j) (j + 1) 9 (hd h (j + 1)) = true := by
    refine chase_ok T hj 9 _ ?_
    by_cases z : hd h (j + 1) = 0
    · exact .inl z
    · exact .inr (.refl (Nat.pos_of_ne_zero z) (T.hd_le (w := j + 1) (by omega) (by omega)))
  have c2 : noCrs (j + 1) (hd h (j + 1)) 1 (hdsN h j) = true := by
    refine noCrs_ok _ _ _ _ ?_
    intro k hk
    have : (hdsN h j)[k] = hd h (k + 1) := by simp [hdsN]
    rw [this, Nat.add_comm 1 k]
    exact flat_crs T F (by omega) (by omega) (by omega) (by omega) (by omega)
  rw [c1, c2]
  simp only [Bool.true_and, Bool.not_eq_true', Bool.and_eq_false_iff]
  by_cases z : hd h (j + 1) = 0
  · refine .inr ?_
    rw [Bool.eq_false_iff]
    intro c
    simp only [List.contains_iff_mem, hdsN, List.mem_map, List.mem_range] at c
    obtain ⟨i, hi, y⟩ := c
    have e1 := (T.hd_zero (w := j + 1) (by omega) (by omega)).mp z
    have e2 := (T.hd_zero (w := i + 1) (by omega) (by omega)).mp y
    omega
  · refine .inl ?_
    rw [Bool.eq_false_iff]
    intro y
    exact z (Nat.eq_of_beq_eq_true y)

theorem srch_all {h : List Int} (T : Tree h) (F : FlatP h) {P : List Int → Bool} : ∀ (k j : Nat), j + k = h.length → srchN P h.length k (hdsN h j) = true → P h = true
  | 0, j, e, s => by
    rw [show j = h.length by omega] at s
    unfold srchN at s
    rwa [hdsN_all T] at s
  | k + 1, j, e, s => by
    unfold srchN at s
    rw [List.all_eq_true] at s
    have hl := T.hd_le (w := j + 1) (by omega) (by omega)
    have := s (hd h (j + 1)) (by simp only [List.mem_range]; omega)
    rw [← hdsN_succ, okN_ok T F (by omega)] at this
    refine srch_all T F k (j + 1) (by omega) ?_
    simpa using this

theorem flat_all {P : List Int → Bool} {n : Nat} (s : srchN P n n [] = true) {h : List Int} (T : Tree h) (F : FlatP h) (e : h.length = n) : P h = true := by
  subst e
  exact srch_all T F h.length 0 (by omega) s

def pairsOf (h : List Int) : List (Nat × Nat) := (List.range h.length).map fun k => (k + 1, hd h (k + 1))
theorem pairs_sum (S : List (List Int)) (h : List Int) : sumP S (pairsOf h) = scoreN S h := by
  have key : ∀ n, sumP S ((List.range n).map fun k => (k + 1, hd h (k + 1))) = sumR (fun k => scN S k (hd h (k + 1))) n := fun n => by
    induction n with
    | zero => rfl
    | succ n ih =>
      rw [List.range_succ, List.map_append, sumP_app, ih, sumR]
      simp [sumP]
  exact key h.length

def upB (n : Nat) (h : List Int) : Bool := ((gen (2 * n)).1 1 n 0).any fun g => g.isPerm (pairsOf h)
theorem up_tab1 : srchN (upB 1) 1 1 [] = true := by decide +kernel
theorem up_tab2 : srchN (upB 2) 2 2 [] = true := by decide +kernel
theorem up_tab3 : srchN (upB 3) 3 3 [] = true := by decide +kernel
theorem up_tab4 : srchN (upB 4) 4 4 [] = true := by decide +kernel
theorem up_tab5 : srchN (upB 5) 5 5 [] = true := by decide +kernel

/-- Each flat tree of a few words is among those put together. -/
theorem gen_up {h : List Int} (T : Tree h) (F : FlatP h) (h5 : h.length ≤ 5) : ∃ g, g ∈ (gen (2 * h.length)).1 1 h.length 0 ∧ g.Perm (pairsOf h) := by
  have hp := T.pos
  have u : upB h.length h = true := by
    have : h.length = 1 ∨ h.length = 2 ∨ h.length = 3 ∨ h.length = 4 ∨ h.length = 5 := by omega
    rcases this with e | e | e | e | e <;> rw [e]
    · exact flat_all up_tab1 T F e
    · exact flat_all up_tab2 T F e
    · exact flat_all up_tab3 T F e
    · exact flat_all up_tab4 T F e
    · exact flat_all up_tab5 T F e
  unfold upB at u
  rw [List.any_eq_true] at u
  obtain ⟨g, hg, p⟩ := u
  exact ⟨g, hg, List.isPerm_iff.mp p⟩

def maxL (l : List Nat) : Nat := l.foldr max 0

theorem max_of (S : List (List Int)) : ∀ {L : List (List (Nat × Nat))}, L ≠ [] → MaxP S L (maxL (L.map (sumP S)))
  | [], h => absurd rfl h
  | [a], _ => ⟨⟨a, by simp, by simp [maxL]⟩, fun l hl => by
    have : l = a := by simpa using hl
    subst this
    simp [maxL]⟩
  | a :: b :: r, _ => by
    have ih := max_of S (L := b :: r) (by simp)
    have one : MaxP S [a] (sumP S a) := ⟨⟨a, by simp, rfl⟩, fun l hl => by
      have : l = a := by simpa using hl
      subst this
      exact Nat.le_refl _⟩
    exact one.app ih

theorem gen_tab : ((List.range 5).all fun i => !((gen (2 * (i + 1))).1 1 (i + 1) 0).isEmpty) = true := by decide +kernel
theorem gen_ne {n : Nat} (n1 : 1 ≤ n) (n5 : n ≤ 5) : (gen (2 * n)).1 1 n 0 ≠ [] := by
  have := all_lt gen_tab (i := n - 1) (by omega)
  rw [show n - 1 + 1 = n by omega] at this
  intro e
  rw [e] at this
  cases this

def bflatI (S : List (List Int)) : Int := if okB S then ((maxL (((gen (2 * S.length)).1 1 S.length 0).map (sumP S)) : Nat) : Int) else -1

theorem flat_max {S : List (List Int)} (o : okB S = true) : ∃ v : Nat, bflatI S = (v : Int) ∧ MaxP S ((gen (2 * S.length)).1 1 S.length 0) v := by
  have l5 := okB_len o
  exact ⟨_, by unfold bflatI; rw [if_pos o], max_of S (gen_ne l5.1 l5.2)⟩

theorem flat_up {S : List (List Int)} (o : okB S = true) {h : List Int} (T : Tree h) (F : FlatP h) (hl : h.length = S.length) : ((scoreN S h : Nat) : Int) ≤ bflatI S := by
  have l5 := okB_len o
  obtain ⟨v, e, M⟩ := flat_max o
  obtain ⟨g, hg, p⟩ := gen_up T F (by omega)
  rw [hl] at hg
  have := M.2 g hg
  rw [sumP_perm S p, pairs_sum] at this
  rw [e]
  omega

abbrev Prs := List (List (Nat × Nat))

/-- The words between two ends: those up to some word hang on the left end, the others on the right one. -/
def btw (p : (Nat → Nat → Prs) × (Nat → Nat → Prs)) (f l : Nat) : Prs := (List.range (l - f)).flatMap fun d => (p.1 f (f + d)).flatMap fun a => (p.2 (f + d + 1) l).map fun b => a ++ b

/-- Parts that hang on their first word, and on their last one. -/
def two : Nat → (Nat → Nat → Prs) × (Nat → Nat → Prs)
  | 0 => (fun _ _ => [], fun _ _ => [])
  | k + 1 => (fun f l => if l ≤ f then [[]] else (List.range (l - f)).flatMap fun d => (btw (two k) f (f + 1 + d)).flatMap fun a => ((two k).1 (f + 1 + d) l).map fun b => (f + 1 + d, f) :: (a ++ b),
      fun f l => if l ≤ f then [[]] else (List.range (l - f)).flatMap fun d => ((two k).2 f (f + d)).flatMap fun a => (btw (two k) (f + d) l).map fun b => (f + d, l) :: (a ++ b))

/-- A root, with what hangs on it on both sides. -/
def whole (n k : Nat) : Prs := (List.range n).flatMap fun d => ((two k).2 1 (1 + d)).flatMap fun a => ((two k).1 (1 + d) n).map fun b => (1 + d, 0) :: (a ++ b)

abbrev Tab := List (Int × Int × Unit)

/-- An entry of the table that is right. -/
def GoodAt (S : List (List Int)) (T : Tab) (f l : Nat) : Prop := ∃ u v : Nat, T[f * 6 + l]? = some ((u : Int), (v : Int), ()) ∧ u ≤ 20 * (l - f) ∧ v ≤ 20 * (l - f) ∧ ∀ k, l - f < k → MaxP S ((two k).1 f l) u ∧ MaxP S ((two k).2 f l) v

/-- A loop that takes the greatest of parts, none of which is below 0. -/
theorem great_loop {S : List (List Int)} {P : Nat → Prop} {F : Nat → Nat → Prs} {m B : Nat} (low : Nat) (hm : 0 < m) (hB : B ≤ 1000) (hlow : low ≤ 1000) (hm2 : m ≤ 1000) {body : Int × Int → Option ((Int × Int) ⊕ Int)}
    (hs : ∀ d, d < m → ∃ v : Nat, v ≤ B ∧ (∀ k, P k → MaxP S (F k d) v) ∧ ∀ b : Int, body (b, ((low + d : Nat) : Int)) = some (Sum.inl (imax b (v : Int), ((low + d + 1 : Nat) : Int))))
    (he : ∀ b : Int, body (b, ((low + m : Nat) : Int)) = some (Sum.inr b)) :
    ∃ v : Nat, v ≤ B ∧ nloop body LL (0, (low : Int)) = some (v : Int) ∧ ∀ k, P k → MaxP S ((List.range m).flatMap (F k)) v := by
  have := nloop_ex (body := body)
    (I := fun t => ∃ d : Nat, t.2 = ((low + d : Nat) : Int) ∧ d ≤ m ∧ ((d = 0 ∧ t.1 = 0) ∨ ∃ v : Nat, v ≤ B ∧ t.1 = (v : Int) ∧ ∀ k, P k → MaxP S ((List.range d).flatMap (F k)) v))
    (μ := fun t => low + m - t.2.toNat)
    (Q := fun o => ∃ v : Nat, v ≤ B ∧ o = (v : Int) ∧ ∀ k, P k → MaxP S ((List.range m).flatMap (F k)) v)
    (by
      rintro ⟨b, r⟩ ⟨d, er, dm, I⟩
      simp only at er I
      subst er
      by_cases lt : d < m
      · left
        obtain ⟨v, vB, vM, hv⟩ := hs d lt
        refine ⟨_, hv b, ⟨d + 1, rfl, lt, .inr ?_⟩, by simp only [Int.toNat_natCast]; omega⟩
        have er : ∀ k, (List.range (d + 1)).flatMap (F k) = (List.range d).flatMap (F k) ++ F k d := fun k => by rw [List.range_succ, List.flatMap_append, List.flatMap_singleton]
        rcases I with ⟨z, eb⟩ | ⟨u, uB, eb, uM⟩
        · subst z
          refine ⟨v, vB, ?_, fun k hk => by rw [er]; simpa using vM k hk⟩
          simp only [eb]
          unfold imax
          split <;> omega
        · refine ⟨max u v, by omega, ?_, fun k hk => by rw [er]; exact (uM k hk).app (vM k hk)⟩
          simp only [eb]
          exact imaxN u v
      · right
        have : d = m := by omega
        subst this
        rcases I with ⟨z, _⟩ | ⟨u, uB, eb, uM⟩
        · omega
        · exact ⟨b, he b, u, uB, eb, uM⟩) LL (0, (low : Int)) ⟨0, rfl, by omega, .inl ⟨rfl, rfl⟩⟩ (by simp only [LL]; omega)
  obtain ⟨o, ho, v, vB, e, M⟩ := this
  exact ⟨v, vB, by rw [ho, e], M⟩

theorem part_len {T : Tab} (hT : T.length = 36) {f : Nat} (hf : f < 6) : ((T.drop (f * 6)).take 6).length = 6 := by
  rw [List.length_take, List.length_drop, hT]
  omega
theorem part_get {T : Tab} {f l : Nat} (hl : l < 6) {e : Int × Int × Unit} (h : T[f * 6 + l]? = some e) : idx ((T.drop (f * 6)).take 6) (l : Int) = some e := by
  rw [idx_nat, List.getElem?_take, if_pos hl, List.getElem?_drop, h]
theorem same_refl (n : Nat) : same n n = some () := by simp [same]
theorem wrapS {x : Nat} (h : x ≤ 1000) : IntKind.wrap .i64 ((x : Int) + 1) = ((x + 1 : Nat) : Int) := by rw [wrap64 (by omega) (by omega)]; omega
theorem wrapP {x : Nat} (h : x ≤ 1000) (h1 : 1 ≤ x) : IntKind.wrap .i64 ((x : Int) - 1) = ((x - 1 : Nat) : Int) := by rw [wrap64 (by omega) (by omega)]; omega
theorem wrapA {x y : Nat} (h : x + y ≤ 1000) : IntKind.wrap .i64 ((x : Int) + (y : Int)) = ((x + y : Nat) : Int) := by rw [wrap64 (by omega) (by omega)]; omega

section
variable {S : List (List Int)}

/-- The words between two ends. -/
theorem between_ok {T : Tab} (hT : T.length = 36) {f l : Nat} (hf : f < l) (hl : l ≤ 5) (G : ∀ d, d < l - f → GoodAt S T f (f + d) ∧ GoodAt S T (f + d + 1) l) :
    ∃ m : Nat, m ≤ 20 * (l - f - 1) ∧ impl_partTable_between T (f : Int) (l : Int) = some (m : Int) ∧ ∀ k, l - f ≤ k → MaxP S (btw (two k) f l) m := by
  have e : impl_partTable_between T (f : Int) (l : Int) = impl_partTable_between_n1 T (f : Int) (l : Int) := by unfold impl_partTable_between; rfl
  rw [e]
  unfold impl_partTable_between_n1
  have e2 : ∀ x, impl_greatest_v2 (f : Int) x T (f : Int) (l : Int) = impl_greatest_v2_n9 (f : Int) x T (f : Int) (l : Int) := fun x => by unfold impl_greatest_v2; rfl
  rw [wrapP (x := l) (by omega) (by omega), e2]
  unfold impl_greatest_v2_n9 impl_greatest_v2_n1 impl_greatest_v2_n8 impl_greatest_v2_n6 impl_greatest_v2_n2 impl_greatest_v2_n5 impl_greatest_v2_n4 impl_greatest_v2_n7
  have lp := great_loop (S := S) (P := fun k => l - f ≤ k) (F := fun k d => ((two k).1 f (f + d)).flatMap fun a => ((two k).2 (f + d + 1) l).map fun b => a ++ b) (m := l - f) (B := 20 * (l - f - 1)) f (by omega) (by omega) (by omega) (by omega)
    (body := fun (s : Int × Int) => ((impl_greatest_v2_n3 ((l - 1 : Nat) : Int) T (f : Int) (l : Int) s.1 s.2).map (Sum.elim (fun (t : Int × Int) => Sum.inl (t.1, t.2)) (fun (t : Int) => Sum.inr t)) : Option ((Int × Int) ⊕ (Int))))
    (by
      intro d hd
      obtain ⟨⟨u, _, e1, b1, _, M1⟩, ⟨_, v, e2, _, b2, M2⟩⟩ := G d hd
      refine ⟨0 + u + v, by omega, fun k hk => (M1 k (by omega)).1.mix (M2 k (by omega)).2 (k := fun a b => a ++ b) (fun x y => by rw [sumP_app]; omega), fun b => ?_⟩
      simp only [impl_greatest_v2_n3]
      rw [decide_eq_true (show ((f + d : Nat) : Int) ≤ ((l - 1 : Nat) : Int) by omega)]
      have e3 : impl_partTable_between_1 ((f + d : Nat) : Int) T (f : Int) (l : Int) = some ((u + v : Nat) : Int) := by
        have e : impl_partTable_between_1 ((f + d : Nat) : Int) T (f : Int) (l : Int) = impl_partTable_between_1_n1 ((f + d : Nat) : Int) T (f : Int) (l : Int) := by unfold impl_partTable_between_1; rfl
        rw [e]
        unfold impl_partTable_between_1_n1
        rw [hT, same_refl, inb_nat (show f < 6 by omega)]
        simp only [Option.bind_some]
        rw [part_len hT (show f < 6 by omega), same_refl, part_get (show f + d < 6 by omega) e1, wrapS (show f + d ≤ 1000 by omega), inb_nat (show f + d + 1 < 6 by omega)]
        simp only [Option.bind_some]
        rw [part_len hT (show f + d + 1 < 6 by omega), same_refl, part_get (show l < 6 by omega) e2]
        simp only [Option.bind_some]
        rw [wrapA (by omega)]
      rw [e3]
      simp only [cond_true, Option.bind_some, Option.map_some, Sum.elim_inl]
      rw [wrapS (show f + d ≤ 1000 by omega), Nat.zero_add])
    (by
      intro b
      simp only [impl_greatest_v2_n3]
      rw [decide_eq_false (show ¬ ((f + (l - f) : Nat) : Int) ≤ ((l - 1 : Nat) : Int) by omega)]
      rfl)
  obtain ⟨m, mB, em, M⟩ := lp
  refine ⟨m, mB, ?_, M⟩
  simp only [Option.bind_some]
  rw [em]
  rfl

variable (o : okB S = true)
include o

theorem joined_ok {T : Tab} (hT : T.length = 36) {f l : Nat} (h1 : 1 ≤ f) (hf : f < l) (hl : l ≤ S.length) (G : ∀ a b, f ≤ a → a ≤ b → b ≤ l → (f < a ∨ b < l) → GoodAt S T a b) :
    ∃ u v : Nat, u ≤ 20 * (l - f) ∧ v ≤ 20 * (l - f) ∧ impl_partTable_joined T S (f : Int) (l : Int) = some ((u : Int), (v : Int)) ∧ ∀ k, l - f < k → MaxP S ((two k).1 f l) u ∧ MaxP S ((two k).2 f l) v := by
  have l5 := okB_len o
  have e : impl_partTable_joined T S (f : Int) (l : Int) = impl_partTable_joined_n1 T S (f : Int) (l : Int) := by unfold impl_partTable_joined; rfl
  rw [e]
  unfold impl_partTable_joined_n1
  rw [wrapS (show f ≤ 1000 by omega), wrapP (x := l) (by omega) (by omega)]
  have e1 : impl_greatest ((f + 1 : Nat) : Int) (l : Int) T (f : Int) S (l : Int) = impl_greatest_n9 ((f + 1 : Nat) : Int) (l : Int) T (f : Int) S (l : Int) := by unfold impl_greatest; rfl
  have e2 : impl_greatest_v3 (f : Int) ((l - 1 : Nat) : Int) T (f : Int) S (l : Int) = impl_greatest_v3_n9 (f : Int) ((l - 1 : Nat) : Int) T (f : Int) S (l : Int) := by unfold impl_greatest_v3; rfl
  have lp1 := great_loop (S := S) (P := fun k => l - f ≤ k) (F := fun k d => (btw (two k) f (f + 1 + d)).flatMap fun a => ((two k).1 (f + 1 + d) l).map fun b => (f + 1 + d, f) :: (a ++ b)) (m := l - f) (B := 20 * (l - f)) (f + 1) (by omega) (by omega) (by omega) (by omega)
    (body := fun (s : Int × Int) => ((impl_greatest_n3 (l : Int) T (f : Int) S (l : Int) s.1 s.2).map (Sum.elim (fun (t : Int × Int) => Sum.inl (t.1, t.2)) (fun (t : Int) => Sum.inr t)) : Option ((Int × Int) ⊕ (Int))))
    (by
      intro d hd
      obtain ⟨m, mB, em, M⟩ := between_ok (S := S) hT (f := f) (l := f + 1 + d) (by omega) (by omega) (fun i hi => ⟨G _ _ (by omega) (by omega) (by omega) (by omega), G _ _ (by omega) (by omega) (by omega) (by omega)⟩)
      obtain ⟨u, _, e3, b1, _, M1⟩ := G (f + 1 + d) l (by omega) (by omega) (by omega) (by omega)
      obtain ⟨s1, s2, s3⟩ := okB_word o (k := f + d) (j := f) (by omega) (by omega)
      refine ⟨scN S (f + d) f + m + u, by omega, fun k hk => (M k (by omega)).mix (M1 k (by omega)).1 (k := fun a b => (f + 1 + d, f) :: (a ++ b)) (fun x y => by
        rw [sumP, sumP_app]
        show scN S (f + 1 + d - 1) f + (sumP S x + sumP S y) = _
        rw [show f + 1 + d - 1 = f + d by omega]
        omega), fun b => ?_⟩
      simp only [impl_greatest_n3]
      rw [decide_eq_true (show ((f + 1 + d : Nat) : Int) ≤ (l : Int) by omega)]
      have e4 : impl_partTable_joined_1 ((f + 1 + d : Nat) : Int) T (f : Int) S (l : Int) = some ((scN S (f + d) f + m + u : Nat) : Int) := by
        have e : impl_partTable_joined_1 ((f + 1 + d : Nat) : Int) T (f : Int) S (l : Int) = impl_partTable_joined_1_n1 ((f + 1 + d : Nat) : Int) T (f : Int) S (l : Int) := by unfold impl_partTable_joined_1; rfl
        rw [e]
        unfold impl_partTable_joined_1_n1
        rw [wrapP (x := f + 1 + d) (by omega) (by omega), show f + 1 + d - 1 = f + d by omega, idx_getD (show f + d < S.length by omega) []]
        simp only [Option.bind_some]
        rw [idx_getD (show f < (S.getD (f + d) []).length by omega) 0, s2, hT, same_refl, inb_nat (show f + 1 + d < 6 by omega)]
        simp only [Option.bind_some]
        rw [part_len hT (show f + 1 + d < 6 by omega), same_refl, part_get (show l < 6 by omega) e3, em]
        simp only [Option.bind_some]
        rw [wrapA (by omega), wrapA (by omega)]
        congr 2
        omega
      rw [e4]
      simp only [cond_true, Option.bind_some, Option.map_some, Sum.elim_inl]
      rw [wrapS (show f + 1 + d ≤ 1000 by omega)])
    (by
      intro b
      simp only [impl_greatest_n3]
      rw [decide_eq_false (show ¬ ((f + 1 + (l - f) : Nat) : Int) ≤ (l : Int) by omega)]
      rfl)
  have lp2 := great_loop (S := S) (P := fun k => l - f ≤ k) (F := fun k d => ((two k).2 f (f + d)).flatMap fun a => (btw (two k) (f + d) l).map fun b => (f + d, l) :: (a ++ b)) (m := l - f) (B := 20 * (l - f)) f (by omega) (by omega) (by omega) (by omega)
    (body := fun (s : Int × Int) => ((impl_greatest_v3_n3 ((l - 1 : Nat) : Int) T (f : Int) S (l : Int) s.1 s.2).map (Sum.elim (fun (t : Int × Int) => Sum.inl (t.1, t.2)) (fun (t : Int) => Sum.inr t)) : Option ((Int × Int) ⊕ (Int))))
    (by
      intro d hd
      obtain ⟨m, mB, em, M⟩ := between_ok (S := S) hT (f := f + d) (l := l) (by omega) (by omega) (fun i hi => ⟨G _ _ (by omega) (by omega) (by omega) (by omega), G _ _ (by omega) (by omega) (by omega) (by omega)⟩)
      obtain ⟨_, v, e3, _, b1, M1⟩ := G f (f + d) (by omega) (by omega) (by omega) (by omega)
      obtain ⟨s1, s2, s3⟩ := okB_word o (k := f + d - 1) (j := l) (by omega) (by omega)
      refine ⟨scN S (f + d - 1) l + v + m, by omega, fun k hk => (M1 k (by omega)).2.mix (M k (by omega)) (k := fun a b => (f + d, l) :: (a ++ b)) (fun x y => by
        rw [sumP, sumP_app]
        show scN S (f + d - 1) l + (sumP S x + sumP S y) = _
        omega), fun b => ?_⟩
      simp only [impl_greatest_v3_n3]
      rw [decide_eq_true (show ((f + d : Nat) : Int) ≤ ((l - 1 : Nat) : Int) by omega)]
      have e4 : impl_partTable_joined_2 ((f + d : Nat) : Int) T (f : Int) S (l : Int) = some ((scN S (f + d - 1) l + v + m : Nat) : Int) := by
        have e : impl_partTable_joined_2 ((f + d : Nat) : Int) T (f : Int) S (l : Int) = impl_partTable_joined_2_n1 ((f + d : Nat) : Int) T (f : Int) S (l : Int) := by unfold impl_partTable_joined_2; rfl
        rw [e]
        unfold impl_partTable_joined_2_n1
        rw [hT, same_refl, inb_nat (show f < 6 by omega)]
        simp only [Option.bind_some]
        rw [part_len hT (show f < 6 by omega), same_refl, part_get (show f + d < 6 by omega) e3, wrapP (x := f + d) (by omega) (by omega), idx_getD (show f + d - 1 < S.length by omega) []]
        simp only [Option.bind_some]
        rw [idx_getD (show l < (S.getD (f + d - 1) []).length by omega) 0, s2, em]
        simp only [Option.bind_some]
        rw [wrapA (by omega), wrapA (by omega)]
        congr 2
        omega
      rw [e4]
      simp only [cond_true, Option.bind_some, Option.map_some, Sum.elim_inl]
      rw [wrapS (show f + d ≤ 1000 by omega)])
    (by
      intro b
      simp only [impl_greatest_v3_n3]
      rw [decide_eq_false (show ¬ ((f + (l - f) : Nat) : Int) ≤ ((l - 1 : Nat) : Int) by omega)]
      rfl)
  obtain ⟨u, uB, eu, Mu⟩ := lp1
  obtain ⟨v, vB, ev, Mv⟩ := lp2
  refine ⟨u, v, uB, vB, ?_, fun k hk => ?_⟩
  · rw [e1, e2]
    unfold impl_greatest_n9 impl_greatest_n1 impl_greatest_n8 impl_greatest_n6 impl_greatest_n2 impl_greatest_n5 impl_greatest_n4 impl_greatest_n7
    unfold impl_greatest_v3_n9 impl_greatest_v3_n1 impl_greatest_v3_n8 impl_greatest_v3_n6 impl_greatest_v3_n2 impl_greatest_v3_n5 impl_greatest_v3_n4 impl_greatest_v3_n7
    simp only [Option.bind_some]
    rw [eu]
    simp only [Option.map_some, Option.bind_some]
    rw [ev]
    rfl
  · obtain ⟨k, rfl⟩ : ∃ k', k = k' + 1 := ⟨k - 1, by omega⟩
    have q : ¬ l ≤ f := by omega
    simp only [two, if_neg q]
    exact ⟨Mu k (by omega), Mv k (by omega)⟩

omit o in
theorem zero_good {T : Tab} {f : Nat} (h : T[f * 6 + f]? = some ((0 : Int), ((0 : Int), ()))) : GoodAt S T f f := by
  refine ⟨0, 0, h, by omega, by omega, fun k hk => ?_⟩
  obtain ⟨k, rfl⟩ : ∃ k', k = k' + 1 := ⟨k - 1, by omega⟩
  simp only [two, if_pos (Nat.le_refl f)]
  have : MaxP S [[]] 0 := ⟨⟨[], by simp, rfl⟩, fun l hl => by
    have : l = [] := by simpa using hl
    subst this
    exact Nat.le_refl _⟩
  exact ⟨this, this⟩

omit o in
theorem GoodAt.keep {T : Tab} {f l i : Nat} {e : Int × Int × Unit} (h : GoodAt S T f l) (hi : i ≠ f * 6 + l) : GoodAt S (T.set i e) f l := by
  obtain ⟨u, v, h1, h2⟩ := h
  exact ⟨u, v, by rw [List.getElem?_set_ne hi]; exact h1, h2⟩

theorem column_ok {T : Tab} (hT : T.length = 36) {l : Nat} (h2 : 2 ≤ l) (hl : l ≤ S.length) (D : ∀ a, a ≤ 5 → GoodAt S T a a) (G : ∀ a b, 1 ≤ a → a ≤ b → b < l → GoodAt S T a b) :
    ∃ T', impl_bestParts_n9 S (l : Int) T = some T' ∧ T'.length = 36 ∧ (∀ a, a ≤ 5 → GoodAt S T' a a) ∧ ∀ a b, 1 ≤ a → a ≤ b → b < l + 1 → GoodAt S T' a b := by
  have l5 := okB_len o
  unfold impl_bestParts_n9 impl_bestParts_n8 impl_bestParts_n4 impl_bestParts_n7 impl_bestParts_n6
  rw [wrapP (x := l) (by omega) (by omega)]
  have ex := nloop_ex (body := fun (s : Int × (List (Int × Int × Unit))) => ((impl_bestParts_n5 S (l : Int) s.1 s.2).map (Sum.elim (fun (t : Int × (List (Int × Int × Unit))) => Sum.inl (t.1, t.2)) (fun (t : (List (Int × Int × Unit))) => Sum.inr t)) : Option ((Int × (List (Int × Int × Unit))) ⊕ (((List (Int × Int × Unit)))))))
    (I := fun s => ∃ f : Nat, s.1 = (f : Int) ∧ f < l ∧ s.2.length = 36 ∧ (∀ a, a ≤ 5 → GoodAt S s.2 a a) ∧ (∀ a b, 1 ≤ a → a ≤ b → b < l → GoodAt S s.2 a b) ∧ ∀ a, f < a → a ≤ l → GoodAt S s.2 a l)
    (μ := fun s => s.1.toNat)
    (Q := fun T' => T'.length = 36 ∧ (∀ a, a ≤ 5 → GoodAt S T' a a) ∧ ∀ a b, 1 ≤ a → a ≤ b → b < l + 1 → GoodAt S T' a b)
    (by
      rintro ⟨ff, T⟩ ⟨f, ef, fl, hT, D, G, C⟩
      simp only at ef hT D G C
      subst ef
      simp only [impl_bestParts_n5]
      by_cases z : f = 0
      · right
        subst z
        rw [decide_eq_false (by omega)]
        refine ⟨T, rfl, hT, D, fun a b p1 p2 p3 => ?_⟩
        by_cases q : b = l
        · subst q; exact C a (by omega) p2
        · exact G a b p1 p2 (by omega)
      · left
        obtain ⟨u, v, uB, vB, ej, M⟩ := joined_ok o hT (f := f) (l := l) (by omega) fl hl (fun a b ha hab hb hor => by
          by_cases q : b = l
          · subst q; exact C a (by omega) hab
          · exact G a b (by omega) hab (by omega))
        have hi : f * 6 + l < T.length := by omega
        rw [decide_eq_true (show (f : Int) ≥ 1 by omega), hT, same_refl, inb_nat (show f < 6 by omega), inb_nat (show l < 6 by omega)]
        simp only [cond_true, Option.bind_some, ej]
        rw [show sure (Nat.ble (f * 6 + 6) 36) = some () by
          unfold sure
          rw [show Nat.ble (f * 6 + 6) 36 = true from Nat.ble_eq_true_of_le (by omega)]
          rfl, List.getElem?_eq_getElem hi]
        simp only [Option.bind_some, Option.map_some, Sum.elim_inl]
        rw [wrapP (x := f) (by omega) (by omega)]
        refine ⟨(((f - 1 : Nat) : Int), T.set (f * 6 + l) ((u : Int), (v : Int), ())), rfl, ⟨f - 1, rfl, by omega, by simp [hT], fun a ha => (D a ha).keep (by omega), fun a b h1 h2 h3 => (G a b h1 h2 h3).keep (by omega), fun a h1 h2 => ?_⟩, by simp only [Int.toNat_natCast]; omega⟩
        by_cases q : a = f
        · subst q
          exact ⟨u, v, by simp only; rw [List.getElem?_set_self hi], uB, vB, M⟩
        · exact (C a (by omega) h2).keep (by omega)) LL (((l - 1 : Nat) : Int), T) ⟨l - 1, rfl, by omega, hT, D, G, fun a h1 h2 => by
          have : a = l := by omega
          subst this
          exact D a (by omega)⟩ (by simp only [LL, Int.toNat_natCast]; omega)
  obtain ⟨T', e, q⟩ := ex
  simp only [Option.bind_some]
  rw [e]
  exact ⟨T', rfl, q⟩

theorem parts_ok : ∃ T, impl_bestParts S = some T ∧ T.length = 36 ∧ ∀ a b, 1 ≤ a → a ≤ b → b ≤ S.length → GoodAt S T a b := by
  have l5 := okB_len o
  have e : impl_bestParts S = impl_bestParts_n18 S := by unfold impl_bestParts; rfl
  rw [e]
  unfold impl_bestParts_n18 impl_bestParts_n1 impl_bestParts_n17 impl_bestParts_n15 impl_bestParts_n2 impl_bestParts_n14 impl_bestParts_n13 impl_bestParts_n16
  have ex := nloop_ex (body := fun (s : Int × (List (Int × Int × Unit))) => ((impl_bestParts_n12 S s.1 s.2).map (Sum.elim (fun (t : Int × (List (Int × Int × Unit))) => Sum.inl (t.1, t.2)) (fun (t : (List (Int × Int × Unit))) => Sum.inr t)) : Option ((Int × (List (Int × Int × Unit))) ⊕ (((List (Int × Int × Unit)))))))
    (I := fun s => ∃ l : Nat, s.1 = (l : Int) ∧ 2 ≤ l ∧ (l ≤ S.length + 1 ∨ l = 2) ∧ s.2.length = 36 ∧ (∀ a, a ≤ 5 → GoodAt S s.2 a a) ∧ (∀ a b, 1 ≤ a → a ≤ b → b < l → GoodAt S s.2 a b))
    (μ := fun s => 10 - s.1.toNat)
    (Q := fun T' => T'.length = 36 ∧ ∀ a b, 1 ≤ a → a ≤ b → b ≤ S.length → GoodAt S T' a b)
    (by
      rintro ⟨ll, T⟩ ⟨l, el, h2, hl, hT, D, G⟩
      simp only at el hT D G
      subst el
      unfold impl_bestParts_n12 impl_bestParts_n3
      by_cases lt : l ≤ S.length
      · left
        obtain ⟨T', eT, hT', D', G'⟩ := column_ok o hT h2 lt D G
        rw [decide_eq_true (show (l : Int) ≤ ((S.length : Nat) : Int) by omega)]
        simp only [cond_true, Option.bind_some, Sum.elim_inl]
        unfold impl_bestParts_n11 impl_bestParts_n10
        rw [eT, wrapS (show l ≤ 1000 by omega)]
        exact ⟨(((l + 1 : Nat) : Int), T'), rfl, ⟨l + 1, rfl, by omega, by omega, hT', D', G'⟩, by simp only [Int.toNat_natCast]; omega⟩
      · right
        rw [decide_eq_false (show ¬ (l : Int) ≤ ((S.length : Nat) : Int) by omega)]
        exact ⟨T, rfl, hT, fun a b h1 h3 h4 => G a b h1 h3 (by omega)⟩) LL (2, List.replicate 36 ((0 : Int), ((0 : Int), ()))) (by
      have Z : ∀ a, a ≤ 5 → GoodAt S (List.replicate 36 ((0 : Int), ((0 : Int), ()))) a a := fun a ha => zero_good (by rw [List.getElem?_replicate, if_pos (by omega)])
      refine ⟨2, rfl, by omega, .inr rfl, by simp, Z, fun a b h1 h3 h4 => ?_⟩
      have e1 : a = 1 := by omega
      have e2 : b = 1 := by omega
      subst e1 e2
      exact Z 1 (by omega)) (by simp only [LL]; omega)
  obtain ⟨T, eT, hT, G⟩ := ex
  simp only [Option.bind_some]
  rw [eT]
  exact ⟨T, rfl, hT, G⟩

theorem roots_ok {T : Tab} (hT : T.length = 36) (G : ∀ a b, 1 ≤ a → a ≤ b → b ≤ S.length → GoodAt S T a b) : ∃ m : Nat, impl_greatest_v4 1 ((S.length : Nat) : Int) T S ((S.length : Nat) : Int) = some (m : Int) ∧ MaxP S (whole S.length 5) m := by
  have l5 := okB_len o
  have e : impl_greatest_v4 1 ((S.length : Nat) : Int) T S ((S.length : Nat) : Int) = impl_greatest_v4_n9 1 ((S.length : Nat) : Int) T S ((S.length : Nat) : Int) := by unfold impl_greatest_v4; rfl
  rw [e]
  unfold impl_greatest_v4_n9 impl_greatest_v4_n1 impl_greatest_v4_n8 impl_greatest_v4_n6 impl_greatest_v4_n2 impl_greatest_v4_n5 impl_greatest_v4_n4 impl_greatest_v4_n7
  have lp := great_loop (S := S) (P := fun k => k = 5) (F := fun k d => ((two k).2 1 (1 + d)).flatMap fun a => ((two k).1 (1 + d) S.length).map fun b => (1 + d, 0) :: (a ++ b)) (m := S.length) (B := 200) 1 (by omega) (by omega) (by omega) (by omega)
    (body := fun (s : Int × Int) => ((impl_greatest_v4_n3 ((S.length : Nat) : Int) T S ((S.length : Nat) : Int) s.1 s.2).map (Sum.elim (fun (t : Int × Int) => Sum.inl (t.1, t.2)) (fun (t : Int) => Sum.inr t)) : Option ((Int × Int) ⊕ (Int))))
    (by
      intro d hd
      obtain ⟨_, v, e1, _, b1, M1⟩ := G 1 (1 + d) (by omega) (by omega) (by omega)
      obtain ⟨u, _, e2, b2, _, M2⟩ := G (1 + d) S.length (by omega) (by omega) (by omega)
      obtain ⟨s1, s2, s3⟩ := okB_word o (k := d) (j := 0) hd (by omega)
      refine ⟨scN S d 0 + v + u, by omega, fun k hk => (M1 k (by omega)).2.mix (M2 k (by omega)).1 (k := fun a b => (1 + d, 0) :: (a ++ b)) (fun x y => by
        rw [sumP, sumP_app]
        show scN S (1 + d - 1) 0 + (sumP S x + sumP S y) = _
        rw [show 1 + d - 1 = d by omega]
        omega), fun b => ?_⟩
      simp only [impl_greatest_v4_n3]
      rw [decide_eq_true (show ((1 + d : Nat) : Int) ≤ ((S.length : Nat) : Int) by omega)]
      have e4 : impl_BestFlat_1 ((1 + d : Nat) : Int) T S ((S.length : Nat) : Int) = some ((scN S d 0 + v + u : Nat) : Int) := by
        have e : impl_BestFlat_1 ((1 + d : Nat) : Int) T S ((S.length : Nat) : Int) = impl_BestFlat_1_n1 ((1 + d : Nat) : Int) T S ((S.length : Nat) : Int) := by unfold impl_BestFlat_1; rfl
        rw [e]
        unfold impl_BestFlat_1_n1
        rw [hT, same_refl, show inb 1 6 = some 1 from rfl, wrapP (x := 1 + d) (by omega) (by omega), show 1 + d - 1 = d by omega, inb_nat (show 1 + d < 6 by omega)]
        simp only [Option.bind_some]
        rw [part_len hT (show 1 < 6 by omega), same_refl, part_get (show 1 + d < 6 by omega) e1, idx_getD hd []]
        simp only [Option.bind_some]
        rw [show (0 : Int) = ((0 : Nat) : Int) from rfl, idx_getD (show 0 < (S.getD d []).length by omega) 0, s2]
        simp only [Option.bind_some]
        rw [part_len hT (show 1 + d < 6 by omega), same_refl, part_get (show S.length < 6 by omega) e2]
        simp only [Option.bind_some]
        rw [wrapA (by omega), wrapA (by omega)]
        congr 2
        omega
      rw [e4]
      simp only [cond_true, Option.bind_some, Option.map_some, Sum.elim_inl]
      rw [wrapS (show 1 + d ≤ 1000 by omega)])
    (by
      intro b
      simp only [impl_greatest_v4_n3]
      rw [decide_eq_false (show ¬ ((1 + S.length : Nat) : Int) ≤ ((S.length : Nat) : Int) by omega)]
      rfl)
  obtain ⟨m, _, em, M⟩ := lp
  refine ⟨m, ?_, M 5 rfl⟩
  simp only [Option.bind_some]
  have em' := em
  rw [show ((1 : Nat) : Int) = 1 from rfl] at em'
  rw [em']
  rfl

end

theorem wh_up4 : ((List.range 4).all fun i => (whole (i + 1) 5).all fun g => ((gen (2 * (i + 1))).1 1 (i + 1) 0).any fun g' => g.isPerm g') = true := by decide +kernel
theorem wh_dn4 : ((List.range 4).all fun i => ((gen (2 * (i + 1))).1 1 (i + 1) 0).all fun g => (whole (i + 1) 5).any fun g' => g.isPerm g') = true := by decide +kernel
theorem wh_up5 : ((whole 5 5).all fun g => ((gen 10).1 1 5 0).any fun g' => g.isPerm g') = true := by decide +kernel
theorem wh_dn5 : (((gen 10).1 1 5 0).all fun g => (whole 5 5).any fun g' => g.isPerm g') = true := by decide +kernel

theorem wh_up {n : Nat} (n1 : 1 ≤ n) (n5 : n ≤ 5) {g : List (Nat × Nat)} (hg : g ∈ whole n 5) : ∃ g', g' ∈ (gen (2 * n)).1 1 n 0 ∧ g.Perm g' := by
  have b : (((gen (2 * n)).1 1 n 0).any fun g' => g.isPerm g') = true := by
    by_cases e : n = 5
    · subst e
      exact List.all_eq_true.mp wh_up5 g hg
    · have := all_lt wh_up4 (i := n - 1) (by omega)
      rw [show n - 1 + 1 = n by omega] at this
      exact List.all_eq_true.mp this g hg
  rw [List.any_eq_true] at b
  obtain ⟨g', h1, h2⟩ := b
  exact ⟨g', h1, List.isPerm_iff.mp h2⟩

theorem wh_dn {n : Nat} (n1 : 1 ≤ n) (n5 : n ≤ 5) {g : List (Nat × Nat)} (hg : g ∈ (gen (2 * n)).1 1 n 0) : ∃ g', g' ∈ whole n 5 ∧ g.Perm g' := by
  have b : ((whole n 5).any fun g' => g.isPerm g') = true := by
    by_cases e : n = 5
    · subst e
      exact List.all_eq_true.mp wh_dn5 g hg
    · have := all_lt wh_dn4 (i := n - 1) (by omega)
      rw [show n - 1 + 1 = n by omega] at this
      exact List.all_eq_true.mp this g hg
  rw [List.any_eq_true] at b
  obtain ⟨g', h1, h2⟩ := b
  exact ⟨g', h1, List.isPerm_iff.mp h2⟩

theorem implBestFlat_eq (S : List (List Int)) (sz : szT S ≤ 1048576) : impl_BestFlat S = some (bflatI S) := by
  have e : impl_BestFlat S = impl_BestFlat_n1 S := by unfold impl_BestFlat; rfl
  rw [e]
  unfold impl_BestFlat_n1
  rw [implScores_eq S sz]
  cases o : okB S with
  | false =>
    unfold bflatI
    rw [o]
    rfl
  | true =>
    have l5 := okB_len o
    obtain ⟨T, eT, hT, G⟩ := parts_ok o
    obtain ⟨m, em, ⟨g, hg, sg⟩, up⟩ := roots_ok o hT G
    obtain ⟨v, ev, ⟨g2, hg2, sg2⟩, up2⟩ := flat_max o
    simp only [Option.bind_some, Bool.not_true, cond_false, eT, em]
    congr 1
    rw [ev]
    obtain ⟨g', h1, p1⟩ := wh_up l5.1 l5.2 hg
    obtain ⟨g3, h3, p3⟩ := wh_dn l5.1 l5.2 hg2
    have a := up2 g' h1
    have b := up g3 h3
    rw [← sumP_perm S p1, sg] at a
    rw [← sumP_perm S p3, sg2] at b
    omega

/-- Small rows of rows. -/
def SmS (S : List (List Int)) : Prop := S.length ≤ 5 ∧ ∀ r ∈ S, r.length ≤ 6

theorem SmS.sz {S : List (List Int)} (h : SmS S) : szT S ≤ 1048576 := by
  have t : ∀ l : List (List Int), (∀ r ∈ l, r.length ≤ 6) → tot l ≤ 6 * l.length := fun l => by
    induction l with
    | nil => intro _; simp [tot]
    | cons a r ih =>
      intro hl
      have := ih fun x hx => hl x (List.mem_cons_of_mem _ hx)
      have := hl a (List.mem_cons_self ..)
      unfold tot at *
      simp only [List.map_cons, List.sum_cons, List.length_cons]
      omega
  have := t S h.2
  have := h.1
  unfold szT
  omega

theorem scores_row {b : List Int} (hb : Bytes b) {many high : Nat} (hm : many ≤ 5) (hh : high ≤ 100) {p : Int} (hp : 0 ≤ p) (hp2 : p ≤ 1000) :
    ∃ (r : List Int) (q : Int), spec_l20Scores_n7 (many : Int) (high : Int) b p = some (q, r) ∧ r.length = many + 1 ∧ p ≤ q ∧ q ≤ p + 6 := by
  unfold spec_l20Scores_n7
  have ex := nloop_ex (body := fun (s : Int × Int × (List Int)) => ((spec_l20Scores_n6 (many : Int) (high : Int) s.1 b s.2.1 s.2.2).map (Sum.elim (fun (t : Int × Int × (List Int)) => Sum.inl (t.1, t.2.1, t.2.2)) (fun (t : Int × (List Int)) => Sum.inr t)) : Option ((Int × Int × (List Int)) ⊕ ((Int × (List Int))))))
    (I := fun t => ∃ j : Nat, t.1 = (j : Int) ∧ j ≤ many + 1 ∧ t.2.1 = p + (j : Int) ∧ t.2.2.length = j)
    (μ := fun t => many + 1 - t.1.toNat) (Q := fun o => o.2.length = many + 1 ∧ p ≤ o.1 ∧ o.1 ≤ p + 6)
    (by
      rintro ⟨jj, q, r⟩ ⟨j, ej, hj, eq, rl⟩
      simp only at ej eq rl
      subst ej eq
      simp only [spec_l20Scores_n6]
      by_cases lt : j ≤ many
      · left
        obtain ⟨v, hv, _⟩ := pick_ok hb (high : Int) (by omega) (p := p + (j : Int)) (by omega) (by omega)
        have w : IntKind.wrap .i64 ((j : Int) + 1) = ((j + 1 : Nat) : Int) := by rw [wrap64 (by omega) (by omega)]; omega
        rw [decide_eq_true (show (j : Int) ≤ (many : Int) by omega), hv, w]
        simp only [cond_true, Option.bind_some]
        rw [room_ok (by simp only [List.length_singleton]; omega)]
        exact ⟨(((j + 1 : Nat) : Int), p + (j : Int) + 1, r ++ [v]), rfl, ⟨j + 1, rfl, by omega, by simp only; omega, by simp [rl]⟩, by simp only [Int.toNat_natCast]; omega⟩
      · right
        rw [decide_eq_false (show ¬ (j : Int) ≤ (many : Int) by omega)]
        exact ⟨(p + (j : Int), r), rfl, by simp only; omega, by simp only; omega, by simp only; omega⟩) LL (0, p, []) ⟨0, rfl, by omega, by simp, rfl⟩ (by simp only [LL]; omega)
  obtain ⟨⟨q, r⟩, ho, h1, h2, h3⟩ := ex
  exact ⟨r, q, ho, h1, h2, h3⟩

theorem scores_rows {b : List Int} (hb : Bytes b) {many high : Nat} (hm : many ≤ 5) (hh : high ≤ 100) {p : Int} (hp : 0 ≤ p) (hp2 : p ≤ 500) :
    ∃ (S : List (List Int)) (q : Int), spec_l20Scores_n17 (many : Int) (high : Int) b p = some (q, S) ∧ S.length = many ∧ (∀ r ∈ S, r.length = many + 1) ∧ p ≤ q ∧ q ≤ p + 30 := by
  unfold spec_l20Scores_n17
  have ex := nloop_ex (body := fun (s : Int × Int × (List (List Int))) => ((spec_l20Scores_n16 (many : Int) (high : Int) s.1 b s.2.1 s.2.2).map (Sum.elim (fun (t : Int × Int × (List (List Int))) => Sum.inl (t.1, t.2.1, t.2.2)) (fun (t : Int × (List (List Int))) => Sum.inr t)) : Option ((Int × Int × (List (List Int))) ⊕ ((Int × (List (List Int)))))))
    (I := fun t => ∃ k : Nat, t.1 = (k : Int) ∧ k ≤ many ∧ p ≤ t.2.1 ∧ t.2.1 ≤ p + 6 * (k : Int) ∧ t.2.2.length = k ∧ ∀ r ∈ t.2.2, r.length = many + 1)
    (μ := fun t => many - t.1.toNat) (Q := fun o => o.2.length = many ∧ (∀ r ∈ o.2, r.length = many + 1) ∧ p ≤ o.1 ∧ o.1 ≤ p + 30)
    (by
      rintro ⟨kk, q, S⟩ ⟨k, ek, hk, q1, q2, sl, sr⟩
      simp only at ek q1 q2 sl sr
      subst ek
      simp only [spec_l20Scores_n16, spec_l20Scores_n3]
      by_cases lt : k < many
      · left
        obtain ⟨r, q', hr, rl, b1, b2⟩ := scores_row hb hm hh (p := q) (by omega) (by omega)
        have w : IntKind.wrap .i64 ((k : Int) + 1) = ((k + 1 : Nat) : Int) := by rw [wrap64 (by omega) (by omega)]; omega
        rw [decide_eq_true (show (k : Int) < (many : Int) by omega)]
        simp only [cond_true, Option.bind_some, Sum.elim_inl, spec_l20Scores_n15, spec_l20Scores_n13, spec_l20Scores_n12, spec_l20Scores_n4, spec_l20Scores_n11, spec_l20Scores_n9, spec_l20Scores_n5, spec_l20Scores_n8, hr, Option.map_some, spec_l20Scores_n10, spec_l20Scores_n14, w]
        rw [room_ok (by omega)]
        refine ⟨(((k + 1 : Nat) : Int), q', (S ++ [[]]).set S.length r), rfl, ⟨k + 1, rfl, lt, by simp only; omega, by simp only; omega, by simp [sl], fun x hx => ?_⟩, by simp only [Int.toNat_natCast]; omega⟩
        simp only at hx
        rw [List.set_append_right _ _ (Nat.le_refl _), Nat.sub_self, List.set_cons_zero] at hx
        rcases List.mem_append.mp hx with hx | hx
        · exact sr x hx
        · rw [List.mem_singleton] at hx
          rw [hx]
          exact rl
      · right
        rw [decide_eq_false (show ¬ (k : Int) < (many : Int) by omega)]
        exact ⟨(q, S), rfl, by simp only; omega, sr, by simp only; omega, by simp only; omega⟩) LL (0, p, []) ⟨0, rfl, by omega, by simp, by simp, rfl, by simp⟩ (by simp only [LL]; omega)
  obtain ⟨⟨q, S⟩, ho, h1, h2, h3, h4⟩ := ex
  exact ⟨S, q, ho, h1, h2, h3, h4⟩

theorem drawn_scores {b : List Int} (hb : Bytes b) (n : Int) (hn : n ≤ 1000) : ∃ (S : List (List Int)) (q : Int), spec_l20Scores n b 0 = some (q, S) ∧ SmS S ∧ 0 ≤ q ∧ q ≤ 100 := by
  have e : spec_l20Scores n b 0 = spec_l20Scores_n22 n b 0 := by unfold spec_l20Scores; rfl
  rw [e]
  unfold spec_l20Scores_n22 spec_l20Scores_n1
  obtain ⟨v1, h1, a1, b1, _⟩ := pick_ok hb 4 (by omega) (p := 0) (by omega) (by omega)
  obtain ⟨v2, h2, a2, b2, _⟩ := pick_ok hb 6 (by omega) (p := 0 + 1) (by omega) (by omega)
  obtain ⟨v3, h3, a3, b3, _⟩ := pick_ok hb 3 (by omega) (p := 0 + 1 + 1) (by omega) (by omega)
  obtain ⟨u2, rfl⟩ : ∃ u : Nat, v2 = (u : Int) := ⟨v2.toNat, by omega⟩
  have hq : quo .i64 (u2 : Int) 5 = some ((u2 / 5 : Nat) : Int) := by
    unfold quo
    rw [if_neg (by omega)]
    have e : (u2 : Int).tdiv 5 = ((u2 / 5 : Nat) : Int) := rfl
    rw [e, wrap64 (by omega) (by omega)]
  have hi : ∃ high : Nat, high ≤ 100 ∧ ((inb v3 (List.length ([3, 10, 21] : List Nat))).bind fun (v : Nat) => ([3, 10, 21] : List Int)[v]?) = some (high : Int) := by
    have : v3 = 0 ∨ v3 = 1 ∨ v3 = 2 := by omega
    rcases this with rfl | rfl | rfl
    · exact ⟨3, by omega, rfl⟩
    · exact ⟨10, by omega, rfl⟩
    · exact ⟨21, by omega, rfl⟩
  obtain ⟨high, hh, ehi⟩ := hi
  obtain ⟨k3, hk3, ek3⟩ : ∃ k, inb v3 (List.length ([3, 10, 21] : List Nat)) = some k ∧ ([3, 10, 21] : List Int)[k]? = some (high : Int) := by
    cases hc : inb v3 (List.length ([3, 10, 21] : List Nat)) with
    | none => rw [hc] at ehi; cases ehi
    | some k => rw [hc] at ehi; exact ⟨k, rfl, ehi⟩
  obtain ⟨many, hmany, m1, m5⟩ : ∃ m : Nat, IntKind.wrap .i64 (IntKind.wrap .i64 (1 + v1) + ((u2 / 5 : Nat) : Int)) = (m : Int) ∧ 1 ≤ m ∧ m ≤ 5 := by
    refine ⟨1 + v1.toNat + u2 / 5, ?_, by omega, by omega⟩
    rw [wrap64 (x := 1 + v1) (by omega) (by omega), wrap64 (by omega) (by omega)]
    omega
  simp only [h1, h2, h3, hq, Option.bind_some, hmany]
  rw [hk3]
  simp only [Option.bind_some]
  rw [ek3]
  simp only [Option.bind_some, spec_l20Scores_n21, spec_l20Scores_n19, spec_l20Scores_n2, spec_l20Scores_n18]
  obtain ⟨S, q, hS, sl, sr, q1, q2⟩ := scores_rows hb m5 hh (p := 0 + 1 + 1 + 1) (by omega) (by omega)
  rw [hS]
  simp only [Option.map_some, Option.bind_some, spec_l20Scores_n20]
  obtain ⟨od, q', ho, o1, o2⟩ := odd_ok hb n (by omega) (p := q) (by omega) (by omega)
  rw [ho]
  simp only [Option.bind_some]
  have good : SmS S := ⟨by omega, fun r hr => by have := sr r hr; omega⟩
  cases od with
  | false => exact ⟨S, q', rfl, good, by omega, by omega⟩
  | true =>
    obtain ⟨v4, h4, a4, b4, _⟩ := pick_ok hb 3 (by omega) (p := q') (by omega) (by omega)
    rw [h4]
    simp only [cond_true, Option.bind_some]
    by_cases z0 : v4 = 0
    · rw [show (v4 == 0) = true from beq_iff_eq.mpr z0]
      exact ⟨[], q' + 1, rfl, ⟨by simp, by simp⟩, by omega, by omega⟩
    · rw [show (v4 == 0) = false from beq_eq_false_iff_ne.mpr z0]
      obtain ⟨r0, rest, rfl⟩ : ∃ r0 rest, S = r0 :: rest := by
        cases S with
        | nil => simp at sl; omega
        | cons a r => exact ⟨a, r, rfl⟩
      have r0l := sr r0 (List.mem_cons_self ..)
      have i0 : inb 0 (List.length (r0 :: rest)) = some 0 := inb_nat (k := 0) (by simp)
      by_cases z1 : v4 = 1
      · rw [show (v4 == 1) = true from beq_iff_eq.mpr z1, i0]
        have ic : inc 1 (List.length r0) = some 1 := by
          unfold inc
          rw [if_pos (by omega)]
          rfl
        simp only [cond_false, cond_true, Option.bind_some, List.getElem?_cons_zero, ic, List.set_cons_zero]
        have i1 : inb 0 (List.length ([] :: rest : List (List Int))) = some 0 := inb_nat (k := 0) (by simp)
        rw [i1]
        simp only [Option.bind_some, within, same]
        rw [if_pos (by simp)]
        simp only [Option.bind_some, if_true, List.set_cons_zero]
        refine ⟨_, q' + 1, rfl, ⟨by simpa using good.1, fun r hr => ?_⟩, by omega, by omega⟩
        rcases List.mem_cons.mp hr with e | hr
        · rw [e, List.length_take, List.length_drop]
          omega
        · exact good.2 r (List.mem_cons_of_mem _ hr)
      · rw [show (v4 == 1) = false from beq_eq_false_iff_ne.mpr z1, i0]
        have i2 : inb 0 (List.length r0) = some 0 := inb_nat (k := 0) (by omega)
        simp only [cond_false, Option.bind_some, List.getElem?_cons_zero, List.set_cons_zero, i2]
        refine ⟨_, q' + 1, rfl, ⟨by simpa using good.1, fun r hr => ?_⟩, by omega, by omega⟩
        rcases List.mem_cons.mp hr with e | hr
        · rw [e, List.length_set]
          omega
        · exact good.2 r (List.mem_cons_of_mem _ hr)

theorem set_ok {o hs : List Int} {m : Nat} (hm : m ≤ 1000000) (ho : o.length = m) (hx : ∀ x ∈ o, 1 ≤ x ∧ x ≤ (m : Int)) (hh : hs.length = m) {k at_ : Int} (hk0 : 0 ≤ k) (hk : k < m) (ha0 : 0 ≤ at_) (ha : at_ < m) {α : Type} (f : List Int → α) :
    ∃ l : List Int, l.length = m ∧ ((inb k (List.length o)).bind fun (v638 : Nat) => (o[v638]?).bind fun (v639 : Int) => (inb at_ (List.length o)).bind fun (v641 : Nat) => (o[v641]?).bind fun (v642 : Int) => (inb (IntKind.wrap .i64 (v639 - 1)) (List.length hs)).bind fun (v643 : Nat) => some (f (hs.set v643 v642))) = some (f l) := by
  have h1 : k.toNat < o.length := by omega
  have h2 : at_.toNat < o.length := by omega
  have hr := hx o[k.toNat] (List.getElem_mem h1)
  refine ⟨hs.set (o[k.toNat] - 1).toNat o[at_.toNat], by simpa using hh, ?_⟩
  rw [inb_ok hk0 (by omega), inb_ok ha0 (by omega)]
  simp only [Option.bind_some, List.getElem?_eq_getElem h1, List.getElem?_eq_getElem h2]
  rw [wrap64 (by omega) (by omega), inb_ok (by omega) (by omega)]
  rfl

theorem tree_ok {b : List Int} (hb : Bytes b) (n : Int) (hn : n ≤ 1000) {p : Int} (hp : 0 ≤ p) (hp2 : p ≤ 999990000) :
    ∃ (q : Int) (h : List Int), spec_l20Tree n b p = some (q, h) ∧ p ≤ q ∧ q ≤ p + 300 ∧ h.length ≤ 8 := by
  unfold spec_l20Tree spec_l20Tree_n9 spec_l20Tree_n1
  obtain ⟨v, hv, va, vb, _⟩ := pick_ok hb 7 (by omega) hp (by omega)
  have vb' := vb (by omega)
  obtain ⟨m, hm⟩ : ∃ m : Nat, 1 + v = (m : Int) := ⟨(1 + v).toNat, by omega⟩
  obtain ⟨q1, o, ho, q1a, q1b, hol, hox⟩ := order_ok hb m (by omega) (p := p + 1) (by omega) (by omega)
  obtain ⟨nr, hnr, nra, _⟩ := pick_ok hb 2 (by omega) (p := q1) (by omega) (by omega)
  simp only [hv, Option.bind_some]
  rw [wrap64 (x := 1 + v) (by omega) (by omega), hm]
  simp only [ho, mk_nat (show m ≤ 1099511627776 by omega), hnr, Option.bind_some]
  unfold spec_l20Tree_n8 spec_l20Tree_n6 spec_l20Tree_n2 spec_l20Tree_n5 spec_l20Tree_n4
  obtain ⟨⟨q2, hs⟩, h1, h2, h3, h4⟩ := nloop_ex (body := fun (s : Int × Int × List Int) => ((spec_l20Tree_n3 m nr s.1 b s.2.1 o s.2.2).map (Sum.elim (fun (t : Int × Int × List Int) => Sum.inl (t.1, t.2.1, t.2.2)) (fun (t : Int × List Int) => Sum.inr t)) : Option ((Int × Int × List Int) ⊕ ((Int × List Int)))))
    (I := fun s => ∃ (k : Nat) (q : Int) (hs : List Int), s = ((k : Int), q, hs) ∧ 1 ≤ k ∧ k ≤ m ∧ q1 ≤ q ∧ q ≤ q1 + 1 + 2 * k ∧ hs.length = m) (μ := fun s => m - s.1.toNat)
    (Q := fun t => q1 ≤ t.1 ∧ t.1 ≤ q1 + 20 ∧ t.2.length = m)
    (by
      rintro _ ⟨k, q, hs, rfl, hk1, hk, qa, qb, hhs⟩
      simp only [spec_l20Tree_n3]
      by_cases hlt : k < m
      · left
        rw [show decide ((k : Int) < (m : Int)) = true from decide_eq_true (by omega), wrap64 (x := (k : Int) + 1) (by omega) (by omega), wrap64 (x := (k : Int) - 1) (by omega) (by omega)]
        obtain ⟨a, ha, aa, ab, _⟩ := pick_ok hb (k : Int) (by omega) (p := q) (by omega) (by omega)
        have ab' := ab (by omega)
        obtain ⟨c, hc, _⟩ := pick_ok hb 2 (by omega) (p := q + 1) (by omega) (by omega)
        simp only [cond_true, ha, Option.bind_some]
        have hmu : m - (((k : Int) + 1)).toNat < m - ((k : Int)).toNat := by omega
        cases hnear : (nr == 1) with
        | true =>
          simp only [cond_true, hc, Option.bind_some]
          cases h5 : (c == 0) with
          | true =>
            obtain ⟨l, hl, e⟩ := set_ok (by omega) hol hox hhs (k := (k : Int)) (at_ := (k : Int) - 1) (by omega) (by omega) (by omega) (by omega) (fun l => (Sum.inl ((k : Int) + 1, q + 1 + 1, l) : (Int × Int × List Int) ⊕ (Int × List Int)))
            simp only [cond_true]
            rw [e]
            exact ⟨_, rfl, ⟨k + 1, q + 1 + 1, l, by push_cast; rfl, by omega, by omega, by omega, by push_cast; omega, hl⟩, hmu⟩
          | false =>
            obtain ⟨l, hl, e⟩ := set_ok (by omega) hol hox hhs (k := (k : Int)) (at_ := a) (by omega) (by omega) (by omega) (by omega) (fun l => (Sum.inl ((k : Int) + 1, q + 1 + 1, l) : (Int × Int × List Int) ⊕ (Int × List Int)))
            simp only [cond_false]
            rw [e]
            exact ⟨_, rfl, ⟨k + 1, q + 1 + 1, l, by push_cast; rfl, by omega, by omega, by omega, by push_cast; omega, hl⟩, hmu⟩
        | false =>
          obtain ⟨l, hl, e⟩ := set_ok (by omega) hol hox hhs (k := (k : Int)) (at_ := a) (by omega) (by omega) (by omega) (by omega) (fun l => (Sum.inl ((k : Int) + 1, q + 1, l) : (Int × Int × List Int) ⊕ (Int × List Int)))
          simp only [cond_false]
          rw [e]
          exact ⟨_, rfl, ⟨k + 1, q + 1, l, by push_cast; rfl, by omega, by omega, by omega, by push_cast; omega, hl⟩, hmu⟩
      · right
        have e : k = m := by omega
        subst e
        rw [show decide ((k : Int) < (k : Int)) = false from decide_eq_false (by omega)]
        exact ⟨_, rfl, qa, by show q ≤ q1 + 20; omega, hhs⟩) LL (1, q1 + 1, List.replicate m 0) ⟨1, q1 + 1, _, rfl, by omega, by omega, by omega, by omega, by simp⟩ (by simp only [LL]; omega)
  rw [h1]
  simp only at h2 h3 h4
  simp only [Option.bind_some, Option.map_some]
  unfold spec_l20Tree_n7
  obtain ⟨od, q3, ho3, q3a, q3b⟩ := odd_ok hb n (by omega) (p := q2) (by omega) (by omega)
  obtain ⟨c, hc, ca, cb, _⟩ := pick_ok hb 4 (by omega) (p := q3) (by omega) (by omega)
  obtain ⟨d, hd, da, db, _⟩ := pick_ok hb (m : Int) (by omega) (p := q3 + 1) (by omega) (by omega)
  have db' := db (by omega)
  obtain ⟨e, he, ea, eb, _⟩ := pick_ok hb 3 (by omega) (p := q3 + 1) (by omega) (by omega)
  have eb' := eb (by omega)
  simp only [ho3, Option.bind_some]
  cases od with
  | false => exact ⟨_, _, rfl, by omega, by omega, by omega⟩
  | true =>
    simp only [cond_true, hc, Option.bind_some]
    cases (c == 0) with
    | true => exact ⟨_, _, rfl, by omega, by omega, by simp⟩
    | false =>
      cases (c == 1) with
      | true => exact ⟨_, _, rfl, by omega, by omega, by simp⟩
      | false =>
        cases (c == 2) with
        | true =>
          simp only [cond_true, cond_false, hd, Option.bind_some, inb_ok da (show d < (hs.length : Nat) by omega)]
          rw [room_le (by simp; omega)]
          exact ⟨_, _, rfl, by omega, by omega, by simp; omega⟩
        | false =>
          simp only [cond_true, cond_false, he, Option.bind_some]
          have hin : inb e (List.length ([1, (IntKind.wrap .i64 ((m : Int) + 1)), (-1)])) = some e.toNat := inb_ok ea (by simp; omega)
          have hin0 : inb 0 (List.length hs) = some 0 := inb_ok (by omega) (by omega)
          have hlt : e.toNat < ([1, (IntKind.wrap .i64 ((m : Int) + 1)), (-1)] : List Int).length := by simp; omega
          rw [hin]
          simp only [Option.bind_some, List.getElem?_eq_getElem hlt, hin0]
          exact ⟨_, _, rfl, by omega, by omega, by simp; omega⟩

theorem tree0 : treeB [0] = true := by decide
theorem tree1 : treeB [1] = false := by decide
theorem alive_eq : laws_alive = some true := by
  unfold laws_alive laws_alive_n1
  simp [implTree_eq, tree0, tree1]

end Go.Rv
