/-
  Plain mathematics of what the law reaches. Conditions: none.
-/
import Derived.Test.YtcidinfpacpdaaaDoorGFnStarOk
set_option linter.unusedVariables false
set_option linter.unusedSimpArgs false
namespace Go.Rv
theorem nloop_run {σ ω : Type} {body : σ → Option (σ ⊕ ω)} (I : σ → Prop) (μ : σ → Nat) (f : σ → ω)
    (h : ∀ s, I s → (∃ s', body s = some (.inl s') ∧ I s' ∧ μ s' < μ s ∧ f s' = f s) ∨ body s = some (.inr (f s))) : ∀ (n : Nat) (s : σ), I s → μ s < n → nloop body n s = some (f s)
  | 0, s, _, hn => by omega
  | n + 1, s, hi, hn => by
    rcases h s hi with ⟨s', hb, hi', hm, hf⟩ | hb
    · simp only [nloop, hb, Option.bind_some]
      rw [nloop_run I μ f h n s' hi' (by omega), hf]
    · simp only [nloop, hb, Option.bind_some]

/-- A loop that counts from a number on: state (k, x), k < n goes on. -/
theorem wrap64 {x : Int} (h1 : -9223372036854775808 ≤ x) (h2 : x ≤ 9223372036854775807) : IntKind.wrap .i64 x = x := by
  simp only [IntKind.wrap, IntKind.bits, IntKind.signed]
  simp
  omega

theorem idx_nat {α : Type} (xs : List α) (k : Nat) : idx xs (k : Int) = xs[k]? := by simp [idx]
theorem idx_lt {α : Type} {xs : List α} {k : Nat} (h : k < xs.length) : idx xs (k : Int) = some xs[k] := by simp [idx, h]
theorem inb_nat {k n : Nat} (h : k < n) : inb (k : Int) n = some k := by
  simp only [inb]
  rw [if_pos (by omega)]
  simp
theorem mk_nat {n : Nat} (h : n ≤ 1099511627776) : mk (n : Int) (n : Int) = some n := by
  simp only [mk]
  rw [if_pos (by omega)]
  simp
theorem room_le {n : Nat} (h : n ≤ 1099511627776) : room n = some () := by simp [room, h]

theorem drop_cons {α : Type} {xs : List α} {k : Nat} (h : k < xs.length) : xs.drop k = xs[k] :: xs.drop (k + 1) := List.drop_eq_getElem_cons h

/-- From a word to the root, with so many steps at most: the root, and how many steps lead to it. -/
def climb (h : List Int) : Nat → Nat → Option (Nat × Nat)
  | 0, _ => none
  | f + 1, w => match h[w - 1]? with
    | none => none
    | some x => if x = 0 then some (w, 0) else (climb h f x.toNat).map fun p => (p.1, p.2 + 1)

def okHead (n : Nat) (x : Int) : Bool := decide (0 ≤ x) && decide (x ≤ n)

def inRange (h : List Int) : Bool := h.all (okHead h.length)

/-- The heads of a tree. -/
def treeB (h : List Int) : Bool :=
  decide (1 ≤ h.length) && decide (h.length ≤ 8) && inRange h && (h.count 0 == 1) && (List.range h.length).all fun k => (climb h h.length (k + 1)).isSome

theorem all_drop_cons {h : List Int} {p : Int → Bool} {k : Nat} (hk : k < h.length) : (h.drop k).all p = (p h[k] && (h.drop (k + 1)).all p) := by
  rw [drop_cons hk]; rfl

theorem count_drop_cons {h : List Int} {k : Nat} (hk : k < h.length) : (h.drop k).count 0 = (if h[k] = 0 then 1 else 0) + (h.drop (k + 1)).count 0 := by
  rw [drop_cons hk, List.count_cons]
  by_cases e : h[k] = 0 <;> simp [e] <;> omega

theorem oneRoot_eq (h : List Int) (hl : h.length ≤ 1048576) : impl_oneRoot h = some (inRange h && (h.count 0 == 1)) := by
  have hloop := nloop_run (body := fun (s : Int × Int) => ((impl_oneRoot_n3 h s.1 h.length s.2).map (Sum.elim (fun (t : Int × Int) => Sum.inl (t.1, t.2)) (Sum.elim (fun (t : Bool) => Sum.inr (Sum.inl t)) (fun (t : Int) => Sum.inr (Sum.inr t)))) : Option ((Int × Int) ⊕ (Bool ⊕ Int))))
    (I := fun s => ∃ k r : Nat, s = ((r : Int), (k : Int)) ∧ k ≤ h.length ∧ r ≤ k) (μ := fun s => h.length - s.2.toNat)
    (f := fun s => cond ((h.drop s.2.toNat).all (okHead h.length)) (.inr (s.1 + ((h.drop s.2.toNat).count 0 : Nat))) (.inl false))
    (by
      rintro _ ⟨k, r, rfl, hk, hr⟩
      by_cases hlt : k < h.length
      · simp only [impl_oneRoot_n3]
        rw [show decide ((k : Int) < ((h.length : Nat) : Int)) = true from decide_eq_true (by omega)]
        simp only [cond_true, idx_lt hlt, Option.bind_some, Int.toNat_natCast]
        rw [wrap64 (x := (k : Int) + 1) (by omega) (by omega), wrap64 (x := (r : Int) + 1) (by omega) (by omega), all_drop_cons hlt, count_drop_cons hlt]
        by_cases h1 : h[k] < 0
        · right
          have : okHead h.length h[k] = false := by simp [okHead]; omega
          simp [h1, this]
        · by_cases h2 : h[k] > (h.length : Int)
          · right
            have : okHead h.length h[k] = false := by simp [okHead]; omega
            simp [h1, h2, this]
          · left
            have hok : okHead h.length h[k] = true := by simp [okHead]; omega
            by_cases h3 : h[k] = 0
            · refine ⟨(((r + 1 : Nat) : Int), ((k + 1 : Nat) : Int)), ?_, ⟨k + 1, r + 1, rfl, hlt, by omega⟩, by simp; omega, ?_⟩
              · have h4 : decide ((h.length : Int) < 0) = false := decide_eq_false (by omega)
                simp [h3, h4]
              · have e : ((k + 1 : Nat) : Int).toNat = k + 1 := by simp
                rw [e, hok]
                simp only [h3, if_true, Bool.true_and]
                congr 2
                push_cast
                omega
            · refine ⟨((r : Int), ((k + 1 : Nat) : Int)), ?_, ⟨k + 1, r, rfl, hlt, by omega⟩, by simp; omega, ?_⟩
              · have e1 : (h[k] == 0) = false := by simpa using h3
                have e2 : decide (h[k] < 0) = false := decide_eq_false h1
                have e3 : decide (h[k] > (h.length : Int)) = false := decide_eq_false h2
                simp [e1, e2, e3]
              · have e : ((k + 1 : Nat) : Int).toNat = k + 1 := by simp
                rw [e, hok]
                simp [h3]
      · right
        have e : k = h.length := by omega
        subst e
        simp only [impl_oneRoot_n3]
        rw [show decide (((h.length : Nat) : Int) < ((h.length : Nat) : Int)) = false from decide_eq_false (by omega)]
        simp)
  unfold impl_oneRoot impl_oneRoot_n9 impl_oneRoot_n1 impl_oneRoot_n8 impl_oneRoot_n6 impl_oneRoot_n2 impl_oneRoot_n5 impl_oneRoot_n4
  simp only [Option.bind_some]
  rw [hloop LL (0, 0) ⟨0, 0, rfl, by omega, by omega⟩ (by simp only [LL]; simp; omega)]
  simp only [Int.toNat_zero, List.drop_zero]
  unfold inRange
  cases ha : h.all (okHead h.length) with
  | false => simp
  | true =>
    simp only [cond_true, Option.map_some, Sum.elim_inr, Option.bind_some, Sum.elim_inl, impl_oneRoot_n7, Bool.true_and]
    congr 1
    by_cases e : h.count 0 = 1
    · simp [e]
    · have e1 : ((0 : Int) + ((h.count 0 : Nat) : Int) == 1) = false := by rw [beq_eq_false_iff_ne]; omega
      have e2 : (h.count 0 == 1) = false := by rw [beq_eq_false_iff_ne]; exact e
      rw [e2]; exact e1

theorem inRange_get {h : List Int} (hr : inRange h = true) {k : Nat} (hk : k < h.length) : 0 ≤ h[k] ∧ h[k] ≤ h.length := by
  have := List.all_eq_true.1 hr h[k] (List.getElem_mem hk)
  simpa [okHead] using this

theorem up_eq (h : List Int) (k : Nat) (s : Nat) (hk : k < h.length) (hl : h.length ≤ 1048576) (hs : s ≤ h.length) :
    impl_walker_up h ((k + 1 : Nat) : Int) (s : Int) = some (if h[k] = 0 then (false, ((k + 1 : Nat) : Int), (s : Int)) else (true, h[k], ((s + 1 : Nat) : Int))) := by
  unfold impl_walker_up impl_walker_up_n1
  rw [wrap64 (by omega) (by omega), show ((k + 1 : Nat) : Int) - 1 = (k : Int) by omega, idx_lt hk]
  simp only [Option.bind_some]
  rw [wrap64 (by omega) (by omega)]
  by_cases e : h[k] = 0
  · simp [e]
  · have e1 : (h[k] == 0) = false := by simpa using e
    simp [e, e1]

theorem steps_eq (h : List Int) (hl : h.length ≤ 1048576) (hr : inRange h = true) (k : Nat) (hk : k < h.length) :
    impl_stepsToRoot h ((k + 1 : Nat) : Int) = some (match climb h h.length (k + 1) with | some p => ((p.2 : Int), true) | none => (0, false)) := by
  have hloop := nloop_run (body := fun (s : Int × Int) => ((impl_stepsToRoot_n2 h s.1 s.2).map (Sum.elim (fun (t : Int × Int) => Sum.inl (t.1, t.2)) (Sum.elim (fun (t : Int × Bool) => Sum.inr (Sum.inl t)) (fun (t : Int × Int) => Sum.inr (Sum.inr t)))) : Option ((Int × Int) ⊕ ((Int × Bool) ⊕ (Int × Int)))))
    (I := fun s => ∃ k i : Nat, s = (((k + 1 : Nat) : Int), (i : Int)) ∧ k < h.length ∧ i < h.length) (μ := fun s => h.length - s.2.toNat)
    (f := fun s => match climb h (h.length - s.2.toNat) s.1.toNat with | some p => .inr ((p.1 : Int), s.2 + (p.2 : Int)) | none => .inl (0, false))
    (by
      rintro _ ⟨k, i, rfl, hk, hi⟩
      simp only [impl_stepsToRoot_n2]
      rw [up_eq h k i hk hl (by omega)]
      obtain ⟨hr1, hr2⟩ := inRange_get hr hk
      have hf : h.length - i = (h.length - i - 1) + 1 := by omega
      have hg : h[k + 1 - 1]? = some h[k] := by simp [hk]
      have hcl : climb h (h.length - i) (k + 1) = if h[k] = 0 then some (k + 1, 0) else (climb h (h.length - i - 1) h[k].toNat).map fun p => (p.1, p.2 + 1) := by
        rw [hf]; simp only [climb, hg]; simp
      simp only [Option.bind_some, Int.toNat_natCast]
      rw [hcl]
      by_cases e : h[k] = 0
      · right
        simp [e]
      · simp only [e, if_false, cond_true]
        by_cases hlast : i + 1 ≥ h.length
        · right
          have h0 : h.length - i - 1 = 0 := by omega
          have hd : decide (((i + 1 : Nat) : Int) ≥ ((h.length : Nat) : Int)) = true := decide_eq_true (by omega)
          simp only [hd, h0, climb]
          simp
        · left
          have hd : decide (((i + 1 : Nat) : Int) ≥ ((h.length : Nat) : Int)) = false := decide_eq_false (by omega)
          refine ⟨(h[k], ((i + 1 : Nat) : Int)), by simp only [hd]; simp, ⟨h[k].toNat - 1, i + 1, by
            have : ((h[k].toNat - 1 + 1 : Nat) : Int) = h[k] := by omega
            rw [this], by omega, by omega⟩, by simp; omega, ?_⟩
          have e2 : h.length - ((i + 1 : Nat) : Int).toNat = h.length - i - 1 := by simp; omega
          simp only [e2]
          cases climb h (h.length - i - 1) h[k].toNat with
          | none => rfl
          | some p => simp; omega)
  unfold impl_stepsToRoot impl_stepsToRoot_n7 impl_stepsToRoot_n1 impl_stepsToRoot_n6 impl_stepsToRoot_n4 impl_stepsToRoot_n3
  simp only [Option.bind_some]
  rw [hloop LL (((k + 1 : Nat) : Int), 0) ⟨k, 0, rfl, hk, by omega⟩ (by simp only [LL]; simp; omega)]
  simp only [Int.toNat_natCast, Int.toNat_zero, Nat.sub_zero]
  cases climb h h.length (k + 1) with
  | none => simp
  | some p => simp [impl_stepsToRoot_n5]

theorem implTree_eq (h : List Int) : impl_TreeOk h = some (treeB h) := by
  unfold impl_TreeOk impl_TreeOk_n9 impl_TreeOk_n1 impl_TreeOk_n8 impl_TreeOk_n6 impl_TreeOk_n2 impl_TreeOk_n5 impl_TreeOk_n4
  unfold treeB
  by_cases h1 : h.length < 1
  · have e : decide (1 ≤ h.length) = false := decide_eq_false (by omega)
    have e2 : decide ((((h.length : Nat) : Int)) < 1) = true := decide_eq_true (by omega)
    simp [e, e2]
  · have e1 : decide ((((h.length : Nat) : Int)) < 1) = false := decide_eq_false (by omega)
    have e1' : decide (1 ≤ h.length) = true := decide_eq_true (by omega)
    by_cases h2 : h.length > 8
    · have e : decide (h.length ≤ 8) = false := decide_eq_false (by omega)
      have e2 : decide ((((h.length : Nat) : Int)) > 8) = true := decide_eq_true (by omega)
      simp only [e1, e2, e]
      simp
    · have e2 : decide ((((h.length : Nat) : Int)) > 8) = false := decide_eq_false (by omega)
      have e2' : decide (h.length ≤ 8) = true := decide_eq_true (by omega)
      simp only [e1, e2, e1', e2', cond_false, oneRoot_eq h (by omega), Option.bind_some, Bool.true_and]
      cases hr : inRange h with
      | false => simp
      | true =>
        cases hc : (h.count 0 == 1) with
        | false => simp
        | true =>
          simp only [Bool.true_and, Bool.not_true, cond_false, Option.bind_some, Sum.elim_inl]
          have hloop := nloop_run (body := fun (s : Int) => ((impl_TreeOk_n3 h h.length s).map (Sum.elim (fun (t : Int) => Sum.inl t) (Sum.elim (fun (t : Bool) => Sum.inr (Sum.inl t)) (fun (t : Unit) => Sum.inr (Sum.inr t)))) : Option ((Int) ⊕ (Bool ⊕ Unit))))
            (I := fun s => ∃ k : Nat, s = (k : Int) ∧ k ≤ h.length) (μ := fun s => h.length - s.toNat)
            (f := fun s => cond (((List.range h.length).drop s.toNat).all fun k => (climb h h.length (k + 1)).isSome) (.inr ()) (.inl false))
            (by
              rintro _ ⟨k, rfl, hk⟩
              by_cases hlt : k < h.length
              · simp only [impl_TreeOk_n3]
                rw [show decide ((k : Int) < ((h.length : Nat) : Int)) = true from decide_eq_true (by omega)]
                rw [wrap64 (x := (k : Int) + 1) (by omega) (by omega), show (k : Int) + 1 = ((k + 1 : Nat) : Int) by omega, steps_eq h (by omega) hr k hlt]
                simp only [cond_true, Option.bind_some, Int.toNat_natCast]
                have hd : (List.range h.length).drop k = k :: (List.range h.length).drop (k + 1) := by
                  rw [List.drop_eq_getElem_cons (by simpa using hlt)]
                  simp
                rw [hd]
                simp only [List.all_cons]
                cases hcl : climb h h.length (k + 1) with
                | none => right; simp
                | some p =>
                  left
                  refine ⟨((k + 1 : Nat) : Int), by simp, ⟨k + 1, rfl, hlt⟩, by simp; omega, by simp⟩
              · right
                have e : k = h.length := by omega
                subst e
                simp only [impl_TreeOk_n3]
                rw [show decide (((h.length : Nat) : Int) < ((h.length : Nat) : Int)) = false from decide_eq_false (by omega)]
                simp [List.drop_of_length_le (show (List.range h.length).length ≤ h.length by simp)])
          rw [hloop LL 0 ⟨0, rfl, by omega⟩ (by simp only [LL]; simp; omega)]
          simp only [Int.toNat_zero, List.drop_zero]
          cases ((List.range h.length).all fun k => (climb h h.length (k + 1)).isSome) <;> rfl

theorem l1In_eq (a b c : Int) : spec_l1In a b c = some (decide (b ≤ a) && decide (a ≤ c)) := by
  unfold spec_l1In spec_l1In_n1
  by_cases h : a ≥ b
  · have e : decide (a ≥ b) = true := decide_eq_true h
    rw [e]; rfl
  · have e : decide (a ≥ b) = false := decide_eq_false h
    rw [e]; rfl

/-- The model's way from a word upwards. -/
def goUp (h : List Int) : Nat → Int → Bool ⊕ Int
  | 0, a => .inr a
  | f + 1, a => if 0 < a then (match h[a.toNat - 1]? with
      | some x => if okHead h.length x then goUp h f x else .inl false
      | none => .inl false) else .inr a

theorem inner_eq (h : List Int) (hl : h.length ≤ 8) (a : Int) (ha0 : 0 ≤ a) (ha : a ≤ h.length) : spec_TreeOk_n7 h h.length a = some (goUp h h.length a) := by
  unfold spec_TreeOk_n7
  have hloop := nloop_run (body := fun (s : Int × Int) => ((spec_TreeOk_n6 h h.length s.1 s.2).map (Sum.elim (fun (t : Int × Int) => Sum.inl (t.1, t.2)) (Sum.elim (fun (t : Bool) => Sum.inr (Sum.inl t)) (fun (t : Int) => Sum.inr (Sum.inr t)))) : Option ((Int × Int) ⊕ (Bool ⊕ Int))))
    (I := fun s => ∃ k i : Nat, s = ((k : Int), (i : Int)) ∧ k ≤ h.length ∧ i ≤ h.length) (μ := fun s => h.length - s.2.toNat)
    (f := fun s => goUp h (h.length - s.2.toNat) s.1)
    (by
      rintro _ ⟨k, i, rfl, hk, hi⟩
      simp only [spec_TreeOk_n6, Int.toNat_natCast]
      by_cases h1 : 0 < k
      · have e1 : decide ((k : Int) > 0) = true := decide_eq_true (by omega)
        by_cases h2 : i < h.length
        · have e2 : decide ((i : Int) < ((h.length : Nat) : Int)) = true := decide_eq_true (by omega)
          have hk' : k - 1 < h.length := by omega
          rw [e1, e2, wrap64 (x := (k : Int) - 1) (by omega) (by omega), show (k : Int) - 1 = ((k - 1 : Nat) : Int) by omega, idx_lt hk', wrap64 (x := (i : Int) + 1) (by omega) (by omega)]
          simp only [cond_true, Option.bind_some, l1In_eq]
          have hf : h.length - i = (h.length - i - 1) + 1 := by omega
          have hg : goUp h (h.length - i) (k : Int) = if okHead h.length h[k - 1] then goUp h (h.length - i - 1) h[k - 1] else .inl false := by
            rw [hf]
            simp only [goUp]
            rw [if_pos (by omega)]
            simp [hk']
          rw [hg]
          by_cases h3 : okHead h.length h[k - 1] = true
          · left
            have h3' := h3
            simp only [okHead, Bool.and_eq_true, decide_eq_true_eq] at h3'
            refine ⟨(h[k - 1], ((i + 1 : Nat) : Int)), ?_, ⟨h[k - 1].toNat, i + 1, by
              have : ((h[k - 1].toNat : Nat) : Int) = h[k - 1] := by omega
              rw [this], by omega, by omega⟩, by simp; omega, ?_⟩
            · have e4 : (decide ((0 : Int) ≤ h[k - 1]) && decide (h[k - 1] ≤ ((h.length : Nat) : Int))) = true := h3
              rw [e4]; simp
            · have e5 : h.length - ((i + 1 : Nat) : Int).toNat = h.length - i - 1 := by simp; omega
              simp only [e5, h3, if_true]
          · right
            have h3' : okHead h.length h[k - 1] = false := by simpa using h3
            have e4 : (decide ((0 : Int) ≤ h[k - 1]) && decide (h[k - 1] ≤ ((h.length : Nat) : Int))) = false := h3'
            rw [e4]
            simp [h3']
        · right
          have e2 : decide ((i : Int) < ((h.length : Nat) : Int)) = false := decide_eq_false (by omega)
          have h0 : h.length - i = 0 := by omega
          rw [e1, e2, h0]
          simp [goUp]
      · right
        have hk0 : k = 0 := by omega
        subst hk0
        have e1 : decide (((0 : Nat) : Int) > 0) = false := by simp
        rw [e1]
        cases h.length - i <;> simp [goUp])
  exact hloop LL (a, 0) ⟨a.toNat, 0, by
    have : ((a.toNat : Nat) : Int) = a := by omega
    rw [this]; rfl, by omega, by omega⟩ (by simp only [LL]; simp; omega)

theorem goUp_climb {h : List Int} (hr : inRange h = true) : ∀ (f k : Nat), k < h.length → goUp h f ((k + 1 : Nat) : Int) = (if (climb h f (k + 1)).isSome then .inr 0 else goUp h f ((k + 1 : Nat) : Int)) ∧
    ((climb h f (k + 1)).isSome = false → ∃ a : Int, 0 < a ∧ goUp h f ((k + 1 : Nat) : Int) = .inr a)
  | 0, k, hk => by
    refine ⟨by simp [climb], fun _ => ⟨((k + 1 : Nat) : Int), by omega, rfl⟩⟩
  | f + 1, k, hk => by
    obtain ⟨h1, h2⟩ := inRange_get hr hk
    have hok : okHead h.length h[k] = true := by simp [okHead]; omega
    have hg : goUp h (f + 1) ((k + 1 : Nat) : Int) = goUp h f h[k] := by
      simp only [goUp]
      rw [if_pos (by omega)]
      simp [hk, hok]
    have hc : climb h (f + 1) (k + 1) = if h[k] = 0 then some (k + 1, 0) else (climb h f h[k].toNat).map fun p => (p.1, p.2 + 1) := by
      simp [climb, hk]
    rw [hg, hc]
    by_cases e : h[k] = 0
    · have : goUp h f 0 = .inr 0 := by cases f <;> simp [goUp]
      simp [e, this]
    · obtain ⟨j, hj⟩ : ∃ j : Nat, h[k] = ((j + 1 : Nat) : Int) := ⟨h[k].toNat - 1, by omega⟩
      have ih := goUp_climb hr f j (by omega)
      rw [hj]
      have ne : ¬ ((j + 1 : Nat) : Int) = 0 := by omega
      simp only [ne, if_false, Int.toNat_natCast, Option.isSome_map]
      exact ih

/-- What is asked of one word. -/
def wordOk1 (h : List Int) (k : Nat) : Bool := match h[k]? with
  | some x => okHead h.length x && !(x == ((k + 1 : Nat) : Int)) && (match goUp h h.length ((k + 1 : Nat) : Int) with | .inr a => !decide (a > 0) | .inl _ => false)
  | none => false

theorem specTree_eq0 (h : List Int) : spec_TreeOk h = some (decide (1 ≤ h.length) && decide (h.length ≤ 8) && (List.range h.length).all (wordOk1 h) && (h.count 0 == 1)) := by
  unfold spec_TreeOk spec_TreeOk_n22 spec_TreeOk_n1
  rw [l1In_eq]
  by_cases h1 : (decide ((1 : Int) ≤ ((h.length : Nat) : Int)) && decide (((h.length : Nat) : Int) ≤ 8)) = true
  · have h1' := h1
    simp only [Bool.and_eq_true, decide_eq_true_eq] at h1'
    have e1 : decide (1 ≤ h.length) = true := decide_eq_true (by omega)
    have e2 : decide (h.length ≤ 8) = true := decide_eq_true (by omega)
    simp only [h1, e1, e2, Option.bind_some, Bool.not_true, cond_false, Sum.elim_inl, Bool.true_and]
    unfold spec_TreeOk_n21 spec_TreeOk_n19 spec_TreeOk_n2 spec_TreeOk_n18 spec_TreeOk_n17
    have hloop := nloop_run (body := fun (s : Int × Int) => ((spec_TreeOk_n16 h h.length s.1 s.2).map (Sum.elim (fun (t : Int × Int) => Sum.inl (t.1, t.2)) (Sum.elim (fun (t : Bool) => Sum.inr (Sum.inl t)) (fun (t : Int) => Sum.inr (Sum.inr t)))) : Option ((Int × Int) ⊕ (Bool ⊕ Int))))
      (I := fun s => ∃ k r : Nat, s = ((r : Int), (k : Int)) ∧ k ≤ h.length ∧ r ≤ k) (μ := fun s => h.length - s.2.toNat)
      (f := fun s => cond (((List.range h.length).drop s.2.toNat).all (wordOk1 h)) (.inr (s.1 + ((h.drop s.2.toNat).count 0 : Nat))) (.inl false))
      (by
        rintro _ ⟨k, r, rfl, hk, hr⟩
        by_cases hlt : k < h.length
        · have hd : (List.range h.length).drop k = k :: (List.range h.length).drop (k + 1) := by
            rw [List.drop_eq_getElem_cons (by simpa using hlt)]
            simp
          simp only [spec_TreeOk_n16, spec_TreeOk_n3, Int.toNat_natCast]
          rw [show decide ((k : Int) < ((h.length : Nat) : Int)) = true from decide_eq_true (by omega)]
          simp only [cond_true, Option.bind_some, Sum.elim_inl]
          unfold spec_TreeOk_n15 spec_TreeOk_n13 spec_TreeOk_n12 spec_TreeOk_n4 spec_TreeOk_n14 spec_TreeOk_n11 spec_TreeOk_n9 spec_TreeOk_n5 spec_TreeOk_n8 spec_TreeOk_n10
          have hw : IntKind.wrap .i64 ((k : Int) + 1) = ((k + 1 : Nat) : Int) := by rw [wrap64 (by omega) (by omega)]; omega
          have hw2 : IntKind.wrap .i64 ((r : Int) + 1) = ((r + 1 : Nat) : Int) := by rw [wrap64 (by omega) (by omega)]; omega
          simp only [idx_lt hlt, Option.bind_some, l1In_eq, hw, hw2]
          rw [hd, List.all_cons, count_drop_cons hlt]
          have hwk : wordOk1 h k = (okHead h.length h[k] && !(h[k] == ((k + 1 : Nat) : Int)) && (match goUp h h.length ((k + 1 : Nat) : Int) with | .inr a => !decide (a > 0) | .inl _ => false)) := by
            simp [wordOk1, hlt]
          have hin := inner_eq h (by omega) ((k + 1 : Nat) : Int) (by omega) (by omega)
          rw [hwk]
          cases h3 : okHead h.length h[k] with
          | false =>
            right
            have e4 : (decide ((0 : Int) ≤ h[k]) && decide (h[k] ≤ ((h.length : Nat) : Int))) = false := h3
            rw [e4]; simp
          | true =>
            have e4 : (decide ((0 : Int) ≤ h[k]) && decide (h[k] ≤ ((h.length : Nat) : Int))) = true := h3
            rw [e4]
            simp only [Bool.not_true, cond_false, Bool.true_and]
            cases h5 : (h[k] == ((k + 1 : Nat) : Int)) with
            | true => right; simp
            | false =>
              simp only [cond_false, Bool.not_false, Bool.true_and]
              by_cases h6 : h[k] = 0
              · simp only [h6, beq_self_eq_true, cond_true, Option.bind_some, Sum.elim_inl, Option.map_some, hin, if_true]
                cases h7 : goUp h h.length ((k + 1 : Nat) : Int) with
                | inl b =>
                  right
                  have : b = false := by
                    have key : ∀ f a b, goUp h f a = .inl b → b = false := by
                      intro f
                      induction f with
                      | zero => intro a b hh; simp [goUp] at hh
                      | succ f ih =>
                        intro a b hh
                        simp only [goUp] at hh
                        split at hh
                        · split at hh
                          · split at hh
                            · exact ih _ _ hh
                            · simpa using hh.symm
                          · simpa using hh.symm
                        · cases hh
                    exact key _ _ _ h7
                  subst this
                  simp
                | inr a =>
                  by_cases h8 : a > 0
                  · right
                    simp [h8]
                  · left
                    refine ⟨(((r + 1 : Nat) : Int), ((k + 1 : Nat) : Int)), by simp [h8], ⟨k + 1, r + 1, rfl, hlt, by omega⟩, by simp; omega, ?_⟩
                    have e : ((k + 1 : Nat) : Int).toNat = k + 1 := by simp
                    simp only [e, h8, decide_false, Bool.not_false, Bool.true_and]
                    congr 2
                    push_cast
                    omega
              · have e9 : (h[k] == 0) = false := by simpa using h6
                simp only [e9, cond_false, Option.bind_some, Sum.elim_inl, Option.map_some, hin, h6, if_false]
                cases h7 : goUp h h.length ((k + 1 : Nat) : Int) with
                | inl b =>
                  right
                  have : b = false := by
                    have key : ∀ f a b, goUp h f a = .inl b → b = false := by
                      intro f
                      induction f with
                      | zero => intro a b hh; simp [goUp] at hh
                      | succ f ih =>
                        intro a b hh
                        simp only [goUp] at hh
                        split at hh
                        · split at hh
                          · split at hh
                            · exact ih _ _ hh
                            · simpa using hh.symm
                          · simpa using hh.symm
                        · cases hh
                    exact key _ _ _ h7
                  subst this
                  simp
                | inr a =>
                  by_cases h8 : a > 0
                  · right
                    simp [h8]
                  · left
                    refine ⟨((r : Int), ((k + 1 : Nat) : Int)), by simp [h8], ⟨k + 1, r, rfl, hlt, by omega⟩, by simp; omega, ?_⟩
                    have e : ((k + 1 : Nat) : Int).toNat = k + 1 := by simp
                    simp only [e, h8, decide_false, Bool.not_false, Bool.true_and]
                    congr 2
                    omega
        · right
          have e : k = h.length := by omega
          subst e
          simp only [spec_TreeOk_n16, spec_TreeOk_n3]
          rw [show decide (((h.length : Nat) : Int) < ((h.length : Nat) : Int)) = false from decide_eq_false (by omega)]
          simp [List.drop_of_length_le (show (List.range h.length).length ≤ h.length by simp)])
    simp only [Option.bind_some]
    rw [hloop LL (0, 0) ⟨0, 0, rfl, by omega, by omega⟩ (by simp only [LL]; simp; omega)]
    simp only [Int.toNat_zero, List.drop_zero, Option.bind_some]
    cases (List.range h.length).all (wordOk1 h) with
    | false => simp
    | true =>
      simp only [cond_true, Option.map_some, Sum.elim_inr, Option.bind_some, Sum.elim_inl, spec_TreeOk_n20, Bool.true_and]
      congr 1
      by_cases e : h.count 0 = 1
      · simp [e]
      · have e1 : ((0 : Int) + ((h.count 0 : Nat) : Int) == 1) = false := by rw [beq_eq_false_iff_ne]; omega
        have e2 : (h.count 0 == 1) = false := by rw [beq_eq_false_iff_ne]; exact e
        rw [e2]; exact e1
  · have h1' : (decide ((1 : Int) ≤ ((h.length : Nat) : Int)) && decide (((h.length : Nat) : Int) ≤ 8)) = false := by simpa using h1
    have e : (decide (1 ≤ h.length) && decide (h.length ≤ 8)) = false := by
      simp only [Bool.and_eq_true, decide_eq_true_eq] at h1
      simp only [Bool.and_eq_false_iff, decide_eq_false_iff_not]
      omega
    rw [h1']
    simp [e]

theorem specTree_eq (h : List Int) : spec_TreeOk h = some (treeB h) := by
  rw [specTree_eq0]
  congr 1
  unfold treeB
  have key : (List.range h.length).all (wordOk1 h) = (inRange h && (List.range h.length).all fun k => (climb h h.length (k + 1)).isSome) := by
    cases hr : inRange h with
    | false =>
      rw [Bool.false_and, List.all_eq_false]
      have : ¬ ∀ x ∈ h, okHead h.length x = true := fun hh => by
        have : inRange h = true := List.all_eq_true.2 hh
        rw [hr] at this; cases this
      have ⟨x, hx⟩ := Classical.not_forall.1 this
      have ⟨hm, hb⟩ := Classical.not_imp.1 hx
      obtain ⟨k, hk, rfl⟩ := List.getElem_of_mem hm
      refine ⟨k, by simpa using hk, ?_⟩
      simp [wordOk1, hk, hb]
    | true =>
      rw [Bool.true_and, Bool.eq_iff_iff, List.all_eq_true, List.all_eq_true]
      constructor
      · intro hh k hk
        have hk' : k < h.length := by simpa using hk
        have h1 := hh k hk
        cases hc : (climb h h.length (k + 1)).isSome with
        | true => rfl
        | false =>
          obtain ⟨a, ha, hg⟩ := (goUp_climb hr h.length k hk').2 hc
          have hg' : goUp h h.length ((k : Int) + 1) = .inr a := hg
          simp [wordOk1, hk', hg', ha] at h1
      · intro hh k hk
        have hk' : k < h.length := by simpa using hk
        have h1 := hh k hk
        have h2 := (goUp_climb hr h.length k hk').1
        rw [if_pos h1] at h2
        obtain ⟨h3, h4⟩ := inRange_get hr hk'
        have hok : okHead h.length h[k] = true := by simp [okHead]; omega
        have hself : ¬ h[k] = ((k + 1 : Nat) : Int) := fun e => by
          -- a word that is its own head never comes to the root
          have none : ∀ f, climb h f (k + 1) = none := by
            intro f
            induction f with
            | zero => rfl
            | succ f ih =>
              simp only [climb]
              have : h[k + 1 - 1]? = some h[k] := by simp [hk']
              rw [this]
              simp only
              rw [if_neg (by omega), e]
              simp [ih]
          rw [none] at h1
          cases h1
        have h2' : goUp h h.length ((k : Int) + 1) = .inr 0 := h2
        have hself' : ¬ h[k] = (k : Int) + 1 := hself
        simp [wordOk1, hk', hok, h2', hself']
  rw [key]
  cases inRange h <;> simp [Bool.and_comm, Bool.and_assoc, Bool.and_left_comm]

theorem climb_mono {h : List Int} : ∀ {f w : Nat} {p : Nat × Nat}, climb h f w = some p → climb h (f + 1) w = some p
  | 0, w, p, e => by simp [climb] at e
  | f + 1, w, p, e => by
    simp only [climb] at e
    rw [climb]
    split at e
    · cases e
    · rename_i x hx
      split at e
      · rename_i h0
        simp only [h0, if_true]; exact e
      · rename_i h0
        simp only [h0, if_false]
        obtain ⟨q, hq, rfl⟩ := Option.map_eq_some_iff.1 e
        rw [climb_mono hq]; rfl

theorem climb_le {h : List Int} {f g w : Nat} {p : Nat × Nat} (hfg : f ≤ g) (e : climb h f w = some p) : climb h g w = some p := by
  induction hfg with
  | refl => exact e
  | step _ ih => exact climb_mono ih

theorem climb_lt {h : List Int} : ∀ {f w : Nat} {p : Nat × Nat}, climb h f w = some p → p.2 < f
  | 0, w, p, e => by simp [climb] at e
  | f + 1, w, p, e => by
    simp only [climb] at e
    split at e
    · cases e
    · split at e
      · cases e; simp
      · obtain ⟨q, hq, rfl⟩ := Option.map_eq_some_iff.1 e
        have := climb_lt hq
        simp; omega

theorem climb_root {h : List Int} : ∀ {f w : Nat} {p : Nat × Nat}, climb h f w = some p → h[p.1 - 1]? = some 0
  | 0, w, p, e => by simp [climb] at e
  | f + 1, w, p, e => by
    simp only [climb] at e
    split at e
    · cases e
    · rename_i x hx
      split at e
      · rename_i h0
        cases e
        rw [hx, h0]
      · obtain ⟨q, hq, rfl⟩ := Option.map_eq_some_iff.1 e
        show h[q.1 - 1]? = some 0
        exact climb_root hq

theorem climb_pos {h : List Int} (hr : inRange h = true) : ∀ {f w : Nat} {p : Nat × Nat}, 1 ≤ w → climb h f w = some p → 1 ≤ p.1
  | 0, w, p, _, e => by simp [climb] at e
  | f + 1, w, p, hw, e => by
    simp only [climb] at e
    split at e
    · cases e
    · rename_i x hx
      split at e
      · cases e; exact hw
      · rename_i h0
        obtain ⟨q, hq, rfl⟩ := Option.map_eq_some_iff.1 e
        obtain ⟨hlt, hx'⟩ := List.getElem?_eq_some_iff.1 hx
        have := inRange_get hr hlt
        show 1 ≤ q.1
        exact climb_pos hr (by rw [hx'] at this; omega) hq

/-- What a tree is. -/
structure Tree (h : List Int) : Prop where
  pos : 1 ≤ h.length
  le : h.length ≤ 8
  rng : inRange h = true
  one : h.count 0 = 1
  way : ∀ k, k < h.length → (climb h h.length (k + 1)).isSome = true

theorem tree_iff (h : List Int) : treeB h = true ↔ Tree h := by
  unfold treeB
  simp only [Bool.and_eq_true, decide_eq_true_eq, beq_iff_eq, List.all_eq_true]
  constructor
  · rintro ⟨⟨⟨⟨h1, h2⟩, h3⟩, h4⟩, h5⟩
    exact ⟨h1, h2, h3, h4, fun k hk => h5 k (by simpa using hk)⟩
  · rintro ⟨h1, h2, h3, h4, h5⟩
    exact ⟨⟨⟨⟨h1, h2⟩, h3⟩, h4⟩, fun k hk => h5 k (by simpa using hk)⟩

/-- The head of a word, both from 1 on; 0 for none. -/
def hd (h : List Int) (w : Nat) : Nat := (h.getD (w - 1) 0).toNat

/-- How deep a word is. -/
def dep (h : List Int) (w : Nat) : Nat := ((climb h h.length w).getD (0, 0)).2
def top (h : List Int) : Nat := h.idxOf 0 + 1
theorem top_pos (h : List Int) : 1 ≤ top h := by simp [top]

section
variable {h : List Int} (T : Tree h)
include T

theorem Tree.get {w : Nat} (h1 : 1 ≤ w) (h2 : w ≤ h.length) : h[w - 1]? = some ((hd h w : Nat) : Int) := by
  have hk : w - 1 < h.length := by omega
  have := inRange_get T.rng hk
  rw [List.getElem?_eq_getElem hk, hd, List.getD_eq_getElem?_getD, List.getElem?_eq_getElem hk]
  simp only [Option.getD_some, Option.some.injEq]
  omega

theorem Tree.hd_le {w : Nat} (h1 : 1 ≤ w) (h2 : w ≤ h.length) : hd h w ≤ h.length := by
  have hk : w - 1 < h.length := by omega
  have := inRange_get T.rng hk
  rw [hd, List.getD_eq_getElem?_getD, List.getElem?_eq_getElem hk]
  simp only [Option.getD_some]
  omega

theorem Tree.top_lt : h.idxOf 0 < h.length := by
  rw [List.idxOf_lt_length_iff]
  exact List.count_pos_iff.1 (by rw [T.one]; omega)

theorem Tree.top_le : top h ≤ h.length := T.top_lt

/-- Just one word has no head. -/
theorem Tree.root_unique {i : Nat} (hi : h[i]? = some 0) : i = h.idxOf 0 := by
  have hlt := T.top_lt
  have h0 : h[h.idxOf 0]? = some 0 := by rw [List.getElem?_eq_getElem hlt]; simp
  -- two places would count twice
  have two : ∀ (l : List Int) (i j : Nat), i < j → l[i]? = some 0 → l[j]? = some 0 → 2 ≤ l.count 0 := by
    intro l
    induction l with
    | nil => intro i j _ h1; simp at h1
    | cons a r ih =>
      intro i j hij h1 h2
      cases j with
      | zero => omega
      | succ j =>
        rw [List.count_cons]
        cases i with
        | zero =>
          simp at h1 h2
          have : 0 < r.count 0 := List.count_pos_iff.2 (List.mem_of_getElem? h2)
          rw [h1]
          simp only [beq_self_eq_true, if_true]
          omega
        | succ i =>
          simp at h1 h2
          have := ih i j (by omega) h1 h2
          omega
  rcases Nat.lt_trichotomy i (h.idxOf 0) with hl | he | hg
  · have := two h i _ hl hi h0; have := T.one; omega
  · exact he
  · have := two h _ i hg h0 hi; have := T.one; omega

theorem Tree.hd_zero {w : Nat} (h1 : 1 ≤ w) (h2 : w ≤ h.length) : hd h w = 0 ↔ w = top h := by
  have hg := T.get h1 h2
  constructor
  · intro e
    rw [e] at hg
    have := T.root_unique hg
    unfold top; omega
  · intro e
    have hlt := T.top_lt
    have h0 : h[h.idxOf 0]? = some 0 := by rw [List.getElem?_eq_getElem hlt]; simp
    have : w - 1 = h.idxOf 0 := by unfold top at e; omega
    rw [this, h0] at hg
    simp at hg
    omega

theorem Tree.climb_some {w : Nat} (h1 : 1 ≤ w) (h2 : w ≤ h.length) : climb h h.length w = some (top h, dep h w) := by
  have hs := T.way (w - 1) (by omega)
  rw [show w - 1 + 1 = w by omega] at hs
  obtain ⟨p, hp⟩ := Option.isSome_iff_exists.1 hs
  have hr := climb_root hp
  have h3 := T.root_unique hr
  have h4 := climb_pos T.rng h1 hp
  have e1 : p.1 = top h := by unfold top; omega
  have e2 : dep h w = p.2 := by simp [dep, hp]
  rw [hp, e2, ← e1]

theorem Tree.dep_lt {w : Nat} (h1 : 1 ≤ w) (h2 : w ≤ h.length) : dep h w < h.length := by
  have := climb_lt (T.climb_some h1 h2)
  exact this

theorem Tree.dep_top : dep h (top h) = 0 := by
  have h1 := T.climb_some (top_pos h) T.top_le
  have hg := T.get (top_pos h) T.top_le
  rw [(T.hd_zero (top_pos h) T.top_le).2 rfl] at hg
  obtain ⟨n, hn⟩ : ∃ n, h.length = n + 1 := ⟨h.length - 1, by have := T.pos; omega⟩
  rw [hn] at h1
  simp only [climb, hg] at h1
  simp at h1
  exact h1.symm

theorem Tree.dep_step {w : Nat} (h1 : 1 ≤ w) (h2 : w ≤ h.length) (h3 : hd h w ≠ 0) : dep h w = dep h (hd h w) + 1 := by
  have hc := T.climb_some h1 h2
  have hg := T.get h1 h2
  have hc2 := T.climb_some (w := hd h w) (by omega) (T.hd_le h1 h2)
  obtain ⟨n, hn⟩ : ∃ n, h.length = n + 1 := ⟨h.length - 1, by have := T.pos; omega⟩
  rw [hn] at hc
  simp only [climb, hg] at hc
  rw [if_neg (by omega)] at hc
  simp only [Int.toNat_natCast] at hc
  obtain ⟨q, hq, e⟩ := Option.map_eq_some_iff.1 hc
  have hq2 := climb_le (show n ≤ h.length by omega) hq
  rw [hc2] at hq2
  cases hq2
  simp at e
  exact e.symm

theorem Tree.dep_zero {w : Nat} (h1 : 1 ≤ w) (h2 : w ≤ h.length) : dep h w = 0 ↔ w = top h := by
  constructor
  · intro e
    by_cases h3 : hd h w = 0
    · exact (T.hd_zero h1 h2).1 h3
    · have := T.dep_step h1 h2 h3; omega
  · intro e; rw [e]; exact T.dep_top

end

theorem set_take {l : List Int} {k : Nat} {v : Int} (hk : k < l.length) : (l.set k v).take (k + 1) = l.take k ++ [v] := by
  rw [List.take_set, List.take_add_one, List.getElem?_eq_getElem hk]
  have hl : (l.take k).length = k := by simp; omega
  rw [List.set_append_right _ _ (by omega), hl]
  simp

def dupB (o : List Int) : Bool := (List.range o.length).any fun j => (List.range j).any fun i => o.getD i 0 == o.getD j 0
def orderAll (o : List Int) (m : Int) : Bool := o.all (fun x => decide (1 ≤ x) && decide (x ≤ m)) && !dupB o
def orderB (o : List Int) (m : Int) : Bool := decide (1 ≤ m) && decide (m ≤ 8) && (((o.length : Nat) : Int) == m) && orderAll o m

def OrderP (o : List Int) (m : Int) : Prop := (∀ (k : Nat) (hk : k < o.length), 1 ≤ o[k] ∧ o[k] ≤ m) ∧ ∀ (i j : Nat) (hij : i < j) (hj : j < o.length), o[i] ≠ o[j]

theorem orderAll_iff (o : List Int) (m : Int) : orderAll o m = true ↔ OrderP o m := by
  unfold orderAll dupB OrderP
  simp only [Bool.and_eq_true, List.all_eq_true, decide_eq_true_eq, Bool.not_eq_true', List.any_eq_false, List.mem_range]
  constructor
  · rintro ⟨h1, h2⟩
    refine ⟨fun k hk => h1 _ (List.getElem_mem hk), fun i j hij hj e => ?_⟩
    have := h2 j hj
    rw [List.any_eq_true] at this
    refine this ⟨i, by simpa using hij, ?_⟩
    simp [List.getD, hj, show i < o.length by omega, e]
  · rintro ⟨h1, h2⟩
    refine ⟨fun x hx => ?_, fun j hj => ?_⟩
    · obtain ⟨k, hk, rfl⟩ := List.getElem_of_mem hx
      exact h1 k hk
    · rw [List.any_eq_true]
      rintro ⟨i, hi, e⟩
      have hi' : i < j := by simpa using hi
      simp only [List.getD, List.getElem?_eq_getElem hj, List.getElem?_eq_getElem (show i < o.length by omega), Option.getD_some, beq_iff_eq] at e
      exact h2 i j hi' hj e

theorem orderAll_false {o : List Int} {m : Int} (h : ¬ OrderP o m) : orderAll o m = false := by
  cases e : orderAll o m with
  | false => rfl
  | true => exact absurd ((orderAll_iff o m).1 e) h

theorem mem_take {o : List Int} {k : Nat} {x : Int} (hk : k ≤ o.length) : x ∈ o.take k ↔ ∃ (i : Nat) (hi : i < k), o[i]'(by omega) = x := by
  constructor
  · intro h
    obtain ⟨i, hi, e⟩ := List.getElem_of_mem h
    have hi' : i < k := by simp at hi; omega
    exact ⟨i, hi', by simpa using e⟩
  · rintro ⟨i, hi, e⟩
    have : (o.take k)[i]'(by simp; omega) = x := by simpa using e
    rw [← this]; exact List.getElem_mem _

theorem implOrder_eq (o : List Int) (m : Int) : impl_OrderOk o m = some (orderB o m) := by
  unfold impl_OrderOk impl_OrderOk_n9 impl_OrderOk_n1 impl_OrderOk_n8 impl_OrderOk_n6 impl_OrderOk_n2 impl_OrderOk_n5 impl_OrderOk_n4 impl_OrderOk_n7 orderB
  by_cases h1 : m < 1
  · rw [decide_eq_true h1, show decide (1 ≤ m) = false from decide_eq_false (by omega)]; rfl
  rw [decide_eq_false h1, show decide (1 ≤ m) = true from decide_eq_true (by omega)]
  by_cases h2 : m > 8
  · rw [decide_eq_true h2, show decide (m ≤ 8) = false from decide_eq_false (by omega)]; rfl
  rw [decide_eq_false h2, show decide (m ≤ 8) = true from decide_eq_true (by omega)]
  by_cases h3 : ((o.length : Nat) : Int) = m
  · rw [show (((o.length : Nat) : Int) != m) = false by simp [h3], show (((o.length : Nat) : Int) == m) = true by simp [h3]]
    simp only [cond_false, Option.bind_some, Sum.elim_inl, Bool.true_and]
    have hloop := nloop_run (body := fun (s : Int × (List Bool)) => ((impl_OrderOk_n3 m o o.length s.1 s.2).map (Sum.elim (fun (t : Int × (List Bool)) => Sum.inl (t.1, t.2)) (Sum.elim (fun (t : Bool) => Sum.inr (Sum.inl t)) (fun (t : Unit) => Sum.inr (Sum.inr t)))) : Option ((Int × (List Bool)) ⊕ (Bool ⊕ Unit))))
      (I := fun s => ∃ k : Nat, s.1 = (k : Int) ∧ k ≤ o.length ∧ s.2.length = 9 ∧ (∀ v : Nat, v < 9 → s.2[v]? = some (decide ((v : Int) ∈ o.take k))) ∧ OrderP (o.take k) m) (μ := fun s => o.length - s.1.toNat)
      (f := fun _ => cond (orderAll o m) (.inr ()) (.inl false))
      (by
        rintro ⟨_, seen⟩ ⟨k, rfl, hk, hs, hseen, hP⟩
        simp only at hs hseen
        simp only [impl_OrderOk_n3]
        by_cases hlt : k < o.length
        · rw [show decide ((k : Int) < ((o.length : Nat) : Int)) = true from decide_eq_true (by omega), idx_lt hlt, wrap64 (by omega) (by omega)]
          simp only [cond_true, Option.bind_some]
          by_cases c1 : o[k] < 1
          · right
            rw [decide_eq_true c1, orderAll_false (fun hh => by have := (hh.1 k hlt).1; omega)]
            rfl
          rw [decide_eq_false c1]
          by_cases c2 : o[k] > m
          · right
            rw [decide_eq_true c2, orderAll_false (fun hh => by have := (hh.1 k hlt).2; omega)]
            rfl
          rw [decide_eq_false c2]
          obtain ⟨v, hv⟩ : ∃ v : Nat, o[k] = (v : Int) := ⟨o[k].toNat, by omega⟩
          have hv9 : v < 9 := by omega
          have hin : inb o[k] 9 = some v := by rw [hv]; exact inb_nat hv9
          have hsame : same seen.length 9 = some () := by simp [same, hs]
          simp only [cond_false, hsame, hin, Option.bind_some, hseen v hv9]
          by_cases c3 : (v : Int) ∈ o.take k
          · right
            rw [decide_eq_true c3]
            obtain ⟨i, hi, e⟩ := (mem_take hk).1 c3
            rw [orderAll_false (fun hh => hh.2 i k hi hlt (by rw [e, hv]))]
            rfl
          · left
            rw [decide_eq_false c3]
            refine ⟨(((k + 1 : Nat) : Int), seen.set v true), by simp, ⟨k + 1, rfl, hlt, by simpa using hs, fun u hu => ?_, ?_⟩, by simp; omega, trivial⟩
            · rw [List.take_add_one, List.getElem?_eq_getElem hlt, hv]
              simp only [Option.toList_some, List.mem_append, List.mem_singleton]
              by_cases e : v = u
              · subst e
                simp [hs, hv9]
              · rw [List.getElem?_set_ne e, hseen u hu]
                have : ¬ (u : Int) = (v : Int) := by omega
                simp [this]
            · have hl : (o.take (k + 1)).length = k + 1 := by simp; omega
              refine ⟨fun i hi => ?_, fun i j hij hj => ?_⟩
              · rw [hl] at hi
                rw [List.getElem_take]
                by_cases e : i = k
                · subst e; omega
                · have := hP.1 i (by simp; omega)
                  rwa [List.getElem_take] at this
              · rw [hl] at hj
                rw [List.getElem_take, List.getElem_take]
                by_cases e : j = k
                · subst e
                  intro hh
                  exact c3 ((mem_take hk).2 ⟨i, hij, by rw [hh, hv]⟩)
                · have := hP.2 i j hij (by simp; omega)
                  rwa [List.getElem_take, List.getElem_take] at this
        · right
          have e : k = o.length := by omega
          subst e
          rw [List.take_length] at hP
          rw [show decide (((o.length : Nat) : Int) < ((o.length : Nat) : Int)) = false from decide_eq_false (by omega), (orderAll_iff o m).2 hP]
          rfl)
    rw [hloop LL (0, List.replicate 9 false) ⟨0, by simp, by omega, by simp, fun v hv => by rw [List.getElem?_replicate, if_pos hv]; simp, ⟨fun k hk => by simp at hk, fun i j hij hj => by simp at hj⟩⟩ (by simp only [LL]; simp; omega)]
    cases orderAll o m <;> rfl
  · rw [show (((o.length : Nat) : Int) != m) = true by simp [h3], show (((o.length : Nat) : Int) == m) = false by simp [h3]]
    rfl

/-- The places behind the first k numbers of an order. -/
def placesK (o : List Int) (k : Nat) : List Int := (List.range (o.length + 1)).map fun (v : Nat) => if (v : Int) ∈ o.take k then (o.idxOf (v : Int) : Int) + 1 else 0
def placesL (o : List Int) : List Int := placesK o o.length

theorem placesK_length (o : List Int) (k : Nat) : (placesK o k).length = o.length + 1 := by simp [placesK]
theorem placesK_get (o : List Int) (k v : Nat) (hv : v < o.length + 1) : (placesK o k)[v]? = some (if (v : Int) ∈ o.take k then (o.idxOf (v : Int) : Int) + 1 else 0) := by
  simp [placesK, hv]

theorem idxOf_get {o : List Int} {m : Int} (hP : OrderP o m) {k : Nat} (hk : k < o.length) : o.idxOf o[k] = k := by
  have hm : o[k] ∈ o := List.getElem_mem hk
  have hlt : o.idxOf o[k] < o.length := List.idxOf_lt_length_iff.2 hm
  have he : o[o.idxOf o[k]] = o[k] := by simp
  rcases Nat.lt_trichotomy (o.idxOf o[k]) k with h | h | h
  · exact absurd he (hP.2 _ _ h hk)
  · exact h
  · exact absurd he.symm (hP.2 _ _ h hlt)

theorem placesK_step {o : List Int} (hP : OrderP o (o.length : Nat)) {k v : Nat} (hk : k < o.length) (hv : o[k] = (v : Int)) : (placesK o k).set v ((k + 1 : Nat) : Int) = placesK o (k + 1) := by
  have hr := hP.1 k hk
  apply List.ext_getElem?
  intro u
  by_cases hu : u < o.length + 1
  · rw [placesK_get o (k + 1) u hu]
    rw [List.take_add_one, List.getElem?_eq_getElem hk, hv]
    simp only [Option.toList_some, List.mem_append, List.mem_singleton]
    by_cases e : v = u
    · subst e
      rw [List.getElem?_set_self (by rw [placesK_length]; omega)]
      have hidx : o.idxOf (v : Int) = k := by rw [← hv]; exact idxOf_get hP hk
      simp [hidx]
    · rw [List.getElem?_set_ne e, placesK_get o k u hu]
      have : ¬ (u : Int) = (v : Int) := by omega
      simp [this]
  · rw [List.getElem?_eq_none (by rw [List.length_set, placesK_length]; omega), List.getElem?_eq_none (by rw [placesK_length]; omega)]

theorem placesK_zero (o : List Int) : placesK o 0 = List.replicate (o.length + 1) 0 := by
  apply List.ext_getElem?
  intro u
  by_cases hu : u < o.length + 1
  · rw [placesK_get o 0 u hu, List.getElem?_replicate, if_pos hu]; simp
  · rw [List.getElem?_eq_none (by rw [placesK_length]; omega), List.getElem?_eq_none (by simp; omega)]

theorem places_loop (o : List Int) (hl : o.length ≤ 8) (hP : OrderP o (o.length : Nat)) :
    nloop (fun (s : Int × (List Int)) => ((impl_placesIn_n3 o o.length s.1 s.2).map (Sum.elim (fun (t : Int × (List Int)) => Sum.inl (t.1, t.2)) (fun (t : (List Int)) => Sum.inr t)) : Option ((Int × (List Int)) ⊕ (((List Int)))))) LL (0, List.replicate (o.length + 1) 0) = some (placesL o) := by
  have hloop := nloop_run (body := fun (s : Int × (List Int)) => ((impl_placesIn_n3 o o.length s.1 s.2).map (Sum.elim (fun (t : Int × (List Int)) => Sum.inl (t.1, t.2)) (fun (t : (List Int)) => Sum.inr t)) : Option ((Int × (List Int)) ⊕ (((List Int))))))
    (I := fun s => ∃ k : Nat, s = ((k : Int), placesK o k) ∧ k ≤ o.length) (μ := fun s => o.length - s.1.toNat) (f := fun _ => placesL o)
    (by
      rintro _ ⟨k, rfl, hk⟩
      simp only [impl_placesIn_n3]
      by_cases hlt : k < o.length
      · left
        have hr := hP.1 k hlt
        obtain ⟨v, hv⟩ : ∃ v : Nat, o[k] = (v : Int) := ⟨o[k].toNat, by omega⟩
        refine ⟨(((k + 1 : Nat) : Int), placesK o (k + 1)), ?_, ⟨k + 1, rfl, hlt⟩, by simp; omega, trivial⟩
        rw [show decide ((k : Int) < ((o.length : Nat) : Int)) = true from decide_eq_true (by omega), idx_lt hlt, wrap64 (by omega) (by omega)]
        have hin : inb o[k] (placesK o k).length = some v := by rw [hv, placesK_length]; exact inb_nat (by omega)
        simp only [cond_true, Option.bind_some, hin]
        rw [show (k : Int) + 1 = ((k + 1 : Nat) : Int) by omega, placesK_step hP hlt hv]
        rfl
      · right
        have e : k = o.length := by omega
        subst e
        rw [show decide (((o.length : Nat) : Int) < ((o.length : Nat) : Int)) = false from decide_eq_false (by omega)]
        rfl)
  have := hloop LL (0, placesK o 0) ⟨0, rfl, by omega⟩ (by simp only [LL]; simp; omega)
  rw [placesK_zero] at this
  exact this

theorem implPlaces_eq (o : List Int) (hl : o.length ≤ 8) (hP : OrderP o (o.length : Nat)) : impl_placesIn o = some (placesL o) := by
  unfold impl_placesIn impl_placesIn_n9 impl_placesIn_n1 impl_placesIn_n8 impl_placesIn_n6 impl_placesIn_n2 impl_placesIn_n5 impl_placesIn_n4 impl_placesIn_n7
  rw [wrap64 (by omega) (by omega), show ((o.length : Nat) : Int) + 1 = ((o.length + 1 : Nat) : Int) by omega, mk_nat (by omega)]
  simp only [Option.bind_some]
  rw [places_loop o hl hP]
  rfl

/-- The new head at place k, from 0 on. -/
def newHd (h o : List Int) (k : Nat) : Int := (placesL o).getD (h.getD (o.getD k 0 - 1).toNat 0).toNat 0
def putRow (h o : List Int) : List Int := (List.range o.length).map (newHd h o)
theorem putRow_length (h o : List Int) : (putRow h o).length = o.length := by simp [putRow]
theorem putRow_drop (h o : List Int) {k : Nat} (hk : k < o.length) : (putRow h o).drop k = newHd h o k :: (putRow h o).drop (k + 1) := by
  rw [List.drop_eq_getElem_cons (by rw [putRow_length]; exact hk)]
  simp [putRow]

/-- What is read on the way to a new head. -/
theorem put_reads {h o : List Int} (T : Tree h) (hl : o.length = h.length) (hP : OrderP o (o.length : Nat)) {k : Nat} (hk : k < o.length) :
    ∃ w x : Nat, o[k] = ((w + 1 : Nat) : Int) ∧ w < h.length ∧ h[w]? = some (x : Int) ∧ x < o.length + 1 ∧ (placesL o)[x]? = some (newHd h o k) := by
  have hr := hP.1 k hk
  refine ⟨o[k].toNat - 1, (h[o[k].toNat - 1]'(by omega)).toNat, by omega, by omega, ?_, ?_, ?_⟩
  · have := inRange_get T.rng (k := o[k].toNat - 1) (by omega)
    rw [List.getElem?_eq_getElem (by omega)]
    simp only [Option.some.injEq]
    omega
  · have := inRange_get T.rng (k := o[k].toNat - 1) (by omega); omega
  · have h1 := inRange_get T.rng (k := o[k].toNat - 1) (by omega)
    have hx : (h[o[k].toNat - 1]'(by omega)).toNat < (placesL o).length := by rw [placesL, placesK_length]; omega
    rw [List.getElem?_eq_getElem hx]
    have e1 : o.getD k 0 = o[k] := by simp [List.getD, hk]
    have e2 : h.getD (o[k] - 1).toNat 0 = h[o[k].toNat - 1]'(by omega) := by
      rw [show (o[k] - 1).toNat = o[k].toNat - 1 by omega]
      simp [List.getD, show o[k].toNat - 1 < h.length by omega]
    simp only [newHd, e1, e2]
    simp [List.getD, hx]

theorem implPut_eq (h o : List Int) : impl_PutInOrder h o = some (if treeB h && orderB o h.length then (true, putRow h o) else (false, [])) := by
  unfold impl_PutInOrder impl_PutInOrder_n1
  rw [implTree_eq, implOrder_eq]
  cases hT : treeB h with
  | false => simp
  | true =>
    cases hO : orderB o h.length with
    | false => simp
    | true =>
      have T := (tree_iff h).1 hT
      unfold orderB at hO
      simp only [Bool.and_eq_true, decide_eq_true_eq, beq_iff_eq] at hO
      obtain ⟨⟨_, hlen⟩, hA⟩ := hO
      have hl : o.length = h.length := by omega
      have hle := T.le
      have hP : OrderP o (o.length : Nat) := by rw [hl]; exact (orderAll_iff o _).1 hA
      simp only [Option.bind_some, Bool.not_true, cond_false, implPlaces_eq o (by omega) hP, Bool.and_self, if_true]
      unfold impl_renamed_int impl_renamed_int_n9 impl_renamed_int_n1 impl_renamed_int_n8 impl_renamed_int_n6 impl_renamed_int_n2 impl_renamed_int_n5 impl_renamed_int_n4 impl_renamed_int_n7
      rw [mk_nat (by omega)]
      simp only [Option.bind_some]
      have hloop := nloop_run (body := fun (s : Int × (List Int)) => ((impl_renamed_int_n3 h o o.length s.1 (placesL o) s.2).map (Sum.elim (fun (t : Int × (List Int)) => Sum.inl (t.1, t.2)) (fun (t : (List Int)) => Sum.inr t)) : Option ((Int × (List Int)) ⊕ (((List Int))))))
        (I := fun s => ∃ k : Nat, s.1 = (k : Int) ∧ k ≤ o.length ∧ s.2.length = o.length) (μ := fun s => o.length - s.1.toNat) (f := fun s => s.2.take s.1.toNat ++ (putRow h o).drop s.1.toNat)
        (by
          rintro ⟨_, out⟩ ⟨k, rfl, hk, ho⟩
          simp only at ho
          simp only [impl_renamed_int_n3]
          by_cases hlt : k < o.length
          · left
            obtain ⟨w, x, h1, hw, h2, h3, h4⟩ := put_reads T hl hP hlt
            refine ⟨(((k + 1 : Nat) : Int), out.set k (newHd h o k)), ?_, ⟨k + 1, rfl, hlt, by simpa using ho⟩, by simp; omega, ?_⟩
            · rw [show decide ((k : Int) < ((o.length : Nat) : Int)) = true from decide_eq_true (by omega), idx_lt hlt]
              simp only [cond_true, Option.bind_some]
              rw [h1, wrap64 (x := ((w + 1 : Nat) : Int) - 1) (by omega) (by omega), show ((w + 1 : Nat) : Int) - 1 = (w : Int) by omega, idx_nat, h2, wrap64 (by omega) (by omega)]
              have hin : impl_PutInOrder_1 (x : Int) (placesL o) = some (newHd h o k) := by
                unfold impl_PutInOrder_1 impl_PutInOrder_1_n1
                rw [inb_nat (by rw [placesL, placesK_length]; exact h3)]
                simp only [Option.bind_some, h4]
              simp only [Option.bind_some, hin, inb_nat (show k < out.length by omega)]
              simp
            · simp only [Int.toNat_natCast]
              rw [set_take (by omega), putRow_drop h o hlt]
              simp
          · right
            have e : k = o.length := by omega
            subst e
            rw [show decide (((o.length : Nat) : Int) < ((o.length : Nat) : Int)) = false from decide_eq_false (by omega)]
            simp [List.take_of_length_le (Nat.le_of_eq ho), List.drop_of_length_le (Nat.le_of_eq (putRow_length h o))])
      rw [hloop LL (0, List.replicate o.length 0) ⟨0, by simp, by omega, by simp⟩ (by simp only [LL]; simp; omega)]
      simp

theorem orderP_iff (o : List Int) (m : Int) : OrderP o m ↔ (∀ x ∈ o, 1 ≤ x ∧ x ≤ m) ∧ o.Nodup := by
  unfold OrderP List.Nodup
  rw [List.pairwise_iff_getElem]
  constructor
  · rintro ⟨h1, h2⟩
    refine ⟨fun x hx => ?_, fun i j hi hj hij => h2 i j hij hj⟩
    obtain ⟨k, hk, rfl⟩ := List.getElem_of_mem hx
    exact h1 k hk
  · rintro ⟨h1, h2⟩
    exact ⟨fun k hk => h1 _ (List.getElem_mem hk), fun i j hij hj => h2 i j (by omega) hj hij⟩

theorem order_mem {o : List Int} (hP : OrderP o (o.length : Nat)) {v : Int} (h1 : 1 ≤ v) (h2 : v ≤ (o.length : Nat)) : v ∈ o := by
  rw [orderP_iff] at hP
  obtain ⟨hr, hn⟩ := hP
  apply Classical.byContradiction
  intro hv
  have hn' : (v :: o).Nodup := List.nodup_cons.2 ⟨hv, hn⟩
  have := List.Nodup.length_le_of_subset (l₂ := (List.range o.length).map fun k => ((k + 1 : Nat) : Int)) hn' (by
    intro x hx
    rw [List.mem_map]
    have hx' : 1 ≤ x ∧ x ≤ (o.length : Nat) := by
      rcases List.mem_cons.1 hx with rfl | h
      · exact ⟨h1, h2⟩
      · exact hr x h
    exact ⟨x.toNat - 1, by rw [List.mem_range]; omega, by omega⟩)
  simp at this
  omega

theorem orderB_iff (o : List Int) (m : Int) : orderB o m = true ↔ 1 ≤ m ∧ m ≤ 8 ∧ (o.length : Int) = m ∧ OrderP o m := by
  unfold orderB
  simp only [Bool.and_eq_true, decide_eq_true_eq, beq_iff_eq, orderAll_iff]
  constructor
  · rintro ⟨⟨⟨a, b⟩, c⟩, d⟩; exact ⟨a, b, c, d⟩
  · rintro ⟨a, b, c, d⟩; exact ⟨⟨⟨a, b⟩, c⟩, d⟩

/-- Where a number stands in an order, from 1 on; 0 for none. -/
def pl (o : List Int) (v : Nat) : Nat := ((placesL o).getD v 0).toNat

theorem pl_val {o : List Int} {v : Nat} (hv : v ≤ o.length) : pl o v = if (v : Int) ∈ o then o.idxOf (v : Int) + 1 else 0 := by
  unfold pl
  rw [List.getD_eq_getElem?_getD, placesL, placesK_get _ _ _ (by omega)]
  simp only [Option.getD_some, List.take_length]
  split <;> omega

theorem places_get {o : List Int} {v : Nat} (hv : v ≤ o.length) : (placesL o)[v]? = some ((pl o v : Nat) : Int) := by
  rw [pl_val hv, placesL, placesK_get _ _ _ (by omega)]
  simp only [List.take_length]
  split <;> simp

section
variable {o : List Int} (hP : OrderP o (o.length : Nat))
include hP

theorem pl_zero : pl o 0 = 0 := by
  rw [pl_val (by omega), if_neg]
  intro hm
  obtain ⟨k, hk, e⟩ := List.getElem_of_mem hm
  have := hP.1 k hk
  omega

theorem pl_get {k : Nat} (hk : k < o.length) : pl o o[k].toNat = k + 1 := by
  have := hP.1 k hk
  rw [pl_val (by omega), show ((o[k].toNat : Nat) : Int) = o[k] by omega, if_pos (List.getElem_mem hk), idxOf_get hP hk]

theorem pl_rng {v : Nat} (h1 : 1 ≤ v) (h2 : v ≤ o.length) : 1 ≤ pl o v ∧ pl o v ≤ o.length ∧ o[pl o v - 1]? = some (v : Int) := by
  have hm := order_mem hP (v := (v : Int)) (by omega) (by omega)
  obtain ⟨k, hk, e⟩ := List.getElem_of_mem hm
  have hg := pl_get hP hk
  rw [e, Int.toNat_natCast] at hg
  rw [hg]
  exact ⟨by omega, by omega, by rw [Nat.add_sub_cancel, List.getElem?_eq_getElem hk, e]⟩

theorem order_perm : o.Perm ((List.range o.length).map fun k => ((k + 1 : Nat) : Int)) := by
  have h := (orderP_iff o _).1 hP
  rw [List.perm_ext_iff_of_nodup h.2 (by
    rw [List.Nodup, List.pairwise_map]
    refine List.Pairwise.imp ?_ List.nodup_range
    intro a b hab e
    exact hab (by omega))]
  intro x
  rw [List.mem_map]
  constructor
  · intro hx
    have := h.1 x hx
    exact ⟨x.toNat - 1, by rw [List.mem_range]; omega, by omega⟩
  · rintro ⟨k, hk, rfl⟩
    rw [List.mem_range] at hk
    exact order_mem hP (by omega) (by omega)

end

section
variable {h o : List Int} (T : Tree h) (hl : o.length = h.length) (hP : OrderP o (o.length : Nat))
include T hl hP

theorem put_get {k : Nat} (hk : k < o.length) : (putRow h o)[k]? = some ((pl o (hd h o[k].toNat) : Nat) : Int) := by
  obtain ⟨w, x, e1, hw, e2, hx, e3⟩ := put_reads T hl hP hk
  have hg := T.get (w := w + 1) (by omega) (by omega)
  rw [Nat.add_sub_cancel, e2] at hg
  have hg' : (x : Int) = ((hd h (w + 1) : Nat) : Int) := Option.some.inj hg
  have hx' : x = hd h (w + 1) := by omega
  rw [places_get (by omega)] at e3
  have : (putRow h o)[k]? = some (newHd h o k) := by simp [putRow, hk]
  rw [this, ← e3, hx', e1, Int.toNat_natCast]

theorem put_at {v : Nat} (h1 : 1 ≤ v) (h2 : v ≤ o.length) : (putRow h o)[pl o v - 1]? = some ((pl o (hd h v) : Nat) : Int) := by
  obtain ⟨a, b, c⟩ := pl_rng hP h1 h2
  have hk : pl o v - 1 < o.length := by omega
  rw [put_get T hl hP hk]
  rw [List.getElem?_eq_getElem hk] at c
  rw [Option.some.inj c, Int.toNat_natCast]

theorem pl_hd {v : Nat} (h1 : 1 ≤ v) (h2 : v ≤ o.length) : pl o (hd h v) ≤ o.length ∧ (pl o (hd h v) = 0 ↔ hd h v = 0) := by
  have h3 := T.hd_le h1 (by omega)
  by_cases e : hd h v = 0
  · rw [e, pl_zero hP]; omega
  · obtain ⟨a, b, _⟩ := pl_rng hP (v := hd h v) (by omega) (by omega)
    exact ⟨b, by omega⟩

theorem put_climb : ∀ (f v : Nat), 1 ≤ v → v ≤ o.length → climb (putRow h o) f (pl o v) = (climb h f v).map fun p => (pl o p.1, p.2)
  | 0, v, _, _ => rfl
  | f + 1, v, h1, h2 => by
    have h3 := T.hd_le h1 (by omega)
    obtain ⟨_, hz⟩ := pl_hd T hl hP h1 h2
    simp only [climb, put_at T hl hP h1 h2, T.get h1 (by omega)]
    by_cases e : hd h v = 0
    · rw [if_pos (by omega), if_pos (by omega)]; rfl
    · rw [if_neg (by omega), if_neg (by omega)]
      simp only [Int.toNat_natCast]
      rw [put_climb f (hd h v) (by omega) (by omega)]
      simp only [Option.map_map]
      rfl

theorem put_tree : Tree (putRow h o) := by
  have hlen := putRow_length h o
  have hp := T.pos
  have h8 := T.le
  refine ⟨by omega, by omega, ?_, ?_, fun k hk => ?_⟩
  · unfold inRange
    rw [List.all_eq_true]
    intro x hx
    obtain ⟨k, hk, e⟩ := List.getElem_of_mem hx
    have hk' : k < o.length := by omega
    have hg := put_get T hl hP hk'
    rw [List.getElem?_eq_getElem hk, e] at hg
    have hr := hP.1 k hk'
    obtain ⟨a, _⟩ := pl_hd T hl hP (v := o[k].toNat) (by omega) (by omega)
    rw [Option.some.inj hg, hlen]
    simp only [okHead, Bool.and_eq_true, decide_eq_true_eq]
    omega
  · have e1 : putRow h o = o.map fun x => ((pl o (hd h x.toNat) : Nat) : Int) := by
      apply List.ext_getElem?
      intro k
      by_cases hk : k < o.length
      · rw [put_get T hl hP hk]; simp [hk]
      · rw [List.getElem?_eq_none (by omega), List.getElem?_eq_none (by simp; omega)]
    have e2 : h = (List.range h.length).map fun k => ((hd h (k + 1) : Nat) : Int) := by
      apply List.ext_getElem?
      intro k
      by_cases hk : k < h.length
      · have := T.get (w := k + 1) (by omega) (by omega)
        rw [Nat.add_sub_cancel] at this
        rw [this]; simp [hk]
      · rw [List.getElem?_eq_none (by omega), List.getElem?_eq_none (by simp; omega)]
    have e3 := T.one
    rw [List.count] at e3 ⊢
    rw [e1, List.countP_map, (order_perm hP).countP_eq, List.countP_map]
    rw [e2, List.countP_map] at e3
    refine Eq.trans ?_ e3
    rw [hl]
    apply List.countP_congr
    intro k hk
    rw [List.mem_range] at hk
    obtain ⟨_, hz⟩ := pl_hd T hl hP (v := k + 1) (by omega) (by omega)
    simp only [Function.comp, Int.toNat_natCast, beq_iff_eq]
    omega
  · have hk' : k < o.length := by omega
    have hr := hP.1 k hk'
    have hc := put_climb T hl hP h.length o[k].toNat (by omega) (by omega)
    rw [pl_get hP hk', T.climb_some (w := o[k].toNat) (by omega) (by omega)] at hc
    rw [hlen, hl, hc]
    rfl

end

def arcX (l r l' r' : Int) : Bool := decide ((l < l' ∧ l' < r ∧ r < r') ∨ (l' < l ∧ l < r' ∧ r' < r))
def pairB (a b : Int) : Bool := decide (1 ≤ a ∧ 1 ≤ b ∧ a ≠ b)
theorem some_yes {p : Prop} [Decidable p] (h : p) : some true = some (decide p) := by rw [decide_eq_true h]
theorem some_no {p : Prop} [Decidable p] (h : ¬ p) : some false = some (decide p) := by rw [decide_eq_false h]

theorem arcBetween_eq (a b : Int) : impl_arcBetween a b = some (if pairB a b then (true, imin a b, imax a b) else (false, 0, 0)) := by
  unfold impl_arcBetween impl_arcBetween_n1 pairB
  by_cases h1 : a < 1
  · rw [decide_eq_true h1, decide_eq_false (show ¬ (1 ≤ a ∧ 1 ≤ b ∧ a ≠ b) by omega)]; rfl
  · rw [decide_eq_false h1]
    by_cases h2 : b < 1
    · rw [decide_eq_true h2, decide_eq_false (show ¬ (1 ≤ a ∧ 1 ≤ b ∧ a ≠ b) by omega)]; rfl
    · rw [decide_eq_false h2]
      by_cases h3 : a = b
      · rw [decide_eq_false (show ¬ (1 ≤ a ∧ 1 ≤ b ∧ a ≠ b) by omega), h3]; simp
      · rw [decide_eq_true (show 1 ≤ a ∧ 1 ≤ b ∧ a ≠ b by omega), show (a == b) = false from beq_eq_false_iff_ne.2 h3]; rfl

theorem covers_eq (l r x : Int) : impl_arc_covers l r x = some (decide (l < x ∧ x < r)) := by
  unfold impl_arc_covers impl_arc_covers_n1
  by_cases h1 : l < x
  · rw [decide_eq_true h1]; simp [h1]
  · rw [decide_eq_false h1]; simp [h1]

theorem leavesOut_eq (l r x : Int) : impl_arc_leavesOut l r x = some (decide (x < l ∨ r < x)) := by
  unfold impl_arc_leavesOut impl_arc_leavesOut_n1
  by_cases h1 : x < l
  · rw [decide_eq_true h1]; simp [h1]
  · rw [decide_eq_false h1]; simp [h1]

theorem crosses_eq {l r l' r' : Int} (h : l < r) (h' : l' < r') : impl_arc_crosses l r l' r' = some (arcX l r l' r') := by
  unfold impl_arc_crosses impl_arc_crosses_n1
  simp only [covers_eq, leavesOut_eq, Option.bind_some]
  unfold arcX
  by_cases h1 : l < l' ∧ l' < r
  · rw [decide_eq_true h1]
    by_cases h2 : r' < l ∨ r < r'
    · rw [decide_eq_true h2]; exact some_yes (by omega)
    · rw [decide_eq_false h2]
      by_cases h3 : l < r' ∧ r' < r
      · rw [decide_eq_true h3]
        by_cases h4 : l' < l ∨ r < l'
        · omega
        · rw [decide_eq_false h4]; exact some_no (by omega)
      · rw [decide_eq_false h3]; exact some_no (by omega)
  · rw [decide_eq_false h1]
    by_cases h3 : l < r' ∧ r' < r
    · rw [decide_eq_true h3]
      by_cases h4 : l' < l ∨ r < l'
      · rw [decide_eq_true h4]; exact some_yes (by omega)
      · rw [decide_eq_false h4]; exact some_no (by omega)
    · rw [decide_eq_false h3]; exact some_no (by omega)

theorem nloop_to {σ ω : Type} {body : σ → Option (σ ⊕ ω)} (S : Nat → σ) (n : Nat) (w : ω) (hs : ∀ k, k < n → body (S k) = some (.inl (S (k + 1)))) (he : body (S n) = some (.inr w)) :
    ∀ (N : Nat), n < N → nloop body N (S 0) = some w := by
  have key : ∀ (m k N : Nat), k + m = n → m < N → nloop body N (S k) = some w := by
    intro m
    induction m with
    | zero =>
      intro k N hk hN
      obtain ⟨N', rfl⟩ : ∃ N', N = N' + 1 := ⟨N - 1, by omega⟩
      have : k = n := by omega
      subst this
      simp only [nloop, he, Option.bind_some]
    | succ m ih =>
      intro k N hk hN
      obtain ⟨N', rfl⟩ : ∃ N', N = N' + 1 := ⟨N - 1, by omega⟩
      simp only [nloop, hs k (by omega), Option.bind_some]
      exact ih (k + 1) N' (by omega) (by omega)
  intro N hN
  exact key n 0 N (by omega) hN

/-- A loop that stops at the first place where p does not hold. -/
theorem nloop_while {σ ω : Type} {body : σ → Option (σ ⊕ ω)} (S : Nat → σ) (n : Nat) (p : Nat → Bool) (w : Bool → ω) (hs : ∀ k, k < n → p k = true → body (S k) = some (.inl (S (k + 1))))
    (hb : ∀ k, k < n → p k = false → body (S k) = some (.inr (w false))) (he : body (S n) = some (.inr (w true))) (N : Nat) (hN : n < N) :
    nloop body N (S 0) = some (w ((List.range n).all p)) := by
  have key : ∀ (m k N : Nat), k + m = n → m < N → nloop body N (S k) = some (w ((List.range' k m).all p)) := by
    intro m
    induction m with
    | zero =>
      intro k N hk hN
      obtain ⟨N', rfl⟩ : ∃ N', N = N' + 1 := ⟨N - 1, by omega⟩
      have : k = n := by omega
      subst this
      simp only [nloop, he, Option.bind_some]
      rfl
    | succ m ih =>
      intro k N hk hN
      obtain ⟨N', rfl⟩ : ∃ N', N = N' + 1 := ⟨N - 1, by omega⟩
      rw [List.range'_succ, List.all_cons]
      cases hp : p k with
      | false => simp only [nloop, hb k (by omega) hp, Option.bind_some, Bool.false_and]
      | true =>
        simp only [nloop, hs k (by omega) hp, Option.bind_some, Bool.true_and]
        exact ih (k + 1) N' (by omega) (by omega)
  rw [List.range_eq_range']
  exact key n 0 N (by omega) hN

def maskN (p : Nat → Bool) : Nat → Nat
  | 0 => 0
  | n + 1 => maskN p n ||| (if p n then 2 ^ n else 0)

theorem maskN_lt (p : Nat → Bool) : ∀ n, maskN p n < 2 ^ n
  | 0 => by simp [maskN]
  | n + 1 => by
    have h1 := maskN_lt p n
    have h2 : 2 ^ n < 2 ^ (n + 1) := by rw [Nat.pow_succ]; have := Nat.two_pow_pos n; omega
    simp only [maskN]
    refine Nat.or_lt_two_pow (by omega) ?_
    split
    · exact h2
    · exact Nat.two_pow_pos _

theorem maskN_bit (p : Nat → Bool) (n i : Nat) : (maskN p n).testBit i = (decide (i < n) && p i) := by
  induction n with
  | zero => simp [maskN]
  | succ n ih =>
    simp only [maskN, Nat.testBit_or, ih]
    by_cases e : i = n
    · subst e
      cases hp : p i <;> simp
    · have h1 : decide (i < n + 1) = decide (i < n) := by
        rw [Bool.eq_iff_iff]; simp only [decide_eq_true_eq]; omega
      rw [h1]
      have : (if p n = true then 2 ^ n else 0).testBit i = false := by
        split
        · rw [Nat.testBit_two_pow]; simp; omega
        · simp
      rw [this, Bool.or_false]

theorem eq_maskN {m n : Nat} {p : Nat → Bool} (hm : m < 2 ^ n) (h : ∀ i, i < n → m.testBit i = p i) : m = maskN p n := by
  apply Nat.eq_of_testBit_eq
  intro i
  rw [maskN_bit]
  by_cases hi : i < n
  · rw [h i hi]; simp [hi]
  · rw [Nat.testBit_lt_two_pow (Nat.lt_of_lt_of_le hm (Nat.pow_le_pow_right (by omega) (by omega)))]
    simp [hi]

theorem lt256 {m n : Nat} (h : n ≤ 8) (hm : m < 2 ^ n) : m < 256 :=
  Nat.lt_of_lt_of_le hm (Nat.pow_le_pow_right (n := 2) (by omega) h)

/-- The arcs of the first k words, the lesser end first. -/
def arcsK (h : List Int) (k : Nat) : List (Int × Int) := ((List.range k).filter fun i => decide (h.getD i 0 > 0)).map fun (i : Nat) => (imin ((i : Int) + 1) (h.getD i 0), imax ((i : Int) + 1) (h.getD i 0))
def arcsP (h : List Int) : List (Int × Int) := arcsK h h.length

theorem arcsK_length (h : List Int) (k : Nat) : (arcsK h k).length ≤ k := by
  unfold arcsK
  rw [List.length_map]
  exact Nat.le_trans (List.length_filter_le _ _) (by simp)

theorem arcsK_succ (h : List Int) (k : Nat) : arcsK h (k + 1) = if h.getD k 0 > 0 then arcsK h k ++ [(imin ((k : Int) + 1) (h.getD k 0), imax ((k : Int) + 1) (h.getD k 0))] else arcsK h k := by
  unfold arcsK
  have hf : List.filter (fun i => decide (h.getD i 0 > 0)) [k] = if decide (h.getD k 0 > 0) = true then [k] else [] := by simp only [List.filter_cons, List.filter_nil]
  rw [List.range_succ, List.filter_append, List.map_append, hf]
  by_cases e : h.getD k 0 > 0
  · rw [if_pos e, if_pos (decide_eq_true e)]; rfl
  · rw [if_neg e, if_neg (fun x => e (of_decide_eq_true x))]
    exact List.append_nil _

def asArc (p : Int × Int) : Int × Int × Unit := (p.1, p.2, ())

theorem Tree.getD_hd {h : List Int} (T : Tree h) {k : Nat} (hk : k < h.length) : h.getD k 0 = ((hd h (k + 1) : Nat) : Int) := by
  have hg := T.get (w := k + 1) (by omega) (by omega)
  rw [Nat.add_sub_cancel] at hg
  rw [List.getD_eq_getElem?_getD, hg]; rfl

/-- No word is its own head. -/
theorem Tree.hd_other {h : List Int} (T : Tree h) {w : Nat} (h1 : 1 ≤ w) (h2 : w ≤ h.length) : hd h w ≠ w := by
  intro e
  have := T.dep_step h1 h2 (by omega)
  rw [e] at this
  omega

theorem implArcs_eq {h : List Int} (T : Tree h) : impl_arcsOf h = some ((arcsP h).map asArc) := by
  have e : impl_arcsOf h = impl_arcsOf_n9 h := by unfold impl_arcsOf; rfl
  have hle := T.le
  rw [e]
  unfold impl_arcsOf_n9 impl_arcsOf_n1 impl_arcsOf_n8 impl_arcsOf_n6 impl_arcsOf_n2 impl_arcsOf_n5 impl_arcsOf_n4 impl_arcsOf_n7
  have hmk : mk 0 ((h.length : Nat) : Int) = some 0 := by
    simp only [mk]
    rw [if_pos (by omega)]
    rfl
  have hloop := nloop_to (body := fun (s : Int × (List (Int × Int × Unit))) => ((impl_arcsOf_n3 h h.length s.1 s.2).map (Sum.elim (fun (t : Int × (List (Int × Int × Unit))) => Sum.inl (t.1, t.2)) (fun (t : (List (Int × Int × Unit))) => Sum.inr t)) : Option ((Int × (List (Int × Int × Unit))) ⊕ (((List (Int × Int × Unit)))))))
    (fun k => ((k : Int), (arcsK h k).map asArc)) h.length ((arcsP h).map asArc)
    (by
      intro k hk
      have hlen := arcsK_length h k
      have hg := T.getD_hd hk
      have hi : idx h (k : Int) = some ((hd h (k + 1) : Nat) : Int) := by
        rw [idx_lt hk, ← hg]; simp [List.getD, hk]
      have hne := T.hd_other (w := k + 1) (by omega) (by omega)
      have hh := T.hd_le (w := k + 1) (by omega) (by omega)
      simp only [impl_arcsOf_n3]
      rw [show decide ((k : Int) < ((h.length : Nat) : Int)) = true from decide_eq_true (by omega), hi, wrap64 (x := (k : Int) + 1) (by omega) (by omega), arcsK_succ, hg]
      simp only [cond_true, Option.bind_some, arcBetween_eq]
      by_cases e : hd h (k + 1) = 0
      · have hp : pairB ((k : Int) + 1) ((hd h (k + 1) : Nat) : Int) = false := decide_eq_false (by omega)
        rw [hp, if_neg (show ¬ ((hd h (k + 1) : Nat) : Int) > 0 by omega)]
        rfl
      · have hp : pairB ((k : Int) + 1) ((hd h (k + 1) : Nat) : Int) = true := decide_eq_true (by omega)
        rw [hp, if_pos (show ((hd h (k + 1) : Nat) : Int) > 0 by omega), if_pos rfl]
        simp only [cond_true]
        rw [room_le (by simp; omega)]
        simp [asArc])
    (by
      simp only [impl_arcsOf_n3]
      rw [show decide (((h.length : Nat) : Int) < ((h.length : Nat) : Int)) = false from decide_eq_false (by omega)]
      rfl)
  have hl2 := hloop LL (by simp only [LL]; omega)
  rw [hmk]
  simp only [Option.bind_some]
  rw [show ((0 : Int), (List.replicate 0 ((0 : Int), ((0 : Int), ())))) = (((0 : Nat) : Int), (arcsK h 0).map asArc) from rfl, hl2]
  rfl

/-- The arc of a word that has a head. -/
theorem mem_arcs {h : List Int} (T : Tree h) {p : Int × Int} : p ∈ arcsP h ↔ ∃ w, 1 ≤ w ∧ w ≤ h.length ∧ hd h w ≠ 0 ∧ p = (imin (w : Int) ((hd h w : Nat) : Int), imax (w : Int) ((hd h w : Nat) : Int)) := by
  unfold arcsP arcsK
  rw [List.mem_map]
  constructor
  · rintro ⟨i, hi, rfl⟩
    rw [List.mem_filter, List.mem_range, decide_eq_true_eq] at hi
    rw [T.getD_hd hi.1] at hi ⊢
    refine ⟨i + 1, by omega, by omega, by omega, ?_⟩
    rw [show ((i + 1 : Nat) : Int) = (i : Int) + 1 by omega]
  · rintro ⟨w, h1, h2, h3, rfl⟩
    refine ⟨w - 1, ?_, ?_⟩
    · rw [List.mem_filter, List.mem_range, decide_eq_true_eq, T.getD_hd (by omega), show w - 1 + 1 = w by omega]
      omega
    · rw [T.getD_hd (show w - 1 < h.length by omega), show w - 1 + 1 = w by omega, show ((w - 1 : Nat) : Int) + 1 = (w : Int) by omega]

theorem arc_ends {h : List Int} (T : Tree h) {p : Int × Int} (hp : p ∈ arcsP h) : 1 ≤ p.1 ∧ p.1 < p.2 ∧ p.2 ≤ (h.length : Nat) := by
  obtain ⟨w, h1, h2, h3, rfl⟩ := (mem_arcs T).1 hp
  have hh := T.hd_le h1 h2
  have hne := T.hd_other h1 h2
  unfold imin imax
  simp only
  split <;> split <;> omega

def crossP (p q : Int × Int) : Bool := arcX p.1 p.2 q.1 q.2

/-- How many pairs of a list cross. -/
def pairsN (X : Int × Int → Int × Int → Bool) : List (Int × Int) → Nat
  | [] => 0
  | a :: r => r.countP (X a) + pairsN X r

theorem pairsN_le (X : Int × Int → Int × Int → Bool) : ∀ l, pairsN X l ≤ l.length * l.length
  | [] => by simp [pairsN]
  | a :: r => by
    simp only [pairsN, List.length_cons]
    have h1 := pairsN_le X r
    have h2 : r.countP (X a) ≤ r.length := List.countP_le_length
    rw [Nat.add_mul, Nat.mul_add]
    omega

def crossN (h : List Int) : Nat := pairsN crossP (arcsP h)
def crossingsI (h : List Int) : Int := if treeB h then (crossN h : Int) else -1

theorem pairs_eq (A : List (Int × Int)) (hA : A.length ≤ 8) (hX : ∀ p ∈ A, p.1 < p.2) : impl_countPairs_impl_arc (A.map asArc) = some ((pairsN crossP A : Nat) : Int) := by
  have e : impl_countPairs_impl_arc (A.map asArc) = impl_countPairs_impl_arc_n18 (A.map asArc) := by unfold impl_countPairs_impl_arc; rfl
  rw [e]
  unfold impl_countPairs_impl_arc_n18 impl_countPairs_impl_arc_n1 impl_countPairs_impl_arc_n17 impl_countPairs_impl_arc_n15 impl_countPairs_impl_arc_n2 impl_countPairs_impl_arc_n14 impl_countPairs_impl_arc_n13 impl_countPairs_impl_arc_n16
  have hcount : ∀ (a : Int × Int) (l : List (Int × Int)), l.countP (crossP a) ≤ l.length := fun a l => List.countP_le_length
  have hbig := pairsN_le crossP A
  have h64 : A.length * A.length ≤ 8 * 8 := Nat.mul_le_mul hA hA
  have hinner : ∀ (a : Int × Int) (l : List (Int × Int)) (c : Nat), a.1 < a.2 → (∀ p ∈ l, p.1 < p.2) → l.length ≤ 8 → c ≤ 1000 →
      impl_countPairs_impl_arc_n7 (c : Int) (l.map asArc) ((l.length : Nat) : Int) a.1 a.2 = some ((c + l.countP (crossP a) : Nat) : Int) := fun a l c ha hl h8 hc => by
    unfold impl_countPairs_impl_arc_n7 impl_countPairs_impl_arc_n6
    have hloop := nloop_to (body := fun (s : Int × Int) => ((impl_countPairs_impl_arc_n5 s.1 (l.map asArc) l.length s.2 a.1 a.2).map (Sum.elim (fun (t : Int × Int) => Sum.inl (t.1, t.2)) (fun (t : Int) => Sum.inr t)) : Option ((Int × Int) ⊕ (Int))))
      (fun j => (((c + (l.take j).countP (crossP a) : Nat) : Int), (j : Int))) l.length ((c + l.countP (crossP a) : Nat) : Int)
      (by
        intro j hj
        have hcj : (l.take j).countP (crossP a) ≤ j := Nat.le_trans (hcount a _) (by simp; omega)
        have hi : idx (l.map asArc) (j : Int) = some (asArc l[j]) := by rw [idx_nat]; simp [hj]
        simp only [impl_countPairs_impl_arc_n5]
        rw [show decide ((j : Int) < ((l.length : Nat) : Int)) = true from decide_eq_true (by omega), hi, wrap64 (x := (j : Int) + 1) (by omega) (by omega), wrap64 (by omega) (by omega)]
        simp only [cond_true, Option.bind_some, asArc]
        rw [crosses_eq ha (hl l[j] (List.getElem_mem hj)), List.take_add_one, List.getElem?_eq_getElem hj]
        simp only [Option.bind_some, Option.toList_some, List.countP_append, List.countP_cons, List.countP_nil]
        have ex : arcX a.1 a.2 l[j].1 l[j].2 = crossP a l[j] := rfl
        rw [ex]
        cases crossP a l[j] <;> rfl)
      (by
        simp only [impl_countPairs_impl_arc_n5]
        rw [show decide (((l.length : Nat) : Int) < ((l.length : Nat) : Int)) = false from decide_eq_false (by omega), List.take_length]
        rfl)
    have hl2 := hloop LL (by simp only [LL]; omega)
    rw [List.take_zero, List.countP_nil] at hl2
    rw [show ((c : Int), (0 : Int)) = (((c + 0 : Nat) : Int), ((0 : Nat) : Int)) from rfl, hl2]
    rfl
  have hsum : ∀ k, k ≤ A.length → ∃ c : Nat, c + pairsN crossP (A.drop k) = pairsN crossP A := by
    intro k
    induction k with
    | zero => exact fun _ => ⟨0, by simp⟩
    | succ k ih =>
      intro hk
      obtain ⟨c, hc⟩ := ih (by omega)
      rw [List.drop_eq_getElem_cons (show k < A.length by omega)] at hc
      simp only [pairsN] at hc
      exact ⟨c + (A.drop (k + 1)).countP (crossP A[k]), by omega⟩
  have hloop := nloop_run (body := fun (s : Int × Int) => ((impl_countPairs_impl_arc_n12 (A.map asArc) s.1 (A.map asArc).length s.2).map (Sum.elim (fun (t : Int × Int) => Sum.inl (t.1, t.2)) (fun (t : Int) => Sum.inr t)) : Option ((Int × Int) ⊕ (Int))))
    (I := fun s => ∃ k c : Nat, s = ((c : Int), (k : Int)) ∧ k ≤ A.length ∧ c + pairsN crossP (A.drop k) = pairsN crossP A) (μ := fun s => A.length - s.2.toNat) (f := fun _ => ((pairsN crossP A : Nat) : Int))
    (by
      rintro _ ⟨k, c, rfl, hk, hc⟩
      simp only [impl_countPairs_impl_arc_n12, impl_countPairs_impl_arc_n3, List.length_map]
      by_cases hlt : k < A.length
      · left
        rw [show decide ((k : Int) < ((A.length : Nat) : Int)) = true from decide_eq_true (by omega)]
        have hi : idx (A.map asArc) (k : Int) = some (asArc A[k]) := by rw [idx_nat]; simp [hlt]
        have hinc : inc (IntKind.wrap .i64 ((k : Int) + 1)) (A.map asArc).length = some (k + 1) := by
          rw [wrap64 (by omega) (by omega)]
          simp only [inc, List.length_map]
          rw [if_pos (by omega)]
          congr 1
        have hdr : ((A.map asArc).take A.length).drop (k + 1) = (A.drop (k + 1)).map asArc := by rw [List.take_of_length_le (by simp), List.map_drop]
        rw [List.drop_eq_getElem_cons hlt] at hc
        simp only [pairsN] at hc
        simp only [cond_true, Option.bind_some, Sum.elim_inl]
        unfold impl_countPairs_impl_arc_n11 impl_countPairs_impl_arc_n9 impl_countPairs_impl_arc_n8 impl_countPairs_impl_arc_n4 impl_countPairs_impl_arc_n10
        rw [hi]
        simp only [Option.bind_some]
        rw [hinc]
        simp only [Option.bind_some, hdr, List.length_map, asArc]
        rw [hinner A[k] (A.drop (k + 1)) c (hX _ (List.getElem_mem hlt)) (fun p hp => hX p (List.mem_of_mem_drop hp)) (by simp; omega) (by omega), wrap64 (by omega) (by omega)]
        exact ⟨(((c + (A.drop (k + 1)).countP (crossP A[k]) : Nat) : Int), ((k + 1 : Nat) : Int)), rfl, ⟨k + 1, _, rfl, hlt, by omega⟩, by simp; omega, trivial⟩
      · right
        have ek : k = A.length := by omega
        subst ek
        rw [show decide (((A.length : Nat) : Int) < ((A.length : Nat) : Int)) = false from decide_eq_false (by omega)]
        rw [List.drop_length] at hc
        simp only [pairsN] at hc
        simp only [cond_false, Option.bind_some, Sum.elim_inr, Option.map_some]
        congr 3)
  simp only [Option.bind_some]
  rw [hloop LL (0, 0) ⟨0, 0, rfl, by omega, by simp⟩ (by simp only [LL]; simp; omega)]
  rfl

theorem implCrossings_eq (h : List Int) : impl_CrossingsOf h = some (crossingsI h) := by
  have e : impl_CrossingsOf h = impl_CrossingsOf_n1 h := by unfold impl_CrossingsOf; rfl
  rw [e]
  unfold impl_CrossingsOf_n1 crossingsI
  rw [implTree_eq]
  cases hT : treeB h with
  | false => rfl
  | true =>
    have T := (tree_iff h).1 hT
    have hl := arcsK_length h h.length
    have hle := T.le
    simp only [Option.bind_some, Bool.not_true, cond_false, implArcs_eq T, if_true]
    rw [pairs_eq (arcsP h) (by unfold arcsP; omega) (fun p hp => (arc_ends T hp).2.1)]
    rfl

theorem wrapu64 {x : Int} (h1 : 0 ≤ x) (h2 : x < 18446744073709551616) : IntKind.wrap .u64 x = x := by
  simp only [IntKind.wrap, IntKind.bits, IntKind.signed]
  simp
  omega

theorem ofInt_nat {a : Nat} (h : a < 18446744073709551616) : (BitVec.ofInt 64 (a : Int)).toNat = a := by
  rw [BitVec.toNat_ofInt]; omega

theorem ioru {a b : Nat} (ha : a < 2 ^ 62) (hb : b < 2 ^ 62) : ior .u64 (a : Int) (b : Int) = ((a ||| b : Nat) : Int) := by
  have h := Nat.or_lt_two_pow ha hb
  show IntKind.wrap .u64 ((BitVec.ofInt 64 (a : Int) ||| BitVec.ofInt 64 (b : Int)).toNat : Int) = _
  rw [BitVec.toNat_or, ofInt_nat (by omega), ofInt_nat (by omega), wrapu64 (by omega) (by omega)]
theorem iandu {a b : Nat} (ha : a < 2 ^ 62) (hb : b < 2 ^ 62) : iand .u64 (a : Int) (b : Int) = ((a &&& b : Nat) : Int) := by
  have h : a &&& b < 2 ^ 62 := Nat.and_lt_two_pow a hb
  show IntKind.wrap .u64 ((BitVec.ofInt 64 (a : Int) &&& BitVec.ofInt 64 (b : Int)).toNat : Int) = _
  rw [BitVec.toNat_and, ofInt_nat (by omega), ofInt_nat (by omega), wrapu64 (by omega) (by omega)]
theorem all_lt {n : Nat} {p : Nat → Bool} (h : (List.range n).all p = true) {i : Nat} (hi : i < n) : p i = true :=
  List.all_eq_true.1 h i (List.mem_range.2 hi)

theorem only_tab : ((List.range 8).all fun i => impl_only ((i : Int) + 1) == some ((2 ^ i : Nat) : Int)) = true := by decide +kernel
theorem only_eq {w : Nat} (h1 : 1 ≤ w) (h2 : w ≤ 8) : impl_only (w : Int) = some ((2 ^ (w - 1) : Nat) : Int) := by
  have h := all_lt only_tab (i := w - 1) (by omega)
  rw [show ((w - 1 : Nat) : Int) + 1 = (w : Int) by omega] at h
  simpa using h

theorem pow_lt256 {w : Nat} (h : w ≤ 8) (h1 : 1 ≤ w) : 2 ^ (w - 1) < 256 := by
  have : 2 ^ (w - 1) < 2 ^ 8 := Nat.pow_lt_pow_right (by omega) (by omega)
  simpa using this

/-- The words of a set, in ascending order. -/
def wordsL (m : Nat) : List Int := ((List.range 8).filter fun i => m.testBit i).map fun i => ((i + 1 : Nat) : Int)

theorem filter_upto (p : Nat → Bool) (n : Nat) : ∀ N, n ≤ N → (List.range N).filter (fun i => decide (i < n) && p i) = (List.range n).filter p
  | 0, h => by
    have : n = 0 := by omega
    subst this; rfl
  | N + 1, h => by
    by_cases e : n = N + 1
    · subst e
      apply List.filter_congr
      intro i hi
      rw [List.mem_range] at hi
      simp [hi]
    · rw [List.range_succ, List.filter_append, filter_upto p n N (by omega)]
      have : ¬ N < n := by omega
      simp [this]

theorem wordsL_mask (p : Nat → Bool) {n : Nat} (h : n ≤ 8) : wordsL (maskN p n) = ((List.range n).filter p).map fun i => ((i + 1 : Nat) : Int) := by
  unfold wordsL
  rw [← filter_upto p n 8 h]
  congr 1
  apply List.filter_congr
  intro i _
  rw [maskN_bit]

theorem mem_wordsL {p : Nat → Bool} {n : Nat} (h : n ≤ 8) {x : Int} : x ∈ wordsL (maskN p n) ↔ ∃ i, i < n ∧ p i = true ∧ x = ((i + 1 : Nat) : Int) := by
  rw [wordsL_mask p h, List.mem_map]
  constructor
  · rintro ⟨i, hi, e⟩
    rw [List.mem_filter, List.mem_range] at hi
    exact ⟨i, hi.1, hi.2, e.symm⟩
  · rintro ⟨i, h1, h2, e⟩
    exact ⟨i, by rw [List.mem_filter, List.mem_range]; exact ⟨h1, h2⟩, e.symm⟩

theorem wordsL_length_le (m : Nat) : (wordsL m).length ≤ 8 := by
  unfold wordsL
  rw [List.length_map]
  exact Nat.le_trans (List.length_filter_le _ _) (by simp)

/-- Who has a head. -/
def headB (h : List Int) (v : Int) (i : Nat) : Bool := h.getD i 0 == v

theorem dependents_eq (h : List Int) (v : Int) (hl : h.length ≤ 8) : impl_dependents h v = some ((maskN (headB h v) h.length : Nat) : Int) := by
  have e : impl_dependents h v = impl_dependents_n9 h v := by unfold impl_dependents; rfl
  rw [e]
  unfold impl_dependents_n9 impl_dependents_n8 impl_dependents_n6 impl_dependents_n2 impl_dependents_n5 impl_dependents_n4 impl_dependents_n1
  have hloop := nloop_to (body := fun (s : Int × Int) => ((impl_dependents_n3 h v s.1 h.length s.2).map (Sum.elim (fun (t : Int × Int) => Sum.inl (t.1, t.2)) (fun (t : Int) => Sum.inr t)) : Option ((Int × Int) ⊕ (Int))))
    (fun k => (((maskN (headB h v) k : Nat) : Int), (k : Int))) h.length ((maskN (headB h v) h.length : Nat) : Int)
    (by
      intro k hk
      have hb : headB h v k = (h[k] == v) := by simp [headB, List.getD, hk]
      have h1 := maskN_lt (headB h v) k
      have h2 : (2 : Nat) ^ k < 2 ^ 62 := Nat.pow_lt_pow_right (by omega) (by omega)
      simp only [impl_dependents_n3]
      rw [show decide ((k : Int) < ((h.length : Nat) : Int)) = true from decide_eq_true (by omega), idx_lt hk, wrap64 (by omega) (by omega), show (k : Int) + 1 = ((k + 1 : Nat) : Int) by omega,
        only_eq (by omega) (by omega), Nat.add_sub_cancel]
      simp only [cond_true, Option.bind_some, ← hb, maskN]
      rw [ioru (by omega) h2]
      cases headB h v k with
      | true => rfl
      | false => simp)
    (by
      simp only [impl_dependents_n3]
      rw [show decide (((h.length : Nat) : Int) < ((h.length : Nat) : Int)) = false from decide_eq_false (by omega)]
      rfl)
  simp only [Option.bind_some]
  have := hloop LL (by simp only [LL]; omega)
  simp only [maskN] at this
  rw [show (((0 : Nat) : Int), ((0 : Nat) : Int)) = ((0 : Int), (0 : Int)) from rfl] at this
  rw [this]
  rfl

theorem list_tab : ((List.range 256).all fun m => impl_wordSet_list (m : Int) == some (wordsL m)) = true := by decide +kernel
theorem list_eq {m : Nat} (h : m < 256) : impl_wordSet_list (m : Int) = some (wordsL m) := by simpa using all_lt list_tab h

def rootI (h : List Int) : Int := if treeB h then (top h : Int) else -1

theorem implRoot_eq (h : List Int) : impl_RootOf h = some (rootI h) := by
  unfold impl_RootOf impl_RootOf_n7 impl_RootOf_n1 impl_RootOf_n6 impl_RootOf_n4 impl_RootOf_n3 rootI
  rw [implTree_eq]
  cases hT : treeB h with
  | false => simp
  | true =>
    have T := (tree_iff h).1 hT
    simp only [Option.bind_some, Bool.not_true, cond_false, Sum.elim_inl, if_true]
    have hloop := nloop_run (body := fun (s : Int × Int) => ((impl_RootOf_n2 h s.1 s.2).map (Sum.elim (fun (t : Int × Int) => Sum.inl (t.1, t.2)) (fun (t : Int × Int) => Sum.inr t)) : Option ((Int × Int) ⊕ ((Int × Int)))))
      (I := fun s => ∃ k i : Nat, s = (((k + 1 : Nat) : Int), (i : Int)) ∧ k < h.length ∧ i + dep h (k + 1) < h.length) (μ := fun s => dep h s.1.toNat)
      (f := fun s => ((top h : Int), s.2 + (dep h s.1.toNat : Int)))
      (by
        rintro _ ⟨k, i, rfl, hk, hi⟩
        have hle := T.le
        simp only [impl_RootOf_n2]
        rw [up_eq h k i hk (by omega) (by omega)]
        have hg := T.get (w := k + 1) (by omega) (by omega)
        rw [show k + 1 - 1 = k by omega, List.getElem?_eq_getElem hk] at hg
        have hg' : h[k] = ((hd h (k + 1) : Nat) : Int) := by simpa using hg
        by_cases e : hd h (k + 1) = 0
        · right
          have ht := (T.hd_zero (w := k + 1) (by omega) (by omega)).1 e
          have hd0 : dep h (k + 1) = 0 := by rw [ht]; exact T.dep_top
          have hd0' : dep h (((k + 1 : Nat) : Int)).toNat = 0 := hd0
          rw [if_pos (by omega)]
          simp only [Option.bind_some, cond_false, Option.map_some, Sum.elim_inr, hd0']
          rw [← ht]
          simp
        · left
          have hs := T.dep_step (w := k + 1) (by omega) (by omega) e
          have hle2 := T.hd_le (w := k + 1) (by omega) (by omega)
          rw [if_neg (by omega)]
          refine ⟨(h[k], ((i + 1 : Nat) : Int)), by simp, ⟨hd h (k + 1) - 1, i + 1, ?_, by omega, ?_⟩, ?_, ?_⟩
          · rw [hg', show hd h (k + 1) - 1 + 1 = hd h (k + 1) by omega]
          · rw [show hd h (k + 1) - 1 + 1 = hd h (k + 1) by omega]; omega
          · simp only [hg', Int.toNat_natCast]; omega
          · simp only [hg', Int.toNat_natCast]
            rw [hs]
            simp; omega)
    rw [hloop LL (1, 0) ⟨0, 0, rfl, by have := T.pos; omega, by have := T.dep_lt (w := 0 + 1) (by omega) (by have := T.pos; omega); omega⟩ (by
      have := T.dep_lt (w := 1) (by omega) T.pos; have := T.le; simp only [LL]; simp; omega)]
    simp [impl_RootOf_n5]

/-- A word is under another one: from head to head one comes to it. -/
inductive Und (h : List Int) : Nat → Nat → Prop
  | refl {a : Nat} (h1 : 1 ≤ a) (h2 : a ≤ h.length) : Und h a a
  | step {a b : Nat} (h1 : 1 ≤ a) (h2 : a ≤ h.length) (h3 : hd h a ≠ 0) (u : Und h (hd h a) b) : Und h a b

theorem Tree.climbInd {h : List Int} (T : Tree h) {P : Nat → Prop} (h0 : P (top h)) (hs : ∀ w, 1 ≤ w → w ≤ h.length → hd h w ≠ 0 → P (hd h w) → P w) : ∀ w, 1 ≤ w → w ≤ h.length → P w := by
  have key : ∀ (d w : Nat), dep h w = d → 1 ≤ w → w ≤ h.length → P w := by
    intro d
    induction d with
    | zero =>
      intro w e h1 h2
      rw [(T.dep_zero h1 h2).1 e]; exact h0
    | succ d ih =>
      intro w e h1 h2
      have hne : hd h w ≠ 0 := fun e0 => by
        have := (T.dep_zero h1 h2).2 ((T.hd_zero h1 h2).1 e0)
        omega
      have := T.dep_step h1 h2 hne
      exact hs w h1 h2 hne (ih _ (by omega) (by omega) (T.hd_le h1 h2))
  intro w
  exact key _ w rfl

theorem Tree.und_rng {h : List Int} (T : Tree h) {a b : Nat} (u : Und h a b) : (1 ≤ a ∧ a ≤ h.length) ∧ (1 ≤ b ∧ b ≤ h.length) := by
  induction u with
  | refl h1 h2 => exact ⟨⟨h1, h2⟩, h1, h2⟩
  | step h1 h2 h3 u ih => exact ⟨⟨h1, h2⟩, ih.2⟩

theorem Tree.und_hd {h : List Int} (T : Tree h) {a : Nat} (h1 : 1 ≤ a) (h2 : a ≤ h.length) (h3 : hd h a ≠ 0) : Und h a (hd h a) :=
  .step h1 h2 h3 (.refl (by omega) (T.hd_le h1 h2))

theorem Tree.und_top {h : List Int} (T : Tree h) {a : Nat} (h1 : 1 ≤ a) (h2 : a ≤ h.length) : Und h a (top h) :=
  T.climbInd (P := fun w => Und h w (top h)) (.refl (top_pos h) T.top_le) (fun w a b c d => .step a b c d) a h1 h2

theorem Tree.und_trans {h : List Int} (T : Tree h) {a b c : Nat} (u : Und h a b) (v : Und h b c) : Und h a c := by
  induction u with
  | refl => exact v
  | step h1 h2 h3 u ih => exact .step h1 h2 h3 (ih v)

theorem Tree.und_dep {h : List Int} (T : Tree h) {a b : Nat} (u : Und h a b) : dep h b ≤ dep h a ∧ (dep h b = dep h a → a = b) := by
  induction u with
  | refl => exact ⟨Nat.le_refl _, fun _ => rfl⟩
  | step h1 h2 h3 u ih =>
    have := T.dep_step h1 h2 h3
    exact ⟨by omega, fun e => by omega⟩

theorem Tree.und_anti {h : List Int} (T : Tree h) {a b : Nat} (u : Und h a b) (v : Und h b a) : a = b := by
  have h1 := T.und_dep u
  have h2 := T.und_dep v
  exact h1.2 (by omega)

theorem Tree.und_iff {h : List Int} (T : Tree h) {a b : Nat} (h1 : 1 ≤ a) (h2 : a ≤ h.length) : Und h a b ↔ a = b ∨ (hd h a ≠ 0 ∧ Und h (hd h a) b) := by
  constructor
  · intro u
    cases u with
    | refl => exact .inl rfl
    | step _ _ h3 u => exact .inr ⟨h3, u⟩
  · rintro (rfl | ⟨h3, u⟩)
    · exact .refl h1 h2
    · exact .step h1 h2 h3 u

theorem Tree.und_lin {h : List Int} (T : Tree h) {a b c : Nat} (u : Und h a b) (v : Und h a c) : Und h b c ∨ Und h c b := by
  induction u with
  | refl => exact .inl v
  | step h1 h2 h3 u ih =>
    rcases (T.und_iff h1 h2).1 v with rfl | ⟨_, v'⟩
    · exact .inr (.step h1 h2 h3 u)
    · exact ih v'

theorem Tree.und_child {h : List Int} (T : Tree h) {a b : Nat} : Und h a b ↔ (a = b ∧ 1 ≤ a ∧ a ≤ h.length) ∨ (b ≠ 0 ∧ ∃ c, 1 ≤ c ∧ c ≤ h.length ∧ hd h c = b ∧ Und h a c) := by
  constructor
  · intro u
    induction u with
    | refl h1 h2 => exact .inl ⟨rfl, h1, h2⟩
    | step h1 h2 h3 u ih =>
      rcases ih with ⟨e, e2, _⟩ | ⟨hb, c, c1, c2, c3, c4⟩
      · exact .inr ⟨by omega, _, h1, h2, e, .refl h1 h2⟩
      · exact .inr ⟨hb, c, c1, c2, c3, .step h1 h2 h3 c4⟩
  · rintro (⟨rfl, h1, h2⟩ | ⟨hb, c, c1, c2, rfl, c4⟩)
    · exact .refl h1 h2
    · exact T.und_trans c4 (T.und_hd c1 c2 hb)

/-- A word is under just one of those that depend on another one. -/
theorem Tree.und_child_unique {h : List Int} (T : Tree h) {a b c d : Nat} (hb : b ≠ 0) (hc : hd h c = b) (hd' : hd h d = b) (u : Und h a c) (v : Und h a d) : c = d := by
  have one : ∀ c d, hd h c = b → hd h d = b → Und h c d → c = d := by
    intro c d hc hd' u
    have hr := T.und_rng u
    rcases (T.und_iff hr.1.1 hr.1.2).1 u with e | ⟨_, u'⟩
    · exact e
    · have h1 := T.und_dep u'
      have h2 := T.dep_step hr.2.1 hr.2.2 (by omega)
      rw [hd'] at h2
      rw [hc] at h1
      omega
  rcases T.und_lin u v with h1 | h1
  · exact one c d hc hd' h1
  · exact (one d c hd' hc h1).symm

def Betw (a b j : Nat) : Prop := (a < j ∧ j < b) ∨ (b < j ∧ j < a)
theorem pairwise_all {α : Type} {R : α → α → Prop} (hs : ∀ x y, R x y → R y x) (hr : ∀ x, R x x) : ∀ l : List α, l.Pairwise R ↔ ∀ x ∈ l, ∀ y ∈ l, R x y
  | [] => by simp
  | a :: r => by
    rw [List.pairwise_cons, pairwise_all hs hr r]
    constructor
    · rintro ⟨h1, h2⟩ x hx y hy
      rcases List.mem_cons.1 hx with ex | hx' <;> rcases List.mem_cons.1 hy with ey | hy'
      · rw [ex, ey]; exact hr _
      · rw [ex]; exact h1 y hy'
      · rw [ey]; exact hs _ _ (h1 x hx')
      · exact h2 x hx' y hy'
    · intro h
      exact ⟨fun y hy => h a List.mem_cons_self y (List.mem_cons_of_mem _ hy), fun x hx y hy => h x (List.mem_cons_of_mem _ hx) y (List.mem_cons_of_mem _ hy)⟩

/-- The words that depend on a word, before it and behind it. -/
def lessK (h : List Int) (w : Nat) : List Nat := ((List.range (w - 1)).map (· + 1)).filter fun k => hd h k == w
def moreK (h : List Int) (w : Nat) : List Nat := ((List.range (h.length - w)).map (· + (w + 1))).filter fun k => hd h k == w

theorem mem_words {n k : Nat} : k ∈ (List.range n).map (· + 1) ↔ 1 ≤ k ∧ k ≤ n := by
  rw [List.mem_map]
  constructor
  · rintro ⟨j, hj, rfl⟩
    rw [List.mem_range] at hj
    omega
  · rintro ⟨a, b⟩
    exact ⟨k - 1, by rw [List.mem_range]; omega, by omega⟩

theorem mem_lessK {h : List Int} {w k : Nat} (w2 : w ≤ h.length) : k ∈ lessK h w ↔ (1 ≤ k ∧ k ≤ h.length) ∧ hd h k = w ∧ k < w := by
  unfold lessK
  rw [List.mem_filter, mem_words, beq_iff_eq]
  omega
theorem mem_moreK {h : List Int} {w k : Nat} : k ∈ moreK h w ↔ (1 ≤ k ∧ k ≤ h.length) ∧ hd h k = w ∧ w < k := by
  unfold moreK
  rw [List.mem_filter, List.mem_map, beq_iff_eq]
  constructor
  · rintro ⟨⟨j, hj, rfl⟩, e⟩
    rw [List.mem_range] at hj
    omega
  · rintro ⟨⟨a, b⟩, e, l⟩
    exact ⟨⟨k - (w + 1), by rw [List.mem_range]; omega, by omega⟩, e⟩

theorem words_sorted (n : Nat) : ((List.range n).map (· + 1)).Pairwise (· < ·) := by
  rw [List.pairwise_map]
  refine List.Pairwise.imp ?_ List.pairwise_lt_range
  intro a b h
  omega
theorem lessK_sorted (h : List Int) (w : Nat) : (lessK h w).Pairwise (· < ·) := (words_sorted _).filter _
theorem moreK_sorted (h : List Int) (w : Nat) : (moreK h w).Pairwise (· < ·) := by
  refine List.Pairwise.filter _ ?_
  rw [List.pairwise_map]
  refine List.Pairwise.imp ?_ List.pairwise_lt_range
  intro a b h
  omega

/-- The words of a yield in the order in which the tree is flat. -/
def walkN (h : List Int) : Nat → Nat → List Nat
  | 0, _ => []
  | f + 1, w => (lessK h w).flatMap (walkN h f) ++ w :: (moreK h w).flatMap (walkN h f)

section
variable {h : List Int} (T : Tree h)
include T

theorem kid_dep {w c : Nat} (c1 : 1 ≤ c) (c2 : c ≤ h.length) (w1 : 1 ≤ w) (e : hd h c = w) : dep h c = dep h w + 1 := by
  have := T.dep_step c1 c2 (by omega)
  rwa [e] at this

theorem walk_mem : ∀ {f w x : Nat}, 1 ≤ w → w ≤ h.length → h.length ≤ f + dep h w → (x ∈ walkN h f w ↔ Und h x w)
  | 0, w, x, w1, w2, hf => by
    have := T.dep_lt w1 w2
    omega
  | f + 1, w, x, w1, w2, hf => by
    have kid : ∀ c, (1 ≤ c ∧ c ≤ h.length) ∧ hd h c = w → (x ∈ walkN h f c ↔ Und h x c) := fun c hc => by
      have := kid_dep T hc.1.1 hc.1.2 w1 hc.2
      exact walk_mem hc.1.1 hc.1.2 (by omega)
    rw [walkN, List.mem_append, List.mem_cons, List.mem_flatMap, List.mem_flatMap, T.und_child]
    constructor
    · rintro (⟨c, hc, m⟩ | e | ⟨c, hc, m⟩)
      · rw [mem_lessK w2] at hc
        exact .inr ⟨by omega, c, hc.1.1, hc.1.2, hc.2.1, (kid c ⟨hc.1, hc.2.1⟩).mp m⟩
      · subst e
        exact .inl ⟨rfl, w1, w2⟩
      · rw [mem_moreK] at hc
        exact .inr ⟨by omega, c, hc.1.1, hc.1.2, hc.2.1, (kid c ⟨hc.1, hc.2.1⟩).mp m⟩
    · rintro (⟨e, _⟩ | ⟨_, c, c1, c2, c3, u⟩)
      · exact .inr (.inl e)
      · have m := (kid c ⟨⟨c1, c2⟩, c3⟩).mpr u
        have ne : c ≠ w := fun e => T.hd_other c1 c2 (by rw [c3, e])
        by_cases l : c < w
        · exact .inl ⟨c, (mem_lessK w2).mpr ⟨⟨c1, c2⟩, c3, l⟩, m⟩
        · exact .inr (.inr ⟨c, mem_moreK.mpr ⟨⟨c1, c2⟩, c3, by omega⟩, m⟩)

/-- What holds of all pairs of one before another. -/
theorem walk_pairs {R : Nat → Nat → Prop} (h1 : ∀ w c x, 1 ≤ w → w ≤ h.length → hd h c = w → c < w → Und h x c → R x w) (h2 : ∀ w c x, 1 ≤ w → w ≤ h.length → hd h c = w → w < c → Und h x c → R w x)
    (h3 : ∀ w c d x y, 1 ≤ w → w ≤ h.length → hd h c = w → hd h d = w → c < d → Und h x c → Und h y d → R x y) : ∀ {f w : Nat}, 1 ≤ w → w ≤ h.length → h.length ≤ f + dep h w → (walkN h f w).Pairwise R
  | 0, w, w1, w2, hf => by
    have := T.dep_lt w1 w2
    omega
  | f + 1, w, w1, w2, hf => by
    have mem : ∀ c x, (1 ≤ c ∧ c ≤ h.length) ∧ hd h c = w → x ∈ walkN h f c → Und h x c := fun c x hc m => by
      have := kid_dep T hc.1.1 hc.1.2 w1 hc.2
      exact (walk_mem T hc.1.1 hc.1.2 (by omega)).mp m
    have rek : ∀ c, (1 ≤ c ∧ c ≤ h.length) ∧ hd h c = w → (walkN h f c).Pairwise R := fun c hc => by
      have := kid_dep T hc.1.1 hc.1.2 w1 hc.2
      exact walk_pairs h1 h2 h3 hc.1.1 hc.1.2 (by omega)
    rw [walkN, List.pairwise_append, List.pairwise_cons, List.pairwise_flatMap, List.pairwise_flatMap]
    refine ⟨⟨fun c hc => ?_, ?_⟩, ⟨fun x m => ?_, fun c hc => ?_, ?_⟩, fun x mx y my => ?_⟩
    · rw [mem_lessK w2] at hc
      exact rek c ⟨hc.1, hc.2.1⟩
    · refine List.Pairwise.imp_of_mem ?_ (lessK_sorted h w)
      intro c d hc hd' l x mx y my
      rw [mem_lessK w2] at hc hd'
      exact h3 w c d x y w1 w2 hc.2.1 hd'.2.1 l (mem c x ⟨hc.1, hc.2.1⟩ mx) (mem d y ⟨hd'.1, hd'.2.1⟩ my)
    · obtain ⟨c, hc, mx⟩ := List.mem_flatMap.mp m
      rw [mem_moreK] at hc
      exact h2 w c x w1 w2 hc.2.1 hc.2.2 (mem c x ⟨hc.1, hc.2.1⟩ mx)
    · rw [mem_moreK] at hc
      exact rek c ⟨hc.1, hc.2.1⟩
    · refine List.Pairwise.imp_of_mem ?_ (moreK_sorted h w)
      intro c d hc hd' l x mx y my
      rw [mem_moreK] at hc hd'
      exact h3 w c d x y w1 w2 hc.2.1 hd'.2.1 l (mem c x ⟨hc.1, hc.2.1⟩ mx) (mem d y ⟨hd'.1, hd'.2.1⟩ my)
    · obtain ⟨c, hc, mx⟩ := List.mem_flatMap.mp mx
      rw [mem_lessK w2] at hc
      have ux := mem c x ⟨hc.1, hc.2.1⟩ mx
      rcases List.mem_cons.mp my with e | my
      · rw [e]
        exact h1 w c x w1 w2 hc.2.1 hc.2.2 ux
      · obtain ⟨d, hd', my⟩ := List.mem_flatMap.mp my
        rw [mem_moreK] at hd'
        exact h3 w c d x y w1 w2 hc.2.1 hd'.2.1 (by omega) ux (mem d y ⟨hd'.1, hd'.2.1⟩ my)

theorem walk_nodup {f w : Nat} (w1 : 1 ≤ w) (w2 : w ≤ h.length) (hf : h.length ≤ f + dep h w) : (walkN h f w).Nodup := by
  refine walk_pairs T ?_ ?_ ?_ w1 w2 hf
  · intro w c x w1 w2 e l u q
    subst q
    have r := (T.und_rng u).2
    have := T.und_anti u (by have v := T.und_hd r.1 r.2 (by omega); rwa [e] at v)
    omega
  · intro w c x w1 w2 e l u q
    subst q
    have r := (T.und_rng u).2
    have := T.und_anti u (by have v := T.und_hd r.1 r.2 (by omega); rwa [e] at v)
    omega
  · intro w c d x y w1 w2 hc hd' l u v q
    subst q
    have := T.und_child_unique (by omega) hc hd' u v
    omega

/-- All words in the order in which the tree is flat. -/
def flatO (h : List Int) : List Nat := walkN h h.length (top h)

theorem flatO_mem {x : Nat} : x ∈ flatO h ↔ 1 ≤ x ∧ x ≤ h.length := by
  unfold flatO
  rw [walk_mem T (top_pos h) T.top_le (by omega)]
  exact ⟨fun u => (T.und_rng u).1, fun r => T.und_top r.1 r.2⟩

theorem flatO_nodup : (flatO h).Nodup := walk_nodup T (top_pos h) T.top_le (by omega)

theorem flatO_length : (flatO h).length = h.length := by
  have p : (flatO h).Perm ((List.range h.length).map (· + 1)) := by
    rw [List.perm_ext_iff_of_nodup (flatO_nodup T) (List.Pairwise.imp (fun h => Nat.ne_of_lt h) (words_sorted _))]
    intro x
    rw [flatO_mem T, mem_words]
  rw [p.length_eq]
  simp

end

/-- The same, as the program has it. -/
def flatOI (h : List Int) : List Int := (flatO h).map fun (x : Nat) => (x : Int)

section
variable {h : List Int} (T : Tree h)
include T

theorem flatOI_length : (flatOI h).length = h.length := by
  unfold flatOI
  rw [List.length_map, flatO_length T]

theorem flatOI_order : OrderP (flatOI h) ((flatOI h).length : Nat) := by
  rw [orderP_iff, flatOI_length T]
  refine ⟨fun x hx => ?_, ?_⟩
  · unfold flatOI at hx
    obtain ⟨y, hy, rfl⟩ := List.mem_map.mp hx
    have := (flatO_mem T).mp hy
    omega
  · unfold flatOI
    rw [List.Nodup, List.pairwise_map]
    refine List.Pairwise.imp ?_ (flatO_nodup T)
    intro a b hab e
    exact hab (by omega)

end

/-- The word at a place of an order. -/
def atO (o : List Int) (i : Nat) : Nat := (o.getD (i - 1) 0).toNat

theorem atO_get {o : List Int} (hP : OrderP o (o.length : Nat)) {i : Nat} (i1 : 1 ≤ i) (i2 : i ≤ o.length) : 1 ≤ atO o i ∧ atO o i ≤ o.length ∧ o[i - 1]? = some ((atO o i : Nat) : Int) ∧ pl o (atO o i) = i := by
  have lt : i - 1 < o.length := by omega
  have r := hP.1 (i - 1) lt
  have e : atO o i = o[i - 1].toNat := by
    unfold atO
    rw [List.getD_eq_getElem?_getD, List.getElem?_eq_getElem lt, Option.getD_some]
  have g := pl_get hP lt
  rw [e, g]
  refine ⟨by omega, by omega, ?_, by omega⟩
  rw [List.getElem?_eq_getElem lt]
  congr 1
  omega

theorem atO_pl {o : List Int} (hP : OrderP o (o.length : Nat)) {v : Nat} (v1 : 1 ≤ v) (v2 : v ≤ o.length) : atO o (pl o v) = v := by
  obtain ⟨a, b, c⟩ := pl_rng hP v1 v2
  unfold atO
  rw [List.getD_eq_getElem?_getD, c, Option.getD_some, Int.toNat_natCast]

section
variable {h o : List Int} (T : Tree h) (hl : o.length = h.length) (hP : OrderP o (o.length : Nat))
include T hl hP

theorem put_hd {i : Nat} (i1 : 1 ≤ i) (i2 : i ≤ o.length) : hd (putRow h o) i = pl o (hd h (atO o i)) := by
  have lt : i - 1 < o.length := by omega
  have g := put_get T hl hP lt
  have e := (atO_get hP i1 i2).2.2.1
  rw [List.getElem?_eq_getElem lt] at e
  unfold hd
  rw [List.getD_eq_getElem?_getD, g, Option.getD_some, Option.some.inj e, Int.toNat_natCast, Int.toNat_natCast]
  rfl

end

/-- The sum of what belongs to each number below n. -/
def sumR (f : Nat → Nat) : Nat → Nat
  | 0 => 0
  | n + 1 => sumR f n + f n

theorem sumR_congr {f g : Nat → Nat} : ∀ {n : Nat}, (∀ i, i < n → f i = g i) → sumR f n = sumR g n
  | 0, _ => rfl
  | n + 1, h => by rw [sumR, sumR, sumR_congr fun i hi => h i (by omega), h n (by omega)]

theorem sumR_le {f g : Nat → Nat} : ∀ {n : Nat}, (∀ i, i < n → f i ≤ g i) → sumR f n ≤ sumR g n
  | 0, _ => Nat.le_refl _
  | n + 1, h => by
    have := sumR_le fun i (hi : i < n) => h i (by omega)
    have := h n (by omega)
    rw [sumR, sumR]
    omega

theorem sumR_add (f g : Nat → Nat) : ∀ n, sumR (fun i => f i + g i) n = sumR f n + sumR g n
  | 0 => rfl
  | n + 1 => by
    rw [sumR, sumR, sumR, sumR_add f g n]
    omega

theorem sumR_const (c : Nat) : ∀ n, sumR (fun _ => c) n = n * c
  | 0 => by simp [sumR]
  | n + 1 => by rw [sumR, sumR_const c n, Nat.succ_mul]

theorem sumR_swap (f : Nat → Nat → Nat) (m : Nat) : ∀ n, sumR (fun i => sumR (f i) m) n = sumR (fun j => sumR (fun i => f i j) n) m
  | 0 => by
    simp only [sumR]
    rw [sumR_const]
    rfl
  | n + 1 => by
    rw [sumR, sumR_swap f m n, ← sumR_add]
    exact sumR_congr fun j _ => rfl

theorem sumR_list (f : Nat → Nat) : ∀ n, sumR f n = ((List.range n).map f).sum
  | 0 => rfl
  | n + 1 => by rw [sumR, sumR_list f n, List.range_succ, List.map_append, List.sum_append]; simp

theorem sum_perm {l l' : List Nat} (p : l.Perm l') : l.sum = l'.sum := by
  induction p with
  | nil => rfl
  | cons x _ ih => rw [List.sum_cons, List.sum_cons, ih]
  | swap x y l => simp only [List.sum_cons]; omega
  | trans _ _ h1 h2 => exact h1.trans h2

theorem sumR_perm {σ : Nat → Nat} {n : Nat} (h : ((List.range n).map σ).Perm (List.range n)) (f : Nat → Nat) : sumR (fun i => f (σ i)) n = sumR f n := by
  rw [sumR_list, sumR_list, ← sum_perm (h.map f), List.map_map]
  rfl

/-- One for what holds, none for what does not. -/
def ind (b : Bool) : Nat := if b then 1 else 0
theorem ind_le (b : Bool) : ind b ≤ 1 := by cases b <;> simp [ind]

theorem sumR_ind (p : Nat → Bool) : ∀ n, sumR (fun i => ind (p i)) n = (List.range n).countP p
  | 0 => rfl
  | n + 1 => by
    rw [sumR, sumR_ind p n, List.range_succ, List.countP_append]
    cases h : p n <;> simp [ind, h]

theorem sumR_zero {f : Nat → Nat} : ∀ {n : Nat}, sumR f n = 0 ↔ ∀ i, i < n → f i = 0
  | 0 => by simp [sumR]
  | n + 1 => by
    rw [sumR]
    constructor
    · intro h i hi
      by_cases e : i = n
      · subst e; omega
      · exact (sumR_zero (n := n)).mp (by omega) i (by omega)
    · intro h
      have := (sumR_zero (n := n)).mpr fun i hi => h i (by omega)
      have := h n (by omega)
      omega

/-- All but one are nothing. -/
theorem sumR_single {f : Nat → Nat} : ∀ {n k : Nat}, k < n → (∀ i, i < n → i ≠ k → f i = 0) → sumR f n = f k
  | n + 1, k, hk, h => by
    rw [sumR]
    by_cases e : k = n
    · subst e
      rw [sumR_zero.mpr fun i hi => h i (by omega) (by omega)]
      omega
    · rw [sumR_single (n := n) (k := k) (by omega) fun i hi ne => h i (by omega) ne, h n (by omega) (by omega)]
      omega

section
variable {o : List Int} (hP : OrderP o (o.length : Nat))
include hP

theorem atO_perm : ((List.range o.length).map fun i => atO o (i + 1) - 1).Perm (List.range o.length) := by
  have p := (order_perm hP).map fun x : Int => x.toNat - 1
  rw [List.map_map] at p
  have e1 : (o.map fun x : Int => x.toNat - 1) = (List.range o.length).map fun i => atO o (i + 1) - 1 := by
    apply List.ext_getElem (by simp)
    intro i h1 h2
    simp only [List.length_map] at h1
    simp only [List.getElem_map, List.getElem_range]
    unfold atO
    rw [Nat.add_sub_cancel, List.getD_eq_getElem?_getD, List.getElem?_eq_getElem h1, Option.getD_some]
  have e2 : ((List.range o.length).map ((fun x : Int => x.toNat - 1) ∘ fun k => ((k + 1 : Nat) : Int))) = List.range o.length := by
    rw [List.map_congr_left (g := id), List.map_id]
    intro k _
    simp only [Function.comp, id]
    omega
  rw [e1, e2] at p
  exact p

/-- A sum over all words is the same in another order. -/
theorem sumR_order (f : Nat → Nat) : sumR (fun i => f (atO o (i + 1))) o.length = sumR (fun i => f (i + 1)) o.length := by
  rw [← sumR_perm (atO_perm hP) fun i => f (i + 1)]
  refine sumR_congr fun i hi => ?_
  have := (atO_get hP (show 1 ≤ i + 1 by omega) (by omega)).1
  rw [Nat.sub_add_cancel this]

theorem pl_eq_iff {v i : Nat} (v2 : v ≤ o.length) (i1 : 1 ≤ i) (i2 : i ≤ o.length) : pl o v = i ↔ v = atO o i := by
  constructor
  · rintro rfl
    by_cases v0 : v = 0
    · subst v0
      rw [pl_zero hP] at i1
      omega
    · rw [atO_pl hP (by omega) v2]
  · rintro rfl
    exact (atO_get hP i1 i2).2.2.2
end

/-- How many words depend on a word. -/
def kidsN (h : List Int) (w : Nat) : Nat := (List.range h.length).countP fun i => hd h (i + 1) == w

/-- How many arcs end at a word. -/
def endsW (h : List Int) (w : Nat) : Nat := kidsN h w + if hd h w = 0 then 0 else 1

theorem kidsN_sum (h : List Int) (w : Nat) : kidsN h w = sumR (fun i => ind (hd h (i + 1) == w)) h.length := by rw [sumR_ind]; rfl

section
variable {h o : List Int} (T : Tree h) (hl : o.length = h.length) (hP : OrderP o (o.length : Nat))
include T hl hP

theorem put_hd_zero {i : Nat} (i1 : 1 ≤ i) (i2 : i ≤ o.length) : hd (putRow h o) i = 0 ↔ hd h (atO o i) = 0 := by
  have g := atO_get hP i1 i2
  rw [put_hd T hl hP i1 i2]
  exact (pl_hd T hl hP g.1 g.2.1).2

theorem put_hd_iff {i j : Nat} (i1 : 1 ≤ i) (i2 : i ≤ o.length) (j1 : 1 ≤ j) (j2 : j ≤ o.length) : hd (putRow h o) i = j ↔ hd h (atO o i) = atO o j := by
  have g := atO_get hP i1 i2
  have l := T.hd_le g.1 (by omega)
  rw [put_hd T hl hP i1 i2, pl_eq_iff hP (by omega) j1 j2]

theorem put_kids {j : Nat} (j1 : 1 ≤ j) (j2 : j ≤ o.length) : kidsN (putRow h o) j = kidsN h (atO o j) := by
  rw [kidsN_sum, kidsN_sum, putRow_length, ← hl, ← sumR_order hP fun v => ind (hd h v == atO o j)]
  refine sumR_congr fun i hi => ?_
  congr 1
  rw [Bool.eq_iff_iff, beq_iff_eq, beq_iff_eq]
  exact put_hd_iff T hl hP (by omega) (by omega) j1 j2

theorem put_ends {j : Nat} (j1 : 1 ≤ j) (j2 : j ≤ o.length) : endsW (putRow h o) j = endsW h (atO o j) := by
  unfold endsW
  rw [put_kids T hl hP j1 j2]
  by_cases z : hd h (atO o j) = 0
  · rw [if_pos z, if_pos ((put_hd_zero T hl hP j1 j2).mpr z)]
  · rw [if_neg z, if_neg (fun y => z ((put_hd_zero T hl hP j1 j2).mp y))]

/-- A sum over what belongs to the ends at words is the same in another order. -/
theorem put_ends_sum (f : Nat → Nat) : sumR (fun i => f (endsW (putRow h o) (i + 1))) h.length = sumR (fun i => f (endsW h (i + 1))) h.length := by
  rw [← hl, ← sumR_order hP fun v => f (endsW h v)]
  refine sumR_congr fun i hi => ?_
  rw [put_ends T hl hP (by omega) (by omega)]
end

theorem kids_pos {h : List Int} {w c : Nat} (c1 : 1 ≤ c) (c2 : c ≤ h.length) (e : hd h c = w) : 1 ≤ kidsN h w := by
  unfold kidsN
  have : 0 < (List.range h.length).countP fun i => hd h (i + 1) == w := List.countP_pos_iff.mpr ⟨c - 1, by rw [List.mem_range]; omega, by rw [show c - 1 + 1 = c by omega, e]; exact beq_self_eq_true _⟩
  omega

section
variable {h : List Int} (T : Tree h)
include T

/-- Each word but the root depends on a word. -/
theorem kids_total : sumR (fun i => kidsN h (i + 1)) h.length = h.length - 1 := by
  have e : sumR (fun i => kidsN h (i + 1)) h.length = sumR (fun j => ind (hd h (j + 1) != 0)) h.length := by
    rw [sumR_congr fun i _ => kidsN_sum h (i + 1), sumR_swap]
    refine sumR_congr fun j hj => ?_
    have l := T.hd_le (show 1 ≤ j + 1 by omega) (by omega)
    by_cases z : hd h (j + 1) = 0
    · rw [z, (sumR_zero (f := fun i => ind (0 == i + 1))).mpr fun i _ => rfl]
      rfl
    · rw [sumR_single (k := hd h (j + 1) - 1) (by omega) fun i _ ne => by
        rw [show (hd h (j + 1) == i + 1) = false from beq_eq_false_iff_ne.mpr (by omega)]
        rfl]
      rw [show (hd h (j + 1) == hd h (j + 1) - 1 + 1) = true from beq_iff_eq.mpr (by omega), show (hd h (j + 1) != 0) = true from bne_iff_ne.mpr z]
  have e2 : sumR (fun j => ind (hd h (j + 1) != 0)) h.length + sumR (fun j => ind (hd h (j + 1) == 0)) h.length = h.length := by
    rw [← sumR_add, sumR_congr (g := fun _ => 1), sumR_const]
    · omega
    · intro i _
      by_cases z : hd h (i + 1) = 0
      · rw [z]; rfl
      · rw [show (hd h (i + 1) != 0) = true from bne_iff_ne.mpr z, show (hd h (i + 1) == 0) = false from beq_eq_false_iff_ne.mpr z]
        rfl
  have e3 : sumR (fun j => ind (hd h (j + 1) == 0)) h.length = 1 := by
    have t1 := top_pos h
    have t2 := T.top_le
    rw [sumR_single (k := top h - 1) (by omega) fun i hi ne => ?_]
    · rw [show top h - 1 + 1 = top h by omega, (T.hd_zero t1 t2).mpr rfl]
      rfl
    · rw [show (hd h (i + 1) == 0) = false from beq_eq_false_iff_ne.mpr fun z => ne (by
        have := (T.hd_zero (show 1 ≤ i + 1 by omega) (by omega)).mp z
        omega)]
      rfl
  omega

theorem heads_total : sumR (fun i => if hd h (i + 1) = 0 then 0 else 1) h.length = h.length - 1 := by
  have e : sumR (fun i => if hd h (i + 1) = 0 then 0 else 1) h.length + sumR (fun j => ind (hd h (j + 1) == 0)) h.length = h.length := by
    rw [← sumR_add, sumR_congr (g := fun _ => 1), sumR_const]
    · omega
    · intro i _
      by_cases z : hd h (i + 1) = 0
      · rw [z]; rfl
      · rw [if_neg z, show (hd h (i + 1) == 0) = false from beq_eq_false_iff_ne.mpr z]
        rfl
  have e3 : sumR (fun j => ind (hd h (j + 1) == 0)) h.length = 1 := by
    have t1 := top_pos h
    have t2 := T.top_le
    rw [sumR_single (k := top h - 1) (by omega) fun i hi ne => ?_]
    · rw [show top h - 1 + 1 = top h by omega, (T.hd_zero t1 t2).mpr rfl]
      rfl
    · rw [show (hd h (i + 1) == 0) = false from beq_eq_false_iff_ne.mpr fun z => ne (by
        have := (T.hd_zero (show 1 ≤ i + 1 by omega) (by omega)).mp z
        omega)]
      rfl
  omega

theorem ends_total : sumR (fun i => endsW h (i + 1)) h.length = 2 * (h.length - 1) := by
  have e : sumR (fun i => endsW h (i + 1)) h.length = sumR (fun i => kidsN h (i + 1)) h.length + sumR (fun i => if hd h (i + 1) = 0 then 0 else 1) h.length := by
    rw [← sumR_add]
    exact sumR_congr fun i _ => rfl
  rw [e, kids_total T, heads_total T]
  omega

/-- With two words or more at each word an arc ends. -/
theorem endsW_pos (h2 : 2 ≤ h.length) {w : Nat} (w1 : 1 ≤ w) (w2 : w ≤ h.length) : 1 ≤ endsW h w := by
  unfold endsW
  by_cases z : hd h w = 0
  · have e := (T.hd_zero w1 w2).mp z
    have : ∃ c, 1 ≤ c ∧ c ≤ h.length ∧ hd h c = w := by
      have key : ∀ v, 1 ≤ v → v ≤ h.length → v ≠ w → ∃ c, 1 ≤ c ∧ c ≤ h.length ∧ hd h c = w := by
        refine T.climbInd (P := fun v => v ≠ w → ∃ c, 1 ≤ c ∧ c ≤ h.length ∧ hd h c = w) (fun y => absurd e.symm y) ?_
        intro v v1 v2 hv ih ne
        by_cases y : hd h v = w
        · exact ⟨v, v1, v2, y⟩
        · exact ih y
      by_cases y : w = 1
      · exact key 2 (by omega) h2 (by omega)
      · exact key 1 (by omega) (by omega) (by omega)
    obtain ⟨c, c1, c2, ec⟩ := this
    have := kids_pos c1 c2 ec
    omega
  · rw [if_neg z]
    omega
end

section
variable {h : List Int} (T : Tree h)
include T

theorem hd_self {w : Nat} (w1 : 1 ≤ w) (w2 : w ≤ h.length) : hd h w ≠ w := by
  intro e
  have := T.dep_step w1 w2 (by omega)
  rw [e] at this
  omega

end

/-- What belongs to each pair of items, all added. -/
def pairsV {α : Type} (f : α → α → Nat) : List α → Nat
  | [] => 0
  | a :: r => (r.map (f a)).sum + pairsV f r

section
variable {α : Type}

theorem sum_le {f g : α → Nat} : ∀ {l : List α}, (∀ x ∈ l, f x ≤ g x) → (l.map f).sum ≤ (l.map g).sum
  | [], _ => Nat.le_refl _
  | a :: r, h => by
    rw [List.map_cons, List.map_cons, List.sum_cons, List.sum_cons]
    have := h a List.mem_cons_self
    have := sum_le fun x hx => h x (List.mem_cons_of_mem a hx)
    omega

theorem sum_same {f g : α → Nat} {l : List α} (h : ∀ x ∈ l, f x = g x) : (l.map f).sum = (l.map g).sum :=
  Nat.le_antisymm (sum_le fun x hx => Nat.le_of_eq (h x hx)) (sum_le fun x hx => Nat.le_of_eq (h x hx).symm)

theorem sum_none {f : α → Nat} : ∀ {l : List α}, (∀ x ∈ l, f x = 0) → (l.map f).sum = 0
  | [], _ => rfl
  | a :: r, h => by rw [List.map_cons, List.sum_cons, h a List.mem_cons_self, sum_none fun x hx => h x (List.mem_cons_of_mem a hx)]

theorem sum_two (f g : α → Nat) : ∀ l : List α, (l.map fun x => f x + g x).sum = (l.map f).sum + (l.map g).sum
  | [] => rfl
  | a :: r => by
    simp only [List.map_cons, List.sum_cons]
    rw [sum_two f g r]
    omega

theorem sum_ind (p : α → Bool) : ∀ l : List α, (l.map fun x => ind (p x)).sum = l.countP p
  | [] => rfl
  | a :: r => by
    rw [List.map_cons, List.sum_cons, sum_ind p r, List.countP_cons]
    cases p a <;> simp [ind] <;> omega

theorem sum_sumR (f : α → Nat → Nat) (n : Nat) : ∀ l : List α, (l.map fun x => sumR (f x) n).sum = sumR (fun i => (l.map fun x => f x i).sum) n
  | [] => by
    rw [(sumR_zero (f := fun i => ((([] : List α).map fun x => f x i).sum))).mpr fun i _ => rfl]
    rfl
  | a :: r => by
    rw [List.map_cons, List.sum_cons, sum_sumR f n r, ← sumR_add]
    exact sumR_congr fun i _ => by rw [List.map_cons, List.sum_cons]

theorem pairsV_same {R : α → α → Prop} {f g : α → α → Nat} (hfg : ∀ a b, R a b → f a b = g a b) : ∀ {l : List α}, l.Pairwise R → pairsV f l = pairsV g l
  | [], _ => rfl
  | a :: r, h => by
    rw [List.pairwise_cons] at h
    rw [pairsV, pairsV, pairsV_same hfg h.2, sum_same fun x hx => hfg a x (h.1 x hx)]

theorem pairsV_le {R : α → α → Prop} {f g : α → α → Nat} (hfg : ∀ a b, R a b → f a b ≤ g a b) : ∀ {l : List α}, l.Pairwise R → pairsV f l ≤ pairsV g l
  | [], _ => Nat.le_refl _
  | a :: r, h => by
    rw [List.pairwise_cons] at h
    have := pairsV_le hfg h.2
    have := sum_le fun x hx => hfg a x (h.1 x hx)
    rw [pairsV, pairsV]
    omega

theorem pairsV_add (f g : α → α → Nat) : ∀ l : List α, pairsV (fun a b => f a b + g a b) l = pairsV f l + pairsV g l
  | [] => rfl
  | a :: r => by
    rw [pairsV, pairsV, pairsV, pairsV_add f g r, sum_two]
    omega

theorem pairsV_sumR (f : α → α → Nat → Nat) (n : Nat) : ∀ l : List α, pairsV (fun a b => sumR (f a b) n) l = sumR (fun i => pairsV (fun a b => f a b i) l) n
  | [] => by
    rw [(sumR_zero (f := fun i => pairsV (fun a b => f a b i) ([] : List α))).mpr fun i _ => rfl]
    rfl
  | a :: r => by
    rw [pairsV, pairsV_sumR f n r, sum_sumR, ← sumR_add]
    exact sumR_congr fun i _ => by rw [pairsV]

theorem tri_add (c : Nat) : (c + 1) * c / 2 = c + c * (c - 1) / 2 := by
  cases c with
  | zero => rfl
  | succ d =>
    have e1 : (d + 1) * (d + 1) = (d + 1) * d + (d + 1) := Nat.mul_succ _ _
    have e : (d + 1 + 1) * (d + 1) = 2 * (d + 1) + (d + 1) * d := by
      rw [Nat.succ_mul (d + 1), e1]
      omega
    rw [e, Nat.mul_add_div (by omega)]
    rfl

/-- Pairs of those for which something holds. -/
theorem pairsV_both (p : α → Bool) : ∀ l : List α, pairsV (fun a b => ind (p a && p b)) l = l.countP p * (l.countP p - 1) / 2
  | [] => by simp [pairsV]
  | a :: r => by
    rw [pairsV, pairsV_both p r, List.countP_cons]
    cases h : p a with
    | false =>
      have : (r.map fun b => ind (false && p b)).sum = 0 := sum_none fun x _ => rfl
      simp only [Bool.false_eq_true, if_false, Nat.add_zero]
      omega
    | true =>
      simp only [Bool.true_and, if_true, Nat.add_sub_cancel]
      rw [sum_ind, tri_add]

theorem pairsV_zero {f : α → α → Nat} : ∀ {l : List α}, pairsV f l = 0 ↔ l.Pairwise fun a b => f a b = 0
  | [] => by simp [pairsV]
  | a :: r => by
    rw [pairsV, List.pairwise_cons, ← pairsV_zero (l := r)]
    have z : ∀ l : List α, (l.map (f a)).sum = 0 ↔ ∀ x ∈ l, f a x = 0 := by
      intro l
      induction l with
      | nil => simp
      | cons x l ih =>
        rw [List.map_cons, List.sum_cons, List.forall_mem_cons, ← ih]
        omega
    rw [← z]
    omega
end

/-- The words that have a head, each less 1. -/
def arcsW (h : List Int) : List Nat := (List.range h.length).filter fun i => hd h (i + 1) != 0
/-- Whether the arc of a word, less 1, ends at a word. -/
def touchB (h : List Int) (w a : Nat) : Bool := a + 1 == w || hd h (a + 1) == w
/-- Whether two arcs have an end in common. -/
def shareB (h : List Int) (a b : Nat) : Bool := hd h (b + 1) == a + 1 || hd h (a + 1) == b + 1 || hd h (a + 1) == hd h (b + 1)
def apartN (h : List Int) : Nat := pairsV (fun a b => ind (!shareB h a b)) (arcsW h)

theorem mem_arcsW {h : List Int} {a : Nat} : a ∈ arcsW h ↔ a < h.length ∧ hd h (a + 1) ≠ 0 := by
  unfold arcsW
  rw [List.mem_filter, List.mem_range, bne_iff_ne]

theorem arcsW_pairs (h : List Int) : (arcsW h).Pairwise fun a b => a < b ∧ (a < h.length ∧ hd h (a + 1) ≠ 0) ∧ (b < h.length ∧ hd h (b + 1) ≠ 0) := by
  have p : (arcsW h).Pairwise (· < ·) := (List.pairwise_lt_range (n := h.length)).filter _
  exact p.imp_of_mem fun ha hb lt => ⟨lt, mem_arcsW.mp ha, mem_arcsW.mp hb⟩

section
variable {h : List Int} (T : Tree h)
include T

theorem arcsW_length : (arcsW h).length = h.length - 1 := by
  have := heads_total T
  rw [← this, arcsW, ← List.countP_eq_length_filter, ← sumR_ind]
  refine sumR_congr fun i _ => ?_
  by_cases z : hd h (i + 1) = 0
  · rw [z]; rfl
  · rw [if_neg z, show (hd h (i + 1) != 0) = true from bne_iff_ne.mpr z]
    rfl

theorem touch_count {w : Nat} (w1 : 1 ≤ w) (w2 : w ≤ h.length) : (arcsW h).countP (touchB h w) = endsW h w := by
  unfold arcsW endsW
  rw [List.countP_filter, ← sumR_ind, kidsN_sum]
  have one : (if hd h w = 0 then 0 else 1) = sumR (fun i => ind (i + 1 == w && hd h (i + 1) != 0)) h.length := by
    rw [sumR_single (k := w - 1) (by omega) fun i _ ne => by
      rw [show (i + 1 == w) = false from beq_eq_false_iff_ne.mpr (by omega)]
      rfl]
    rw [show w - 1 + 1 = w by omega, beq_self_eq_true, Bool.true_and]
    by_cases z : hd h w = 0
    · rw [z]; rfl
    · rw [if_neg z, show (hd h w != 0) = true from bne_iff_ne.mpr z]
      rfl
  rw [one, ← sumR_add]
  refine sumR_congr fun i hi => ?_
  have ne := hd_self T (show 1 ≤ i + 1 by omega) (show i + 1 ≤ h.length by omega)
  unfold touchB
  by_cases z : hd h (i + 1) = 0
  · rw [z, show (0 == w) = false from beq_eq_false_iff_ne.mpr (by omega), show ((0 : Nat) != 0) = false from rfl, Bool.and_false, Bool.and_false]
    rfl
  · rw [show (hd h (i + 1) != 0) = true from bne_iff_ne.mpr z, Bool.and_true, Bool.and_true]
    by_cases e : i + 1 = w
    · rw [e] at ne ⊢
      rw [show (hd h w == w) = false from beq_eq_false_iff_ne.mpr ne, beq_self_eq_true]
      rfl
    · rw [show (i + 1 == w) = false from beq_eq_false_iff_ne.mpr e, Bool.false_or]
      simp [ind]

theorem no_ring {a b : Nat} (a1 : 1 ≤ a) (a2 : a ≤ h.length) (b1 : 1 ≤ b) (b2 : b ≤ h.length) (e1 : hd h a = b) (e2 : hd h b = a) : False := by
  have d1 := T.dep_step a1 a2 (by omega)
  have d2 := T.dep_step b1 b2 (by omega)
  rw [e1] at d1
  rw [e2] at d2
  omega

/-- Two arcs have at most one end in common. -/
theorem share_once {a b : Nat} (ab : a < b) (ha : a < h.length ∧ hd h (a + 1) ≠ 0) (hb : b < h.length ∧ hd h (b + 1) ≠ 0) :
    sumR (fun i => ind (touchB h (i + 1) a && touchB h (i + 1) b)) h.length = ind (shareB h a b) := by
  have la := T.hd_le (show 1 ≤ a + 1 by omega) (show a + 1 ≤ h.length by omega)
  have lb := T.hd_le (show 1 ≤ b + 1 by omega) (show b + 1 ≤ h.length by omega)
  have sa := hd_self T (show 1 ≤ a + 1 by omega) (show a + 1 ≤ h.length by omega)
  have sb := hd_self T (show 1 ≤ b + 1 by omega) (show b + 1 ≤ h.length by omega)
  have ring := fun e1 e2 => no_ring T (show 1 ≤ a + 1 by omega) (show a + 1 ≤ h.length by omega) (show 1 ≤ b + 1 by omega) (show b + 1 ≤ h.length by omega) e1 e2
  have both : ∀ i, (touchB h (i + 1) a && touchB h (i + 1) b) = true ↔ (a = i ∨ hd h (a + 1) = i + 1) ∧ (b = i ∨ hd h (b + 1) = i + 1) := by
    intro i
    unfold touchB
    simp only [Bool.and_eq_true, Bool.or_eq_true, beq_iff_eq]
    omega
  by_cases s : shareB h a b = true
  · rw [s]
    have s' := s
    unfold shareB at s'
    simp only [Bool.or_eq_true, beq_iff_eq] at s'
    have : ∃ k, k < h.length ∧ (touchB h (k + 1) a && touchB h (k + 1) b) = true ∧ ∀ i, (touchB h (i + 1) a && touchB h (i + 1) b) = true → i = k := by
      rcases s' with (e | e) | e
      · refine ⟨a, ha.1, (both a).mpr ⟨.inl rfl, .inr e⟩, fun i hi => ?_⟩
        have hi := (both i).mp hi
        rcases hi.1 with q | q
        · exact q.symm
        · rcases hi.2 with q2 | q2
          · exact (ring (by omega) (by omega)).elim
          · omega
      · refine ⟨b, hb.1, (both b).mpr ⟨.inr e, .inl rfl⟩, fun i hi => ?_⟩
        have hi := (both i).mp hi
        rcases hi.2 with q | q
        · exact q.symm
        · rcases hi.1 with q2 | q2
          · exact (ring (by omega) (by omega)).elim
          · omega
      · refine ⟨hd h (a + 1) - 1, by omega, (both _).mpr ⟨.inr (by omega), .inr (by omega)⟩, fun i hi => ?_⟩
        have hi := (both i).mp hi
        omega
    obtain ⟨k, k1, k2, k3⟩ := this
    rw [sumR_single k1 fun i _ ne => by
      rw [show (touchB h (i + 1) a && touchB h (i + 1) b) = false from Bool.eq_false_iff.mpr fun y => ne (k3 i y)]
      rfl]
    rw [k2]
  · rw [Bool.eq_false_iff.mpr s, (sumR_zero (f := fun i => ind (touchB h (i + 1) a && touchB h (i + 1) b))).mpr]
    · rfl
    · intro i _
      rw [show (touchB h (i + 1) a && touchB h (i + 1) b) = false from Bool.eq_false_iff.mpr fun y => s (by
        have := (both i).mp y
        unfold shareB
        simp only [Bool.or_eq_true, beq_iff_eq]
        omega)]
      rfl

/-- Pairs of arcs apart are all pairs but those at words. -/
theorem apart_sum : apartN h + sumR (fun i => endsW h (i + 1) * (endsW h (i + 1) - 1) / 2) h.length = (h.length - 1) * (h.length - 2) / 2 := by
  have e1 : sumR (fun i => endsW h (i + 1) * (endsW h (i + 1) - 1) / 2) h.length = pairsV (fun a b => ind (shareB h a b)) (arcsW h) := by
    rw [← pairsV_same (fun a b r => share_once T r.1 r.2.1 r.2.2) (arcsW_pairs h), pairsV_sumR]
    refine sumR_congr fun i hi => ?_
    rw [pairsV_both, touch_count T (by omega) (by omega)]
  have e2 : pairsV (fun a b => ind (!shareB h a b) + ind (shareB h a b)) (arcsW h) = (h.length - 1) * (h.length - 2) / 2 := by
    rw [pairsV_same (R := fun _ _ => True) (g := fun a b => ind ((fun _ => true) a && (fun _ => true) b)) (fun a b _ => by cases shareB h a b <;> rfl) (List.pairwise_of_forall fun _ _ => trivial), pairsV_both, List.countP_true, arcsW_length T]
    rfl
  rw [pairsV_add] at e2
  rw [e1]
  exact e2

/-- What crosses is apart. -/
theorem cross_apart : crossN h ≤ apartN h := by
  have e : arcsP h = (arcsW h).map fun (i : Nat) => (imin ((i : Int) + 1) (h.getD i 0), imax ((i : Int) + 1) (h.getD i 0)) := by
    unfold arcsP arcsK arcsW
    congr 1
    refine List.filter_congr fun i hi => ?_
    rw [List.mem_range] at hi
    have g := T.get (show 1 ≤ i + 1 by omega) (show i + 1 ≤ h.length by omega)
    rw [Nat.add_sub_cancel] at g
    rw [List.getD_eq_getElem?_getD, g, Option.getD_some, Bool.eq_iff_iff, decide_eq_true_eq, bne_iff_ne]
    omega
  have pv : ∀ l : List (Int × Int), pairsN crossP l = pairsV (fun p q => ind (crossP p q)) l := by
    intro l
    induction l with
    | nil => rfl
    | cons a r ih => rw [pairsN, pairsV, ih, sum_ind]
  have mp : ∀ (f : Nat → Int × Int) (l : List Nat), pairsV (fun p q => ind (crossP p q)) (l.map f) = pairsV (fun a b => ind (crossP (f a) (f b))) l := by
    intro f l
    induction l with
    | nil => rfl
    | cons a r ih => rw [List.map_cons, pairsV, pairsV, ih, List.map_map]; rfl
  unfold crossN apartN
  rw [pv, e, mp]
  refine pairsV_le (fun a b r => ?_) (arcsW_pairs h)
  by_cases s : shareB h a b = true
  · obtain ⟨lt, ⟨a1, a2⟩, b1, b2⟩ := r
    have ga := T.get (show 1 ≤ a + 1 by omega) (show a + 1 ≤ h.length by omega)
    have gb := T.get (show 1 ≤ b + 1 by omega) (show b + 1 ≤ h.length by omega)
    rw [Nat.add_sub_cancel] at ga gb
    rw [List.getD_eq_getElem?_getD, List.getD_eq_getElem?_getD, ga, gb, Option.getD_some, Option.getD_some]
    unfold shareB at s
    simp only [Bool.or_eq_true, beq_iff_eq] at s
    have : crossP (imin ((a : Int) + 1) ((hd h (a + 1) : Nat) : Int), imax ((a : Int) + 1) ((hd h (a + 1) : Nat) : Int)) (imin ((b : Int) + 1) ((hd h (b + 1) : Nat) : Int), imax ((b : Int) + 1) ((hd h (b + 1) : Nat) : Int)) = false := by
      unfold crossP arcX imin imax
      rw [decide_eq_false_iff_not]
      simp only
      split <;> split <;> split <;> split <;> omega
    rw [this]
    exact Nat.zero_le _
  · rw [Bool.eq_false_iff.mpr s]
    exact ind_le _

/-- A star: some word is an end of each arc. -/
def starP (h : List Int) : Prop := ∃ w, 1 ≤ w ∧ w ≤ h.length ∧ endsW h w = h.length - 1

theorem star_apart : apartN h = 0 ↔ starP h := by
  unfold apartN
  rw [pairsV_zero]
  constructor
  · intro p
    have sh : ∀ a b, a < h.length → hd h (a + 1) ≠ 0 → b < h.length → hd h (b + 1) ≠ 0 → a ≠ b → shareB h a b = true := by
      have q : ∀ a ∈ arcsW h, ∀ b ∈ arcsW h, a ≠ b → shareB h a b = true := by
        have := (pairwise_all (R := fun a b => a ≠ b → shareB h a b = true) (fun x y r ne => by
          have := r (Ne.symm ne)
          unfold shareB at this ⊢
          simp only [Bool.or_eq_true, beq_iff_eq] at this ⊢
          omega) (fun x ne => absurd rfl ne) (arcsW h)).mp (p.imp fun {a b} z _ => by
            cases s : shareB h a b with
            | true => rfl
            | false =>
              rw [s] at z
              cases z)
        exact this
      exact fun a b a1 a2 b1 b2 ne => q a (mem_arcsW.mpr ⟨a1, a2⟩) b (mem_arcsW.mpr ⟨b1, b2⟩) ne
    have all : ∀ w, 1 ≤ w → w ≤ h.length → (∀ a, a < h.length → hd h (a + 1) ≠ 0 → touchB h w a = true) → endsW h w = h.length - 1 := by
      intro w w1 w2 t
      rw [← touch_count T w1 w2, ← arcsW_length T, List.countP_eq_length]
      intro a ha
      have := mem_arcsW.mp ha
      exact t a this.1 this.2
    by_cases deep : ∃ c, 1 ≤ c ∧ c ≤ h.length ∧ hd h c ≠ 0 ∧ hd h (hd h c) ≠ 0
    · obtain ⟨c, c1, c2, c3, c4⟩ := deep
      have k2 := T.hd_le c1 c2
      have g2 := T.hd_le (show 1 ≤ hd h c by omega) k2
      refine ⟨hd h c, by omega, k2, all _ (by omega) k2 fun a a1 a2 => ?_⟩
      have ne1 := hd_self T c1 c2
      have ne2 := hd_self T (show 1 ≤ hd h c by omega) k2
      have s1 : a = c - 1 ∨ shareB h a (c - 1) = true := by
        by_cases e : a = c - 1
        · exact .inl e
        · exact .inr (sh a (c - 1) a1 a2 (by omega) (by rw [show c - 1 + 1 = c by omega]; exact c3) e)
      have s2 : a = hd h c - 1 ∨ shareB h a (hd h c - 1) = true := by
        by_cases e : a = hd h c - 1
        · exact .inl e
        · exact .inr (sh a (hd h c - 1) a1 a2 (by omega) (by rw [show hd h c - 1 + 1 = hd h c by omega]; exact c4) e)
      unfold touchB
      simp only [Bool.or_eq_true, beq_iff_eq]
      unfold shareB at s1 s2
      simp only [Bool.or_eq_true, beq_iff_eq, show c - 1 + 1 = c by omega, show hd h c - 1 + 1 = hd h c by omega] at s1 s2
      by_cases t : a + 1 = hd h c
      · exact .inl t
      · right
        by_cases t2 : hd h (a + 1) = hd h c
        · exact t2
        · exfalso
          have d1 := T.dep_step c1 c2 c3
          have d2 := T.dep_step (show 1 ≤ hd h c by omega) k2 c4
          have d3 := T.dep_step (show 1 ≤ a + 1 by omega) (show a + 1 ≤ h.length by omega) a2
          by_cases ac : a + 1 = c
          · rw [ac] at t2
            exact t2 rfl
          · have hc : hd h (a + 1) = c := by omega
            have hg : a + 1 = hd h (hd h c) := by
              rcases s2 with e | (e | e) | e
              · omega
              · omega
              · omega
              · rw [← e, hc] at d2
                omega
            rw [hc, hg] at d3
            omega
    · have t1 := top_pos h
      have t2 := T.top_le
      refine ⟨top h, t1, t2, all _ t1 t2 fun a a1 a2 => ?_⟩
      unfold touchB
      simp only [Bool.or_eq_true, beq_iff_eq]
      right
      have l := T.hd_le (show 1 ≤ a + 1 by omega) (show a + 1 ≤ h.length by omega)
      refine (T.hd_zero (by omega) l).mp ?_
      by_cases z : hd h (hd h (a + 1)) = 0
      · exact z
      · exact absurd ⟨a + 1, by omega, by omega, a2, z⟩ deep
  · rintro ⟨w, w1, w2, e⟩
    rw [← touch_count T w1 w2, ← arcsW_length T, List.countP_eq_length] at e
    have q := List.Pairwise.imp_of_mem (R := fun a b => a < b ∧ (a < h.length ∧ hd h (a + 1) ≠ 0) ∧ (b < h.length ∧ hd h (b + 1) ≠ 0)) (S := fun a b => ind (!shareB h a b) = 0) (l := arcsW h) (fun {a b} ha hb r => by
      have ta := e a ha
      have tb := e b hb
      unfold touchB at ta tb
      simp only [Bool.or_eq_true, beq_iff_eq] at ta tb
      have : shareB h a b = true := by
        unfold shareB
        simp only [Bool.or_eq_true, beq_iff_eq]
        omega
      rw [this]
      rfl) (arcsW_pairs h)
    exact q

end

section
variable {h o : List Int} (T : Tree h) (hl : o.length = h.length) (hP : OrderP o (o.length : Nat))
include T hl hP

theorem put_apart : apartN (putRow h o) = apartN h := by
  have T2 := put_tree T hl hP
  have a := apart_sum T
  have b := apart_sum T2
  have c := put_ends_sum T hl hP fun e => e * (e - 1) / 2
  rw [putRow_length, hl] at b
  omega

theorem put_star : starP (putRow h o) ↔ starP h := by
  rw [← star_apart T, ← star_apart (put_tree T hl hP), put_apart T hl hP]
end

/-- What holds of the machine: the next word, the stack from its top, the heads. -/
structure MInv (n i : Nat) (st : List Nat) (h : List Int) : Prop where
  len : h.length = n
  lo : 1 ≤ i
  hi : i ≤ n + 1
  ne : st = [] → i = 1
  dec : st.Pairwise (· > ·)
  rng : ∀ s ∈ st, 1 ≤ s ∧ s < i ∧ hd h s = 0
  num : ∀ x ∈ h, 0 ≤ x ∧ x ≤ (n : Int)
  rank : ∃ (m : Nat) (ρ : Nat → Nat), m + st.length + 1 = i ∧ ∀ w, 1 ≤ w → w < i → w ∉ st → ρ w < m ∧ 1 ≤ hd h w ∧ hd h w < i ∧ (hd h w ∈ st ∨ ρ w < ρ (hd h w))
  near : ∀ j, 1 ≤ j → j < i → ∃ s ∈ st, Und h j s ∧ ∀ t ∈ st, ¬ Betw j s t
  below : ∀ w j, 1 ≤ w → w < i → hd h w ≠ 0 → Betw w (hd h w) j → Und h j (hd h w)

theorem MInv.get {n i : Nat} {st : List Nat} {h : List Int} (M : MInv n i st h) {w : Nat} (w1 : 1 ≤ w) (w2 : w ≤ n) : h[w - 1]? = some ((hd h w : Nat) : Int) := by
  have hl := M.len
  have lt : w - 1 < h.length := by omega
  have := M.num _ (List.getElem_mem lt)
  rw [List.getElem?_eq_getElem lt]
  unfold hd
  rw [List.getD_eq_getElem?_getD, List.getElem?_eq_getElem lt, Option.getD_some]
  congr 1
  omega

theorem nloop_ex {σ ω : Type} {body : σ → Option (σ ⊕ ω)} (I : σ → Prop) (μ : σ → Nat) (Q : ω → Prop)
    (h : ∀ s, I s → (∃ s', body s = some (.inl s') ∧ I s' ∧ μ s' < μ s) ∨ (∃ o, body s = some (.inr o) ∧ Q o)) : ∀ (n : Nat) (s : σ), I s → μ s < n → ∃ o, nloop body n s = some o ∧ Q o
  | 0, s, _, hn => by omega
  | n + 1, s, hi, hn => by
    rcases h s hi with ⟨s', hb, hi', hm⟩ | ⟨o, hb, hq⟩
    · simp only [nloop, hb, Option.bind_some]
      exact nloop_ex I μ Q h n s' hi' (by omega)
    · simp only [nloop, hb, Option.bind_some]
      exact ⟨o, rfl, hq⟩

/-- Bytes. -/
structure Bytes (b : List Int) : Prop where
  rng : ∀ x ∈ b, 0 ≤ x ∧ x ≤ 255
  len : b.length ≤ 2000

theorem rem_ok {a b : Int} (h : 1 ≤ b) (ha : 0 ≤ a) : ∃ v, rem a b = some v ∧ 0 ≤ v ∧ v < b := by
  refine ⟨a.tmod b, by simp [rem]; omega, ?_, ?_⟩
  · exact Int.tmod_nonneg _ ha
  · exact Int.tmod_lt_of_pos _ (by omega)

theorem idx_ok {b : List Int} {i : Int} (h0 : 0 ≤ i) (h1 : i < b.length) : ∃ v, idx b i = some v ∧ v ∈ b := by
  have : i.toNat < b.length := by omega
  exact ⟨b[i.toNat], by simp [idx, h0, this], List.getElem_mem _⟩

theorem quo_ok {a b : Int} (h : 1 ≤ b) (ha : 0 ≤ a) (hm : a ≤ 9223372036854775807) : ∃ v, quo .i64 a b = some v ∧ 0 ≤ v ∧ v ≤ a := by
  have h1 : 0 ≤ a.tdiv b := Int.tdiv_nonneg ha (by omega)
  have h2 : a.tdiv b ≤ a := Int.tdiv_le_self _ ha
  refine ⟨a.tdiv b, ?_, h1, h2⟩
  simp only [quo]
  rw [if_neg (by omega), wrap64 (by omega) (by omega)]

theorem ixor_ok {a b : Int} (ha : 0 ≤ a) (ha2 : a < 9223372036854775808) (hb : 0 ≤ b) (hb2 : b < 9223372036854775808) : 0 ≤ ixor .i64 a b := by
  have e : (BitVec.ofInt 64 a ^^^ BitVec.ofInt 64 b).toNat < 9223372036854775808 := by
    rw [BitVec.toNat_xor]
    have h1 : (BitVec.ofInt 64 a).toNat < 2 ^ 63 := by
      rw [BitVec.toNat_ofInt]; omega
    have h2 : (BitVec.ofInt 64 b).toNat < 2 ^ 63 := by
      rw [BitVec.toNat_ofInt]; omega
    exact Nat.xor_lt_two_pow h1 h2
  unfold ixor
  have : IntKind.bits .i64 = 64 := rfl
  show 0 ≤ IntKind.wrap .i64 ((BitVec.ofInt 64 a ^^^ BitVec.ofInt 64 b).toNat : Int)
  rw [wrap64 (by omega) (by omega)]
  omega

theorem mixw {x1 x2 p q : Int} (h1 : 0 ≤ x1 ∧ x1 ≤ 255) (h2 : 0 ≤ x2 ∧ x2 ≤ 255) (hp : 0 ≤ p) (hp2 : p ≤ 1000000000) (qa : 0 ≤ q) (qb : q ≤ p) :
    IntKind.wrap .i64 (IntKind.wrap .i64 (IntKind.wrap .i64 (IntKind.wrap .i64 (IntKind.wrap .i64 x1 * 131) + IntKind.wrap .i64 (IntKind.wrap .i64 x2 * 1117)) + IntKind.wrap .i64 (p * 29)) + IntKind.wrap .i64 (q * 53)) = x1 * 131 + x2 * 1117 + p * 29 + q * 53 := by
  rw [wrap64 (x := x1) (by omega) (by omega), wrap64 (x := x1 * 131) (by omega) (by omega), wrap64 (x := x2) (by omega) (by omega), wrap64 (x := x2 * 1117) (by omega) (by omega),
      wrap64 (x := x1 * 131 + x2 * 1117) (by omega) (by omega), wrap64 (x := p * 29) (by omega) (by omega), wrap64 (x := x1 * 131 + x2 * 1117 + p * 29) (by omega) (by omega), wrap64 (x := q * 53) (by omega) (by omega),
      wrap64 (x := x1 * 131 + x2 * 1117 + p * 29 + q * 53) (by omega) (by omega)]
theorem mixb {x1 x2 p q : Int} (h1 : 0 ≤ x1 ∧ x1 ≤ 255) (h2 : 0 ≤ x2 ∧ x2 ≤ 255) (hp : 0 ≤ p) (hp2 : p ≤ 1000000000) (qa : 0 ≤ q) (qb : q ≤ p) :
    0 ≤ x1 * 131 + x2 * 1117 + p * 29 + q * 53 ∧ x1 * 131 + x2 * 1117 + p * 29 + q * 53 ≤ 1000000000000 := by omega

theorem bindO {α β : Type} {o : Option α} {a : α} {f : α → Option β} {K : β → Prop} (h : o = some a) (hk : ∃ r, f a = some r ∧ K r) : ∃ r, o.bind f = some r ∧ K r := by
  subst h; exact hk

theorem pick_far {b : List Int} (hb : Bytes b) {n : Int} (hn : 1 ≤ n) {p : Int} (hp : 0 ≤ p) (hp2 : p ≤ 1000000000) (h3 : ((b.length : Nat) : Int) ≤ p) (hl : 1 ≤ b.length) (K : Int × Int → Prop) (hK : ∀ v, 0 ≤ v → v < n → K (v, p + 1)) :
    ∃ r, ((rem p ((b.length : Nat) : Int)).bind fun (v171 : Int) => (idx b v171).bind fun (v172 : Int) => (rem (IntKind.wrap .i64 ((IntKind.wrap .i64 (p * 7)) + 3)) ((b.length : Nat) : Int)).bind fun (v178 : Int) => (idx b v178).bind fun (v179 : Int) => (quo .i64 p ((b.length : Nat) : Int)).bind fun (v186 : Int) => (quo .i64 (IntKind.wrap .i64 ((IntKind.wrap .i64 ((IntKind.wrap .i64 ((IntKind.wrap .i64 ((IntKind.wrap .i64 v172) * 131)) + (IntKind.wrap .i64 ((IntKind.wrap .i64 v179) * 1117)))) + (IntKind.wrap .i64 (p * 29)))) + (IntKind.wrap .i64 (v186 * 53)))) 64).bind fun (v189 : Int) =>
      (rem (ixor .i64 (IntKind.wrap .i64 ((IntKind.wrap .i64 ((IntKind.wrap .i64 ((IntKind.wrap .i64 ((IntKind.wrap .i64 v172) * 131)) + (IntKind.wrap .i64 ((IntKind.wrap .i64 v179) * 1117)))) + (IntKind.wrap .i64 (p * 29)))) + (IntKind.wrap .i64 (v186 * 53)))) v189) n).bind fun (v191 : Int) => some (v191, p + 1)) = some r ∧ K r := by
  obtain ⟨i1, e1, i1a, i1b⟩ := rem_ok (a := p) (b := b.length) (by omega) hp
  refine bindO e1 ?_
  obtain ⟨x1, ex1, hm1⟩ := idx_ok i1a i1b
  have hr1 := hb.rng x1 hm1
  refine bindO ex1 ?_
  obtain ⟨i2, e3, i2a, i2b⟩ := rem_ok (a := p * 7 + 3) (b := b.length) (by omega) (by omega)
  have e3' : rem (IntKind.wrap .i64 ((IntKind.wrap .i64 (p * 7)) + 3)) ((b.length : Nat) : Int) = some i2 := by
    rw [wrap64 (x := p * 7) (by omega) (by omega), wrap64 (x := p * 7 + 3) (by omega) (by omega)]; exact e3
  refine bindO e3' ?_
  obtain ⟨x2, ex2, hm2⟩ := idx_ok i2a i2b
  have hr2 := hb.rng x2 hm2
  refine bindO ex2 ?_
  obtain ⟨q, eq, qa, qb⟩ := quo_ok (a := p) (b := b.length) (by omega) hp (by omega)
  refine bindO eq ?_
  rw [mixw hr1 hr2 hp hp2 qa qb]
  obtain ⟨hX0, hX1⟩ := mixb hr1 hr2 hp hp2 qa qb
  generalize x1 * 131 + x2 * 1117 + p * 29 + q * 53 = X at hX0 hX1 ⊢
  obtain ⟨y, ey, ya, yb⟩ := quo_ok (a := X) (b := 64) (by omega) hX0 (by omega)
  refine bindO ey ?_
  obtain ⟨v, hv, h4, h5⟩ := rem_ok (b := n) (by omega) (ixor_ok hX0 (by omega) ya (by omega))
  refine bindO hv ?_
  exact ⟨_, rfl, hK v h4 h5⟩

theorem pick_ok {b : List Int} (hb : Bytes b) (n : Int) (hn : n ≤ 1000000) {p : Int} (hp : 0 ≤ p) (hp2 : p ≤ 1000000000) :
    ∃ v, spec_l20Rd_pick n b p = some (v, p + 1) ∧ 0 ≤ v ∧ (1 ≤ n → v < n) ∧ (n < 1 → v = 0) := by
  suffices H : ∃ r, spec_l20Rd_pick n b p = some r ∧ (r.2 = p + 1 ∧ 0 ≤ r.1 ∧ (1 ≤ n → r.1 < n) ∧ (n < 1 → r.1 = 0)) by
    obtain ⟨⟨v, q⟩, h1, h2, h3⟩ := H
    simp only at h2
    subst h2
    exact ⟨v, h1, h3⟩
  unfold spec_l20Rd_pick spec_l20Rd_pick_n1
  have hlen := hb.len
  rw [wrap64 (x := p + 1) (by omega) (by omega), show p + 1 - 1 = p by omega, wrap64 (x := p) (by omega) (by omega)]
  by_cases h1 : n < 1
  · rw [decide_eq_true h1]
    exact ⟨_, rfl, rfl, Int.le_refl _, fun h => by omega, fun _ => rfl⟩
  rw [decide_eq_false h1]
  by_cases h2 : b.length = 0
  · have e0 : ((((b.length : Nat) : Int)) == 0) = true := by simp; exact List.eq_nil_of_length_eq_zero h2
    rw [e0]
    exact ⟨_, rfl, rfl, Int.le_refl _, fun h => by show (0 : Int) < n; omega, fun _ => rfl⟩
  have e2 : ((((b.length : Nat) : Int)) == 0) = false := by simp; intro e; subst e; simp at h2
  rw [e2]
  by_cases h3 : p < ((b.length : Nat) : Int)
  · rw [decide_eq_true h3]
    obtain ⟨x, hx, hm⟩ := idx_ok hp h3
    have hr := hb.rng x hm
    simp only [cond_true, cond_false]
    refine bindO hx ?_
    obtain ⟨v, hv, h4, h5⟩ := rem_ok (b := n) (by omega) hr.1
    refine bindO (a := v) (by rw [wrap64 (x := x) (by omega) (by omega)]; exact hv) ?_
    exact ⟨_, rfl, rfl, h4, fun _ => h5, fun h => by omega⟩
  · rw [decide_eq_false h3]
    simp only [cond_false]
    exact pick_far hb (by omega) hp hp2 (by omega) (by omega) _ (fun v h4 h5 => ⟨rfl, h4, fun _ => h5, fun h => by omega⟩)

theorem odd_ok {b : List Int} (hb : Bytes b) (n : Int) (hn : n ≤ 1000000) {p : Int} (hp : 0 ≤ p) (hp2 : p ≤ 1000000000) :
    ∃ (v : Bool) (q : Int), spec_l20Rd_odd n b p = some (v, q) ∧ p ≤ q ∧ q ≤ p + 1 := by
  unfold spec_l20Rd_odd spec_l20Rd_odd_n1
  by_cases h : n > 0
  · obtain ⟨v, hv, _⟩ := pick_ok hb n hn hp hp2
    rw [decide_eq_true h, hv]
    exact ⟨_, _, rfl, by show p ≤ p + 1; omega, by show p + 1 ≤ p + 1; omega⟩
  · rw [decide_eq_false h]
    exact ⟨_, _, rfl, by omega, by omega⟩

theorem open_ok (x : List Int) (w : ∀ n ∈ x, (Lit.int .u8 n).wf = true) (l : x.length ≤ maxLen) : ∃ b, spec_l20Open x = some b ∧ Bytes b := by
  have hr : ∀ n ∈ x, 0 ≤ n ∧ n ≤ 255 := fun n hn => by
    have := w n hn
    simp only [Lit.wf, Bool.and_eq_true, decide_eq_true_eq] at this
    have e1 : IntKind.u8.min = 0 := rfl
    have e2 : IntKind.u8.max = 255 := rfl
    omega
  unfold spec_l20Open spec_l20Open_n1
  by_cases h : ((x.length : Nat) : Int) > 2000
  · rw [decide_eq_true h]
    have : inc 2000 x.length = some 2000 := by simp only [inc]; rw [if_pos (by omega)]; rfl
    rw [this]
    exact ⟨_, rfl, ⟨fun n hn => hr n (List.mem_of_mem_take (List.mem_of_mem_drop hn)), by simp; omega⟩⟩
  · rw [decide_eq_false h]
    exact ⟨x, rfl, ⟨hr, by omega⟩⟩

theorem inc_ok {i : Int} {n : Nat} (h0 : 0 ≤ i) (h1 : i ≤ n) : inc i n = some i.toNat := by simp only [inc]; rw [if_pos ⟨h0, h1⟩]
theorem inb_ok {i : Int} {n : Nat} (h0 : 0 ≤ i) (h1 : i < n) : inb i n = some i.toNat := by simp only [inb]; rw [if_pos ⟨h0, h1⟩]

/-- A number put into a row. -/
theorem ins_step {o : List Int} {i : Nat} {x : Int} (hi : i ≤ o.length) (hl : o.length ≤ 1000) :
    (room ((List.length ([] : List Int)) + List.length ((o.drop 0).take (i - 0)))) = some () ∧ room ((List.length (([] : List Int) ++ ((o.drop 0).take (i - 0)))) + List.length ([x])) = some () ∧
    room ((List.length ((([] : List Int) ++ ((o.drop 0).take (i - 0))) ++ ([x]))) + List.length ((o.drop i).take ((List.length o) - i))) = some () ∧
    (((([] : List Int) ++ ((o.drop 0).take (i - 0))) ++ ([x])) ++ ((o.drop i).take ((List.length o) - i))) = o.take i ++ [x] ++ o.drop i := by
  refine ⟨by rw [room_le]; simp; omega, by rw [room_le]; simp; omega, by rw [room_le]; simp; omega, ?_⟩
  simp only [List.nil_append, List.drop_zero, Nat.sub_zero]
  rw [List.take_of_length_le (l := o.drop i) (by simp)]

theorem order_ok {b : List Int} (hb : Bytes b) (n : Nat) (hn : n ≤ 20) {p : Int} (hp : 0 ≤ p) (hp2 : p ≤ 999999000) :
    ∃ (q : Int) (o : List Int), spec_l20Order n b p = some (q, o) ∧ p ≤ q ∧ q ≤ p + 100 ∧ o.length = n ∧ ∀ x ∈ o, 1 ≤ x ∧ x ≤ (n : Int) := by
  unfold spec_l20Order spec_l20Order_n9 spec_l20Order_n1
  obtain ⟨keep, hk, _⟩ := pick_ok hb 2 (by omega) hp (by omega)
  rw [hk]
  simp only [Option.bind_some]
  unfold spec_l20Order_n8 spec_l20Order_n6 spec_l20Order_n2 spec_l20Order_n5 spec_l20Order_n4
  obtain ⟨⟨q, o⟩, h1, h2, h3, h4, h5⟩ := nloop_ex (body := fun (s : Int × Int × List Int) => ((spec_l20Order_n3 n keep s.1 b s.2.1 s.2.2).map (Sum.elim (fun (t : Int × Int × List Int) => Sum.inl (t.1, t.2.1, t.2.2)) (fun (t : Int × List Int) => Sum.inr t)) : Option ((Int × Int × List Int) ⊕ ((Int × List Int)))))
    (I := fun s => ∃ (k : Nat) (q : Int) (o : List Int), s = (((k + 1 : Nat) : Int), q, o) ∧ k ≤ n ∧ p ≤ q ∧ q ≤ p + 1 + 2 * k ∧ o.length = k ∧ ∀ x ∈ o, 1 ≤ x ∧ x ≤ (k : Int)) (μ := fun s => n + 1 - s.1.toNat)
    (Q := fun t => p ≤ t.1 ∧ t.1 ≤ p + 100 ∧ t.2.length = n ∧ ∀ x ∈ t.2, 1 ≤ x ∧ x ≤ (n : Int))
    (by
      rintro _ ⟨k, q, o, rfl, hk, hq1, hq2, ho, hx⟩
      simp only [spec_l20Order_n3]
      by_cases hlt : k < n
      · left
        rw [show decide (((k + 1 : Nat) : Int) ≤ (n : Int)) = true from decide_eq_true (by omega), wrap64 (x := ((k + 1 : Nat) : Int) + 1) (by omega) (by omega)]
        have fin : ∀ (i : Nat) (q' : Int), i ≤ o.length → p ≤ q' → q' ≤ q + 2 → (∃ k_1 q_1 o_1, ((((k + 1 : Nat) : Int) + 1, q', o.take i ++ [((k + 1 : Nat) : Int)] ++ o.drop i) : Int × Int × List Int) = (((k_1 + 1 : Nat) : Int), q_1, o_1) ∧ k_1 ≤ n ∧ p ≤ q_1 ∧ q_1 ≤ p + 1 + 2 * (k_1 : Int) ∧ o_1.length = k_1 ∧ ∀ x ∈ o_1, 1 ≤ x ∧ x ≤ (k_1 : Int)) ∧
            n + 1 - (((k + 1 : Nat) : Int) + 1).toNat < n + 1 - (((k + 1 : Nat) : Int)).toNat := fun i q' hi hq3 hq4 => by
          refine ⟨⟨k + 1, q', _, by push_cast; rfl, by omega, hq3, by push_cast; omega, by simp; omega, fun x hxm => ?_⟩, by omega⟩
          simp only [List.mem_append, List.mem_singleton] at hxm
          rcases hxm with (h | h) | h
          · have := hx x (List.mem_of_mem_take h); push_cast; omega
          · subst h; push_cast; omega
          · have := hx x (List.mem_of_mem_drop h); push_cast; omega
        have one : ∀ (v : Int), 0 ≤ v → v ≤ o.length → ∀ q' : Int, (inc v (List.length o)).bind (fun (v426 : Nat) => (room ((List.length ([] : List Int)) + List.length ((o.drop 0).take (v426 - 0)))).bind fun (v430 : Unit) => (room ((List.length (([] : List Int) ++ ((o.drop 0).take (v426 - 0)))) + List.length ([((k + 1 : Nat) : Int)]))).bind fun (v434 : Unit) => (inc v (List.length o)).bind fun (v437 : Nat) => (room ((List.length ((([] : List Int) ++ ((o.drop 0).take (v426 - 0))) ++ ([((k + 1 : Nat) : Int)]))) + List.length ((o.drop v437).take ((List.length o) - v437)))).bind fun (v441 : Unit) =>
            some (Sum.inl ((((k + 1 : Nat) : Int) + 1), q', (((([] : List Int) ++ ((o.drop 0).take (v426 - 0))) ++ ([((k + 1 : Nat) : Int)])) ++ ((o.drop v437).take ((List.length o) - v437)))))) = (some (Sum.inl ((((k + 1 : Nat) : Int) + 1), q', o.take v.toNat ++ [((k + 1 : Nat) : Int)] ++ o.drop v.toNat)) : Option ((Int × Int × List Int) ⊕ (Int × List Int))) := fun v hv0 hv1 q' => by
          obtain ⟨r1, r2, r3, r4⟩ := ins_step (o := o) (i := v.toNat) (x := ((k + 1 : Nat) : Int)) (by omega) (by omega)
          simp only [inc_ok hv0 hv1, Option.bind_some, r1, r2, r3, r4]
        obtain ⟨v1, hv1, a1, b1, _⟩ := pick_ok hb ((k + 1 : Nat) : Int) (by omega) (p := q) (by omega) (by omega)
        have b1' := b1 (by omega)
        obtain ⟨v3, hv3, a3, b3, _⟩ := pick_ok hb 3 (by omega) (p := q) (by omega) (by omega)
        obtain ⟨v2, hv2, a2, b2, _⟩ := pick_ok hb ((k + 1 : Nat) : Int) (by omega) (p := q + 1) (by omega) (by omega)
        have b2' := b2 (by omega)
        cases hkeep : (keep == 0) with
        | true =>
          simp only [cond_true, hv1, Option.bind_some]
          rw [one v1 a1 (by omega) (q + 1)]
          exact ⟨_, rfl, fin v1.toNat (q + 1) (by omega) (by omega) (by omega)⟩
        | false =>
          simp only [cond_true, cond_false, hv3, Option.bind_some]
          cases h3 : (v3 == 0) with
          | true =>
            simp only [cond_true, hv2, Option.bind_some]
            rw [one v2 a2 (by omega) (q + 1 + 1)]
            exact ⟨_, rfl, fin v2.toNat (q + 1 + 1) (by omega) (by omega) (by omega)⟩
          | false =>
            simp only [cond_false]
            rw [one ((o.length : Nat) : Int) (by omega) (by omega) (q + 1)]
            exact ⟨_, rfl, fin (((o.length : Nat) : Int)).toNat (q + 1) (by omega) (by omega) (by omega)⟩
      · right
        have e : k = n := by omega
        subst e
        rw [show decide (((k + 1 : Nat) : Int) ≤ (k : Int)) = false from decide_eq_false (by omega)]
        exact ⟨_, rfl, hq1, by show q ≤ p + 100; omega, ho, hx⟩) LL (1, p + 1, []) ⟨0, p + 1, [], rfl, by omega, by omega, by omega, rfl, by simp⟩ (by simp only [LL]; omega)
  rw [h1]
  exact ⟨q, o, rfl, h2, h3, h4, h5⟩

theorem room_ok {n : Nat} (h : n ≤ 1099511627776) : room n = some () := by unfold room; rw [if_pos h]

def endsI (h : List Int) : List Int := if treeB h then (List.range h.length).map fun k => ((endsW h (k + 1) : Nat) : Int) else []
def starB (h : List Int) : Bool := treeB h && (List.range h.length).any fun k => endsW h (k + 1) == h.length - 1

theorem starB_iff {h : List Int} (T : Tree h) : starB h = true ↔ starP h := by
  unfold starB starP
  rw [(tree_iff h).mpr T, Bool.true_and, List.any_eq_true]
  constructor
  · rintro ⟨k, hk, e⟩
    rw [List.mem_range] at hk
    exact ⟨k + 1, by omega, by omega, beq_iff_eq.mp e⟩
  · rintro ⟨w, w1, w2, e⟩
    exact ⟨w - 1, List.mem_range.mpr (by omega), by rw [show w - 1 + 1 = w by omega]; exact beq_iff_eq.mpr e⟩

theorem endsI_length {h : List Int} (t : treeB h = true) : (endsI h).length = h.length := by unfold endsI; rw [if_pos t]; simp
theorem endsI_get {h : List Int} (t : treeB h = true) {k : Nat} (hk : k < h.length) : (endsI h)[k]? = some ((endsW h (k + 1) : Nat) : Int) := by
  unfold endsI
  rw [if_pos t]
  simp [hk]

theorem kids_loop {h : List Int} (T : Tree h) {k e0 : Nat} (hk : k < h.length) (he : e0 ≤ 1) : spec_EndsOf_n7 h (k : Int) (e0 : Int) = some ((kidsN h (k + 1) + e0 : Nat) : Int) := by
  unfold spec_EndsOf_n7
  have l8 := T.le
  have ob : ∀ j, j ≤ h.length → sumR (fun i => ind (hd h (i + 1) == k + 1)) j ≤ 8 := fun j hj => by
    have := sumR_le (f := fun i => ind (hd h (i + 1) == k + 1)) (g := fun _ => 1) (n := j) fun i _ => ind_le _
    rw [sumR_const] at this
    omega
  have w0 : IntKind.wrap .i64 ((k : Int) + 1) = ((k + 1 : Nat) : Int) := by rw [wrap64 (by omega) (by omega)]; omega
  have lp := nloop_to (body := fun (s : Int × Int) => ((spec_EndsOf_n6 h (k : Int) s.1 s.2).map (Sum.elim (fun (t : Int × Int) => Sum.inl (t.1, t.2)) (fun (t : Int) => Sum.inr t)) : Option ((Int × Int) ⊕ (Int))))
    (fun j => (((sumR (fun i => ind (hd h (i + 1) == k + 1)) j + e0 : Nat) : Int), (j : Int))) h.length ((kidsN h (k + 1) + e0 : Nat) : Int)
    (by
      intro j hj
      have g := T.get (w := j + 1) (by omega) (by omega)
      rw [Nat.add_sub_cancel] at g
      have b := ob j (by omega)
      simp only [spec_EndsOf_n6]
      rw [decide_eq_true (show (j : Int) < ((h.length : Nat) : Int) by omega), idx_nat, g, w0]
      simp only [cond_true, Option.bind_some]
      have w : IntKind.wrap .i64 ((j : Int) + 1) = ((j + 1 : Nat) : Int) := by rw [wrap64 (by omega) (by omega)]; omega
      have w2 : IntKind.wrap .i64 (((sumR (fun i => ind (hd h (i + 1) == k + 1)) j + e0 : Nat) : Int) + 1) = ((sumR (fun i => ind (hd h (i + 1) == k + 1)) j + 1 + e0 : Nat) : Int) := by rw [wrap64 (by omega) (by omega)]; omega
      rw [w, w2, sumR]
      by_cases q : hd h (j + 1) = k + 1
      · rw [show (((hd h (j + 1) : Nat) : Int) == ((k + 1 : Nat) : Int)) = true from beq_iff_eq.mpr (by omega), show (hd h (j + 1) == k + 1) = true from beq_iff_eq.mpr q]
        rfl
      · rw [show (((hd h (j + 1) : Nat) : Int) == ((k + 1 : Nat) : Int)) = false from beq_eq_false_iff_ne.mpr (by omega), show (hd h (j + 1) == k + 1) = false from beq_eq_false_iff_ne.mpr q]
        rfl)
    (by
      simp only [spec_EndsOf_n6]
      rw [decide_eq_false (show ¬ ((h.length : Nat) : Int) < ((h.length : Nat) : Int) by omega), kidsN_sum]
      rfl) LL (by simp only [LL]; omega)
  have lp' := lp
  rw [show sumR (fun i => ind (hd h (i + 1) == k + 1)) 0 + e0 = e0 from Nat.zero_add _, show ((0 : Nat) : Int) = 0 from rfl] at lp'
  exact lp'

theorem specEnds_eq (h : List Int) : spec_EndsOf h = some (endsI h) := by
  have e : spec_EndsOf h = spec_EndsOf_n22 h := by unfold spec_EndsOf; rfl
  rw [e]
  unfold spec_EndsOf_n22 spec_EndsOf_n1 spec_EndsOf_n21 spec_EndsOf_n19 spec_EndsOf_n2 spec_EndsOf_n18 spec_EndsOf_n17 spec_EndsOf_n20 endsI
  simp only [Option.bind_some]
  cases t : treeB h with
  | false =>
    have lp := nloop_to (body := fun (s : Int × (List Int)) => ((spec_EndsOf_n16 h s.1 s.2).map (Sum.elim (fun (t : Int × (List Int)) => Sum.inl (t.1, t.2)) (fun (t : (List Int)) => Sum.inr t)) : Option ((Int × (List Int)) ⊕ (((List Int))))))
      (fun _ => ((0 : Int), ([] : List Int))) 0 ([] : List Int) (fun k hk => absurd hk (by omega))
      (by
        simp only [spec_EndsOf_n16, spec_EndsOf_n3]
        rw [specTree_eq, t]
        by_cases q : 0 < ((h.length : Nat) : Int)
        · rw [decide_eq_true q]
          rfl
        · rw [decide_eq_false q]
          rfl) LL (by simp only [LL]; omega)
    rw [lp]
    rfl
  | true =>
    have T := (tree_iff h).mp t
    have l8 := T.le
    have lp := nloop_to (body := fun (s : Int × (List Int)) => ((spec_EndsOf_n16 h s.1 s.2).map (Sum.elim (fun (t : Int × (List Int)) => Sum.inl (t.1, t.2)) (fun (t : (List Int)) => Sum.inr t)) : Option ((Int × (List Int)) ⊕ (((List Int))))))
      (fun k => ((k : Int), (List.range k).map fun j => ((endsW h (j + 1) : Nat) : Int))) h.length ((List.range h.length).map fun k => ((endsW h (k + 1) : Nat) : Int))
      (by
        intro k hk
        have g := T.get (w := k + 1) (by omega) (by omega)
        rw [Nat.add_sub_cancel] at g
        have w : IntKind.wrap .i64 ((k : Int) + 1) = ((k + 1 : Nat) : Int) := by rw [wrap64 (by omega) (by omega)]; omega
        simp only [spec_EndsOf_n16, spec_EndsOf_n3, spec_EndsOf_n15, spec_EndsOf_n13, spec_EndsOf_n12, spec_EndsOf_n4, spec_EndsOf_n11, spec_EndsOf_n9, spec_EndsOf_n5, spec_EndsOf_n8, spec_EndsOf_n14]
        rw [decide_eq_true (show (k : Int) < ((h.length : Nat) : Int) by omega), specTree_eq, t, idx_nat, g, w]
        simp only [cond_true, Option.bind_some, Sum.elim_inl]
        have kl : ∀ e0 : Nat, e0 ≤ 1 → spec_EndsOf_n7 h (k : Int) (e0 : Int) = some ((kidsN h (k + 1) + e0 : Nat) : Int) := fun e0 he => kids_loop T hk he
        have k0 := kl 0 (by omega)
        have k1 := kl 1 (by omega)
        rw [show ((0 : Nat) : Int) = 0 from rfl] at k0
        rw [show ((1 : Nat) : Int) = 1 from rfl] at k1
        have fin : ∀ v : Int, spec_EndsOf_n10 v ((List.range k).map fun j => ((endsW h (j + 1) : Nat) : Int)) = some (((List.range k).map fun j => ((endsW h (j + 1) : Nat) : Int)) ++ [v]) := fun v => by
          unfold spec_EndsOf_n10
          rw [room_ok (by simp; omega)]
          rfl
        by_cases z : hd h (k + 1) = 0
        · rw [decide_eq_false (show ¬ ((hd h (k + 1) : Nat) : Int) > 0 by omega)]
          simp only [cond_false, Option.bind_some, k0, Option.map_some, fin, Sum.elim_inl]
          have ew : endsW h (k + 1) = kidsN h (k + 1) + 0 := by unfold endsW; rw [if_pos z]
          rw [List.range_succ, List.map_append, List.map_cons, List.map_nil, ew]
        · rw [decide_eq_true (show ((hd h (k + 1) : Nat) : Int) > 0 by omega)]
          simp only [cond_true, Option.bind_some, k1, Option.map_some, fin, Sum.elim_inl]
          have ew : endsW h (k + 1) = kidsN h (k + 1) + 1 := by unfold endsW; rw [if_neg z]
          rw [List.range_succ, List.map_append, List.map_cons, List.map_nil, ew])
      (by
        simp only [spec_EndsOf_n16, spec_EndsOf_n3]
        rw [decide_eq_false (show ¬ ((h.length : Nat) : Int) < ((h.length : Nat) : Int) by omega)]
        rfl) LL (by simp only [LL]; omega)
    have lp' := lp
    rw [show ((0 : Nat) : Int) = 0 from rfl, show (List.range 0).map (fun j => ((endsW h (j + 1) : Nat) : Int)) = [] from rfl] at lp'
    rw [lp']
    rfl

theorem specStar_eq (h : List Int) : spec_StarOk h = some (starB h) := by
  have e : spec_StarOk h = spec_StarOk_n9 h := by unfold spec_StarOk; rfl
  rw [e]
  unfold spec_StarOk_n9 spec_StarOk_n1 spec_StarOk_n8 spec_StarOk_n6 spec_StarOk_n2 spec_StarOk_n5 spec_StarOk_n4 spec_StarOk_n7 starB
  rw [specEnds_eq]
  simp only [Option.bind_some]
  cases t : treeB h with
  | false =>
    have e0 : endsI h = [] := by unfold endsI; rw [t]; rfl
    rw [e0]
    rfl
  | true =>
    have T := (tree_iff h).mp t
    have l8 := T.le
    have el := endsI_length t
    have lp := nloop_while (body := fun (s : Int) => ((spec_StarOk_n3 h s (endsI h)).map (Sum.elim (fun (t : Int) => Sum.inl t) (Sum.elim (fun (t : Bool) => Sum.inr (Sum.inl t)) (fun (t : Unit) => Sum.inr (Sum.inr t)))) : Option ((Int) ⊕ (Bool ⊕ Unit))))
      (fun k => (k : Int)) h.length (fun k => !(endsW h (k + 1) == h.length - 1)) (fun b => if b then Sum.inr () else Sum.inl true)
      (by
        intro k hk q
        have hp := T.pos
        have g := endsI_get t hk
        have q : endsW h (k + 1) ≠ h.length - 1 := by simpa using q
        have w : IntKind.wrap .i64 ((k : Int) + 1) = ((k + 1 : Nat) : Int) := by rw [wrap64 (by omega) (by omega)]; omega
        simp only [spec_StarOk_n3]
        rw [decide_eq_true (show (k : Int) < (((endsI h).length : Nat) : Int) by omega), inb_nat (by omega), w, wrap64 (x := ((h.length : Nat) : Int) - 1) (by omega) (by omega)]
        simp only [cond_true, Option.bind_some, g]
        rw [show (((endsW h (k + 1) : Nat) : Int) == ((h.length : Nat) : Int) - 1) = false from beq_eq_false_iff_ne.mpr (by omega)]
        rfl)
      (by
        intro k hk q
        have hp := T.pos
        have g := endsI_get t hk
        have q : endsW h (k + 1) = h.length - 1 := by simpa using q
        simp only [spec_StarOk_n3]
        rw [decide_eq_true (show (k : Int) < (((endsI h).length : Nat) : Int) by omega), inb_nat (by omega), wrap64 (x := ((h.length : Nat) : Int) - 1) (by omega) (by omega)]
        simp only [cond_true, Option.bind_some, g]
        rw [show (((endsW h (k + 1) : Nat) : Int) == ((h.length : Nat) : Int) - 1) = true from beq_iff_eq.mpr (by omega)]
        rfl)
      (by
        simp only [spec_StarOk_n3]
        rw [el, decide_eq_false (show ¬ ((h.length : Nat) : Int) < ((h.length : Nat) : Int) by omega)]
        rfl) LL (by simp only [LL]; omega)
    have lp' := lp
    rw [show ((0 : Nat) : Int) = 0 from rfl] at lp'
    rw [lp']
    rw [Bool.true_and, show ((List.range h.length).any fun k => endsW h (k + 1) == h.length - 1) = !((List.range h.length).all fun k => !(endsW h (k + 1) == h.length - 1)) by simp [List.not_all_eq_any_not]]
    cases (List.range h.length).all fun k => !(endsW h (k + 1) == h.length - 1) <;> rfl

/-- How many arcs of a list end at a place. -/
def endK (A : List (Int × Int)) (v : Nat) : Nat := A.countP fun p => p.1 == (v : Int) || p.2 == (v : Int)

def endL (A : List (Int × Int)) : List Int := (List.range 9).map fun v => ((endK A v : Nat) : Int)

theorem endL_length (A : List (Int × Int)) : (endL A).length = 9 := by simp [endL]
theorem endL_get (A : List (Int × Int)) {v : Nat} (hv : v < 9) : (endL A)[v]? = some ((endK A v : Nat) : Int) := by simp [endL, hv]
theorem endK_le (A : List (Int × Int)) (v : Nat) : endK A v ≤ A.length := List.countP_le_length

theorem endL_step {A : List (Int × Int)} {p : Int × Int} {a b : Nat} (ha : p.1 = (a : Int)) (hb : p.2 = (b : Int)) (ab : a < b) (b9 : b < 9) :
    ((endL A).set a (((endK A a : Nat) : Int) + 1)).set b (((endK A b : Nat) : Int) + 1) = endL (A ++ [p]) := by
  refine List.ext_getElem? fun i => ?_
  rw [List.getElem?_set, List.getElem?_set]
  simp only [List.length_set, endL_length]
  by_cases hi : i < 9
  · rw [endL_get _ hi, endL_get _ hi]
    have e : endK (A ++ [p]) i = endK A i + if i = a ∨ i = b then 1 else 0 := by
      unfold endK
      rw [List.countP_append, List.countP_singleton]
      congr 1
      by_cases q : i = a ∨ i = b
      · rw [if_pos q, if_pos]
        simp only [Bool.or_eq_true, beq_iff_eq]
        omega
      · rw [if_neg q, if_neg]
        simp only [Bool.or_eq_true, beq_iff_eq]
        omega
    rw [e]
    by_cases q1 : b = i
    · subst q1
      rw [if_pos rfl, if_pos b9, if_pos (.inr rfl)]
      rfl
    · rw [if_neg q1]
      by_cases q2 : a = i
      · subst q2
        rw [if_pos rfl, if_pos (by omega), if_pos (.inl rfl)]
        rfl
      · rw [if_neg q2, if_neg (by omega)]
        rfl
  · rw [if_neg (by omega), if_neg (by omega), List.getElem?_eq_none (by rw [endL_length]; omega), List.getElem?_eq_none (by rw [endL_length]; omega)]

theorem countEnds_eq {A : List (Int × Int)} (hl : A.length ≤ 8) (hA : ∀ p ∈ A, 1 ≤ p.1 ∧ p.1 < p.2 ∧ p.2 ≤ 8) :
    impl_countEnds (A.map asArc) = some (((endK A 0 : Nat) : Int), ((endK A 1 : Nat) : Int), ((endK A 2 : Nat) : Int), ((endK A 3 : Nat) : Int), ((endK A 4 : Nat) : Int), ((endK A 5 : Nat) : Int), ((endK A 6 : Nat) : Int), ((endK A 7 : Nat) : Int), ((endK A 8 : Nat) : Int)) := by
  have e : impl_countEnds (A.map asArc) = impl_countEnds_n9 (A.map asArc) := by unfold impl_countEnds; rfl
  rw [e]
  unfold impl_countEnds_n9 impl_countEnds_n1 impl_countEnds_n8 impl_countEnds_n6 impl_countEnds_n2 impl_countEnds_n5 impl_countEnds_n4 impl_countEnds_n7
  have lp := nloop_to (body := fun (s : Int × (List Int)) => ((impl_countEnds_n3 (A.map asArc) ((A.length : Nat) : Int) s.1 s.2).map (Sum.elim (fun (t : Int × (List Int)) => Sum.inl (t.1, t.2)) (fun (t : (List Int)) => Sum.inr t)) : Option ((Int × (List Int)) ⊕ (((List Int))))))
    (fun k => ((k : Int), endL (A.take k))) A.length (endL A)
    (by
      intro k hk
      have hi : idx (A.map asArc) (k : Int) = some (asArc A[k]) := by rw [idx_nat]; simp [hk]
      obtain ⟨p1, p2, p3⟩ := hA A[k] (List.getElem_mem hk)
      obtain ⟨a, ea⟩ : ∃ a : Nat, A[k].1 = (a : Int) := ⟨A[k].1.toNat, by omega⟩
      obtain ⟨b, eb⟩ : ∃ b : Nat, A[k].2 = (b : Int) := ⟨A[k].2.toNat, by omega⟩
      have ab : a < b := by omega
      have b9 : b < 9 := by omega
      have w : IntKind.wrap .i64 ((k : Int) + 1) = ((k + 1 : Nat) : Int) := by rw [wrap64 (by omega) (by omega)]; omega
      have ka := endK_le (A.take k) a
      have kb := endK_le (A.take k) b
      rw [List.length_take] at ka kb
      have wa : IntKind.wrap .i64 (((endK (A.take k) a : Nat) : Int) + 1) = ((endK (A.take k) a : Nat) : Int) + 1 := wrap64 (by omega) (by omega)
      have wb : IntKind.wrap .i64 (((endK (A.take k) b : Nat) : Int) + 1) = ((endK (A.take k) b : Nat) : Int) + 1 := wrap64 (by omega) (by omega)
      simp only [impl_countEnds_n3]
      rw [decide_eq_true (show (k : Int) < ((A.length : Nat) : Int) by omega), hi]
      simp only [cond_true, Option.bind_some, asArc, ea, eb, endL_length, List.length_set]
      rw [show same 9 9 = some () from rfl, inb_nat (show a < 9 by omega), inb_nat b9]
      simp only [Option.bind_some, endL_get _ (show a < 9 by omega), wa]
      rw [List.getElem?_set_ne (show a ≠ b by omega), endL_get _ b9]
      simp only [Option.bind_some, wb, w, Option.map_some, Sum.elim_inl]
      rw [endL_step ea eb ab b9, List.take_append_getElem hk])
    (by
      simp only [impl_countEnds_n3]
      rw [decide_eq_false (show ¬ ((A.length : Nat) : Int) < ((A.length : Nat) : Int) by omega), List.take_length]
      rfl) LL (by simp only [LL]; omega)
  simp only [Option.bind_some, List.length_map]
  have z : (List.replicate 9 (0 : Int)) = endL (A.take 0) := rfl
  rw [z]
  have lp' := lp
  rw [show ((0 : Nat) : Int) = 0 from rfl] at lp'
  rw [lp']
  simp only [Option.map_some, Option.bind_some, endL_length]
  rfl

theorem arcsP_map {h : List Int} (T : Tree h) : arcsP h = (arcsW h).map fun (i : Nat) => (imin ((i : Int) + 1) ((hd h (i + 1) : Nat) : Int), imax ((i : Int) + 1) ((hd h (i + 1) : Nat) : Int)) := by
  have e : arcsP h = (arcsW h).map fun (i : Nat) => (imin ((i : Int) + 1) (h.getD i 0), imax ((i : Int) + 1) (h.getD i 0)) := by
    unfold arcsP arcsK arcsW
    congr 1
    refine List.filter_congr fun i hi => ?_
    rw [List.mem_range] at hi
    have g := T.get (show 1 ≤ i + 1 by omega) (show i + 1 ≤ h.length by omega)
    rw [Nat.add_sub_cancel] at g
    rw [List.getD_eq_getElem?_getD, g, Option.getD_some, Bool.eq_iff_iff, decide_eq_true_eq, bne_iff_ne]
    omega
  rw [e]
  refine List.map_congr_left fun i hi => ?_
  have hi := (mem_arcsW.mp hi).1
  have g := T.get (show 1 ≤ i + 1 by omega) (show i + 1 ≤ h.length by omega)
  rw [Nat.add_sub_cancel] at g
  rw [List.getD_eq_getElem?_getD, g, Option.getD_some]

theorem endK_arcs {h : List Int} (T : Tree h) {w : Nat} (w1 : 1 ≤ w) (w2 : w ≤ h.length) : endK (arcsP h) w = endsW h w := by
  rw [arcsP_map T, endK, List.countP_map, ← touch_count T w1 w2]
  refine List.countP_congr fun i hi => ?_
  unfold touchB
  simp only [Function.comp, Bool.or_eq_true, beq_iff_eq, imin, imax]
  split <;> split <;> omega

theorem arcs_small {h : List Int} (T : Tree h) : (arcsP h).length ≤ 8 ∧ ∀ p ∈ arcsP h, 1 ≤ p.1 ∧ p.1 < p.2 ∧ p.2 ≤ 8 := by
  have l8 := T.le
  refine ⟨by have := arcsK_length h h.length; unfold arcsP; omega, fun p hp => ?_⟩
  obtain ⟨p1, p2, p3⟩ := arc_ends T hp
  omega

theorem clone_row {r : List Int} (h0 : 0 < r.length) (hl : r.length ≤ 1048576) : slices_Clone_int_int r = some r := by
  have e : slices_Clone_int_int r = slices_Clone_int_int_n1 r := by unfold slices_Clone_int_int; rfl
  rw [e]
  unfold slices_Clone_int_int_n1
  have : r.isEmpty = false := by
    cases r with
    | nil => simp at h0
    | cons a b => rfl
  rw [this]
  simp only [Bool.not_false, sure, cond_true, Option.bind_some]
  rw [room_ok (by simp; omega)]
  rfl

theorem implEnds_eq (h : List Int) : impl_EndsOf h = some (endsI h) := by
  have e : impl_EndsOf h = impl_EndsOf_n1 h := by unfold impl_EndsOf; rfl
  rw [e]
  unfold impl_EndsOf_n1
  rw [implTree_eq]
  cases t : treeB h with
  | false => unfold endsI; rw [t]; rfl
  | true =>
    have T := (tree_iff h).mp t
    have l8 := T.le
    have hp := T.pos
    obtain ⟨a8, hA⟩ := arcs_small T
    have w : IntKind.wrap .i64 (((h.length : Nat) : Int) + 1) = ((h.length + 1 : Nat) : Int) := by rw [wrap64 (by omega) (by omega)]; omega
    simp only [Option.bind_some, Bool.not_true, cond_false, implArcs_eq T, countEnds_eq a8 hA, w, List.length_cons, List.length_nil, List.length_replicate]
    rw [show same 9 9 = some () from rfl]
    have i1 : inc ((h.length + 1 : Nat) : Int) (0 + 1 + 1 + 1 + 1 + 1 + 1 + 1 + 1 + 1) = some (h.length + 1) := by
      unfold inc
      rw [if_pos (by omega)]
      simp
    have i2 : inc (1 : Int) (h.length + 1) = some 1 := by
      unfold inc
      rw [if_pos (by omega)]
      rfl
    simp only [Option.bind_some, i1, i2]
    have ed : ((([((endK (arcsP h) 0 : Nat) : Int), ((endK (arcsP h) 1 : Nat) : Int), ((endK (arcsP h) 2 : Nat) : Int), ((endK (arcsP h) 3 : Nat) : Int), ((endK (arcsP h) 4 : Nat) : Int), ((endK (arcsP h) 5 : Nat) : Int), ((endK (arcsP h) 6 : Nat) : Int), ((endK (arcsP h) 7 : Nat) : Int), ((endK (arcsP h) 8 : Nat) : Int)] : List Int).take (h.length + 1)).drop 1) = endsI h := by
      show ((endL (arcsP h)).take (h.length + 1)).drop 1 = endsI h
      refine List.ext_getElem? fun i => ?_
      rw [List.getElem?_drop, List.getElem?_take]
      by_cases hi : i < h.length
      · rw [if_pos (by omega), endL_get _ (by omega), endsI_get t hi, Nat.add_comm 1 i, endK_arcs T (by omega) (by omega)]
      · rw [if_neg (by omega), List.getElem?_eq_none (by rw [endsI_length t]; omega)]
    rw [ed, clone_row (by rw [endsI_length t]; exact hp) (by rw [endsI_length t]; omega)]
    rfl

theorem index_eq (r : List Int) (v : Int) (hl : r.length ≤ 1048576) : ∃ k, slices_Index_int_int r v = some k ∧ decide (k ≥ 0) = r.any (· == v) := by
  have e : slices_Index_int_int r v = slices_Index_int_int_n9 r v := by unfold slices_Index_int_int; rfl
  rw [e]
  unfold slices_Index_int_int_n9 slices_Index_int_int_n1 slices_Index_int_int_n8 slices_Index_int_int_n6 slices_Index_int_int_n2 slices_Index_int_int_n5 slices_Index_int_int_n4
  obtain ⟨o, ho, q⟩ := nloop_ex (body := fun (s : Int) => ((slices_Index_int_int_n3 r v ((r.length : Nat) : Int) s).map (Sum.elim (fun (t : Int) => Sum.inl t) (Sum.elim (fun (t : Int) => Sum.inr (Sum.inl t)) (fun (t : Unit) => Sum.inr (Sum.inr t)))) : Option ((Int) ⊕ (Int ⊕ Unit))))
    (fun s => ∃ k : Nat, s = (k : Int) ∧ k ≤ r.length ∧ (r.take k).any (· == v) = false) (fun s => (((r.length : Nat) : Int) - s).toNat)
    (fun o => match o with
      | .inl k => 0 ≤ k ∧ r.any (· == v) = true
      | .inr _ => r.any (· == v) = false)
    (by
      rintro s ⟨k, rfl, hk, no⟩
      simp only [slices_Index_int_int_n3]
      by_cases lt : k < r.length
      · have ix : idx r (k : Int) = some r[k] := by rw [idx_nat]; simp [lt]
        have w : IntKind.wrap .i64 ((k : Int) + 1) = ((k + 1 : Nat) : Int) := by rw [wrap64 (by omega) (by omega)]; omega
        rw [decide_eq_true (show (k : Int) < ((r.length : Nat) : Int) by omega), ix, w]
        simp only [cond_true, Option.bind_some]
        by_cases q : v = r[k]
        · right
          rw [show (v == r[k]) = true from beq_iff_eq.mpr q]
          exact ⟨_, rfl, by omega, List.any_eq_true.mpr ⟨r[k], List.getElem_mem lt, beq_iff_eq.mpr q.symm⟩⟩
        · left
          rw [show (v == r[k]) = false from beq_eq_false_iff_ne.mpr q]
          refine ⟨_, rfl, ⟨k + 1, rfl, by omega, ?_⟩, by omega⟩
          rw [← List.take_append_getElem lt, List.any_append, no, List.any_cons, List.any_nil, show (r[k] == v) = false from beq_eq_false_iff_ne.mpr fun z => q z.symm]
          rfl
      · right
        rw [decide_eq_false (show ¬ (k : Int) < ((r.length : Nat) : Int) by omega)]
        refine ⟨_, rfl, ?_⟩
        rw [List.take_of_length_le (by omega)] at no
        exact no) LL 0 ⟨0, rfl, by omega, rfl⟩ (by simp only [LL]; omega)
  simp only [Option.bind_some]
  rw [ho]
  cases o with
  | inl k =>
    obtain ⟨q1, q2⟩ := q
    exact ⟨k, rfl, by rw [q2]; exact decide_eq_true q1⟩
  | inr u => exact ⟨-1, rfl, by rw [show r.any (· == v) = false from q]; rfl⟩

theorem implStar_eq (h : List Int) (hl : h.length ≤ 1048576) : impl_StarOk h = some (starB h) := by
  have e : impl_StarOk h = impl_StarOk_n1 h := by unfold impl_StarOk; rfl
  rw [e]
  unfold impl_StarOk_n1
  rw [implEnds_eq]
  have w : IntKind.wrap .i64 (((h.length : Nat) : Int) - 1) = ((h.length : Nat) : Int) - 1 := wrap64 (by omega) (by omega)
  have c : ∀ (r : List Int) (v : Int), r.length ≤ 1048576 → slices_Contains_int_int r v = some (r.any (· == v)) := fun r v hr => by
    have e : slices_Contains_int_int r v = slices_Contains_int_int_n1 r v := by unfold slices_Contains_int_int; rfl
    rw [e]
    unfold slices_Contains_int_int_n1
    obtain ⟨k, hk, q⟩ := index_eq r v hr
    rw [hk, ← q]
    rfl
  have el : (endsI h).length ≤ 1048576 := by
    unfold endsI
    split
    · simp
      exact hl
    · simp
  simp only [Option.bind_some, w, c _ _ el]
  congr 1
  unfold starB endsI
  cases t : treeB h with
  | false => rfl
  | true =>
    have hp := ((tree_iff h).mp t).pos
    rw [if_pos rfl, Bool.true_and, List.any_map]
    congr 1
    funext k
    simp only [Function.comp]
    rw [Bool.eq_iff_iff, beq_iff_eq, beq_iff_eq]
    omega

theorem specOrder_eq (o : List Int) (m : Int) (hl : o.length ≤ 1048576) : spec_OrderOk o m = some (orderB o m) := by
  unfold spec_OrderOk spec_OrderOk_n18 spec_OrderOk_n1 spec_OrderOk_n17 spec_OrderOk_n15 spec_OrderOk_n2 spec_OrderOk_n14 spec_OrderOk_n13
  have hin : ∀ k, (hk : k < o.length) → spec_OrderOk_n6 o k = some (cond (decide (o[k] ∈ o.take k)) (.inl false) (.inr ())) := fun k hk => by
    unfold spec_OrderOk_n6
    have hloop := nloop_run (body := fun (s : Int) => ((spec_OrderOk_n5 o k s).map (Sum.elim (fun (t : Int) => Sum.inl t) (Sum.elim (fun (t : Bool) => Sum.inr (Sum.inl t)) (fun (t : Unit) => Sum.inr (Sum.inr t)))) : Option ((Int) ⊕ (Bool ⊕ Unit))))
      (I := fun s => ∃ j : Nat, s = (j : Int) ∧ j ≤ k ∧ o[k] ∉ o.take j) (μ := fun s => k - s.toNat) (f := fun _ => cond (decide (o[k] ∈ o.take k)) (.inl false) (.inr ()))
      (by
        rintro _ ⟨j, rfl, hj, hno⟩
        simp only [spec_OrderOk_n5]
        by_cases hlt : j < k
        · rw [show decide ((j : Int) < (k : Int)) = true from decide_eq_true (by omega), idx_lt (show j < o.length by omega), idx_lt hk, wrap64 (by omega) (by omega)]
          simp only [cond_true, Option.bind_some]
          by_cases e : o[j] = o[k]
          · right
            have : o[k] ∈ o.take k := (mem_take (by omega)).2 ⟨j, hlt, e⟩
            rw [decide_eq_true this]
            simp [e]
          · left
            have e1 : (o[j] == o[k]) = false := by simpa using e
            refine ⟨((j + 1 : Nat) : Int), by simp [e1], ⟨j + 1, rfl, hlt, ?_⟩, by simp; omega, trivial⟩
            rw [List.take_add_one, List.getElem?_eq_getElem (by omega)]
            simp only [Option.toList_some, List.mem_append, List.mem_singleton, not_or]
            exact ⟨hno, fun hh => e hh.symm⟩
        · right
          have e : j = k := by omega
          subst e
          rw [show decide ((j : Int) < (j : Int)) = false from decide_eq_false (by omega), decide_eq_false hno]
          rfl)
    exact hloop LL 0 ⟨0, rfl, by omega, by simp⟩ (by simp only [LL]; simp; omega)
  have hloop := nloop_run (body := fun (s : Int) => ((spec_OrderOk_n12 o m s).map (Sum.elim (fun (t : Int) => Sum.inl t) (Sum.elim (fun (t : Bool) => Sum.inr (Sum.inl t)) (fun (t : Unit) => Sum.inr (Sum.inr t)))) : Option ((Int) ⊕ (Bool ⊕ Unit))))
    (I := fun s => ∃ k : Nat, s = (k : Int) ∧ k ≤ o.length ∧ OrderP (o.take k) m) (μ := fun s => o.length - s.toNat) (f := fun _ => cond (orderAll o m) (.inr ()) (.inl false))
    (by
      rintro _ ⟨k, rfl, hk, hP⟩
      simp only [spec_OrderOk_n12, spec_OrderOk_n3]
      by_cases hlt : k < o.length
      · rw [show decide ((k : Int) < ((o.length : Nat) : Int)) = true from decide_eq_true (by omega)]
        simp only [cond_true, Option.bind_some, Sum.elim_inl]
        unfold spec_OrderOk_n11 spec_OrderOk_n9 spec_OrderOk_n8 spec_OrderOk_n4 spec_OrderOk_n7 spec_OrderOk_n10
        rw [idx_lt hlt, wrap64 (by omega) (by omega)]
        simp only [Option.bind_some, l1In_eq, hin k hlt]
        by_cases c : 1 ≤ o[k] ∧ o[k] ≤ m
        · have e1 : (decide (1 ≤ o[k]) && decide (o[k] ≤ m)) = true := by simp [c.1, c.2]
          rw [e1]
          by_cases c3 : o[k] ∈ o.take k
          · right
            obtain ⟨i, hi, e⟩ := (mem_take hk).1 c3
            rw [decide_eq_true c3, orderAll_false (fun hh => hh.2 i k hi hlt e)]
            rfl
          · left
            rw [decide_eq_false c3]
            refine ⟨((k + 1 : Nat) : Int), by simp, ⟨k + 1, rfl, hlt, ?_⟩, by simp; omega, trivial⟩
            have hl : (o.take (k + 1)).length = k + 1 := by simp; omega
            refine ⟨fun i hi => ?_, fun i j hij hj => ?_⟩
            · rw [hl] at hi
              rw [List.getElem_take]
              by_cases e : i = k
              · subst e; exact c
              · have := hP.1 i (by simp; omega)
                rwa [List.getElem_take] at this
            · rw [hl] at hj
              rw [List.getElem_take, List.getElem_take]
              by_cases e : j = k
              · subst e
                exact fun hh => c3 ((mem_take hk).2 ⟨i, hij, hh⟩)
              · have := hP.2 i j hij (by simp; omega)
                rwa [List.getElem_take, List.getElem_take] at this
        · right
          have e1 : (decide (1 ≤ o[k]) && decide (o[k] ≤ m)) = false := by
            simp only [Bool.and_eq_false_iff, decide_eq_false_iff_not]; omega
          rw [e1, orderAll_false (fun hh => c (hh.1 k hlt))]
          rfl
      · right
        have e : k = o.length := by omega
        subst e
        rw [List.take_length] at hP
        rw [show decide (((o.length : Nat) : Int) < ((o.length : Nat) : Int)) = false from decide_eq_false (by omega), (orderAll_iff o m).2 hP]
        rfl)
  simp only [Option.bind_some]
  rw [hloop LL 0 ⟨0, rfl, by omega, ⟨fun k hk => by simp at hk, fun i j hij hj => by simp at hj⟩⟩ (by simp only [LL]; simp; omega)]
  unfold orderB
  cases orderAll o m with
  | false => simp
  | true =>
    simp only [cond_true, Option.map_some, Sum.elim_inr, Option.bind_some, Sum.elim_inl, spec_OrderOk_n16, l1In_eq, Bool.and_true]
    cases (decide (1 ≤ m) && decide (m ≤ 8)) <;> simp

theorem places_loopS (o : List Int) (hl : o.length ≤ 8) (hP : OrderP o (o.length : Nat)) :
    nloop (fun (s : Int × (List Int)) => ((spec_PutInOrder_n3 o s.1 s.2).map (Sum.elim (fun (t : Int × (List Int)) => Sum.inl (t.1, t.2)) (fun (t : (List Int)) => Sum.inr t)) : Option ((Int × (List Int)) ⊕ (((List Int)))))) LL (0, List.replicate (o.length + 1) 0) = some (placesL o) := places_loop o hl hP

theorem specPut_eq (h o : List Int) (hlo : o.length ≤ 1048576) : spec_PutInOrder h o = some (if treeB h && orderB o h.length then (true, putRow h o) else (false, [])) := by
  unfold spec_PutInOrder spec_PutInOrder_n17 spec_PutInOrder_n1
  rw [specTree_eq, specOrder_eq o _ hlo]
  cases hT : treeB h with
  | false => simp
  | true =>
    cases hO : orderB o h.length with
    | false => simp
    | true =>
      have T := (tree_iff h).1 hT
      unfold orderB at hO
      simp only [Bool.and_eq_true, decide_eq_true_eq, beq_iff_eq] at hO
      obtain ⟨⟨_, hlen⟩, hA⟩ := hO
      have hl : o.length = h.length := by omega
      have hle := T.le
      have hP : OrderP o (o.length : Nat) := by rw [hl]; exact (orderAll_iff o _).1 hA
      rw [wrap64 (by omega) (by omega), show ((h.length : Nat) : Int) + 1 = ((o.length + 1 : Nat) : Int) by omega, mk_nat (by omega)]
      simp only [Option.bind_some, Bool.not_true, cond_false, Sum.elim_inl, Bool.and_self, if_true]
      unfold spec_PutInOrder_n16 spec_PutInOrder_n6 spec_PutInOrder_n2 spec_PutInOrder_n5 spec_PutInOrder_n4
      rw [places_loopS o (by omega) hP]
      unfold spec_PutInOrder_n15 spec_PutInOrder_n7 spec_PutInOrder_n14 spec_PutInOrder_n12 spec_PutInOrder_n8 spec_PutInOrder_n11 spec_PutInOrder_n10 spec_PutInOrder_n13
      simp only [Option.bind_some, Option.map_some]
      have hloop := nloop_run (body := fun (s : Int × (List Int)) => ((spec_PutInOrder_n9 h o s.1 (placesL o) s.2).map (Sum.elim (fun (t : Int × (List Int)) => Sum.inl (t.1, t.2)) (fun (t : (List Int)) => Sum.inr t)) : Option ((Int × (List Int)) ⊕ (((List Int))))))
        (I := fun s => ∃ k : Nat, s.1 = (k : Int) ∧ k ≤ o.length ∧ s.2.length ≤ k) (μ := fun s => o.length - s.1.toNat) (f := fun s => s.2 ++ (putRow h o).drop s.1.toNat)
        (by
          rintro ⟨_, out⟩ ⟨k, rfl, hk, ho⟩
          simp only at ho
          simp only [spec_PutInOrder_n9]
          by_cases hlt : k < o.length
          · left
            obtain ⟨w, x, h1, hw, h2, h3, h4⟩ := put_reads T hl hP hlt
            refine ⟨(((k + 1 : Nat) : Int), out ++ [newHd h o k]), ?_, ⟨k + 1, rfl, hlt, by simp; omega⟩, by simp; omega, ?_⟩
            · rw [show decide ((k : Int) < ((o.length : Nat) : Int)) = true from decide_eq_true (by omega), idx_lt hlt]
              simp only [cond_true, Option.bind_some]
              rw [h1, wrap64 (x := ((w + 1 : Nat) : Int) - 1) (by omega) (by omega), show ((w + 1 : Nat) : Int) - 1 = (w : Int) by omega, idx_nat, h2, wrap64 (by omega) (by omega)]
              simp only [Option.bind_some]
              rw [inb_nat (by rw [placesL, placesK_length]; exact h3)]
              simp only [Option.bind_some, h4, room_le (show out.length + [newHd h o k].length ≤ 1099511627776 by simp; omega)]
              simp
            · simp only [Int.toNat_natCast]
              rw [putRow_drop h o hlt]
              simp
          · right
            have e : k = o.length := by omega
            subst e
            rw [show decide (((o.length : Nat) : Int) < ((o.length : Nat) : Int)) = false from decide_eq_false (by omega)]
            simp [List.drop_of_length_le (Nat.le_of_eq (putRow_length h o))])
      rw [hloop LL (0, []) ⟨0, by simp, by omega, by simp⟩ (by simp only [LL]; simp; omega)]
      simp

theorem room8 {n : Nat} (h : n ≤ 1099511627776) : room n = some () := by unfold room; rw [if_pos h]

def castL (l : List Nat) : List Int := l.map fun (x : Nat) => (x : Int)
theorem castL_append (a b : List Nat) : castL (a ++ b) = castL a ++ castL b := by simp [castL]
theorem castL_length (a : List Nat) : (castL a).length = a.length := by simp [castL]

theorem flatMap_short {f : Nat → List Nat} : ∀ {l : List Nat}, (∀ x ∈ l, (f x).length ≤ 8) → (l.flatMap f).length ≤ 8 * l.length
  | [], _ => by simp
  | x :: l, h => by
    have a := h x (List.mem_cons_self ..)
    have b := flatMap_short (l := l) (fun y hy => h y (List.mem_cons_of_mem _ hy))
    rw [List.flatMap_cons, List.length_append, List.length_cons]
    omega

section
variable {h : List Int} (T : Tree h)
include T

theorem walk_len {f w : Nat} (w1 : 1 ≤ w) (w2 : w ≤ h.length) (hf : h.length ≤ f + dep h w) : (walkN h f w).length ≤ 8 := by
  have := List.Nodup.length_le_of_subset (l₂ := (List.range h.length).map (· + 1)) (walk_nodup T w1 w2 hf) (by
    intro x hx
    rw [mem_words]
    exact (T.und_rng ((walk_mem T w1 w2 hf).mp hx)).1)
  rw [List.length_map, List.length_range] at this
  have := T.le
  omega

end

theorem flatOI_orderB {h : List Int} (T : Tree h) : orderB (flatOI h) (h.length : Nat) = true := by
  rw [orderB_iff]
  have hp := T.pos
  have h8 := T.le
  have hl := flatOI_length T
  have hP := flatOI_order T
  rw [hl] at hP
  exact ⟨by omega, by omega, by omega, hP⟩

theorem before_tab : ((List.range 8).all fun i => impl_before ((i : Int) + 1) == some ((2 ^ i - 1 : Nat) : Int)) = true := by decide +kernel
theorem before_eq {w : Nat} (h1 : 1 ≤ w) (h2 : w ≤ 8) : impl_before (w : Int) = some ((2 ^ (w - 1) - 1 : Nat) : Int) := by
  have h := all_lt before_tab (i := w - 1) (by omega)
  rw [show ((w - 1 : Nat) : Int) + 1 = (w : Int) by omega] at h
  simpa using h

theorem iandnu {a b : Nat} (ha : a < 2 ^ 62) (hb : b < 2 ^ 62) : ∃ c : Nat, iandn .u64 (a : Int) (b : Int) = (c : Int) ∧ c ≤ a ∧ ∀ i, c.testBit i = (a.testBit i && !b.testBit i) := by
  have h : a &&& (2 ^ 64 - 1 - b) ≤ a := Nat.and_le_left
  refine ⟨a &&& (2 ^ 64 - 1 - b), ?_, h, fun i => ?_⟩
  · show IntKind.wrap .u64 ((BitVec.ofInt 64 (a : Int) &&& ~~~BitVec.ofInt 64 (b : Int)).toNat : Int) = _
    rw [BitVec.toNat_and, BitVec.toNat_not, ofInt_nat (by omega), ofInt_nat (by omega), wrapu64 (by omega) (by omega)]
  · rw [Nat.testBit_and]
    by_cases hi : i < 64
    · have e : 2 ^ 64 - 1 - b = 2 ^ 64 - (b + 1) := by omega
      rw [e, Nat.testBit_two_pow_sub_succ (by omega)]
      simp [hi]
    · have : a.testBit i = false := Nat.testBit_lt_two_pow (Nat.lt_of_lt_of_le ha (Nat.pow_le_pow_right (by omega) (by omega)))
      rw [this]; simp

def leftB (h : List Int) (v : Int) (w i : Nat) : Bool := headB h v i && decide (i < w - 1)
def rightB (h : List Int) (v : Int) (w i : Nat) : Bool := headB h v i && !decide (i < w - 1)
theorem Tree.headB_iff {h : List Int} (T : Tree h) {w i : Nat} (hi : i < h.length) : headB h (w : Int) i = true ↔ hd h (i + 1) = w := by
  have hg := T.get (w := i + 1) (by omega) (by omega)
  rw [Nat.add_sub_cancel] at hg
  simp only [headB, List.getD_eq_getElem?_getD, hg, Option.getD_some, beq_iff_eq]
  omega

/-- No word is its own head. -/
theorem Tree.hd_ne {h : List Int} (T : Tree h) {w : Nat} (h1 : 1 ≤ w) (h2 : w ≤ h.length) : hd h w ≠ w := by
  intro e
  have := T.dep_step h1 h2 (by omega)
  rw [e] at this
  omega

theorem beside_eq {h : List Int} (T : Tree h) {w : Nat} (h1 : 1 ≤ w) (h2 : w ≤ h.length) :
    impl_dependentsBeside h (w : Int) = some (((maskN (leftB h (w : Int) w) h.length : Nat) : Int), ((maskN (rightB h (w : Int) w) h.length : Nat) : Int)) := by
  have hle := T.le
  have hp := pow_lt256 (show w ≤ 8 by omega) h1
  have l0 : maskN (headB h (w : Int)) h.length < 256 := lt256 hle (maskN_lt _ _)
  obtain ⟨c, hc, hc1, hc2⟩ := iandnu (a := maskN (headB h (w : Int)) h.length) (b := 2 ^ (w - 1) - 1) (by omega) (by omega)
  have e : impl_dependentsBeside h (w : Int) = impl_dependentsBeside_n1 h (w : Int) := by unfold impl_dependentsBeside; rfl
  rw [e]
  unfold impl_dependentsBeside_n1
  simp only [Option.bind_some, dependents_eq h _ hle, before_eq h1 (show w ≤ 8 by omega), hc]
  rw [iandu (by omega) (by omega)]
  have e1 : maskN (headB h (w : Int)) h.length &&& (2 ^ (w - 1) - 1) = maskN (leftB h (w : Int) w) h.length := by
    refine eq_maskN (Nat.lt_of_le_of_lt Nat.and_le_left (maskN_lt _ _)) fun i hi => ?_
    rw [Nat.testBit_and, maskN_bit, Nat.testBit_two_pow_sub_one]
    simp [hi, leftB]
  have e2 : c = maskN (rightB h (w : Int) w) h.length := by
    refine eq_maskN (Nat.lt_of_le_of_lt hc1 (maskN_lt _ _)) fun i hi => ?_
    rw [hc2, maskN_bit, Nat.testBit_two_pow_sub_one]
    simp [hi, rightB]
  rw [e1, e2]

/-- Rows in ascending order are told by what they hold. -/
theorem asc_ext : ∀ {a b : List Int}, a.Pairwise (· < ·) → b.Pairwise (· < ·) → (∀ x, x ∈ a ↔ x ∈ b) → a = b
  | [], [], _, _, _ => rfl
  | [], y :: b, _, _, h => by have := (h y).mpr (List.mem_cons_self ..); cases this
  | x :: a, [], _, _, h => by have := (h x).mp (List.mem_cons_self ..); cases this
  | x :: a, y :: b, ha, hb, h => by
    rw [List.pairwise_cons] at ha hb
    have e : x = y := by
      rcases List.mem_cons.mp ((h x).mp (List.mem_cons_self ..)) with e | m
      · exact e
      · rcases List.mem_cons.mp ((h y).mpr (List.mem_cons_self ..)) with e | m'
        · exact e.symm
        · have h1 := hb.1 x m
          have h2 := ha.1 y m'
          omega
    subst e
    congr 1
    refine asc_ext ha.2 hb.2 fun z => ?_
    constructor
    · intro m
      rcases List.mem_cons.mp ((h z).mp (List.mem_cons_of_mem _ m)) with e | m'
      · have := ha.1 z m
        omega
      · exact m'
    · intro m
      rcases List.mem_cons.mp ((h z).mpr (List.mem_cons_of_mem _ m)) with e | m'
      · have := hb.1 z m
        omega
      · exact m'

theorem wordsL_asc8 (m : Nat) : (wordsL m).Pairwise (· < ·) := by
  unfold wordsL
  rw [List.pairwise_map]
  refine List.Pairwise.imp ?_ (List.Pairwise.filter _ List.pairwise_lt_range)
  intro a b h
  omega
theorem castL_asc {l : List Nat} (h : l.Pairwise (· < ·)) : (castL l).Pairwise (· < ·) := by
  unfold castL
  rw [List.pairwise_map]
  refine List.Pairwise.imp ?_ h
  intro a b h
  omega
theorem mem_castL {l : List Nat} {x : Int} : x ∈ castL l ↔ ∃ k, k ∈ l ∧ x = (k : Int) := by
  unfold castL
  rw [List.mem_map]
  exact ⟨fun ⟨k, a, b⟩ => ⟨k, a, b.symm⟩, fun ⟨k, a, b⟩ => ⟨k, a, b.symm⟩⟩

section
variable {h : List Int} (T : Tree h)
include T

theorem left_words {w : Nat} (h1 : 1 ≤ w) (h2 : w ≤ h.length) : wordsL (maskN (leftB h (w : Int) w) h.length) = castL (lessK h w) := by
  refine asc_ext (wordsL_asc8 _) (castL_asc (lessK_sorted h w)) fun x => ?_
  rw [mem_wordsL T.le, mem_castL]
  constructor
  · rintro ⟨i, hi, hp, e⟩
    simp only [leftB, Bool.and_eq_true, decide_eq_true_eq] at hp
    exact ⟨i + 1, (mem_lessK h2).mpr ⟨by omega, (T.headB_iff hi).mp hp.1, by omega⟩, e⟩
  · rintro ⟨k, hk, e⟩
    rw [mem_lessK h2] at hk
    refine ⟨k - 1, by omega, ?_, by omega⟩
    simp only [leftB, Bool.and_eq_true, decide_eq_true_eq]
    exact ⟨(T.headB_iff (by omega)).mpr (by rw [show k - 1 + 1 = k by omega]; exact hk.2.1), by omega⟩

theorem right_words {w : Nat} (h1 : 1 ≤ w) (h2 : w ≤ h.length) : wordsL (maskN (rightB h (w : Int) w) h.length) = castL (moreK h w) := by
  refine asc_ext (wordsL_asc8 _) (castL_asc (moreK_sorted h w)) fun x => ?_
  rw [mem_wordsL T.le, mem_castL]
  constructor
  · rintro ⟨i, hi, hp, e⟩
    simp only [rightB, Bool.and_eq_true, Bool.not_eq_true', decide_eq_false_iff_not] at hp
    have hh := (T.headB_iff hi).mp hp.1
    have ne : i + 1 ≠ w := fun e' => T.hd_ne h1 h2 (by rw [← e'] at hh ⊢; exact hh)
    exact ⟨i + 1, mem_moreK.mpr ⟨by omega, hh, by omega⟩, e⟩
  · rintro ⟨k, hk, e⟩
    rw [mem_moreK] at hk
    refine ⟨k - 1, by omega, ?_, by omega⟩
    simp only [rightB, Bool.and_eq_true, Bool.not_eq_true', decide_eq_false_iff_not]
    exact ⟨(T.headB_iff (by omega)).mpr (by rw [show k - 1 + 1 = k by omega]; exact hk.2.1), by omega⟩

omit T in
theorem each_flat {R0 R1 : List Int → Int → List Int → Option (List Int)} {f m : Nat} {K : List Nat} (hm : m < 256) (hK : wordsL m = castL K) (o : List Int)
    (h0 : ∀ k ∈ K, ∀ j, R0 h (k : Int) (o ++ castL ((K.take j).flatMap (walkN h f))) = some (o ++ castL ((K.take j).flatMap (walkN h f)) ++ castL (walkN h f k))) :
    impl_appendEachFlat_one R0 R1 h (m : Int) o = some (o ++ castL (K.flatMap (walkN h f))) := by
  have len : (castL K).length = K.length := castL_length K
  have q := nloop_to (body := fun (s : Int × (List Int)) => ((impl_appendEachFlat_n3 R0 R1 h (((castL K).length : Nat) : Int) s.1 s.2 (castL K)).map (Sum.elim (fun (t : Int × (List Int)) => Sum.inl (t.1, t.2)) (fun (t : (List Int)) => Sum.inr t)) : Option ((Int × (List Int)) ⊕ (((List Int))))))
    (fun k => ((k : Int), o ++ castL ((K.take k).flatMap (walkN h f)))) K.length (o ++ castL (K.flatMap (walkN h f)))
    (by
      intro k hk
      have le8 := wordsL_length_le m
      rw [hK, len] at le8
      have i1 : inb (k : Int) (castL K).length = some k := by unfold inb; rw [if_pos (by omega)]; simp
      have g : (castL K)[k]? = some (K[k] : Int) := by unfold castL; rw [List.getElem?_map, List.getElem?_eq_getElem hk]; rfl
      have q0 := h0 K[k] (List.getElem_mem hk) k
      simp only [impl_appendEachFlat_n3]
      rw [decide_eq_true (show (k : Int) < (((castL K).length : Nat) : Int) by omega), i1, wrap64 (by omega) (by omega)]
      simp only [cond_true, Option.bind_some, g, q0, Option.map_some, Sum.elim_inl]
      rw [List.take_succ_eq_append_getElem hk, List.flatMap_append, List.flatMap_cons, List.flatMap_nil, List.append_nil, castL_append, List.append_assoc, show (k : Int) + 1 = ((k + 1 : Nat) : Int) by omega])
    (by
      simp only [impl_appendEachFlat_n3]
      rw [decide_eq_false (show ¬ ((K.length : Nat) : Int) < (((castL K).length : Nat) : Int) by omega), List.take_length]
      rfl) LL (by
        have le8 := wordsL_length_le m
        rw [hK, len] at le8
        simp only [LL]; omega)
  unfold impl_appendEachFlat_one impl_appendEachFlat_n9 impl_appendEachFlat_n1 impl_appendEachFlat_n8 impl_appendEachFlat_n6 impl_appendEachFlat_n2
  rw [list_eq hm, hK]
  simp only [Option.bind_some]
  unfold impl_appendEachFlat_n5 impl_appendEachFlat_n4 impl_appendEachFlat_n7
  have q' := q
  rw [List.take_zero, List.flatMap_nil, show castL [] = [] from rfl, List.append_nil, show ((0 : Nat) : Int) = 0 from rfl] at q'
  rw [q']
  rfl

theorem less_len {w f : Nat} (w1 : 1 ≤ w) (w2 : w ≤ h.length) (hf : h.length ≤ f + 1 + dep h w) (j : Nat) : (((lessK h w).take j).flatMap (walkN h f)).length ≤ 64 ∧ (((moreK h w).take j).flatMap (walkN h f)).length ≤ 64 := by
  have l1 : (lessK h w).length ≤ 8 := by
    have := wordsL_length_le (maskN (leftB h (w : Int) w) h.length)
    rwa [left_words T w1 w2, castL_length] at this
  have l2 : (moreK h w).length ≤ 8 := by
    have := wordsL_length_le (maskN (rightB h (w : Int) w) h.length)
    rwa [right_words T w1 w2, castL_length] at this
  have kid : ∀ c, (1 ≤ c ∧ c ≤ h.length) ∧ hd h c = w → (walkN h f c).length ≤ 8 := fun c hc => by
    have := kid_dep T hc.1.1 hc.1.2 w1 hc.2
    exact walk_len T hc.1.1 hc.1.2 (by omega)
  constructor
  · have := flatMap_short (f := walkN h f) (l := (lessK h w).take j) (fun x hx => by
      have hx := List.mem_of_mem_take hx
      rw [mem_lessK w2] at hx
      exact kid x ⟨hx.1, hx.2.1⟩)
    have t := List.length_take_le' j (lessK h w)
    omega
  · have := flatMap_short (f := walkN h f) (l := (moreK h w).take j) (fun x hx => by
      have hx := List.mem_of_mem_take hx
      rw [mem_moreK] at hx
      exact kid x ⟨hx.1, hx.2.1⟩)
    have t := List.length_take_le' j (moreK h w)
    omega

theorem implWalk : ∀ (f w : Nat) (o : List Int) (n : Nat), 1 ≤ w → w ≤ h.length → h.length ≤ f + dep h w → 2 * f ≤ n → o.length + 200 * f ≤ 1000000 → impl_appendFlat_fuel n h (w : Int) o = some (o ++ castL (walkN h f w))
  | 0, w, o, n, w1, w2, hf, _, _ => by
    have := T.dep_lt w1 w2
    omega
  | f + 1, w, o, n, w1, w2, hf, hn, ho => by
    obtain ⟨n, rfl⟩ : ∃ n', n = n' + 1 + 1 := ⟨n - 2, by omega⟩
    have hle := T.le
    have kid : ∀ c o', (1 ≤ c ∧ c ≤ h.length) ∧ hd h c = w → o'.length + 200 * f ≤ 1000000 → (impl_appendFlat_knot n).1 h (c : Int) o' = some (o' ++ castL (walkN h f c)) := fun c o' hc ho' => by
      have := kid_dep T hc.1.1 hc.1.2 w1 hc.2
      exact implWalk f c o' n hc.1.1 hc.1.2 (by omega) (by omega) ho'
    have e : impl_appendFlat_fuel (n + 1 + 1) h (w : Int) o = impl_appendFlat_n1 (impl_appendFlat_knot (n + 1)).1 (impl_appendFlat_knot (n + 1)).2 h (w : Int) o := rfl
    have e2 : (impl_appendFlat_knot (n + 1)).2 = fun y0 y1 y2 => impl_appendEachFlat_one (impl_appendFlat_knot n).1 (impl_appendFlat_knot n).2 y0 y1 y2 := rfl
    have all1 : (lessK h w).take (lessK h w).length = lessK h w := List.take_length
    have b1 := (less_len T w1 w2 hf (lessK h w).length).1
    rw [all1] at b1
    have s1 := each_flat (R0 := (impl_appendFlat_knot n).1) (R1 := (impl_appendFlat_knot n).2) (f := f) (lt256 hle (maskN_lt (leftB h (w : Int) w) h.length)) (left_words T w1 w2) o (fun k hk j => by
      rw [mem_lessK w2] at hk
      have := (less_len T w1 w2 hf j).1
      exact kid k _ ⟨hk.1, hk.2.1⟩ (by simp only [List.length_append, castL_length]; omega))
    have s2 := each_flat (R0 := (impl_appendFlat_knot n).1) (R1 := (impl_appendFlat_knot n).2) (f := f) (lt256 hle (maskN_lt (rightB h (w : Int) w) h.length)) (right_words T w1 w2) (o ++ castL ((lessK h w).flatMap (walkN h f)) ++ [(w : Int)]) (fun k hk j => by
      rw [mem_moreK] at hk
      have := (less_len T w1 w2 hf j).2
      exact kid k _ ⟨hk.1, hk.2.1⟩ (by simp only [List.length_append, castL_length, List.length_cons, List.length_nil]; omega))
    rw [e]
    unfold impl_appendFlat_n1
    rw [beside_eq T w1 w2, e2]
    simp only [Option.bind_some, s1]
    rw [room8 (by simp only [List.length_append, castL_length, List.length_cons, List.length_nil]; omega)]
    simp only [Option.bind_some, s2]
    rw [walkN, castL_append, show castL (w :: (moreK h w).flatMap (walkN h f)) = (w : Int) :: castL ((moreK h w).flatMap (walkN h f)) from rfl]
    simp

end

theorem implFlatOrder_eq (h : List Int) : impl_FlatOrder h = some (if treeB h = true then flatOI h else []) := by
  have e : impl_FlatOrder h = impl_FlatOrder_n1 h := by unfold impl_FlatOrder; rfl
  rw [e]
  unfold impl_FlatOrder_n1
  rw [implTree_eq]
  cases t : treeB h with
  | false => rfl
  | true =>
    have T := (tree_iff h).mp t
    have h8 := T.le
    have r : rootI h = (top h : Int) := by unfold rootI; rw [t]; rfl
    have e : ∀ o, impl_appendFlat h (top h : Int) o = impl_appendFlat_fuel RR h (top h : Int) o := fun o => by unfold impl_appendFlat; rfl
    have m0 : mk 0 ((h.length : Nat) : Int) = some 0 := by unfold mk; rw [if_pos (by omega)]; rfl
    have q := implWalk T RR (top h) [] (2 * RR) (top_pos h) T.top_le (by simp only [RR]; omega) (Nat.le_refl _)
    have q := implWalk T h.length (top h) [] RR (top_pos h) T.top_le (by omega) (by simp only [RR]; omega) (by simp; omega)
    simp only [Option.bind_some, Bool.not_true, cond_false, implRoot_eq h, r, m0, e, List.replicate_zero, q]
    rfl

theorem implMade_eq (h : List Int) : impl_MadeFlat h = some (if treeB h = true then putRow h (flatOI h) else []) := by
  have e : impl_MadeFlat h = impl_MadeFlat_n1 h := by unfold impl_MadeFlat; rfl
  rw [e]
  unfold impl_MadeFlat_n1
  rw [implFlatOrder_eq]
  simp only [Option.bind_some, implPut_eq]
  cases t : treeB h with
  | false => rfl
  | true =>
    have T := (tree_iff h).mp t
    simp only [if_true, flatOI_orderB T, Bool.and_self]

theorem set_ok {o hs : List Int} {m : Nat} (hm : m ≤ 1000000) (ho : o.length = m) (hx : ∀ x ∈ o, 1 ≤ x ∧ x ≤ (m : Int)) (hh : hs.length = m) {k at_ : Int} (hk0 : 0 ≤ k) (hk : k < m) (ha0 : 0 ≤ at_) (ha : at_ < m) {α : Type} (f : List Int → α) :
    ∃ l : List Int, l.length = m ∧ ((inb k (List.length o)).bind fun (v638 : Nat) => (o[v638]?).bind fun (v639 : Int) => (inb at_ (List.length o)).bind fun (v641 : Nat) => (o[v641]?).bind fun (v642 : Int) => (inb (IntKind.wrap .i64 (v639 - 1)) (List.length hs)).bind fun (v643 : Nat) => some (f (hs.set v643 v642))) = some (f l) := by
  have h1 : k.toNat < o.length := by omega
  have h2 : at_.toNat < o.length := by omega
  have hr := hx o[k.toNat] (List.getElem_mem h1)
  refine ⟨hs.set (o[k.toNat] - 1).toNat o[at_.toNat], by simpa using hh, ?_⟩
  rw [inb_ok hk0 (by omega), inb_ok ha0 (by omega)]
  simp only [Option.bind_some, List.getElem?_eq_getElem h1, List.getElem?_eq_getElem h2]
  rw [wrap64 (by omega) (by omega), inb_ok (by omega) (by omega)]
  rfl

theorem tree_ok {b : List Int} (hb : Bytes b) (n : Int) (hn : n ≤ 1000) {p : Int} (hp : 0 ≤ p) (hp2 : p ≤ 999990000) :
    ∃ (q : Int) (h : List Int), spec_l20Tree n b p = some (q, h) ∧ p ≤ q ∧ q ≤ p + 300 ∧ h.length ≤ 8 := by
  unfold spec_l20Tree spec_l20Tree_n9 spec_l20Tree_n1
  obtain ⟨v, hv, va, vb, _⟩ := pick_ok hb 7 (by omega) hp (by omega)
  have vb' := vb (by omega)
  obtain ⟨m, hm⟩ : ∃ m : Nat, 1 + v = (m : Int) := ⟨(1 + v).toNat, by omega⟩
  obtain ⟨q1, o, ho, q1a, q1b, hol, hox⟩ := order_ok hb m (by omega) (p := p + 1) (by omega) (by omega)
  obtain ⟨nr, hnr, nra, _⟩ := pick_ok hb 2 (by omega) (p := q1) (by omega) (by omega)
  simp only [hv, Option.bind_some]
  rw [wrap64 (x := 1 + v) (by omega) (by omega), hm]
  simp only [ho, mk_nat (show m ≤ 1099511627776 by omega), hnr, Option.bind_some]
  unfold spec_l20Tree_n8 spec_l20Tree_n6 spec_l20Tree_n2 spec_l20Tree_n5 spec_l20Tree_n4
  obtain ⟨⟨q2, hs⟩, h1, h2, h3, h4⟩ := nloop_ex (body := fun (s : Int × Int × List Int) => ((spec_l20Tree_n3 m nr s.1 b s.2.1 o s.2.2).map (Sum.elim (fun (t : Int × Int × List Int) => Sum.inl (t.1, t.2.1, t.2.2)) (fun (t : Int × List Int) => Sum.inr t)) : Option ((Int × Int × List Int) ⊕ ((Int × List Int)))))
    (I := fun s => ∃ (k : Nat) (q : Int) (hs : List Int), s = ((k : Int), q, hs) ∧ 1 ≤ k ∧ k ≤ m ∧ q1 ≤ q ∧ q ≤ q1 + 1 + 2 * k ∧ hs.length = m) (μ := fun s => m - s.1.toNat)
    (Q := fun t => q1 ≤ t.1 ∧ t.1 ≤ q1 + 20 ∧ t.2.length = m)
    (by
      rintro _ ⟨k, q, hs, rfl, hk1, hk, qa, qb, hhs⟩
      simp only [spec_l20Tree_n3]
      by_cases hlt : k < m
      · left
        rw [show decide ((k : Int) < (m : Int)) = true from decide_eq_true (by omega), wrap64 (x := (k : Int) + 1) (by omega) (by omega), wrap64 (x := (k : Int) - 1) (by omega) (by omega)]
        obtain ⟨a, ha, aa, ab, _⟩ := pick_ok hb (k : Int) (by omega) (p := q) (by omega) (by omega)
        have ab' := ab (by omega)
        obtain ⟨c, hc, _⟩ := pick_ok hb 2 (by omega) (p := q + 1) (by omega) (by omega)
        simp only [cond_true, ha, Option.bind_some]
        have hmu : m - (((k : Int) + 1)).toNat < m - ((k : Int)).toNat := by omega
        cases hnear : (nr == 1) with
        | true =>
          simp only [cond_true, hc, Option.bind_some]
          cases h5 : (c == 0) with
          | true =>
            obtain ⟨l, hl, e⟩ := set_ok (by omega) hol hox hhs (k := (k : Int)) (at_ := (k : Int) - 1) (by omega) (by omega) (by omega) (by omega) (fun l => (Sum.inl ((k : Int) + 1, q + 1 + 1, l) : (Int × Int × List Int) ⊕ (Int × List Int)))
            simp only [cond_true]
            rw [e]
            exact ⟨_, rfl, ⟨k + 1, q + 1 + 1, l, by push_cast; rfl, by omega, by omega, by omega, by push_cast; omega, hl⟩, hmu⟩
          | false =>
            obtain ⟨l, hl, e⟩ := set_ok (by omega) hol hox hhs (k := (k : Int)) (at_ := a) (by omega) (by omega) (by omega) (by omega) (fun l => (Sum.inl ((k : Int) + 1, q + 1 + 1, l) : (Int × Int × List Int) ⊕ (Int × List Int)))
            simp only [cond_false]
            rw [e]
            exact ⟨_, rfl, ⟨k + 1, q + 1 + 1, l, by push_cast; rfl, by omega, by omega, by omega, by push_cast; omega, hl⟩, hmu⟩
        | false =>
          obtain ⟨l, hl, e⟩ := set_ok (by omega) hol hox hhs (k := (k : Int)) (at_ := a) (by omega) (by omega) (by omega) (by omega) (fun l => (Sum.inl ((k : Int) + 1, q + 1, l) : (Int × Int × List Int) ⊕ (Int × List Int)))
          simp only [cond_false]
          rw [e]
          exact ⟨_, rfl, ⟨k + 1, q + 1, l, by push_cast; rfl, by omega, by omega, by omega, by push_cast; omega, hl⟩, hmu⟩
      · right
        have e : k = m := by omega
        subst e
        rw [show decide ((k : Int) < (k : Int)) = false from decide_eq_false (by omega)]
        exact ⟨_, rfl, qa, by show q ≤ q1 + 20; omega, hhs⟩) LL (1, q1 + 1, List.replicate m 0) ⟨1, q1 + 1, _, rfl, by omega, by omega, by omega, by omega, by simp⟩ (by simp only [LL]; omega)
  rw [h1]
  simp only at h2 h3 h4
  simp only [Option.bind_some, Option.map_some]
  unfold spec_l20Tree_n7
  obtain ⟨od, q3, ho3, q3a, q3b⟩ := odd_ok hb n (by omega) (p := q2) (by omega) (by omega)
  obtain ⟨c, hc, ca, cb, _⟩ := pick_ok hb 4 (by omega) (p := q3) (by omega) (by omega)
  obtain ⟨d, hd, da, db, _⟩ := pick_ok hb (m : Int) (by omega) (p := q3 + 1) (by omega) (by omega)
  have db' := db (by omega)
  obtain ⟨e, he, ea, eb, _⟩ := pick_ok hb 3 (by omega) (p := q3 + 1) (by omega) (by omega)
  have eb' := eb (by omega)
  simp only [ho3, Option.bind_some]
  cases od with
  | false => exact ⟨_, _, rfl, by omega, by omega, by omega⟩
  | true =>
    simp only [cond_true, hc, Option.bind_some]
    cases (c == 0) with
    | true => exact ⟨_, _, rfl, by omega, by omega, by simp⟩
    | false =>
      cases (c == 1) with
      | true => exact ⟨_, _, rfl, by omega, by omega, by simp⟩
      | false =>
        cases (c == 2) with
        | true =>
          simp only [cond_true, cond_false, hd, Option.bind_some, inb_ok da (show d < (hs.length : Nat) by omega)]
          rw [room_le (by simp; omega)]
          exact ⟨_, _, rfl, by omega, by omega, by simp; omega⟩
        | false =>
          simp only [cond_true, cond_false, he, Option.bind_some]
          have hin : inb e (List.length ([1, (IntKind.wrap .i64 ((m : Int) + 1)), (-1)])) = some e.toNat := inb_ok ea (by simp; omega)
          have hin0 : inb 0 (List.length hs) = some 0 := inb_ok (by omega) (by omega)
          have hlt : e.toNat < ([1, (IntKind.wrap .i64 ((m : Int) + 1)), (-1)] : List Int).length := by simp; omega
          rw [hin]
          simp only [Option.bind_some, List.getElem?_eq_getElem hlt, hin0]
          exact ⟨_, _, rfl, by omega, by omega, by simp; omega⟩

theorem fill_ok {b : List Int} (hb : Bytes b) (m : Nat) (hm : m ≤ 20) : ∀ (f : Nat) (low high head p : Int) (hs : List Int), (high - low + 1).toNat < f → 1 ≤ low → low ≤ high + 1 → high ≤ m → hs.length = m → 0 ≤ p → p + 2 * (high - low + 1) ≤ 999980000 →
    ∃ (q : Int) (ks : List Int), spec_l20Fill_knot f low high head b p hs = some (q, ks) ∧ p ≤ q ∧ q ≤ p + 2 * (high - low + 1) ∧ (low ≤ high → q + 1 ≤ p + 2 * (high - low + 1)) ∧ ks.length = m := by
  intro f
  induction f with
  | zero => intro low high head p hs h; omega
  | succ f ih =>
    intro low high head p hs hf h1 h2 h3 hl hp hp2
    simp only [spec_l20Fill_knot]
    generalize hR : spec_l20Fill_knot f = R0 at ih
    unfold spec_l20Fill_one spec_l20Fill_n11 spec_l20Fill_n1
    by_cases h0 : low > high
    · rw [decide_eq_true h0]
      exact ⟨p, hs, rfl, by omega, by omega, by omega, hl⟩
    · rw [decide_eq_false h0]
      obtain ⟨v, hv, va, vb, _⟩ := pick_ok hb (high - low + 1) (by omega) (p := p) (by omega) (by omega)
      have vb' := vb (by omega)
      rw [wrap64 (x := high - low) (by omega) (by omega), wrap64 (x := high - low + 1) (by omega) (by omega)]
      simp only [cond_false, hv, Option.bind_some]
      rw [wrap64 (x := low + v) (by omega) (by omega), wrap64 (x := low + v - 1) (by omega) (by omega), inb_ok (by omega) (show low + v - 1 < (hs.length : Nat) by omega)]
      simp only [Option.bind_some, Sum.elim_inl]
      generalize hroot : low + v = root
      unfold spec_l20Fill_n10 spec_l20Fill_n4 spec_l20Fill_n3 spec_l20Fill_n9 spec_l20Fill_n5 spec_l20Fill_n8 spec_l20Fill_n7
      obtain ⟨⟨q1, k1⟩, e1, a1, a2, a3⟩ := nloop_ex (body := fun (s : Int × Int × (List Int)) => ((spec_l20Fill_n2 R0 root s.1 b s.2.1 s.2.2).map (Sum.elim (fun (t : Int × Int × (List Int)) => Sum.inl (t.1, t.2.1, t.2.2)) (fun (t : Int × (List Int)) => Sum.inr t)) : Option ((Int × Int × (List Int)) ⊕ ((Int × (List Int))))))
        (I := fun s => ∃ (fr q : Int) (ks : List Int), s = (fr, q, ks) ∧ low ≤ fr ∧ fr ≤ root ∧ p + 1 ≤ q ∧ q ≤ p + 1 + 2 * (fr - low) ∧ ks.length = m) (μ := fun s => (root - s.1).toNat)
        (Q := fun t => p + 1 ≤ t.1 ∧ t.1 ≤ p + 1 + 2 * (root - low) ∧ t.2.length = m)
        (by
          rintro _ ⟨fr, q, ks, rfl, i1, i2, i3, i4, i6⟩
          simp only [spec_l20Fill_n2]
          by_cases hlt : fr < root
          · left
            rw [decide_eq_true hlt, wrap64 (x := root - fr) (by omega) (by omega)]
            obtain ⟨w, hw, wa, wb, _⟩ := pick_ok hb (root - fr) (by omega) (p := q) (by omega) (by omega)
            have wb' := wb (by omega)
            simp only [cond_true, hw, Option.bind_some]
            rw [wrap64 (x := fr + w) (by omega) (by omega), wrap64 (x := fr + w + 1) (by omega) (by omega)]
            obtain ⟨q2, k2, e2, b1, b2, b4, b3⟩ := ih fr (fr + w) root (q + 1) ks (by omega) (by omega) (by omega) (by omega) i6 (by omega) (by omega)
            have b4' := b4 (by omega)
            rw [e2]
            exact ⟨(fr + w + 1, q2, k2), rfl, ⟨fr + w + 1, q2, k2, rfl, by omega, by omega, by omega, by omega, b3⟩, by simp only; omega⟩
          · right
            rw [decide_eq_false hlt]
            exact ⟨(q, ks), rfl, i3, by show q ≤ _; omega, i6⟩) LL (low, p + 1, hs.set (root - 1).toNat head) ⟨low, p + 1, _, rfl, by omega, by omega, by omega, by omega, by simpa using hl⟩ (by simp only [LL]; omega)
      simp only at a1 a2 a3
      rw [e1]
      simp only [Option.map_some, Option.bind_some]
      rw [wrap64 (x := root + 1) (by omega) (by omega)]
      obtain ⟨⟨q2, k2⟩, e2, c1, c2, c3⟩ := nloop_ex (body := fun (s : Int × Int × (List Int)) => ((spec_l20Fill_n6 R0 high root s.1 b s.2.1 s.2.2).map (Sum.elim (fun (t : Int × Int × (List Int)) => Sum.inl (t.1, t.2.1, t.2.2)) (fun (t : Int × (List Int)) => Sum.inr t)) : Option ((Int × Int × (List Int)) ⊕ ((Int × (List Int))))))
        (I := fun s => ∃ (fr q : Int) (ks : List Int), s = (fr, q, ks) ∧ root + 1 ≤ fr ∧ fr ≤ high + 1 ∧ p + 1 ≤ q ∧ q ≤ p + 1 + 2 * (root - low) + 2 * (fr - root - 1) ∧ ks.length = m) (μ := fun s => (high + 1 - s.1).toNat)
        (Q := fun t => p + 1 ≤ t.1 ∧ t.1 ≤ p + 1 + 2 * (high - low) ∧ t.2.length = m)
        (by
          rintro _ ⟨fr, q, ks, rfl, i1, i2, i3, i4, i6⟩
          simp only [spec_l20Fill_n6]
          by_cases hlt : fr ≤ high
          · left
            rw [decide_eq_true hlt, wrap64 (x := high - fr) (by omega) (by omega), wrap64 (x := high - fr + 1) (by omega) (by omega)]
            obtain ⟨w, hw, wa, wb, _⟩ := pick_ok hb (high - fr + 1) (by omega) (p := q) (by omega) (by omega)
            have wb' := wb (by omega)
            simp only [cond_true, hw, Option.bind_some]
            rw [wrap64 (x := fr + w) (by omega) (by omega), wrap64 (x := fr + w + 1) (by omega) (by omega)]
            obtain ⟨q2, k2, e2, b1, b2, b4, b3⟩ := ih fr (fr + w) root (q + 1) ks (by omega) (by omega) (by omega) (by omega) i6 (by omega) (by omega)
            have b4' := b4 (by omega)
            rw [e2]
            exact ⟨(fr + w + 1, q2, k2), rfl, ⟨fr + w + 1, q2, k2, rfl, by omega, by omega, by omega, by omega, b3⟩, by simp only; omega⟩
          · right
            rw [decide_eq_false hlt]
            exact ⟨(q, ks), rfl, i3, by show q ≤ _; omega, i6⟩) LL (root + 1, q1, k1) ⟨root + 1, q1, k1, rfl, by omega, by omega, by omega, by omega, a3⟩ (by simp only [LL]; omega)
      simp only at c1 c2 c3
      rw [e2]
      exact ⟨q2, k2, rfl, by omega, by omega, by omega, c3⟩

theorem flat_ok {b : List Int} (hb : Bytes b) (n : Int) (hn : n ≤ 1000) {p : Int} (hp : 0 ≤ p) (hp2 : p ≤ 999970000) :
    ∃ (q : Int) (h : List Int), spec_l20Flat n b p = some (q, h) ∧ p ≤ q ∧ q ≤ p + 400 ∧ h.length ≤ 8 := by
  have e : spec_l20Flat n b p = spec_l20Flat_n1 n b p := by unfold spec_l20Flat; rfl
  rw [e]
  unfold spec_l20Flat_n1
  obtain ⟨c, hc, ca, _⟩ := pick_ok hb 3 (by omega) (p := p) (by omega) (by omega)
  simp only [hc, Option.bind_some]
  cases (c == 0) with
  | true =>
    obtain ⟨q, h, hq, qa, qb, h8⟩ := tree_ok hb n hn (p := p + 1) (by omega) (by omega)
    simp only [cond_true, hq, Option.bind_some]
    exact ⟨q, h, rfl, by omega, by omega, h8⟩
  | false =>
    obtain ⟨v, hv, va, vb, _⟩ := pick_ok hb 7 (by omega) (p := p + 1) (by omega) (by omega)
    have vb' := vb (by omega)
    obtain ⟨m, hm⟩ : ∃ m : Nat, 1 + v = (m : Int) := ⟨(1 + v).toNat, by omega⟩
    simp only [cond_false, hv, Option.bind_some]
    rw [wrap64 (x := 1 + v) (by omega) (by omega), hm, mk_nat (by omega)]
    have e2 : spec_l20Fill 1 (m : Int) 0 b (p + 1 + 1) (List.replicate m 0) = spec_l20Fill_knot RR 1 (m : Int) 0 b (p + 1 + 1) (List.replicate m 0) := by unfold spec_l20Fill spec_l20Fill_fuel; rfl
    obtain ⟨q, ks, hq, qa, qb, _, hk⟩ := fill_ok hb m (by omega) RR 1 (m : Int) 0 (p + 1 + 1) (List.replicate m 0) (by simp only [RR]; omega) (by omega) (by omega) (by omega) (by simp) (by omega) (by omega)
    simp only [Option.bind_some, e2, hq]
    exact ⟨q, ks, rfl, by omega, by omega, by omega⟩

theorem wild_ok {b : List Int} (hb : Bytes b) (n : Int) (hn : n ≤ 1000) {p : Int} (hp : 0 ≤ p) (hp2 : p ≤ 999960000) :
    ∃ (q : Int) (h : List Int), spec_l20Wild n b p = some (q, h) ∧ p ≤ q ∧ q ≤ p + 1000 ∧ h.length ≤ 8 := by
  have e : spec_l20Wild n b p = spec_l20Wild_n1 n b p := by unfold spec_l20Wild; rfl
  rw [e]
  unfold spec_l20Wild_n1
  obtain ⟨q, h, hq, qa, qb, h8⟩ := tree_ok hb n hn hp (by omega)
  obtain ⟨c, hc, _⟩ := pick_ok hb 2 (by omega) (p := q) (by omega) (by omega)
  obtain ⟨d, hd, _⟩ := pick_ok hb 3 (by omega) (p := q + 1) (by omega) (by omega)
  obtain ⟨qf, hf, hqf, fa, fb, f8⟩ := flat_ok hb n hn (p := q + 1 + 1) (by omega) (by omega)
  obtain ⟨qo, o, ho, oa, ob, ol, _⟩ := order_ok hb h.length (by omega) (p := q + 1) (by omega) (by omega)
  have tail : ∃ (q' : Int) (h' : List Int), ((spec_l20Rd_pick 3 b (q + 1)).bind fun (v4853 : Int × Int) => cond ((v4853.1) == 0) ((spec_l20Flat n b (v4853.2)).bind fun (v4857 : Int × (List Int)) => some ((v4857.1), (v4857.2))) (some ((v4853.2), h))) = some (q', h') ∧ p ≤ q' ∧ q' ≤ p + 1000 ∧ h'.length ≤ 8 := by
    simp only [hd, Option.bind_some]
    cases (d == 0) with
    | true => simp only [cond_true, hqf, Option.bind_some]; exact ⟨_, _, rfl, by omega, by omega, f8⟩
    | false => exact ⟨_, _, rfl, by omega, by omega, h8⟩
  simp only [hq, hc, Option.bind_some]
  cases (c == 0) with
  | false => exact tail
  | true =>
    simp only [cond_true, specTree_eq, Option.bind_some]
    cases hT : treeB h with
    | false => exact tail
    | true =>
      simp only [cond_true, ho, Option.bind_some, specPut_eq h o (by omega)]
      refine ⟨_, _, rfl, by omega, by omega, ?_⟩
      split
      · rw [putRow_length]; omega
      · simp

theorem tree0 : treeB [0] = true := by decide
theorem tree1 : treeB [1] = false := by decide
theorem alive_eq : laws_alive = some true := by
  unfold laws_alive laws_alive_n1
  simp [implTree_eq, tree0, tree1]

end Go.Rv
