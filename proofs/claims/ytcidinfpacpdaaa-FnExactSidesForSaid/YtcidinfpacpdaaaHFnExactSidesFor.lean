/-
  Plain mathematics of what the law reaches. Conditions: none.
-/
import Derived.Test.YtcidinfpacpdaaaGFnExactSidesFor
set_option linter.unusedVariables false
set_option linter.unusedSimpArgs false
namespace Go.Rv
theorem nloop_run {σ ω : Type} {body : σ → Option (σ ⊕ ω)} (I : σ → Prop) (μ : σ → Nat) (f : σ → ω)
    (h : ∀ s, I s → (∃ s', body s = some (.inl s') ∧ I s' ∧ μ s' < μ s ∧ f s' = f s) ∨ body s = some (.inr (f s))) : ∀ (n : Nat) (s : σ), I s → μ s < n → nloop body n s = some (f s)
  | 0, s, _, hn => by omega
  | n + 1, s, hi, hn => by
    rcases h s hi with ⟨s', hb, hi', hm, hf⟩ | hb
    · simp only [nloop, hb, Option.bind_some]
      rw [nloop_run I μ f h n s' hi' (by omega), hf]
    · simp only [nloop, hb, Option.bind_some]

/-- A loop that counts from a number on: state (k, x), k < n goes on. -/
theorem wrap64 {x : Int} (h1 : -9223372036854775808 ≤ x) (h2 : x ≤ 9223372036854775807) : IntKind.wrap .i64 x = x := by
  simp only [IntKind.wrap, IntKind.bits, IntKind.signed]
  simp
  omega

theorem idx_nat {α : Type} (xs : List α) (k : Nat) : idx xs (k : Int) = xs[k]? := by simp [idx]
theorem idx_lt {α : Type} {xs : List α} {k : Nat} (h : k < xs.length) : idx xs (k : Int) = some xs[k] := by simp [idx, h]
theorem inb_nat {k n : Nat} (h : k < n) : inb (k : Int) n = some k := by
  simp only [inb]
  rw [if_pos (by omega)]
  simp
theorem mk_nat {n : Nat} (h : n ≤ 1099511627776) : mk (n : Int) (n : Int) = some n := by
  simp only [mk]
  rw [if_pos (by omega)]
  simp
theorem room_le {n : Nat} (h : n ≤ 1099511627776) : room n = some () := by simp [room, h]

def arcX (l r l' r' : Int) : Bool := decide ((l < l' ∧ l' < r ∧ r < r') ∨ (l' < l ∧ l < r' ∧ r' < r))
def pairB (a b : Int) : Bool := decide (1 ≤ a ∧ 1 ≤ b ∧ a ≠ b)
def crossI (a b c d : Int) : Bool := pairB a b && pairB c d && arcX (imin a b) (imax a b) (imin c d) (imax c d)

theorem min_max {a b : Int} (h : a ≠ b) : imin a b < imax a b := by
  unfold imin imax
  split <;> split <;> omega

theorem some_yes {p : Prop} [Decidable p] (h : p) : some true = some (decide p) := by rw [decide_eq_true h]
theorem some_no {p : Prop} [Decidable p] (h : ¬ p) : some false = some (decide p) := by rw [decide_eq_false h]

theorem arcBetween_eq (a b : Int) : impl_arcBetween a b = some (if pairB a b then (true, imin a b, imax a b) else (false, 0, 0)) := by
  unfold impl_arcBetween impl_arcBetween_n1 pairB
  by_cases h1 : a < 1
  · rw [decide_eq_true h1, decide_eq_false (show ¬ (1 ≤ a ∧ 1 ≤ b ∧ a ≠ b) by omega)]; rfl
  · rw [decide_eq_false h1]
    by_cases h2 : b < 1
    · rw [decide_eq_true h2, decide_eq_false (show ¬ (1 ≤ a ∧ 1 ≤ b ∧ a ≠ b) by omega)]; rfl
    · rw [decide_eq_false h2]
      by_cases h3 : a = b
      · rw [decide_eq_false (show ¬ (1 ≤ a ∧ 1 ≤ b ∧ a ≠ b) by omega), h3]; simp
      · rw [decide_eq_true (show 1 ≤ a ∧ 1 ≤ b ∧ a ≠ b by omega), show (a == b) = false from beq_eq_false_iff_ne.2 h3]; rfl

theorem covers_eq (l r x : Int) : impl_arc_covers l r x = some (decide (l < x ∧ x < r)) := by
  unfold impl_arc_covers impl_arc_covers_n1
  by_cases h1 : l < x
  · rw [decide_eq_true h1]; simp [h1]
  · rw [decide_eq_false h1]; simp [h1]

theorem leavesOut_eq (l r x : Int) : impl_arc_leavesOut l r x = some (decide (x < l ∨ r < x)) := by
  unfold impl_arc_leavesOut impl_arc_leavesOut_n1
  by_cases h1 : x < l
  · rw [decide_eq_true h1]; simp [h1]
  · rw [decide_eq_false h1]; simp [h1]

theorem crosses_eq {l r l' r' : Int} (h : l < r) (h' : l' < r') : impl_arc_crosses l r l' r' = some (arcX l r l' r') := by
  unfold impl_arc_crosses impl_arc_crosses_n1
  simp only [covers_eq, leavesOut_eq, Option.bind_some]
  unfold arcX
  by_cases h1 : l < l' ∧ l' < r
  · rw [decide_eq_true h1]
    by_cases h2 : r' < l ∨ r < r'
    · rw [decide_eq_true h2]; exact some_yes (by omega)
    · rw [decide_eq_false h2]
      by_cases h3 : l < r' ∧ r' < r
      · rw [decide_eq_true h3]
        by_cases h4 : l' < l ∨ r < l'
        · omega
        · rw [decide_eq_false h4]; exact some_no (by omega)
      · rw [decide_eq_false h3]; exact some_no (by omega)
  · rw [decide_eq_false h1]
    by_cases h3 : l < r' ∧ r' < r
    · rw [decide_eq_true h3]
      by_cases h4 : l' < l ∨ r < l'
      · rw [decide_eq_true h4]; exact some_yes (by omega)
      · rw [decide_eq_false h4]; exact some_no (by omega)
    · rw [decide_eq_false h3]; exact some_no (by omega)

theorem specCross_eq (a b c d : Int) : spec_CrossOk a b c d = some (crossI a b c d) := by
  unfold spec_CrossOk spec_CrossOk_n3 spec_CrossOk_n1 spec_CrossOk_n2 crossI
  by_cases h1 : pairB a b = true
  · by_cases h2 : pairB c d = true
    · rw [h1, h2]
      unfold pairB at h1 h2
      rw [decide_eq_true_eq] at h1 h2
      rw [decide_eq_false (show ¬ a < 1 by omega), decide_eq_false (show ¬ b < 1 by omega), decide_eq_false (show ¬ c < 1 by omega), decide_eq_false (show ¬ d < 1 by omega),
        show (a == b) = false from beq_eq_false_iff_ne.2 h1.2.2, show (c == d) = false from beq_eq_false_iff_ne.2 h2.2.2]
      simp only [cond_false, Option.bind_some, Sum.elim_inl, Bool.true_and]
      have m1 := min_max h1.2.2
      have m2 := min_max h2.2.2
      generalize imin a b = l at m1 ⊢
      generalize imax a b = r at m1 ⊢
      generalize imin c d = l' at m2 ⊢
      generalize imax c d = r' at m2 ⊢
      unfold arcX
      by_cases x1 : l < l'
      · rw [decide_eq_true x1, decide_eq_false (show ¬ l' < l by omega)]
        by_cases x2 : l' < r
        · rw [decide_eq_true x2]
          by_cases x3 : r < r'
          · rw [decide_eq_true x3]; exact some_yes (by omega)
          · rw [decide_eq_false x3]; exact some_no (by omega)
        · rw [decide_eq_false x2]; exact some_no (by omega)
      · rw [decide_eq_false x1]
        by_cases x4 : l' < l
        · rw [decide_eq_true x4]
          by_cases x5 : l < r'
          · rw [decide_eq_true x5]
            by_cases x6 : r' < r
            · rw [decide_eq_true x6]; exact some_yes (by omega)
            · rw [decide_eq_false x6]; exact some_no (by omega)
          · rw [decide_eq_false x5]; exact some_no (by omega)
        · rw [decide_eq_false x4]; exact some_no (by omega)
    · rw [h1, Bool.eq_false_iff.2 h2]
      unfold pairB at h1 h2
      rw [decide_eq_true_eq] at h1 h2
      rw [decide_eq_false (show ¬ a < 1 by omega), decide_eq_false (show ¬ b < 1 by omega)]
      by_cases y1 : c < 1
      · rw [decide_eq_true y1]; rfl
      · rw [decide_eq_false y1]
        by_cases y2 : d < 1
        · rw [decide_eq_true y2]; rfl
        · rw [decide_eq_false y2, show (a == b) = false from beq_eq_false_iff_ne.2 h1.2.2, show (c == d) = true by rw [beq_iff_eq]; omega]; rfl
  · rw [Bool.eq_false_iff.2 h1]
    unfold pairB at h1
    rw [decide_eq_true_eq] at h1
    by_cases y1 : a < 1
    · rw [decide_eq_true y1]; rfl
    · rw [decide_eq_false y1]
      by_cases y2 : b < 1
      · rw [decide_eq_true y2]; rfl
      · rw [decide_eq_false y2, show (a == b) = true by rw [beq_iff_eq]; omega]
        cases decide (c < 1) <;> cases decide (d < 1) <;> rfl

theorem toIntS_eq (xs : List Int) (h : xs.length ≤ 1048576) : laws_toIntS xs = some xs := by
  have hl := nloop_run (body := fun (s : Int × (List Int)) => ((laws_toIntS_n3 xs s.1 s.2).map (Sum.elim (fun (t : Int × (List Int)) => Sum.inl (t.1, t.2)) (fun (t : (List Int)) => Sum.inr t)) : Option ((Int × (List Int)) ⊕ (((List Int))))))
    (I := fun s => ∃ k : Nat, s.1 = k ∧ k ≤ xs.length ∧ s.2.length = xs.length) (μ := fun s => xs.length - s.1.toNat) (f := fun s => s.2.take s.1.toNat ++ xs.drop s.1.toNat)
    (by
      rintro ⟨_, out⟩ ⟨k, rfl, hk, ho⟩
      simp only at ho
      by_cases hlt : k < xs.length
      · left
        refine ⟨((k + 1 : Nat), out.set k xs[k]), ?_, ⟨k + 1, rfl, hlt, by simpa using ho⟩, by simp; omega, ?_⟩
        · simp only [laws_toIntS_n3]
          rw [show decide ((k : Int) < ((xs.length : Nat) : Int)) = true from decide_eq_true (by omega)]
          simp only [cond_true, idx_lt hlt, Option.bind_some, inb_nat (show k < out.length by omega)]
          rw [wrap64 (by omega) (by omega)]
          simp
        · simp only [Int.toNat_natCast]
          rw [List.take_set, List.take_add_one, List.getElem?_eq_getElem (by omega)]
          have hl : (out.take k).length = k := by simp; omega
          rw [List.set_append_right _ _ (by omega), hl]
          simp
      · right
        have e : k = xs.length := by omega
        subst e
        simp only [laws_toIntS_n3]
        rw [show decide (((xs.length : Nat) : Int) < ((xs.length : Nat) : Int)) = false from decide_eq_false (by omega)]
        simp [List.take_of_length_le (Nat.le_of_eq ho)])
  unfold laws_toIntS laws_toIntS_n9 laws_toIntS_n1 laws_toIntS_n8 laws_toIntS_n6 laws_toIntS_n2 laws_toIntS_n5 laws_toIntS_n4 laws_toIntS_n7
  rw [mk_nat (by omega)]
  simp only [Option.bind_some]
  rw [hl LL (0, List.replicate xs.length 0) ⟨0, by simp, by omega, by simp⟩ (by simp only [LL]; simp; omega)]
  simp

theorem drop_cons {α : Type} {xs : List α} {k : Nat} (h : k < xs.length) : xs.drop k = xs[k] :: xs.drop (k + 1) := List.drop_eq_getElem_cons h

theorem drop_beq {xs ys : List Int} {k : Nat} (h1 : k < xs.length) (h2 : k < ys.length) : (xs.drop k == ys.drop k) = (xs[k] == ys[k] && xs.drop (k + 1) == ys.drop (k + 1)) := by
  rw [drop_cons h1, drop_cons h2]
  rfl

theorem eqIntS_eq (xs ys : List Int) (h : xs.length ≤ 1048576) : laws_eqIntS xs ys = some (xs == ys) := by
  unfold laws_eqIntS laws_eqIntS_n9 laws_eqIntS_n1 laws_eqIntS_n8 laws_eqIntS_n6 laws_eqIntS_n5 laws_eqIntS_n4 laws_eqIntS_n2 laws_eqIntS_n7
  by_cases hl : xs.length = ys.length
  · have hloop := nloop_run (body := fun (s : Int) => ((laws_eqIntS_n3 xs ys s).map (Sum.elim (fun (t : Int) => Sum.inl t) (Sum.elim (fun (t : Bool) => Sum.inr (Sum.inl t)) (fun (t : Unit) => Sum.inr (Sum.inr t)))) : Option ((Int) ⊕ (Bool ⊕ Unit))))
      (I := fun s => ∃ k : Nat, s = k ∧ k ≤ xs.length) (μ := fun s => xs.length - s.toNat) (f := fun s => cond (xs.drop s.toNat == ys.drop s.toNat) (.inr ()) (.inl false))
      (by
        rintro _ ⟨k, rfl, hk⟩
        by_cases hlt : k < xs.length
        · have hlt' : k < ys.length := by omega
          simp only [laws_eqIntS_n3]
          rw [show decide ((k : Int) < ((xs.length : Nat) : Int)) = true from decide_eq_true (by omega)]
          simp only [cond_true, idx_lt hlt, idx_lt hlt', Option.bind_some, Int.toNat_natCast]
          rw [wrap64 (by omega) (by omega), drop_beq hlt hlt']
          by_cases he : xs[k] = ys[k]
          · left
            refine ⟨((k + 1 : Nat) : Int), by simp [he], ⟨k + 1, rfl, hlt⟩, by simp; omega, by simp [he]⟩
          · right
            have e1 : (xs[k] == ys[k]) = false := by simpa using he
            simp [bne, e1]
        · right
          have e : k = xs.length := by omega
          subst e
          simp only [laws_eqIntS_n3]
          rw [show decide (((xs.length : Nat) : Int) < ((xs.length : Nat) : Int)) = false from decide_eq_false (by omega)]
          simp [List.drop_of_length_le (Nat.le_of_eq hl.symm)])
    rw [show ((((xs.length : Nat) : Int)) != (((ys.length : Nat) : Int))) = false by simp [hl]]
    simp only [cond_false, Option.bind_some, Sum.elim_inl]
    rw [hloop LL 0 ⟨0, by simp, by omega⟩ (by simp only [LL]; simp; omega)]
    simp only [Int.toNat_zero, List.drop_zero]
    cases xs == ys <;> rfl
  · rw [show ((((xs.length : Nat) : Int)) != (((ys.length : Nat) : Int))) = true by simp; omega]
    have : (xs == ys) = false := by
      rw [beq_eq_false_iff_ne]
      exact fun e => hl (by rw [e])
    rw [this]; rfl

/-- From a word to the root, with so many steps at most: the root, and how many steps lead to it. -/
def climb (h : List Int) : Nat → Nat → Option (Nat × Nat)
  | 0, _ => none
  | f + 1, w => match h[w - 1]? with
    | none => none
    | some x => if x = 0 then some (w, 0) else (climb h f x.toNat).map fun p => (p.1, p.2 + 1)

def okHead (n : Nat) (x : Int) : Bool := decide (0 ≤ x) && decide (x ≤ n)

def inRange (h : List Int) : Bool := h.all (okHead h.length)

/-- The heads of a tree. -/
def treeB (h : List Int) : Bool :=
  decide (1 ≤ h.length) && decide (h.length ≤ 8) && inRange h && (h.count 0 == 1) && (List.range h.length).all fun k => (climb h h.length (k + 1)).isSome

theorem all_drop_cons {h : List Int} {p : Int → Bool} {k : Nat} (hk : k < h.length) : (h.drop k).all p = (p h[k] && (h.drop (k + 1)).all p) := by
  rw [drop_cons hk]; rfl

theorem count_drop_cons {h : List Int} {k : Nat} (hk : k < h.length) : (h.drop k).count 0 = (if h[k] = 0 then 1 else 0) + (h.drop (k + 1)).count 0 := by
  rw [drop_cons hk, List.count_cons]
  by_cases e : h[k] = 0 <;> simp [e] <;> omega

theorem oneRoot_eq (h : List Int) (hl : h.length ≤ 1048576) : impl_oneRoot h = some (inRange h && (h.count 0 == 1)) := by
  have hloop := nloop_run (body := fun (s : Int × Int) => ((impl_oneRoot_n3 h s.1 h.length s.2).map (Sum.elim (fun (t : Int × Int) => Sum.inl (t.1, t.2)) (Sum.elim (fun (t : Bool) => Sum.inr (Sum.inl t)) (fun (t : Int) => Sum.inr (Sum.inr t)))) : Option ((Int × Int) ⊕ (Bool ⊕ Int))))
    (I := fun s => ∃ k r : Nat, s = ((r : Int), (k : Int)) ∧ k ≤ h.length ∧ r ≤ k) (μ := fun s => h.length - s.2.toNat)
    (f := fun s => cond ((h.drop s.2.toNat).all (okHead h.length)) (.inr (s.1 + ((h.drop s.2.toNat).count 0 : Nat))) (.inl false))
    (by
      rintro _ ⟨k, r, rfl, hk, hr⟩
      by_cases hlt : k < h.length
      · simp only [impl_oneRoot_n3]
        rw [show decide ((k : Int) < ((h.length : Nat) : Int)) = true from decide_eq_true (by omega)]
        simp only [cond_true, idx_lt hlt, Option.bind_some, Int.toNat_natCast]
        rw [wrap64 (x := (k : Int) + 1) (by omega) (by omega), wrap64 (x := (r : Int) + 1) (by omega) (by omega), all_drop_cons hlt, count_drop_cons hlt]
        by_cases h1 : h[k] < 0
        · right
          have : okHead h.length h[k] = false := by simp [okHead]; omega
          simp [h1, this]
        · by_cases h2 : h[k] > (h.length : Int)
          · right
            have : okHead h.length h[k] = false := by simp [okHead]; omega
            simp [h1, h2, this]
          · left
            have hok : okHead h.length h[k] = true := by simp [okHead]; omega
            by_cases h3 : h[k] = 0
            · refine ⟨(((r + 1 : Nat) : Int), ((k + 1 : Nat) : Int)), ?_, ⟨k + 1, r + 1, rfl, hlt, by omega⟩, by simp; omega, ?_⟩
              · have h4 : decide ((h.length : Int) < 0) = false := decide_eq_false (by omega)
                simp [h3, h4]
              · have e : ((k + 1 : Nat) : Int).toNat = k + 1 := by simp
                rw [e, hok]
                simp only [h3, if_true, Bool.true_and]
                congr 2
                push_cast
                omega
            · refine ⟨((r : Int), ((k + 1 : Nat) : Int)), ?_, ⟨k + 1, r, rfl, hlt, by omega⟩, by simp; omega, ?_⟩
              · have e1 : (h[k] == 0) = false := by simpa using h3
                have e2 : decide (h[k] < 0) = false := decide_eq_false h1
                have e3 : decide (h[k] > (h.length : Int)) = false := decide_eq_false h2
                simp [e1, e2, e3]
              · have e : ((k + 1 : Nat) : Int).toNat = k + 1 := by simp
                rw [e, hok]
                simp [h3]
      · right
        have e : k = h.length := by omega
        subst e
        simp only [impl_oneRoot_n3]
        rw [show decide (((h.length : Nat) : Int) < ((h.length : Nat) : Int)) = false from decide_eq_false (by omega)]
        simp)
  unfold impl_oneRoot impl_oneRoot_n9 impl_oneRoot_n1 impl_oneRoot_n8 impl_oneRoot_n6 impl_oneRoot_n2 impl_oneRoot_n5 impl_oneRoot_n4
  simp only [Option.bind_some]
  rw [hloop LL (0, 0) ⟨0, 0, rfl, by omega, by omega⟩ (by simp only [LL]; simp; omega)]
  simp only [Int.toNat_zero, List.drop_zero]
  unfold inRange
  cases ha : h.all (okHead h.length) with
  | false => simp
  | true =>
    simp only [cond_true, Option.map_some, Sum.elim_inr, Option.bind_some, Sum.elim_inl, impl_oneRoot_n7, Bool.true_and]
    congr 1
    by_cases e : h.count 0 = 1
    · simp [e]
    · have e1 : ((0 : Int) + ((h.count 0 : Nat) : Int) == 1) = false := by rw [beq_eq_false_iff_ne]; omega
      have e2 : (h.count 0 == 1) = false := by rw [beq_eq_false_iff_ne]; exact e
      rw [e2]; exact e1

theorem inRange_get {h : List Int} (hr : inRange h = true) {k : Nat} (hk : k < h.length) : 0 ≤ h[k] ∧ h[k] ≤ h.length := by
  have := List.all_eq_true.1 hr h[k] (List.getElem_mem hk)
  simpa [okHead] using this

theorem up_eq (h : List Int) (k : Nat) (s : Nat) (hk : k < h.length) (hl : h.length ≤ 1048576) (hs : s ≤ h.length) :
    impl_walker_up h ((k + 1 : Nat) : Int) (s : Int) = some (if h[k] = 0 then (false, ((k + 1 : Nat) : Int), (s : Int)) else (true, h[k], ((s + 1 : Nat) : Int))) := by
  unfold impl_walker_up impl_walker_up_n1
  rw [wrap64 (by omega) (by omega), show ((k + 1 : Nat) : Int) - 1 = (k : Int) by omega, idx_lt hk]
  simp only [Option.bind_some]
  rw [wrap64 (by omega) (by omega)]
  by_cases e : h[k] = 0
  · simp [e]
  · have e1 : (h[k] == 0) = false := by simpa using e
    simp [e, e1]

theorem steps_eq (h : List Int) (hl : h.length ≤ 1048576) (hr : inRange h = true) (k : Nat) (hk : k < h.length) :
    impl_stepsToRoot h ((k + 1 : Nat) : Int) = some (match climb h h.length (k + 1) with | some p => ((p.2 : Int), true) | none => (0, false)) := by
  have hloop := nloop_run (body := fun (s : Int × Int) => ((impl_stepsToRoot_n2 h s.1 s.2).map (Sum.elim (fun (t : Int × Int) => Sum.inl (t.1, t.2)) (Sum.elim (fun (t : Int × Bool) => Sum.inr (Sum.inl t)) (fun (t : Int × Int) => Sum.inr (Sum.inr t)))) : Option ((Int × Int) ⊕ ((Int × Bool) ⊕ (Int × Int)))))
    (I := fun s => ∃ k i : Nat, s = (((k + 1 : Nat) : Int), (i : Int)) ∧ k < h.length ∧ i < h.length) (μ := fun s => h.length - s.2.toNat)
    (f := fun s => match climb h (h.length - s.2.toNat) s.1.toNat with | some p => .inr ((p.1 : Int), s.2 + (p.2 : Int)) | none => .inl (0, false))
    (by
      rintro _ ⟨k, i, rfl, hk, hi⟩
      simp only [impl_stepsToRoot_n2]
      rw [up_eq h k i hk hl (by omega)]
      obtain ⟨hr1, hr2⟩ := inRange_get hr hk
      have hf : h.length - i = (h.length - i - 1) + 1 := by omega
      have hg : h[k + 1 - 1]? = some h[k] := by simp [hk]
      have hcl : climb h (h.length - i) (k + 1) = if h[k] = 0 then some (k + 1, 0) else (climb h (h.length - i - 1) h[k].toNat).map fun p => (p.1, p.2 + 1) := by
        rw [hf]; simp only [climb, hg]; simp
      simp only [Option.bind_some, Int.toNat_natCast]
      rw [hcl]
      by_cases e : h[k] = 0
      · right
        simp [e]
      · simp only [e, if_false, cond_true]
        by_cases hlast : i + 1 ≥ h.length
        · right
          have h0 : h.length - i - 1 = 0 := by omega
          have hd : decide (((i + 1 : Nat) : Int) ≥ ((h.length : Nat) : Int)) = true := decide_eq_true (by omega)
          simp only [hd, h0, climb]
          simp
        · left
          have hd : decide (((i + 1 : Nat) : Int) ≥ ((h.length : Nat) : Int)) = false := decide_eq_false (by omega)
          refine ⟨(h[k], ((i + 1 : Nat) : Int)), by simp only [hd]; simp, ⟨h[k].toNat - 1, i + 1, by
            have : ((h[k].toNat - 1 + 1 : Nat) : Int) = h[k] := by omega
            rw [this], by omega, by omega⟩, by simp; omega, ?_⟩
          have e2 : h.length - ((i + 1 : Nat) : Int).toNat = h.length - i - 1 := by simp; omega
          simp only [e2]
          cases climb h (h.length - i - 1) h[k].toNat with
          | none => rfl
          | some p => simp; omega)
  unfold impl_stepsToRoot impl_stepsToRoot_n7 impl_stepsToRoot_n1 impl_stepsToRoot_n6 impl_stepsToRoot_n4 impl_stepsToRoot_n3
  simp only [Option.bind_some]
  rw [hloop LL (((k + 1 : Nat) : Int), 0) ⟨k, 0, rfl, hk, by omega⟩ (by simp only [LL]; simp; omega)]
  simp only [Int.toNat_natCast, Int.toNat_zero, Nat.sub_zero]
  cases climb h h.length (k + 1) with
  | none => simp
  | some p => simp [impl_stepsToRoot_n5]

theorem implTree_eq (h : List Int) : impl_TreeOk h = some (treeB h) := by
  unfold impl_TreeOk impl_TreeOk_n9 impl_TreeOk_n1 impl_TreeOk_n8 impl_TreeOk_n6 impl_TreeOk_n2 impl_TreeOk_n5 impl_TreeOk_n4
  unfold treeB
  by_cases h1 : h.length < 1
  · have e : decide (1 ≤ h.length) = false := decide_eq_false (by omega)
    have e2 : decide ((((h.length : Nat) : Int)) < 1) = true := decide_eq_true (by omega)
    simp [e, e2]
  · have e1 : decide ((((h.length : Nat) : Int)) < 1) = false := decide_eq_false (by omega)
    have e1' : decide (1 ≤ h.length) = true := decide_eq_true (by omega)
    by_cases h2 : h.length > 8
    · have e : decide (h.length ≤ 8) = false := decide_eq_false (by omega)
      have e2 : decide ((((h.length : Nat) : Int)) > 8) = true := decide_eq_true (by omega)
      simp only [e1, e2, e]
      simp
    · have e2 : decide ((((h.length : Nat) : Int)) > 8) = false := decide_eq_false (by omega)
      have e2' : decide (h.length ≤ 8) = true := decide_eq_true (by omega)
      simp only [e1, e2, e1', e2', cond_false, oneRoot_eq h (by omega), Option.bind_some, Bool.true_and]
      cases hr : inRange h with
      | false => simp
      | true =>
        cases hc : (h.count 0 == 1) with
        | false => simp
        | true =>
          simp only [Bool.true_and, Bool.not_true, cond_false, Option.bind_some, Sum.elim_inl]
          have hloop := nloop_run (body := fun (s : Int) => ((impl_TreeOk_n3 h h.length s).map (Sum.elim (fun (t : Int) => Sum.inl t) (Sum.elim (fun (t : Bool) => Sum.inr (Sum.inl t)) (fun (t : Unit) => Sum.inr (Sum.inr t)))) : Option ((Int) ⊕ (Bool ⊕ Unit))))
            (I := fun s => ∃ k : Nat, s = (k : Int) ∧ k ≤ h.length) (μ := fun s => h.length - s.toNat)
            (f := fun s => cond (((List.range h.length).drop s.toNat).all fun k => (climb h h.length (k + 1)).isSome) (.inr ()) (.inl false))
            (by
              rintro _ ⟨k, rfl, hk⟩
              by_cases hlt : k < h.length
              · simp only [impl_TreeOk_n3]
                rw [show decide ((k : Int) < ((h.length : Nat) : Int)) = true from decide_eq_true (by omega)]
                rw [wrap64 (x := (k : Int) + 1) (by omega) (by omega), show (k : Int) + 1 = ((k + 1 : Nat) : Int) by omega, steps_eq h (by omega) hr k hlt]
                simp only [cond_true, Option.bind_some, Int.toNat_natCast]
                have hd : (List.range h.length).drop k = k :: (List.range h.length).drop (k + 1) := by
                  rw [List.drop_eq_getElem_cons (by simpa using hlt)]
                  simp
                rw [hd]
                simp only [List.all_cons]
                cases hcl : climb h h.length (k + 1) with
                | none => right; simp
                | some p =>
                  left
                  refine ⟨((k + 1 : Nat) : Int), by simp, ⟨k + 1, rfl, hlt⟩, by simp; omega, by simp⟩
              · right
                have e : k = h.length := by omega
                subst e
                simp only [impl_TreeOk_n3]
                rw [show decide (((h.length : Nat) : Int) < ((h.length : Nat) : Int)) = false from decide_eq_false (by omega)]
                simp [List.drop_of_length_le (show (List.range h.length).length ≤ h.length by simp)])
          rw [hloop LL 0 ⟨0, rfl, by omega⟩ (by simp only [LL]; simp; omega)]
          simp only [Int.toNat_zero, List.drop_zero]
          cases ((List.range h.length).all fun k => (climb h h.length (k + 1)).isSome) <;> rfl

theorem l1In_eq (a b c : Int) : spec_l1In a b c = some (decide (b ≤ a) && decide (a ≤ c)) := by
  unfold spec_l1In spec_l1In_n1
  by_cases h : a ≥ b
  · have e : decide (a ≥ b) = true := decide_eq_true h
    rw [e]; rfl
  · have e : decide (a ≥ b) = false := decide_eq_false h
    rw [e]; rfl

/-- The model's way from a word upwards. -/
def goUp (h : List Int) : Nat → Int → Bool ⊕ Int
  | 0, a => .inr a
  | f + 1, a => if 0 < a then (match h[a.toNat - 1]? with
      | some x => if okHead h.length x then goUp h f x else .inl false
      | none => .inl false) else .inr a

theorem inner_eq (h : List Int) (hl : h.length ≤ 8) (a : Int) (ha0 : 0 ≤ a) (ha : a ≤ h.length) : spec_TreeOk_n7 h h.length a = some (goUp h h.length a) := by
  unfold spec_TreeOk_n7
  have hloop := nloop_run (body := fun (s : Int × Int) => ((spec_TreeOk_n6 h h.length s.1 s.2).map (Sum.elim (fun (t : Int × Int) => Sum.inl (t.1, t.2)) (Sum.elim (fun (t : Bool) => Sum.inr (Sum.inl t)) (fun (t : Int) => Sum.inr (Sum.inr t)))) : Option ((Int × Int) ⊕ (Bool ⊕ Int))))
    (I := fun s => ∃ k i : Nat, s = ((k : Int), (i : Int)) ∧ k ≤ h.length ∧ i ≤ h.length) (μ := fun s => h.length - s.2.toNat)
    (f := fun s => goUp h (h.length - s.2.toNat) s.1)
    (by
      rintro _ ⟨k, i, rfl, hk, hi⟩
      simp only [spec_TreeOk_n6, Int.toNat_natCast]
      by_cases h1 : 0 < k
      · have e1 : decide ((k : Int) > 0) = true := decide_eq_true (by omega)
        by_cases h2 : i < h.length
        · have e2 : decide ((i : Int) < ((h.length : Nat) : Int)) = true := decide_eq_true (by omega)
          have hk' : k - 1 < h.length := by omega
          rw [e1, e2, wrap64 (x := (k : Int) - 1) (by omega) (by omega), show (k : Int) - 1 = ((k - 1 : Nat) : Int) by omega, idx_lt hk', wrap64 (x := (i : Int) + 1) (by omega) (by omega)]
          simp only [cond_true, Option.bind_some, l1In_eq]
          have hf : h.length - i = (h.length - i - 1) + 1 := by omega
          have hg : goUp h (h.length - i) (k : Int) = if okHead h.length h[k - 1] then goUp h (h.length - i - 1) h[k - 1] else .inl false := by
            rw [hf]
            simp only [goUp]
            rw [if_pos (by omega)]
            simp [hk']
          rw [hg]
          by_cases h3 : okHead h.length h[k - 1] = true
          · left
            have h3' := h3
            simp only [okHead, Bool.and_eq_true, decide_eq_true_eq] at h3'
            refine ⟨(h[k - 1], ((i + 1 : Nat) : Int)), ?_, ⟨h[k - 1].toNat, i + 1, by
              have : ((h[k - 1].toNat : Nat) : Int) = h[k - 1] := by omega
              rw [this], by omega, by omega⟩, by simp; omega, ?_⟩
            · have e4 : (decide ((0 : Int) ≤ h[k - 1]) && decide (h[k - 1] ≤ ((h.length : Nat) : Int))) = true := h3
              rw [e4]; simp
            · have e5 : h.length - ((i + 1 : Nat) : Int).toNat = h.length - i - 1 := by simp; omega
              simp only [e5, h3, if_true]
          · right
            have h3' : okHead h.length h[k - 1] = false := by simpa using h3
            have e4 : (decide ((0 : Int) ≤ h[k - 1]) && decide (h[k - 1] ≤ ((h.length : Nat) : Int))) = false := h3'
            rw [e4]
            simp [h3']
        · right
          have e2 : decide ((i : Int) < ((h.length : Nat) : Int)) = false := decide_eq_false (by omega)
          have h0 : h.length - i = 0 := by omega
          rw [e1, e2, h0]
          simp [goUp]
      · right
        have hk0 : k = 0 := by omega
        subst hk0
        have e1 : decide (((0 : Nat) : Int) > 0) = false := by simp
        rw [e1]
        cases h.length - i <;> simp [goUp])
  exact hloop LL (a, 0) ⟨a.toNat, 0, by
    have : ((a.toNat : Nat) : Int) = a := by omega
    rw [this]; rfl, by omega, by omega⟩ (by simp only [LL]; simp; omega)

theorem goUp_climb {h : List Int} (hr : inRange h = true) : ∀ (f k : Nat), k < h.length → goUp h f ((k + 1 : Nat) : Int) = (if (climb h f (k + 1)).isSome then .inr 0 else goUp h f ((k + 1 : Nat) : Int)) ∧
    ((climb h f (k + 1)).isSome = false → ∃ a : Int, 0 < a ∧ goUp h f ((k + 1 : Nat) : Int) = .inr a)
  | 0, k, hk => by
    refine ⟨by simp [climb], fun _ => ⟨((k + 1 : Nat) : Int), by omega, rfl⟩⟩
  | f + 1, k, hk => by
    obtain ⟨h1, h2⟩ := inRange_get hr hk
    have hok : okHead h.length h[k] = true := by simp [okHead]; omega
    have hg : goUp h (f + 1) ((k + 1 : Nat) : Int) = goUp h f h[k] := by
      simp only [goUp]
      rw [if_pos (by omega)]
      simp [hk, hok]
    have hc : climb h (f + 1) (k + 1) = if h[k] = 0 then some (k + 1, 0) else (climb h f h[k].toNat).map fun p => (p.1, p.2 + 1) := by
      simp [climb, hk]
    rw [hg, hc]
    by_cases e : h[k] = 0
    · have : goUp h f 0 = .inr 0 := by cases f <;> simp [goUp]
      simp [e, this]
    · obtain ⟨j, hj⟩ : ∃ j : Nat, h[k] = ((j + 1 : Nat) : Int) := ⟨h[k].toNat - 1, by omega⟩
      have ih := goUp_climb hr f j (by omega)
      rw [hj]
      have ne : ¬ ((j + 1 : Nat) : Int) = 0 := by omega
      simp only [ne, if_false, Int.toNat_natCast, Option.isSome_map]
      exact ih

/-- What is asked of one word. -/
def wordOk1 (h : List Int) (k : Nat) : Bool := match h[k]? with
  | some x => okHead h.length x && !(x == ((k + 1 : Nat) : Int)) && (match goUp h h.length ((k + 1 : Nat) : Int) with | .inr a => !decide (a > 0) | .inl _ => false)
  | none => false

theorem specTree_eq0 (h : List Int) : spec_TreeOk h = some (decide (1 ≤ h.length) && decide (h.length ≤ 8) && (List.range h.length).all (wordOk1 h) && (h.count 0 == 1)) := by
  unfold spec_TreeOk spec_TreeOk_n22 spec_TreeOk_n1
  rw [l1In_eq]
  by_cases h1 : (decide ((1 : Int) ≤ ((h.length : Nat) : Int)) && decide (((h.length : Nat) : Int) ≤ 8)) = true
  · have h1' := h1
    simp only [Bool.and_eq_true, decide_eq_true_eq] at h1'
    have e1 : decide (1 ≤ h.length) = true := decide_eq_true (by omega)
    have e2 : decide (h.length ≤ 8) = true := decide_eq_true (by omega)
    simp only [h1, e1, e2, Option.bind_some, Bool.not_true, cond_false, Sum.elim_inl, Bool.true_and]
    unfold spec_TreeOk_n21 spec_TreeOk_n19 spec_TreeOk_n2 spec_TreeOk_n18 spec_TreeOk_n17
    have hloop := nloop_run (body := fun (s : Int × Int) => ((spec_TreeOk_n16 h h.length s.1 s.2).map (Sum.elim (fun (t : Int × Int) => Sum.inl (t.1, t.2)) (Sum.elim (fun (t : Bool) => Sum.inr (Sum.inl t)) (fun (t : Int) => Sum.inr (Sum.inr t)))) : Option ((Int × Int) ⊕ (Bool ⊕ Int))))
      (I := fun s => ∃ k r : Nat, s = ((r : Int), (k : Int)) ∧ k ≤ h.length ∧ r ≤ k) (μ := fun s => h.length - s.2.toNat)
      (f := fun s => cond (((List.range h.length).drop s.2.toNat).all (wordOk1 h)) (.inr (s.1 + ((h.drop s.2.toNat).count 0 : Nat))) (.inl false))
      (by
        rintro _ ⟨k, r, rfl, hk, hr⟩
        by_cases hlt : k < h.length
        · have hd : (List.range h.length).drop k = k :: (List.range h.length).drop (k + 1) := by
            rw [List.drop_eq_getElem_cons (by simpa using hlt)]
            simp
          simp only [spec_TreeOk_n16, spec_TreeOk_n3, Int.toNat_natCast]
          rw [show decide ((k : Int) < ((h.length : Nat) : Int)) = true from decide_eq_true (by omega)]
          simp only [cond_true, Option.bind_some, Sum.elim_inl]
          unfold spec_TreeOk_n15 spec_TreeOk_n13 spec_TreeOk_n12 spec_TreeOk_n4 spec_TreeOk_n14 spec_TreeOk_n11 spec_TreeOk_n9 spec_TreeOk_n5 spec_TreeOk_n8 spec_TreeOk_n10
          have hw : IntKind.wrap .i64 ((k : Int) + 1) = ((k + 1 : Nat) : Int) := by rw [wrap64 (by omega) (by omega)]; omega
          have hw2 : IntKind.wrap .i64 ((r : Int) + 1) = ((r + 1 : Nat) : Int) := by rw [wrap64 (by omega) (by omega)]; omega
          simp only [idx_lt hlt, Option.bind_some, l1In_eq, hw, hw2]
          rw [hd, List.all_cons, count_drop_cons hlt]
          have hwk : wordOk1 h k = (okHead h.length h[k] && !(h[k] == ((k + 1 : Nat) : Int)) && (match goUp h h.length ((k + 1 : Nat) : Int) with | .inr a => !decide (a > 0) | .inl _ => false)) := by
            simp [wordOk1, hlt]
          have hin := inner_eq h (by omega) ((k + 1 : Nat) : Int) (by omega) (by omega)
          rw [hwk]
          cases h3 : okHead h.length h[k] with
          | false =>
            right
            have e4 : (decide ((0 : Int) ≤ h[k]) && decide (h[k] ≤ ((h.length : Nat) : Int))) = false := h3
            rw [e4]; simp
          | true =>
            have e4 : (decide ((0 : Int) ≤ h[k]) && decide (h[k] ≤ ((h.length : Nat) : Int))) = true := h3
            rw [e4]
            simp only [Bool.not_true, cond_false, Bool.true_and]
            cases h5 : (h[k] == ((k + 1 : Nat) : Int)) with
            | true => right; simp
            | false =>
              simp only [cond_false, Bool.not_false, Bool.true_and]
              by_cases h6 : h[k] = 0
              · simp only [h6, beq_self_eq_true, cond_true, Option.bind_some, Sum.elim_inl, Option.map_some, hin, if_true]
                cases h7 : goUp h h.length ((k + 1 : Nat) : Int) with
                | inl b =>
                  right
                  have : b = false := by
                    have key : ∀ f a b, goUp h f a = .inl b → b = false := by
                      intro f
                      induction f with
                      | zero => intro a b hh; simp [goUp] at hh
                      | succ f ih =>
                        intro a b hh
                        simp only [goUp] at hh
                        split at hh
                        · split at hh
                          · split at hh
                            · exact ih _ _ hh
                            · simpa using hh.symm
                          · simpa using hh.symm
                        · cases hh
                    exact key _ _ _ h7
                  subst this
                  simp
                | inr a =>
                  by_cases h8 : a > 0
                  · right
                    simp [h8]
                  · left
                    refine ⟨(((r + 1 : Nat) : Int), ((k + 1 : Nat) : Int)), by simp [h8], ⟨k + 1, r + 1, rfl, hlt, by omega⟩, by simp; omega, ?_⟩
                    have e : ((k + 1 : Nat) : Int).toNat = k + 1 := by simp
                    simp only [e, h8, decide_false, Bool.not_false, Bool.true_and]
                    congr 2
                    push_cast
                    omega
              · have e9 : (h[k] == 0) = false := by simpa using h6
                simp only [e9, cond_false, Option.bind_some, Sum.elim_inl, Option.map_some, hin, h6, if_false]
                cases h7 : goUp h h.length ((k + 1 : Nat) : Int) with
                | inl b =>
                  right
                  have : b = false := by
                    have key : ∀ f a b, goUp h f a = .inl b → b = false := by
                      intro f
                      induction f with
                      | zero => intro a b hh; simp [goUp] at hh
                      | succ f ih =>
                        intro a b hh
                        simp only [goUp] at hh
                        split at hh
                        · split at hh
                          · split at hh
                            · exact ih _ _ hh
                            · simpa using hh.symm
                          · simpa using hh.symm
                        · cases hh
                    exact key _ _ _ h7
                  subst this
                  simp
                | inr a =>
                  by_cases h8 : a > 0
                  · right
                    simp [h8]
                  · left
                    refine ⟨((r : Int), ((k + 1 : Nat) : Int)), by simp [h8], ⟨k + 1, r, rfl, hlt, by omega⟩, by simp; omega, ?_⟩
                    have e : ((k + 1 : Nat) : Int).toNat = k + 1 := by simp
                    simp only [e, h8, decide_false, Bool.not_false, Bool.true_and]
                    congr 2
                    omega
        · right
          have e : k = h.length := by omega
          subst e
          simp only [spec_TreeOk_n16, spec_TreeOk_n3]
          rw [show decide (((h.length : Nat) : Int) < ((h.length : Nat) : Int)) = false from decide_eq_false (by omega)]
          simp [List.drop_of_length_le (show (List.range h.length).length ≤ h.length by simp)])
    simp only [Option.bind_some]
    rw [hloop LL (0, 0) ⟨0, 0, rfl, by omega, by omega⟩ (by simp only [LL]; simp; omega)]
    simp only [Int.toNat_zero, List.drop_zero, Option.bind_some]
    cases (List.range h.length).all (wordOk1 h) with
    | false => simp
    | true =>
      simp only [cond_true, Option.map_some, Sum.elim_inr, Option.bind_some, Sum.elim_inl, spec_TreeOk_n20, Bool.true_and]
      congr 1
      by_cases e : h.count 0 = 1
      · simp [e]
      · have e1 : ((0 : Int) + ((h.count 0 : Nat) : Int) == 1) = false := by rw [beq_eq_false_iff_ne]; omega
        have e2 : (h.count 0 == 1) = false := by rw [beq_eq_false_iff_ne]; exact e
        rw [e2]; exact e1
  · have h1' : (decide ((1 : Int) ≤ ((h.length : Nat) : Int)) && decide (((h.length : Nat) : Int) ≤ 8)) = false := by simpa using h1
    have e : (decide (1 ≤ h.length) && decide (h.length ≤ 8)) = false := by
      simp only [Bool.and_eq_true, decide_eq_true_eq] at h1
      simp only [Bool.and_eq_false_iff, decide_eq_false_iff_not]
      omega
    rw [h1']
    simp [e]

theorem specTree_eq (h : List Int) : spec_TreeOk h = some (treeB h) := by
  rw [specTree_eq0]
  congr 1
  unfold treeB
  have key : (List.range h.length).all (wordOk1 h) = (inRange h && (List.range h.length).all fun k => (climb h h.length (k + 1)).isSome) := by
    cases hr : inRange h with
    | false =>
      rw [Bool.false_and, List.all_eq_false]
      have : ¬ ∀ x ∈ h, okHead h.length x = true := fun hh => by
        have : inRange h = true := List.all_eq_true.2 hh
        rw [hr] at this; cases this
      have ⟨x, hx⟩ := Classical.not_forall.1 this
      have ⟨hm, hb⟩ := Classical.not_imp.1 hx
      obtain ⟨k, hk, rfl⟩ := List.getElem_of_mem hm
      refine ⟨k, by simpa using hk, ?_⟩
      simp [wordOk1, hk, hb]
    | true =>
      rw [Bool.true_and, Bool.eq_iff_iff, List.all_eq_true, List.all_eq_true]
      constructor
      · intro hh k hk
        have hk' : k < h.length := by simpa using hk
        have h1 := hh k hk
        cases hc : (climb h h.length (k + 1)).isSome with
        | true => rfl
        | false =>
          obtain ⟨a, ha, hg⟩ := (goUp_climb hr h.length k hk').2 hc
          have hg' : goUp h h.length ((k : Int) + 1) = .inr a := hg
          simp [wordOk1, hk', hg', ha] at h1
      · intro hh k hk
        have hk' : k < h.length := by simpa using hk
        have h1 := hh k hk
        have h2 := (goUp_climb hr h.length k hk').1
        rw [if_pos h1] at h2
        obtain ⟨h3, h4⟩ := inRange_get hr hk'
        have hok : okHead h.length h[k] = true := by simp [okHead]; omega
        have hself : ¬ h[k] = ((k + 1 : Nat) : Int) := fun e => by
          -- a word that is its own head never comes to the root
          have none : ∀ f, climb h f (k + 1) = none := by
            intro f
            induction f with
            | zero => rfl
            | succ f ih =>
              simp only [climb]
              have : h[k + 1 - 1]? = some h[k] := by simp [hk']
              rw [this]
              simp only
              rw [if_neg (by omega), e]
              simp [ih]
          rw [none] at h1
          cases h1
        have h2' : goUp h h.length ((k : Int) + 1) = .inr 0 := h2
        have hself' : ¬ h[k] = (k : Int) + 1 := hself
        simp [wordOk1, hk', hok, h2', hself']
  rw [key]
  cases inRange h <;> simp [Bool.and_comm, Bool.and_assoc, Bool.and_left_comm]

theorem climb_mono {h : List Int} : ∀ {f w : Nat} {p : Nat × Nat}, climb h f w = some p → climb h (f + 1) w = some p
  | 0, w, p, e => by simp [climb] at e
  | f + 1, w, p, e => by
    simp only [climb] at e
    rw [climb]
    split at e
    · cases e
    · rename_i x hx
      split at e
      · rename_i h0
        simp only [h0, if_true]; exact e
      · rename_i h0
        simp only [h0, if_false]
        obtain ⟨q, hq, rfl⟩ := Option.map_eq_some_iff.1 e
        rw [climb_mono hq]; rfl

theorem climb_le {h : List Int} {f g w : Nat} {p : Nat × Nat} (hfg : f ≤ g) (e : climb h f w = some p) : climb h g w = some p := by
  induction hfg with
  | refl => exact e
  | step _ ih => exact climb_mono ih

theorem climb_root {h : List Int} : ∀ {f w : Nat} {p : Nat × Nat}, climb h f w = some p → h[p.1 - 1]? = some 0
  | 0, w, p, e => by simp [climb] at e
  | f + 1, w, p, e => by
    simp only [climb] at e
    split at e
    · cases e
    · rename_i x hx
      split at e
      · rename_i h0
        cases e
        rw [hx, h0]
      · obtain ⟨q, hq, rfl⟩ := Option.map_eq_some_iff.1 e
        show h[q.1 - 1]? = some 0
        exact climb_root hq

theorem climb_pos {h : List Int} (hr : inRange h = true) : ∀ {f w : Nat} {p : Nat × Nat}, 1 ≤ w → climb h f w = some p → 1 ≤ p.1
  | 0, w, p, _, e => by simp [climb] at e
  | f + 1, w, p, hw, e => by
    simp only [climb] at e
    split at e
    · cases e
    · rename_i x hx
      split at e
      · cases e; exact hw
      · rename_i h0
        obtain ⟨q, hq, rfl⟩ := Option.map_eq_some_iff.1 e
        obtain ⟨hlt, hx'⟩ := List.getElem?_eq_some_iff.1 hx
        have := inRange_get hr hlt
        show 1 ≤ q.1
        exact climb_pos hr (by rw [hx'] at this; omega) hq

/-- What a tree is. -/
structure Tree (h : List Int) : Prop where
  pos : 1 ≤ h.length
  le : h.length ≤ 8
  rng : inRange h = true
  one : h.count 0 = 1
  way : ∀ k, k < h.length → (climb h h.length (k + 1)).isSome = true

theorem tree_iff (h : List Int) : treeB h = true ↔ Tree h := by
  unfold treeB
  simp only [Bool.and_eq_true, decide_eq_true_eq, beq_iff_eq, List.all_eq_true]
  constructor
  · rintro ⟨⟨⟨⟨h1, h2⟩, h3⟩, h4⟩, h5⟩
    exact ⟨h1, h2, h3, h4, fun k hk => h5 k (by simpa using hk)⟩
  · rintro ⟨h1, h2, h3, h4, h5⟩
    exact ⟨⟨⟨⟨h1, h2⟩, h3⟩, h4⟩, fun k hk => h5 k (by simpa using hk)⟩

/-- The head of a word, both from 1 on; 0 for none. -/
def hd (h : List Int) (w : Nat) : Nat := (h.getD (w - 1) 0).toNat

/-- How deep a word is. -/
def dep (h : List Int) (w : Nat) : Nat := ((climb h h.length w).getD (0, 0)).2
def top (h : List Int) : Nat := h.idxOf 0 + 1
theorem top_pos (h : List Int) : 1 ≤ top h := by simp [top]

section
variable {h : List Int} (T : Tree h)
include T

theorem Tree.get {w : Nat} (h1 : 1 ≤ w) (h2 : w ≤ h.length) : h[w - 1]? = some ((hd h w : Nat) : Int) := by
  have hk : w - 1 < h.length := by omega
  have := inRange_get T.rng hk
  rw [List.getElem?_eq_getElem hk, hd, List.getD_eq_getElem?_getD, List.getElem?_eq_getElem hk]
  simp only [Option.getD_some, Option.some.injEq]
  omega

theorem Tree.hd_le {w : Nat} (h1 : 1 ≤ w) (h2 : w ≤ h.length) : hd h w ≤ h.length := by
  have hk : w - 1 < h.length := by omega
  have := inRange_get T.rng hk
  rw [hd, List.getD_eq_getElem?_getD, List.getElem?_eq_getElem hk]
  simp only [Option.getD_some]
  omega

theorem Tree.top_lt : h.idxOf 0 < h.length := by
  rw [List.idxOf_lt_length_iff]
  exact List.count_pos_iff.1 (by rw [T.one]; omega)

theorem Tree.top_le : top h ≤ h.length := T.top_lt

/-- Just one word has no head. -/
theorem Tree.root_unique {i : Nat} (hi : h[i]? = some 0) : i = h.idxOf 0 := by
  have hlt := T.top_lt
  have h0 : h[h.idxOf 0]? = some 0 := by rw [List.getElem?_eq_getElem hlt]; simp
  -- two places would count twice
  have two : ∀ (l : List Int) (i j : Nat), i < j → l[i]? = some 0 → l[j]? = some 0 → 2 ≤ l.count 0 := by
    intro l
    induction l with
    | nil => intro i j _ h1; simp at h1
    | cons a r ih =>
      intro i j hij h1 h2
      cases j with
      | zero => omega
      | succ j =>
        rw [List.count_cons]
        cases i with
        | zero =>
          simp at h1 h2
          have : 0 < r.count 0 := List.count_pos_iff.2 (List.mem_of_getElem? h2)
          rw [h1]
          simp only [beq_self_eq_true, if_true]
          omega
        | succ i =>
          simp at h1 h2
          have := ih i j (by omega) h1 h2
          omega
  rcases Nat.lt_trichotomy i (h.idxOf 0) with hl | he | hg
  · have := two h i _ hl hi h0; have := T.one; omega
  · exact he
  · have := two h _ i hg h0 hi; have := T.one; omega

theorem Tree.hd_zero {w : Nat} (h1 : 1 ≤ w) (h2 : w ≤ h.length) : hd h w = 0 ↔ w = top h := by
  have hg := T.get h1 h2
  constructor
  · intro e
    rw [e] at hg
    have := T.root_unique hg
    unfold top; omega
  · intro e
    have hlt := T.top_lt
    have h0 : h[h.idxOf 0]? = some 0 := by rw [List.getElem?_eq_getElem hlt]; simp
    have : w - 1 = h.idxOf 0 := by unfold top at e; omega
    rw [this, h0] at hg
    simp at hg
    omega

theorem Tree.climb_some {w : Nat} (h1 : 1 ≤ w) (h2 : w ≤ h.length) : climb h h.length w = some (top h, dep h w) := by
  have hs := T.way (w - 1) (by omega)
  rw [show w - 1 + 1 = w by omega] at hs
  obtain ⟨p, hp⟩ := Option.isSome_iff_exists.1 hs
  have hr := climb_root hp
  have h3 := T.root_unique hr
  have h4 := climb_pos T.rng h1 hp
  have e1 : p.1 = top h := by unfold top; omega
  have e2 : dep h w = p.2 := by simp [dep, hp]
  rw [hp, e2, ← e1]

theorem Tree.dep_step {w : Nat} (h1 : 1 ≤ w) (h2 : w ≤ h.length) (h3 : hd h w ≠ 0) : dep h w = dep h (hd h w) + 1 := by
  have hc := T.climb_some h1 h2
  have hg := T.get h1 h2
  have hc2 := T.climb_some (w := hd h w) (by omega) (T.hd_le h1 h2)
  obtain ⟨n, hn⟩ : ∃ n, h.length = n + 1 := ⟨h.length - 1, by have := T.pos; omega⟩
  rw [hn] at hc
  simp only [climb, hg] at hc
  rw [if_neg (by omega)] at hc
  simp only [Int.toNat_natCast] at hc
  obtain ⟨q, hq, e⟩ := Option.map_eq_some_iff.1 hc
  have hq2 := climb_le (show n ≤ h.length by omega) hq
  rw [hc2] at hq2
  cases hq2
  simp at e
  exact e.symm

end

theorem set_take {l : List Int} {k : Nat} {v : Int} (hk : k < l.length) : (l.set k v).take (k + 1) = l.take k ++ [v] := by
  rw [List.take_set, List.take_add_one, List.getElem?_eq_getElem hk]
  have hl : (l.take k).length = k := by simp; omega
  rw [List.set_append_right _ _ (by omega), hl]
  simp

theorem nloop_to {σ ω : Type} {body : σ → Option (σ ⊕ ω)} (S : Nat → σ) (n : Nat) (w : ω) (hs : ∀ k, k < n → body (S k) = some (.inl (S (k + 1)))) (he : body (S n) = some (.inr w)) :
    ∀ (N : Nat), n < N → nloop body N (S 0) = some w := by
  have key : ∀ (m k N : Nat), k + m = n → m < N → nloop body N (S k) = some w := by
    intro m
    induction m with
    | zero =>
      intro k N hk hN
      obtain ⟨N', rfl⟩ : ∃ N', N = N' + 1 := ⟨N - 1, by omega⟩
      have : k = n := by omega
      subst this
      simp only [nloop, he, Option.bind_some]
    | succ m ih =>
      intro k N hk hN
      obtain ⟨N', rfl⟩ : ∃ N', N = N' + 1 := ⟨N - 1, by omega⟩
      simp only [nloop, hs k (by omega), Option.bind_some]
      exact ih (k + 1) N' (by omega) (by omega)
  intro N hN
  exact key n 0 N (by omega) hN

/-- The arcs of the first k words, the lesser end first. -/
def arcsK (h : List Int) (k : Nat) : List (Int × Int) := ((List.range k).filter fun i => decide (h.getD i 0 > 0)).map fun (i : Nat) => (imin ((i : Int) + 1) (h.getD i 0), imax ((i : Int) + 1) (h.getD i 0))
def arcsP (h : List Int) : List (Int × Int) := arcsK h h.length

theorem arcsK_length (h : List Int) (k : Nat) : (arcsK h k).length ≤ k := by
  unfold arcsK
  rw [List.length_map]
  exact Nat.le_trans (List.length_filter_le _ _) (by simp)

theorem arcsK_succ (h : List Int) (k : Nat) : arcsK h (k + 1) = if h.getD k 0 > 0 then arcsK h k ++ [(imin ((k : Int) + 1) (h.getD k 0), imax ((k : Int) + 1) (h.getD k 0))] else arcsK h k := by
  unfold arcsK
  have hf : List.filter (fun i => decide (h.getD i 0 > 0)) [k] = if decide (h.getD k 0 > 0) = true then [k] else [] := by simp only [List.filter_cons, List.filter_nil]
  rw [List.range_succ, List.filter_append, List.map_append, hf]
  by_cases e : h.getD k 0 > 0
  · rw [if_pos e, if_pos (decide_eq_true e)]; rfl
  · rw [if_neg e, if_neg (fun x => e (of_decide_eq_true x))]
    exact List.append_nil _

def asRow (p : Int × Int) : List Int := [p.1, p.2]
def asArc (p : Int × Int) : Int × Int × Unit := (p.1, p.2, ())

theorem specArcs_eq (h : List Int) (hl : h.length ≤ 1048576) : spec_l3Arcs h = some ((arcsP h).map asRow) := by
  have e : spec_l3Arcs h = spec_l3Arcs_n9 h := by unfold spec_l3Arcs; rfl
  rw [e]
  unfold spec_l3Arcs_n9 spec_l3Arcs_n1 spec_l3Arcs_n8 spec_l3Arcs_n6 spec_l3Arcs_n2 spec_l3Arcs_n5 spec_l3Arcs_n4 spec_l3Arcs_n7
  have hloop := nloop_to (body := fun (s : Int × (List (List Int))) => ((spec_l3Arcs_n3 h s.1 s.2).map (Sum.elim (fun (t : Int × (List (List Int))) => Sum.inl (t.1, t.2)) (fun (t : (List (List Int))) => Sum.inr t)) : Option ((Int × (List (List Int))) ⊕ (((List (List Int)))))))
    (fun k => ((k : Int), (arcsK h k).map asRow)) h.length ((arcsP h).map asRow)
    (by
      intro k hk
      have hlen := arcsK_length h k
      have hg : h.getD k 0 = h[k] := by simp [List.getD, hk]
      simp only [spec_l3Arcs_n3]
      rw [show decide ((k : Int) < ((h.length : Nat) : Int)) = true from decide_eq_true (by omega), idx_lt hk, wrap64 (x := (k : Int) + 1) (by omega) (by omega), arcsK_succ, hg]
      simp only [cond_true, Option.bind_some]
      by_cases e : h[k] > 0
      · rw [decide_eq_true e, if_pos e, room_le (by simp; omega)]
        simp [asRow]
      · rw [decide_eq_false e, if_neg e]
        simp)
    (by
      simp only [spec_l3Arcs_n3]
      rw [show decide (((h.length : Nat) : Int) < ((h.length : Nat) : Int)) = false from decide_eq_false (by omega)]
      rfl)
  have hl2 := hloop LL (by simp only [LL]; omega)
  simp only [Option.bind_some]
  rw [show ((0 : Int), ([] : List (List Int))) = (((0 : Nat) : Int), (arcsK h 0).map asRow) from rfl, hl2]
  rfl

theorem Tree.getD_hd {h : List Int} (T : Tree h) {k : Nat} (hk : k < h.length) : h.getD k 0 = ((hd h (k + 1) : Nat) : Int) := by
  have hg := T.get (w := k + 1) (by omega) (by omega)
  rw [Nat.add_sub_cancel] at hg
  rw [List.getD_eq_getElem?_getD, hg]; rfl

/-- No word is its own head. -/
theorem Tree.hd_other {h : List Int} (T : Tree h) {w : Nat} (h1 : 1 ≤ w) (h2 : w ≤ h.length) : hd h w ≠ w := by
  intro e
  have := T.dep_step h1 h2 (by omega)
  rw [e] at this
  omega

theorem implArcs_eq {h : List Int} (T : Tree h) : impl_arcsOf h = some ((arcsP h).map asArc) := by
  have e : impl_arcsOf h = impl_arcsOf_n9 h := by unfold impl_arcsOf; rfl
  have hle := T.le
  rw [e]
  unfold impl_arcsOf_n9 impl_arcsOf_n1 impl_arcsOf_n8 impl_arcsOf_n6 impl_arcsOf_n2 impl_arcsOf_n5 impl_arcsOf_n4 impl_arcsOf_n7
  have hmk : mk 0 ((h.length : Nat) : Int) = some 0 := by
    simp only [mk]
    rw [if_pos (by omega)]
    rfl
  have hloop := nloop_to (body := fun (s : Int × (List (Int × Int × Unit))) => ((impl_arcsOf_n3 h h.length s.1 s.2).map (Sum.elim (fun (t : Int × (List (Int × Int × Unit))) => Sum.inl (t.1, t.2)) (fun (t : (List (Int × Int × Unit))) => Sum.inr t)) : Option ((Int × (List (Int × Int × Unit))) ⊕ (((List (Int × Int × Unit)))))))
    (fun k => ((k : Int), (arcsK h k).map asArc)) h.length ((arcsP h).map asArc)
    (by
      intro k hk
      have hlen := arcsK_length h k
      have hg := T.getD_hd hk
      have hi : idx h (k : Int) = some ((hd h (k + 1) : Nat) : Int) := by
        rw [idx_lt hk, ← hg]; simp [List.getD, hk]
      have hne := T.hd_other (w := k + 1) (by omega) (by omega)
      have hh := T.hd_le (w := k + 1) (by omega) (by omega)
      simp only [impl_arcsOf_n3]
      rw [show decide ((k : Int) < ((h.length : Nat) : Int)) = true from decide_eq_true (by omega), hi, wrap64 (x := (k : Int) + 1) (by omega) (by omega), arcsK_succ, hg]
      simp only [cond_true, Option.bind_some, arcBetween_eq]
      by_cases e : hd h (k + 1) = 0
      · have hp : pairB ((k : Int) + 1) ((hd h (k + 1) : Nat) : Int) = false := decide_eq_false (by omega)
        rw [hp, if_neg (show ¬ ((hd h (k + 1) : Nat) : Int) > 0 by omega)]
        rfl
      · have hp : pairB ((k : Int) + 1) ((hd h (k + 1) : Nat) : Int) = true := decide_eq_true (by omega)
        rw [hp, if_pos (show ((hd h (k + 1) : Nat) : Int) > 0 by omega), if_pos rfl]
        simp only [cond_true]
        rw [room_le (by simp; omega)]
        simp [asArc])
    (by
      simp only [impl_arcsOf_n3]
      rw [show decide (((h.length : Nat) : Int) < ((h.length : Nat) : Int)) = false from decide_eq_false (by omega)]
      rfl)
  have hl2 := hloop LL (by simp only [LL]; omega)
  rw [hmk]
  simp only [Option.bind_some]
  rw [show ((0 : Int), (List.replicate 0 ((0 : Int), ((0 : Int), ())))) = (((0 : Nat) : Int), (arcsK h 0).map asArc) from rfl, hl2]
  rfl

/-- The arc of a word that has a head. -/
theorem mem_arcs {h : List Int} (T : Tree h) {p : Int × Int} : p ∈ arcsP h ↔ ∃ w, 1 ≤ w ∧ w ≤ h.length ∧ hd h w ≠ 0 ∧ p = (imin (w : Int) ((hd h w : Nat) : Int), imax (w : Int) ((hd h w : Nat) : Int)) := by
  unfold arcsP arcsK
  rw [List.mem_map]
  constructor
  · rintro ⟨i, hi, rfl⟩
    rw [List.mem_filter, List.mem_range, decide_eq_true_eq] at hi
    rw [T.getD_hd hi.1] at hi ⊢
    refine ⟨i + 1, by omega, by omega, by omega, ?_⟩
    rw [show ((i + 1 : Nat) : Int) = (i : Int) + 1 by omega]
  · rintro ⟨w, h1, h2, h3, rfl⟩
    refine ⟨w - 1, ?_, ?_⟩
    · rw [List.mem_filter, List.mem_range, decide_eq_true_eq, T.getD_hd (by omega), show w - 1 + 1 = w by omega]
      omega
    · rw [T.getD_hd (show w - 1 < h.length by omega), show w - 1 + 1 = w by omega, show ((w - 1 : Nat) : Int) + 1 = (w : Int) by omega]

theorem arc_ends {h : List Int} (T : Tree h) {p : Int × Int} (hp : p ∈ arcsP h) : 1 ≤ p.1 ∧ p.1 < p.2 ∧ p.2 ≤ (h.length : Nat) := by
  obtain ⟨w, h1, h2, h3, rfl⟩ := (mem_arcs T).1 hp
  have hh := T.hd_le h1 h2
  have hne := T.hd_other h1 h2
  unfold imin imax
  simp only
  split <;> split <;> omega

def crossP (p q : Int × Int) : Bool := arcX p.1 p.2 q.1 q.2

theorem crossP_comm (p q : Int × Int) : crossP p q = crossP q p := by
  unfold crossP arcX
  apply Bool.eq_iff_iff.2
  simp only [decide_eq_true_eq]
  omega

theorem crossI_arc {p q : Int × Int} (hp : 1 ≤ p.1 ∧ p.1 < p.2) (hq : 1 ≤ q.1 ∧ q.1 < q.2) : crossI p.1 p.2 q.1 q.2 = crossP p q := by
  have m1 : imin p.1 p.2 = p.1 := by unfold imin; rw [if_neg (by omega)]
  have m2 : imax p.1 p.2 = p.2 := by unfold imax; rw [if_pos (by omega)]
  have m3 : imin q.1 q.2 = q.1 := by unfold imin; rw [if_neg (by omega)]
  have m4 : imax q.1 q.2 = q.2 := by unfold imax; rw [if_pos (by omega)]
  have b1 : pairB p.1 p.2 = true := decide_eq_true (by omega)
  have b2 : pairB q.1 q.2 = true := decide_eq_true (by omega)
  unfold crossI crossP
  rw [m1, m2, m3, m4, b1, b2]
  rfl

def xA (A : List (Int × Int)) (i j : Nat) : Bool := crossP (A.getD i (0, 0)) (A.getD j (0, 0))
theorem xA_comm (A : List (Int × Int)) (i j : Nat) : xA A i j = xA A j i := crossP_comm _ _
/-- Each arc has a side, and no two on a side cross. -/
def Proper (A : List (Int × Int)) (c : Nat → Int) : Prop :=
  (∀ i, i < A.length → c i = 0 ∨ c i = 1) ∧ ∀ i j, i < A.length → j < A.length → xA A i j = true → c i ≠ c j
/-- What is linked stays within. -/
def Closed (A : List (Int × Int)) (S : Nat → Prop) : Prop := ∀ i j, i < A.length → j < A.length → xA A i j = true → S i → S j
/-- The first of all that are linked. -/
def First (A : List (Int × Int)) (i : Nat) : Prop := ∃ S : Nat → Prop, Closed A S ∧ ¬ S i ∧ ∀ j, j < i → S j
def Canon (A : List (Int × Int)) (c : Nat → Int) : Prop := Proper A c ∧ ∀ i, i < A.length → First A i → c i = 0

def sv (s : List Int) (v : Nat) : Int := s.getD v (-1)
theorem sv_get {s : List Int} {v : Nat} (h : v < s.length) : s[v]? = some (sv s v) := by
  unfold sv
  rw [List.getD_eq_getElem?_getD, List.getElem?_eq_getElem h, Option.getD_some]
theorem sv_set {s : List Int} {j : Nat} (hj : j < s.length) (y : Int) (v : Nat) : sv (s.set j y) v = if v = j then y else sv s v := by
  unfold sv
  rw [List.getD_eq_getElem?_getD, List.getElem?_set]
  by_cases e : j = v
  · subst e
    rw [if_pos rfl, if_pos hj, if_pos rfl]
    rfl
  · rw [if_neg e, if_neg (fun z => e z.symm), List.getD_eq_getElem?_getD]

/-- Some arcs have their sides. -/
structure Col (A : List (Int × Int)) (s : List Int) : Prop where
  len : s.length = A.length
  val : ∀ v, v < A.length → sv s v = -1 ∨ sv s v = 0 ∨ sv s v = 1
  can : ∀ c, Canon A c → ∀ v, v < A.length → 0 ≤ sv s v → c v = sv s v
  ext : ∀ c, Proper A c → ∃ c', Proper A c' ∧ ∀ v, v < A.length → 0 ≤ sv s v → c' v = sv s v
  fst : ∀ v, v < A.length → 0 ≤ sv s v → sv s v = 0 ∨ ∃ r, r < v ∧ ∀ S, Closed A S → S r → S v

theorem Col.step {A : List (Int × Int)} {s : List Int} (C : Col A s) {a j : Nat} (ha : a < A.length) (hj : j < A.length) (x : xA A a j = true) (sa : 0 ≤ sv s a) (sj : sv s j < 0)
    (f : ∃ r, r < j ∧ ∀ S, Closed A S → S r → S j) : Col A (s.set j (1 - sv s a)) := by
  have hl := C.len
  have va := C.val a ha
  have ss := sv_set (s := s) (j := j) (by omega) (1 - sv s a)
  refine ⟨by rw [List.length_set]; exact hl, fun v hv => ?_, fun c hc v hv h0 => ?_, fun c hc => ?_, fun v hv h0 => ?_⟩
  · rw [ss]
    split
    · omega
    · exact C.val v hv
  · rw [ss] at h0 ⊢
    by_cases e : v = j
    · subst e
      rw [if_pos rfl]
      have c1 := C.can c hc a ha sa
      have c2 := hc.1.2 a v ha hj x
      have c3 := hc.1.1 v hj
      omega
    · rw [if_neg e] at h0 ⊢
      exact C.can c hc v hv h0
  · obtain ⟨c', p, q⟩ := C.ext c hc
    refine ⟨c', p, fun v hv h0 => ?_⟩
    rw [ss] at h0 ⊢
    by_cases e : v = j
    · subst e
      rw [if_pos rfl]
      have c1 := q a ha sa
      have c2 := p.2 a v ha hj x
      have c3 := p.1 v hj
      omega
    · rw [if_neg e] at h0 ⊢
      exact q v hv h0
  · rw [ss] at h0 ⊢
    by_cases e : v = j
    · subst e
      exact .inr f
    · rw [if_neg e] at h0 ⊢
      exact C.fst v hv h0

theorem Col.root {A : List (Int × Int)} {s : List Int} (C : Col A s) (cl : ∀ a j, a < A.length → j < A.length → xA A a j = true → 0 ≤ sv s a → 0 ≤ sv s j ∧ sv s j ≠ sv s a)
    {i : Nat} (hi : i < A.length) (si : sv s i < 0) (pre : ∀ j, j < i → 0 ≤ sv s j) : Col A (s.set i 0) := by
  have hl := C.len
  have ss := sv_set (s := s) (j := i) (by omega) 0
  have F : First A i := ⟨fun v => 0 ≤ sv s v, fun a j ha hj x h => (cl a j ha hj x h).1, by omega, pre⟩
  refine ⟨by rw [List.length_set]; exact hl, fun v hv => ?_, fun c hc v hv h0 => ?_, fun c hc => ?_, fun v hv h0 => ?_⟩
  · rw [ss]
    split
    · omega
    · exact C.val v hv
  · rw [ss] at h0 ⊢
    by_cases e : v = i
    · subst e
      rw [if_pos rfl]
      exact hc.2 v hi F
    · rw [if_neg e] at h0 ⊢
      exact C.can c hc v hv h0
  · obtain ⟨c', p, q⟩ := C.ext c hc
    by_cases z : c' i = 0
    · refine ⟨c', p, fun v hv h0 => ?_⟩
      rw [ss] at h0 ⊢
      by_cases e : v = i
      · subst e
        rw [if_pos rfl]
        exact z
      · rw [if_neg e] at h0 ⊢
        exact q v hv h0
    · refine ⟨fun v => if 0 ≤ sv s v then c' v else 1 - c' v, ⟨fun v hv => ?_, fun a b ha hb x => ?_⟩, fun v hv h0 => ?_⟩
      · have := p.1 v hv
        simp only
        split <;> omega
      · have c1 := p.2 a b ha hb x
        have v1 := p.1 a ha
        have v2 := p.1 b hb
        simp only
        by_cases qa : 0 ≤ sv s a
        · have := (cl a b ha hb x qa).1
          rw [if_pos qa, if_pos this]
          exact c1
        · have : ¬ 0 ≤ sv s b := fun y => qa (cl b a hb ha (by rw [xA_comm]; exact x) y).1
          rw [if_neg qa, if_neg this]
          omega
      · rw [ss] at h0 ⊢
        simp only
        by_cases e : v = i
        · subst e
          rw [if_pos rfl, if_neg (by omega)]
          have := p.1 v hi
          omega
        · rw [if_neg e] at h0 ⊢
          rw [if_pos h0]
          exact q v hv h0
  · rw [ss] at h0 ⊢
    by_cases e : v = i
    · rw [if_pos e]
      exact .inl rfl
    · rw [if_neg e] at h0 ⊢
      exact C.fst v hv h0

theorem Col.none {A : List (Int × Int)} {s : List Int} (C : Col A s) {a j : Nat} (ha : a < A.length) (hj : j < A.length) (x : xA A a j = true) (sa : 0 ≤ sv s a) (e : sv s j = sv s a) : ¬ ∃ c, Proper A c := by
  rintro ⟨c, hc⟩
  obtain ⟨c', p, q⟩ := C.ext c hc
  refine p.2 a j ha hj x ?_
  rw [q a ha sa, q j hj (by omega), e]

theorem Col.start (A : List (Int × Int)) : Col A (List.replicate A.length (-1)) := by
  have z : ∀ v, sv (List.replicate A.length (-1)) v = -1 := fun v => by
    unfold sv
    rw [List.getD_eq_getElem?_getD, List.getElem?_replicate]
    split <;> rfl
  refine ⟨by simp, fun v _ => .inl (z v), fun c _ v _ h => ?_, fun c hc => ⟨c, hc, fun v _ h => ?_⟩, fun v _ h => ?_⟩ <;> (rw [z] at h; omega)

/-- When all have their sides. -/
theorem Col.done {A : List (Int × Int)} {s : List Int} (C : Col A s) (cl : ∀ a j, a < A.length → j < A.length → xA A a j = true → 0 ≤ sv s a → 0 ≤ sv s j ∧ sv s j ≠ sv s a)
    (all : ∀ v, v < A.length → 0 ≤ sv s v) : Canon A (sv s) ∧ ∀ c, Canon A c → ∀ v, v < A.length → c v = sv s v := by
  refine ⟨⟨⟨fun v hv => ?_, fun a b ha hb x e => (cl a b ha hb x (all a ha)).2 e.symm⟩, fun i hi F => ?_⟩, fun c hc v hv => C.can c hc v hv (all v hv)⟩
  · have := C.val v hv
    have := all v hv
    omega
  · rcases C.fst i hi (all i hi) with e | ⟨r, hr, g⟩
    · exact e
    · obtain ⟨S, cS, ni, pre⟩ := F
      exact absurd (g S cS (pre r hr)) ni

def unc (s : List Int) : Nat := s.countP fun x => decide (x < 0)
theorem unc_le (s : List Int) : unc s ≤ s.length := List.countP_le_length
theorem unc_set {s : List Int} {j : Nat} (hj : j < s.length) (sj : sv s j < 0) {y : Int} (hy : 0 ≤ y) : unc (s.set j y) + 1 = unc s := by
  unfold unc
  have g : s[j] = sv s j := by
    have := sv_get hj
    rw [List.getElem?_eq_getElem hj] at this
    exact Option.some.inj this
  have pos : 0 < s.countP fun x => decide (x < 0) := List.countP_pos_iff.mpr ⟨s[j], List.getElem_mem hj, by rw [g]; exact decide_eq_true sj⟩
  rw [List.countP_set hj, g, decide_eq_true sj, decide_eq_false (show ¬ y < 0 by omega)]
  simp
  omega

theorem nloop_ex {σ ω : Type} {body : σ → Option (σ ⊕ ω)} (I : σ → Prop) (μ : σ → Nat) (Q : ω → Prop)
    (h : ∀ s, I s → (∃ s', body s = some (.inl s') ∧ I s' ∧ μ s' < μ s) ∨ (∃ o, body s = some (.inr o) ∧ Q o)) : ∀ (n : Nat) (s : σ), I s → μ s < n → ∃ o, nloop body n s = some o ∧ Q o
  | 0, s, _, hn => by omega
  | n + 1, s, hi, hn => by
    rcases h s hi with ⟨s', hb, hi', hm⟩ | ⟨o, hb, hq⟩
    · simp only [nloop, hb, Option.bind_some]
      exact nloop_ex I μ Q h n s' hi' (by omega)
    · simp only [nloop, hb, Option.bind_some]
      exact ⟨o, rfl, hq⟩

theorem opposite_eq {y : Int} (hy : y = 0 ∨ y = 1) : impl_opposite y = some (1 - y) := by
  have e : impl_opposite y = impl_opposite_n1 y := by unfold impl_opposite; rfl
  rw [e]
  unfold impl_opposite_n1
  rw [wrap64 (by omega) (by omega)]

theorem repeat_tab : (∀ n : Fin 9, slices_Repeat_int_int [-1] (n.val : Int) = some (List.replicate n.val (-1))) := by
  decide +kernel

theorem newDrawing_eq {A : List (Int × Int)} (hA : A.length ≤ 8) : impl_newDrawing (A.map asArc) = some (List.replicate A.length (-1)) := by
  have e : impl_newDrawing (A.map asArc) = impl_newDrawing_n1 (A.map asArc) := by unfold impl_newDrawing; rfl
  rw [e]
  unfold impl_newDrawing_n1
  rw [List.length_map]
  have := repeat_tab ⟨A.length, by omega⟩
  simp only at this
  rw [this]
  rfl

/-- A word's arc and all that is linked to it beyond what had sides before. -/
def Sat (A : List (Int × Int)) (s : List Int) (v : Nat) : Prop := ∀ k, k < A.length → xA A v k = true → 0 ≤ sv s k ∧ sv s k ≠ sv s v
/-- What had sides keeps them. -/
def Keep (A : List (Int × Int)) (s t : List Int) : Prop := ∀ v, v < A.length → 0 ≤ sv s v → sv t v = sv s v

theorem Keep.refl (A : List (Int × Int)) (s : List Int) : Keep A s s := fun _ _ _ => rfl
theorem Keep.trans {A : List (Int × Int)} {s t u : List Int} (h : Keep A s t) (k : Keep A t u) : Keep A s u := fun v hv h0 => by
  have := h v hv h0
  rw [k v hv (by omega), this]
theorem Sat.keep {A : List (Int × Int)} {s t : List Int} {v : Nat} (h : Sat A s v) (hv : v < A.length) (h0 : 0 ≤ sv s v) (k : Keep A s t) : Sat A t v := fun j hj x => by
  obtain ⟨a, b⟩ := h j hj x
  rw [k j hj a, k v hv h0]
  exact ⟨a, b⟩

/-- What a drawing that went well leaves. -/
structure Drawn (A : List (Int × Int)) (s t : List Int) : Prop where
  col : Col A t
  keep : Keep A s t
  sat : ∀ v, v < A.length → sv s v < 0 → 0 ≤ sv t v → Sat A t v
  unc : unc t ≤ unc s

theorem Drawn.trans {A : List (Int × Int)} {s t u : List Int} (h : Drawn A s t) (k : Drawn A t u) : Drawn A s u := by
  refine ⟨k.col, h.keep.trans k.keep, fun v hv s0 u0 => ?_, Nat.le_trans k.unc h.unc⟩
  by_cases q : 0 ≤ sv t v
  · exact (h.sat v hv s0 q).keep hv q k.keep
  · exact k.sat v hv (by omega) u0

theorem arcs_idx {A : List (Int × Int)} {k : Nat} (hk : k < A.length) : idx (A.map asArc) (k : Int) = some (asArc A[k]) := by
  rw [idx_nat]
  simp [hk]

theorem xA_get {A : List (Int × Int)} {i j : Nat} (hi : i < A.length) (hj : j < A.length) : xA A i j = arcX A[i].1 A[i].2 A[j].1 A[j].2 := by
  unfold xA crossP
  rw [List.getD_eq_getElem?_getD, List.getD_eq_getElem?_getD, List.getElem?_eq_getElem hi, List.getElem?_eq_getElem hj]
  rfl

section
variable {A : List (Int × Int)} (hA : A.length ≤ 8) (hX : ∀ p ∈ A, p.1 < p.2)
include hA hX

theorem draw_fuel {i : Nat} : ∀ (n : Nat) (s : List Int) (j : Nat) (y : Int), j < A.length → (y = 0 ∨ y = 1) → unc s < n → s.length = A.length → -1 ≤ sv s j →
    (sv s j < 0 → Col A (s.set j y)) → (0 ≤ sv s j → Col A s) → (0 ≤ sv s j → sv s j ≠ y → ¬ ∃ c, Proper A c) → (∀ S, Closed A S → S i → S j) → (∀ v, v ≤ i → 0 ≤ sv (s.set j y) v) →
    ∃ b t, impl_drawing_draw_fuel n (j : Int) y (A.map asArc) s = some (b, t) ∧ (b = false → ¬ ∃ c, Proper A c) ∧ (b = true → Drawn A s t ∧ sv t j = y)
  | 0, s, j, y, _, _, hu, _, _, _, _, _, _, _ => absurd hu (Nat.not_lt_zero _)
  | n + 1, s, j, y, hj, hy, hu, hl, lo, c1, c0, nc, re, pre => by
    have ih := draw_fuel (i := i) n
    have e : impl_drawing_draw_fuel (n + 1) (j : Int) y (A.map asArc) s = impl_drawing_draw_n9 (impl_drawing_draw_fuel n) (j : Int) y (A.map asArc) s := rfl
    rw [e]
    generalize impl_drawing_draw_fuel n = R at ih ⊢
    unfold impl_drawing_draw_n9 impl_drawing_draw_n1
    rw [inb_nat (by omega)]
    simp only [Option.bind_some, sv_get (show j < s.length by omega)]
    by_cases q : sv s j = -1
    · rw [show (sv s j != -1) = false from by rw [q]; rfl]
      simp only [cond_false, Option.bind_some, Sum.elim_inl]
      unfold impl_drawing_draw_n8 impl_drawing_draw_n6 impl_drawing_draw_n2 impl_drawing_draw_n5 impl_drawing_draw_n4
      simp only [Option.bind_some, List.length_map]
      have C1 := c1 (by omega)
      have ss := sv_set (s := s) (j := j) (by omega) y
      have uu := unc_set (s := s) (j := j) (y := y) (by omega) (by omega) (by omega)
      have k1 : Keep A s (s.set j y) := fun v hv h0 => by
        rw [ss, if_neg]
        intro z
        rw [z, q] at h0
        omega
      obtain ⟨o, ho, Q⟩ := nloop_ex (body := fun (t : Int × (List Int)) => ((impl_drawing_draw_n3 R (j : Int) y (A.map asArc) ((A.length : Nat) : Int) t.1 t.2).map (Sum.elim (fun (t : Int × (List Int)) => Sum.inl (t.1, t.2)) (Sum.elim (fun (t : Bool × (List Int)) => Sum.inr (Sum.inl t)) (fun (t : (List Int)) => Sum.inr (Sum.inr t)))) : Option ((Int × (List Int)) ⊕ ((Bool × (List Int)) ⊕ ((List Int))))))
        (fun t => ∃ k : Nat, t.1 = (k : Int) ∧ k ≤ A.length ∧ Drawn A (s.set j y) t.2 ∧ ∀ m, m < k → xA A j m = true → 0 ≤ sv t.2 m ∧ sv t.2 m ≠ y)
        (fun t => (((A.length : Nat) : Int) - t.1).toNat)
        (fun o => match o with
          | .inl p => p.1 = false ∧ ¬ ∃ c, Proper A c
          | .inr t => Drawn A (s.set j y) t ∧ ∀ m, m < A.length → xA A j m = true → 0 ≤ sv t m ∧ sv t m ≠ y)
        (by
          rintro ⟨z, t⟩ ⟨k, ez, hk, D, dn⟩
          simp only at ez D dn ⊢
          subst ez
          simp only [impl_drawing_draw_n3]
          by_cases lt : k < A.length
          · have w : IntKind.wrap .i64 ((k : Int) + 1) = ((k + 1 : Nat) : Int) := by rw [wrap64 (by omega) (by omega)]; omega
            rw [decide_eq_true (show (k : Int) < ((A.length : Nat) : Int) by omega), arcs_idx lt, arcs_idx hj, w]
            simp only [cond_true, Option.bind_some, asArc]
            rw [crosses_eq (hX _ (List.getElem_mem hj)) (hX _ (List.getElem_mem lt)), ← xA_get hj lt]
            simp only [Option.bind_some]
            have tj : sv t j = y := by
              have := D.keep j hj (by rw [ss, if_pos rfl]; omega)
              rw [this, ss, if_pos rfl]
            cases x : xA A j k with
            | false =>
              left
              refine ⟨_, rfl, ⟨k + 1, rfl, by omega, D, fun m hm xm => ?_⟩, by simp only; omega⟩
              by_cases e : m = k
              · subst e
                rw [x] at xm
                cases xm
              · exact dn m (by omega) xm
            | true =>
              simp only [cond_true, opposite_eq hy, Option.bind_some]
              have uk := D.unc
              have Ct := D.col
              have prt : ∀ v, v ≤ i → 0 ≤ sv t v := fun v hv => by
                by_cases vl : v < A.length
                · have h0 := pre v hv
                  rw [D.keep v vl h0]
                  exact h0
                · have h0 := pre v hv
                  exfalso
                  unfold sv at h0
                  rw [List.getD_eq_getElem?_getD, List.getElem?_eq_none (by rw [List.length_set]; omega)] at h0
                  simp at h0
              obtain ⟨b, u, hr, r0, r1⟩ := ih t k (1 - y) lt (by omega) (by omega) Ct.len (by have := Ct.val k lt; omega)
                (fun neg => by
                  rw [← tj]
                  refine Ct.step hj lt x (by omega) neg ⟨i, ?_, fun S cS Si => cS j k hj lt x (re S cS Si)⟩
                  refine Nat.lt_of_not_le fun le => ?_
                  have := prt k le
                  omega)
                (fun _ => Ct)
                (fun h0 ne => by
                  refine Ct.none hj lt x (by omega) ?_
                  have := Ct.val k lt
                  omega)
                (fun S cS Si => cS j k hj lt x (re S cS Si))
                (fun v hv => by
                  rw [sv_set (by rw [Ct.len]; exact lt)]
                  split
                  · omega
                  · exact prt v hv)
              rw [hr]
              cases b with
              | false =>
                right
                exact ⟨_, rfl, rfl, r0 rfl⟩
              | true =>
                left
                obtain ⟨D2, uk2⟩ := r1 rfl
                refine ⟨_, rfl, ⟨k + 1, rfl, by omega, D.trans D2, fun m hm xm => ?_⟩, by simp only; omega⟩
                simp only
                by_cases e : m = k
                · subst e
                  omega
                · obtain ⟨m0, m1⟩ := dn m (by omega) xm
                  rw [D2.keep m (by omega) m0]
                  exact ⟨m0, m1⟩
          · right
            rw [decide_eq_false (show ¬ (k : Int) < ((A.length : Nat) : Int) by omega)]
            exact ⟨_, rfl, D, fun m hm xm => dn m (by omega) xm⟩) LL (0, s.set j y)
        ⟨0, rfl, by omega, ⟨C1, Keep.refl _ _, fun v hv a b => absurd b (by simp only; omega), Nat.le_refl _⟩, fun m hm => absurd hm (Nat.not_lt_zero _)⟩ (by simp only [LL]; omega)
      rw [ho]
      cases o with
      | inl p =>
        obtain ⟨p1, p2⟩ := p
        obtain ⟨Q1, Q2⟩ := Q
        simp only at Q1
        subst Q1
        exact ⟨false, p2, rfl, fun _ => Q2, fun h => by cases h⟩
      | inr t =>
        obtain ⟨D, dn⟩ := Q
        refine ⟨true, t, rfl, (fun h => by cases h), fun _ => ⟨⟨D.col, k1.trans D.keep, fun v hv s0 t0 => ?_, by have := D.unc; omega⟩, ?_⟩⟩
        · have tj : sv t j = y := by
            have := D.keep j hj (by rw [ss, if_pos rfl]; omega)
            rw [this, ss, if_pos rfl]
          by_cases e : v = j
          · subst e
            intro m hm xm
            rw [tj]
            exact dn m hm xm
          · exact D.sat v hv (by rw [ss, if_neg e]; exact s0) t0
        · have := D.keep j hj (by rw [ss, if_pos rfl]; omega)
          rw [this, ss, if_pos rfl]
    · rw [show (sv s j != -1) = true from bne_iff_ne.mpr q]
      simp only [cond_true, Option.bind_some, Sum.elim_inr]
      have pos : 0 ≤ sv s j := by omega
      refine ⟨(sv s j == y), s, rfl, fun h => ?_, fun h => ⟨⟨c0 pos, Keep.refl _ _, fun v hv a b => by omega, Nat.le_refl _⟩, beq_iff_eq.mp h⟩⟩
      exact nc pos (beq_eq_false_iff_ne.mp h)

theorem drawAll_eq : ∃ b t, impl_drawing_drawAll (A.map asArc) (List.replicate A.length (-1)) = some (b, t) ∧ (b = false → ¬ ∃ c, Proper A c) ∧ (b = true → Canon A (sv t) ∧ t.length = A.length) := by
  have e : impl_drawing_drawAll (A.map asArc) (List.replicate A.length (-1)) = impl_drawing_drawAll_n9 (A.map asArc) (List.replicate A.length (-1)) := by unfold impl_drawing_drawAll; rfl
  rw [e]
  unfold impl_drawing_drawAll_n9 impl_drawing_drawAll_n1 impl_drawing_drawAll_n8 impl_drawing_drawAll_n6 impl_drawing_drawAll_n2 impl_drawing_drawAll_n5 impl_drawing_drawAll_n4
  simp only [Option.bind_some, List.length_map]
  have z : ∀ v, sv (List.replicate A.length (-1)) v = -1 := fun v => by
    unfold sv
    rw [List.getD_eq_getElem?_getD, List.getElem?_replicate]
    split <;> rfl
  obtain ⟨o, ho, Q⟩ := nloop_ex (body := fun (s : Int × (List Int)) => ((impl_drawing_drawAll_n3 ((A.length : Nat) : Int) s.1 (A.map asArc) s.2).map (Sum.elim (fun (t : Int × (List Int)) => Sum.inl (t.1, t.2)) (Sum.elim (fun (t : Bool × (List Int)) => Sum.inr (Sum.inl t)) (fun (t : (List Int)) => Sum.inr (Sum.inr t)))) : Option ((Int × (List Int)) ⊕ ((Bool × (List Int)) ⊕ ((List Int))))))
    (fun t => ∃ k : Nat, t.1 = (k : Int) ∧ k ≤ A.length ∧ Col A t.2 ∧ (∀ v, v < A.length → 0 ≤ sv t.2 v → Sat A t.2 v) ∧ ∀ v, v < k → 0 ≤ sv t.2 v)
    (fun t => (((A.length : Nat) : Int) - t.1).toNat)
    (fun o => match o with
      | .inl p => p.1 = false ∧ ¬ ∃ c, Proper A c
      | .inr t => Col A t ∧ (∀ v, v < A.length → 0 ≤ sv t v → Sat A t v) ∧ ∀ v, v < A.length → 0 ≤ sv t v)
    (by
      rintro ⟨y, t⟩ ⟨k, ey, hk, C, sa, pr⟩
      simp only at ey C sa pr ⊢
      subst ey
      simp only [impl_drawing_drawAll_n3]
      by_cases lt : k < A.length
      · have w : IntKind.wrap .i64 ((k : Int) + 1) = ((k + 1 : Nat) : Int) := by rw [wrap64 (by omega) (by omega)]; omega
        have hl := C.len
        rw [decide_eq_true (show (k : Int) < ((A.length : Nat) : Int) by omega), inb_nat (by omega), w]
        simp only [cond_true, Option.bind_some, sv_get (show k < t.length by omega)]
        have vk := C.val k lt
        by_cases q : sv t k = -1
        · rw [show (sv t k == -1) = true from beq_iff_eq.mpr q]
          simp only [cond_true]
          have ef : impl_drawing_draw (k : Int) 0 (A.map asArc) t = impl_drawing_draw_fuel RR (k : Int) 0 (A.map asArc) t := by unfold impl_drawing_draw; rfl
          have C0 := C.root (fun a j ha hj x h0 => sa a ha h0 j hj x) lt (by omega) pr
          have un := unc_le t
          obtain ⟨b, u, hr, r0, r1⟩ := draw_fuel hA hX (i := k) RR t k 0 lt (.inl rfl) (by simp only [RR]; omega) hl (by omega) (fun _ => C0) (fun h0 => absurd h0 (by omega)) (fun h0 => absurd h0 (by omega)) (fun S _ Si => Si) (fun v hv => by
            rw [sv_set (by omega)]
            split
            · omega
            · exact pr v (by omega))
          rw [ef, hr]
          cases b with
          | false =>
            right
            exact ⟨_, rfl, rfl, r0 rfl⟩
          | true =>
            left
            obtain ⟨D, uk⟩ := r1 rfl
            refine ⟨_, rfl, ⟨k + 1, rfl, by omega, D.col, fun v hv u0 => ?_, fun v hv => ?_⟩, by simp only; omega⟩
            · simp only at u0 ⊢
              by_cases p : 0 ≤ sv t v
              · exact (sa v hv p).keep hv p D.keep
              · exact D.sat v hv (by omega) u0
            · simp only
              by_cases e : v = k
              · subst e
                omega
              · have p := pr v (by omega)
                rw [D.keep v (by omega) p]
                exact p
        · rw [show (sv t k == -1) = false from beq_eq_false_iff_ne.mpr q]
          left
          refine ⟨_, rfl, ⟨k + 1, rfl, by omega, C, sa, fun v hv => ?_⟩, by simp only; omega⟩
          simp only
          by_cases e : v = k
          · subst e
            omega
          · exact pr v (by omega)
      · right
        rw [decide_eq_false (show ¬ (k : Int) < ((A.length : Nat) : Int) by omega)]
        exact ⟨_, rfl, C, sa, fun v hv => pr v (by omega)⟩) LL (0, List.replicate A.length (-1))
    ⟨0, rfl, by omega, Col.start A, fun v _ h0 => absurd h0 (by simp only; rw [z]; omega), fun v hv => absurd hv (Nat.not_lt_zero _)⟩ (by simp only [LL]; omega)
  rw [ho]
  cases o with
  | inl p =>
    obtain ⟨p1, p2⟩ := p
    obtain ⟨Q1, Q2⟩ := Q
    simp only at Q1
    subst Q1
    exact ⟨false, p2, rfl, fun _ => Q2, fun h => by cases h⟩
  | inr t =>
    obtain ⟨C, sa, al⟩ := Q
    exact ⟨true, t, rfl, (fun h => by cases h), fun _ => ⟨(C.done (fun a j ha hj x h0 => sa a ha h0 j hj x) al).1, C.len⟩⟩

end
/-- A word is under another one: from head to head one comes to it. -/
inductive Und (h : List Int) : Nat → Nat → Prop
  | refl {a : Nat} (h1 : 1 ≤ a) (h2 : a ≤ h.length) : Und h a a
  | step {a b : Nat} (h1 : 1 ≤ a) (h2 : a ≤ h.length) (h3 : hd h a ≠ 0) (u : Und h (hd h a) b) : Und h a b

def Betw (a b j : Nat) : Prop := (a < j ∧ j < b) ∨ (b < j ∧ j < a)
/-- What holds of the machine: the next word, the stack from its top, the heads. -/
structure MInv (n i : Nat) (st : List Nat) (h : List Int) : Prop where
  len : h.length = n
  lo : 1 ≤ i
  hi : i ≤ n + 1
  ne : st = [] → i = 1
  dec : st.Pairwise (· > ·)
  rng : ∀ s ∈ st, 1 ≤ s ∧ s < i ∧ hd h s = 0
  num : ∀ x ∈ h, 0 ≤ x ∧ x ≤ (n : Int)
  rank : ∃ (m : Nat) (ρ : Nat → Nat), m + st.length + 1 = i ∧ ∀ w, 1 ≤ w → w < i → w ∉ st → ρ w < m ∧ 1 ≤ hd h w ∧ hd h w < i ∧ (hd h w ∈ st ∨ ρ w < ρ (hd h w))
  near : ∀ j, 1 ≤ j → j < i → ∃ s ∈ st, Und h j s ∧ ∀ t ∈ st, ¬ Betw j s t
  below : ∀ w j, 1 ≤ w → w < i → hd h w ≠ 0 → Betw w (hd h w) j → Und h j (hd h w)

theorem MInv.start (n : Nat) : MInv n 1 [] (List.replicate n 0) where
  len := by simp
  lo := by omega
  hi := by omega
  ne := fun _ => rfl
  dec := .nil
  rng := fun s hs => by cases hs
  num := fun x hx => by
    rw [(List.mem_replicate.mp hx).2]
    omega
  rank := ⟨0, fun _ => 0, rfl, fun w h1 h2 => by omega⟩
  near := fun j h1 h2 => by omega
  below := fun w j h1 h2 => by omega

theorem MInv.shift {n i : Nat} {st : List Nat} {h : List Int} (M : MInv n i st h) (hi : i ≤ n) (z : hd h i = 0) : MInv n (i + 1) (i :: st) h where
  len := M.len
  lo := by omega
  hi := by omega
  ne := fun e => by cases e
  dec := .cons (fun s hs => (M.rng s hs).2.1) M.dec
  rng := fun s hs => by
    rcases List.mem_cons.mp hs with e | e
    · subst e
      exact ⟨M.lo, by omega, z⟩
    · have := M.rng s e
      exact ⟨this.1, by omega, this.2.2⟩
  num := M.num
  rank := by
    obtain ⟨m, ρ, e, r⟩ := M.rank
    refine ⟨m, ρ, by simp only [List.length_cons]; omega, ?_⟩
    intro w h1 h2 h3
    have h4 : w ≠ i := fun e => h3 (by rw [e]; exact List.mem_cons_self ..)
    have := r w h1 (by omega) (fun x => h3 (List.mem_cons_of_mem _ x))
    exact ⟨this.1, this.2.1, by omega, this.2.2.2.imp (List.mem_cons_of_mem _) id⟩
  near := fun j h1 h2 => by
    by_cases e : j = i
    · subst e
      refine ⟨j, List.mem_cons_self .., .refl h1 (by rw [M.len]; exact hi), ?_⟩
      intro t _ b
      unfold Betw at b
      omega
    · obtain ⟨s, hs, u, q⟩ := M.near j h1 (by omega)
      refine ⟨s, List.mem_cons_of_mem _ hs, u, ?_⟩
      intro t ht b
      rcases List.mem_cons.mp ht with e' | e'
      · subst e'
        have := (M.rng s hs).2.1
        unfold Betw at b
        omega
      · exact q t e' b
  below := fun w j h1 h2 h3 b => by
    have : w ≠ i := fun e => h3 (by rw [e]; exact z)
    exact M.below w j h1 (by omega) h3 b

theorem MInv.get {n i : Nat} {st : List Nat} {h : List Int} (M : MInv n i st h) {w : Nat} (w1 : 1 ≤ w) (w2 : w ≤ n) : h[w - 1]? = some ((hd h w : Nat) : Int) := by
  have hl := M.len
  have lt : w - 1 < h.length := by omega
  have := M.num _ (List.getElem_mem lt)
  rw [List.getElem?_eq_getElem lt]
  unfold hd
  rw [List.getD_eq_getElem?_getD, List.getElem?_eq_getElem lt, Option.getD_some]
  congr 1
  omega

/-- Words that were not taken away. -/
def InU (i : Nat) (st : List Nat) (w : Nat) : Prop := w ∈ st ∨ i ≤ w
/-- No word that was not taken away depends on it. -/
def LeafU (H : List Int) (i : Nat) (st : List Nat) (w : Nat) : Prop := ∀ c, 1 ≤ c → c ≤ H.length → InU i st c → hd H c ≠ w
def Stuck (H : List Int) (i : Nat) (st : List Nat) (y x : Nat) : Prop := ¬ (hd H x = y ∧ LeafU H i st x) ∧ ¬ (hd H y = x ∧ LeafU H i st y)

structure OInv (H : List Int) (i : Nat) (st : List Nat) (h : List Int) : Prop where
  base : MInv H.length i st h
  agree : ∀ w, 1 ≤ w → w < i → w ∉ st → hd h w = hd H w
  clos : ∀ w, 1 ≤ w → w ≤ H.length → InU i st w → hd H w ≠ 0 → InU i st (hd H w)
  block : ∀ p y x q, st = p ++ y :: x :: q → p ≠ [] → Stuck H i st y x

theorem OInv.start (H : List Int) (T : Tree H) : OInv H 1 [] (List.replicate H.length 0) where
  base := MInv.start _
  agree := fun w h1 h2 => by omega
  clos := fun w h1 h2 h3 h4 => .inr (Nat.pos_of_ne_zero h4)
  block := fun p y x q e => by
    have := congrArg List.length e
    simp at this

theorem inU_shift {i : Nat} {st : List Nat} {w : Nat} : InU (i + 1) (i :: st) w ↔ InU i st w := by
  unfold InU
  rw [List.mem_cons]
  constructor
  · rintro ((e | e) | e)
    · exact .inr (by omega)
    · exact .inl e
    · exact .inr (by omega)
  · rintro (e | e)
    · exact .inl (.inr e)
    · by_cases q : w = i
      · exact .inl (.inl q)
      · exact .inr (by omega)

theorem leafU_shift {H : List Int} {i : Nat} {st : List Nat} {w : Nat} : LeafU H (i + 1) (i :: st) w ↔ LeafU H i st w := by
  unfold LeafU
  simp only [inU_shift]

theorem OInv.shift {H : List Int} {i : Nat} {st : List Nat} {h : List Int} (O : OInv H i st h) (hi : i ≤ H.length) (z : hd h i = 0)
    (b : ∀ y x q, st = y :: x :: q → Stuck H i st y x) : OInv H (i + 1) (i :: st) h where
  base := O.base.shift hi z
  agree := fun w h1 h2 h3 => by
    have : w ≠ i := fun e => h3 (by rw [e]; exact List.mem_cons_self ..)
    exact O.agree w h1 (by omega) (fun x => h3 (List.mem_cons_of_mem _ x))
  clos := fun w h1 h2 h3 h4 => inU_shift.mpr (O.clos w h1 h2 (inU_shift.mp h3) h4)
  block := fun p y x q e hp => by
    have s : Stuck H i st y x := by
      cases p with
      | nil => exact absurd rfl hp
      | cons a p =>
        rw [List.cons_append, List.cons.injEq] at e
        cases p with
        | nil => exact b y x q e.2
        | cons a' p' => exact O.block _ y x q e.2 (by simp)
    unfold Stuck at s ⊢
    rw [leafU_shift, leafU_shift]
    exact s

abbrev Conf := Nat × List Nat × List Int

/-- What holds of a state of the machine. -/
structure RInv (n : Nat) (c : Conf) : Prop where
  base : MInv n c.1 c.2.1 c.2.2
  unread : ∀ w, c.1 ≤ w → w ≤ n → hd c.2.2 w = 0

theorem RInv.start (n : Nat) : RInv n (1, [], List.replicate n 0) where
  base := MInv.start n
  unread := fun w h1 h2 => by
    unfold hd
    simp [List.getD, List.getElem?_replicate]
    split <;> simp

theorem RInv.push {n i : Nat} {st : List Nat} {h : List Int} (R : RInv n (i, st, h)) (hi : i ≤ n) : RInv n (i + 1, i :: st, h) where
  base := R.base.shift hi (R.unread i (Nat.le_refl _) hi)
  unread := fun w h1 h2 => R.unread w (by simp only at h1 ⊢; omega) h2

open Classical in
/-- The move by the rule. -/
structure ORInv (H : List Int) (c : Conf) : Prop where
  o : OInv H c.1 c.2.1 c.2.2
  unread : ∀ w, c.1 ≤ w → w ≤ H.length → hd c.2.2 w = 0

theorem ORInv.done {H : List Int} (T : Tree H) {r : Nat} {h : List Int} (O : ORInv H (H.length + 1, [r], h)) : h = H := by
  have M := O.o.base
  have hl := M.len
  have rr := M.rng r (List.mem_cons_self ..)
  simp only at rr hl
  have r0 : hd H r = 0 := by
    refine Classical.byContradiction fun z => ?_
    have := O.o.clos r rr.1 (by omega) (.inl (List.mem_cons_self ..)) z
    have hle := T.hd_le rr.1 (by omega)
    rcases this with q | q
    · rw [List.mem_singleton] at q
      exact T.hd_other rr.1 (by omega) q
    · simp only at q
      omega
  apply List.ext_getElem hl
  intro k h1 h2
  have g1 := M.get (w := k + 1) (by omega) (by omega)
  have g2 := T.get (w := k + 1) (by omega) (by omega)
  rw [show k + 1 - 1 = k by omega, List.getElem?_eq_getElem h1] at g1
  rw [show k + 1 - 1 = k by omega, List.getElem?_eq_getElem h2] at g2
  injection g1 with g1
  injection g2 with g2
  rw [g1, g2]
  by_cases e : k + 1 = r
  · rw [e, r0, rr.2.2]
  · rw [O.o.agree (k + 1) (by omega) (by simp only; omega) (by simpa using e)]

theorem room_ok {n : Nat} (h : n ≤ 1099511627776) : room n = some () := by unfold room; rw [if_pos h]

/-- What waits, while all that is linked to arc i gets its sides. -/
structure Wl (A : List (Int × Int)) (i : Nat) (s q : List Int) : Prop where
  col : Col A s
  pre : ∀ v, v ≤ i → 0 ≤ sv s v
  que : ∀ x ∈ q, ∃ v : Nat, x = (v : Int) ∧ v < A.length ∧ 0 ≤ sv s v ∧ ∀ S, Closed A S → S i → S v

/-- What has its side and waits no more, is well. -/
def Well (A : List (Int × Int)) (s q : List Int) : Prop := ∀ b k : Nat, b < A.length → k < A.length → xA A b k = true → 0 ≤ sv s b → (b : Int) ∉ q → 0 ≤ sv s k ∧ sv s k ≠ sv s b

structure Wi (A : List (Int × Int)) (i a M : Nat) (j : Nat) (s q : List Int) : Prop where
  wl : Wl A i s q
  hi : i < A.length
  ha : a < A.length
  sa : 0 ≤ sv s a
  ca : ∀ S, Closed A S → S i → S a
  rest : ∀ b k : Nat, b < A.length → k < A.length → xA A b k = true → 0 ≤ sv s b → (b : Int) ∉ q → b ≠ a → 0 ≤ sv s k ∧ sv s k ≠ sv s b
  done : ∀ k, k < j → k < A.length → xA A a k = true → 0 ≤ sv s k ∧ sv s k ≠ sv s a
  mes : 2 * unc s + q.length ≤ M

theorem Wi.skip {A : List (Int × Int)} {i a M j : Nat} {s q : List Int} (W : Wi A i a M j s q) (ok : xA A a j = true → 0 ≤ sv s j ∧ sv s j ≠ sv s a) : Wi A i a M (j + 1) s q :=
  ⟨W.wl, W.hi, W.ha, W.sa, W.ca, W.rest, fun k hk hl x => by
    by_cases e : k = j
    · subst e; exact ok x
    · exact W.done k (by omega) hl x, W.mes⟩

theorem Wi.push {A : List (Int × Int)} {i a M j : Nat} {s q : List Int} (W : Wi A i a M j s q) (hj : j < A.length) (x : xA A a j = true) (sj : sv s j < 0) :
    Wi A i a M (j + 1) (s.set j (1 - sv s a)) (q ++ [(j : Int)]) := by
  have C := W.wl.col
  have hl := C.len
  have ss := sv_set (s := s) (j := j) (by omega) (1 - sv s a)
  have va := C.val a W.ha
  have sa := W.sa
  have keep : ∀ v, 0 ≤ sv s v → sv (s.set j (1 - sv s a)) v = sv s v := fun v h => by
    rw [ss, if_neg]
    intro e
    subst e
    omega
  have ij : i < j := by
    refine Nat.lt_of_not_le fun le => ?_
    have := W.wl.pre j le
    omega
  have cj : ∀ S, Closed A S → S i → S j := fun S c h => c a j W.ha hj x (W.ca S c h)
  have old : ∀ b, 0 ≤ sv (s.set j (1 - sv s a)) b → b ≠ j → 0 ≤ sv s b := fun b h e => by
    rw [ss, if_neg e] at h
    exact h
  refine ⟨⟨C.step W.ha hj x sa sj ⟨i, ij, cj⟩, fun v hv => ?_, fun y hy => ?_⟩, W.hi, W.ha, ?_, W.ca, fun b k hb hk xx h nq na => ?_, fun k hk hkl xx => ?_, ?_⟩
  · rw [keep v (W.wl.pre v hv)]
    exact W.wl.pre v hv
  · rcases List.mem_append.mp hy with hy | hy
    · obtain ⟨v, e, v1, v2, v3⟩ := W.wl.que y hy
      exact ⟨v, e, v1, by rw [keep v v2]; exact v2, v3⟩
    · rw [List.mem_singleton] at hy
      refine ⟨j, hy, hj, ?_, cj⟩
      rw [ss, if_pos rfl]
      omega
  · rw [keep a sa]
    exact sa
  · have nj : b ≠ j := fun e => nq (by rw [e]; exact List.mem_append_right _ (List.mem_singleton.mpr rfl))
    have h0 := old b h nj
    obtain ⟨r1, r2⟩ := W.rest b k hb hk xx h0 (fun z => nq (List.mem_append_left _ z)) na
    rw [keep k r1, keep b h0]
    exact ⟨r1, r2⟩
  · by_cases e : k = j
    · subst e
      rw [keep a sa, ss, if_pos rfl]
      omega
    · obtain ⟨r1, r2⟩ := W.done k (by omega) hkl xx
      rw [keep k r1, keep a sa]
      exact ⟨r1, r2⟩
  · have u := unc_set (s := s) (j := j) (by omega) sj (y := 1 - sv s a) (by omega)
    have m := W.mes
    rw [List.length_append, List.length_singleton]
    omega

theorem Wi.well {A : List (Int × Int)} {i a M : Nat} {s q : List Int} (W : Wi A i a M A.length s q) : Well A s q := fun b k hb hk x h nq => by
  by_cases e : b = a
  · subst e
    exact W.done k hk hk x
  · exact W.rest b k hb hk x h nq e

theorem row_at (A : List (Int × Int)) {v : Nat} (hv : v < A.length) : idx (A.map asRow) (v : Int) = some (asRow (A.getD v (0, 0))) := by
  rw [idx_nat, List.getElem?_map, List.getD_eq_getElem?_getD, List.getElem?_eq_getElem hv]
  rfl
theorem row_0 (p : Int × Int) : idx (asRow p) 0 = some p.1 := rfl
theorem row_1 (p : Int × Int) : idx (asRow p) 1 = some p.2 := rfl

section
variable {A : List (Int × Int)} (h8 : A.length ≤ 8) (hA : ∀ p ∈ A, 1 ≤ p.1 ∧ p.1 < p.2)
include h8 hA

omit h8 in
theorem cross_at {a j : Nat} (ha : a < A.length) (hj : j < A.length) : spec_CrossOk (A.getD a (0, 0)).1 (A.getD a (0, 0)).2 (A.getD j (0, 0)).1 (A.getD j (0, 0)).2 = some (xA A a j) := by
  have m : ∀ {v}, v < A.length → A.getD v (0, 0) ∈ A := fun {v} hv => by
    rw [List.getD_eq_getElem?_getD, List.getElem?_eq_getElem hv, Option.getD_some]
    exact List.getElem_mem hv
  rw [specCross_eq, crossI_arc (hA _ (m ha)) (hA _ (m hj))]
  rfl

theorem sides_inner {i a M : Nat} {s base : List Int} {off len : Nat} (ol : off + len ≤ base.length) (hM : M ≤ 100) (W : Wi A i a M 0 s ((base.drop off).take len)) :
    ∃ r, spec_l11Sides_n13 (A.map asRow) off len (a : Int) s base = some r ∧ ((r = Sum.inl (false, []) ∧ ¬ ∃ c, Proper A c) ∨
      ∃ (off' len' : Nat) (s' base' : List Int), r = Sum.inr (off', len', s', base') ∧ off' + len' ≤ base'.length ∧ i < A.length ∧ Wl A i s' ((base'.drop off').take len') ∧ Well A s' ((base'.drop off').take len') ∧ 2 * unc s' + len' ≤ M) := by
  unfold spec_l11Sides_n13
  refine nloop_ex
    (I := fun (t : Nat × Nat × Int × (List Int) × (List Int)) => ∃ j : Nat, t.2.2.1 = (j : Int) ∧ j ≤ A.length ∧ t.1 + t.2.1 ≤ t.2.2.2.2.length ∧ Wi A i a M j t.2.2.2.1 ((t.2.2.2.2.drop t.1).take t.2.1))
    (μ := fun t => A.length - t.2.2.1.toNat)
    (Q := fun r => (r = Sum.inl (false, []) ∧ ¬ ∃ c, Proper A c) ∨
      ∃ (off' len' : Nat) (s' base' : List Int), r = Sum.inr (off', len', s', base') ∧ off' + len' ≤ base'.length ∧ i < A.length ∧ Wl A i s' ((base'.drop off').take len') ∧ Well A s' ((base'.drop off').take len') ∧ 2 * unc s' + len' ≤ M)
    ?_ LL (off, len, 0, s, base) ⟨0, rfl, by omega, ol, W⟩ (by simp only [LL]; omega)
  rintro ⟨off, len, jj, s, base⟩ ⟨j, e, jm, ol, W⟩
  simp only at e ol W
  subst e
  have ql : ((base.drop off).take len).length = len := by rw [List.length_take, List.length_drop]; omega
  have C := W.wl.col
  have hl := C.len
  have mes := W.mes
  rw [ql] at mes
  simp only [spec_l11Sides_n12, List.length_map]
  by_cases lt : j < A.length
  · have w : IntKind.wrap .i64 ((j : Int) + 1) = ((j + 1 : Nat) : Int) := by rw [wrap64 (by omega) (by omega)]; omega
    rw [decide_eq_true (show (j : Int) < ((A.length : Nat) : Int) by omega), row_at A W.ha, row_at A lt, w]
    simp only [cond_true, Option.bind_some, row_0, row_1, cross_at hA W.ha lt]
    cases x : xA A a j with
    | false =>
      left
      exact ⟨(off, len, ((j + 1 : Nat) : Int), s, base), rfl, ⟨j + 1, rfl, lt, ol, W.skip fun z => by rw [x] at z; cases z⟩, by simp only [Int.toNat_natCast]; omega⟩
    | true =>
      rw [inb_nat (show j < s.length by omega), inb_nat (show a < s.length by have := W.ha; omega)]
      simp only [Bool.not_true, cond_false, Option.bind_some, sv_get (show j < s.length by omega), sv_get (show a < s.length by have := W.ha; omega)]
      by_cases q : sv s j = sv s a
      · right
        rw [show (sv s j == sv s a) = true from beq_iff_eq.mpr q]
        exact ⟨_, rfl, .inl ⟨rfl, C.none W.ha lt x W.sa q⟩⟩
      · left
        rw [show (sv s j == sv s a) = false from beq_eq_false_iff_ne.mpr q]
        simp only [cond_false]
        by_cases sj : sv s j < 0
        · have va := C.val a W.ha
          have sa := W.sa
          have w1 : IntKind.wrap .i64 (1 - sv s a) = 1 - sv s a := wrap64 (by omega) (by omega)
          rw [decide_eq_true sj, w1, room_ok (by simp; omega)]
          simp only [cond_true, Option.bind_some]
          refine ⟨(0, (((base.drop off).take len) ++ [(j : Int)]).length, ((j + 1 : Nat) : Int), s.set j (1 - sv s a), ((base.drop off).take len) ++ [(j : Int)]), rfl, ⟨j + 1, rfl, lt, by simp only [Nat.zero_add]; exact Nat.le_refl _, ?_⟩, by simp only [Int.toNat_natCast]; omega⟩
          simp only
          rw [List.drop_zero, List.take_of_length_le (Nat.le_refl _)]
          exact W.push lt x sj
        · rw [decide_eq_false sj]
          exact ⟨(off, len, ((j + 1 : Nat) : Int), s, base), rfl, ⟨j + 1, rfl, lt, ol, W.skip fun _ => ⟨by omega, q⟩⟩, by simp only [Int.toNat_natCast]; omega⟩
  · right
    have : j = A.length := by omega
    subst this
    rw [decide_eq_false (show ¬ ((A.length : Nat) : Int) < ((A.length : Nat) : Int) by omega)]
    exact ⟨_, rfl, .inr ⟨off, len, s, base, rfl, ol, W.hi, W.wl, W.well, mes⟩⟩

theorem sides_while {i : Nat} (hi : i < A.length) {s base : List Int} {off len : Nat} (ol : off + len ≤ base.length) (W : Wl A i s ((base.drop off).take len)) (we : Well A s ((base.drop off).take len)) (mes : 2 * unc s + len ≤ 100) :
    ∃ r, nloop (fun (s : Nat × Nat × (List Int) × (List Int)) => ((spec_l11Sides_n17 (A.map asRow) s.1 s.2.1 s.2.2.1 s.2.2.2).map (Sum.elim (fun (t : Nat × Nat × (List Int) × (List Int)) => Sum.inl (t.1, t.2.1, t.2.2.1, t.2.2.2)) (Sum.elim (fun (t : Bool × (List Int)) => Sum.inr (Sum.inl t)) (fun (t : (List Int)) => Sum.inr (Sum.inr t)))) : Option ((Nat × Nat × (List Int) × (List Int)) ⊕ ((Bool × (List Int)) ⊕ ((List Int)))))) LL (off, len, s, base) = some r ∧
      ((r = Sum.inl (false, []) ∧ ¬ ∃ c, Proper A c) ∨ ∃ s' : List Int, r = Sum.inr s' ∧ Col A s' ∧ (∀ v, v ≤ i → 0 ≤ sv s' v) ∧ Well A s' []) := by
  refine nloop_ex
    (I := fun (t : Nat × Nat × (List Int) × (List Int)) => t.1 + t.2.1 ≤ t.2.2.2.length ∧ Wl A i t.2.2.1 ((t.2.2.2.drop t.1).take t.2.1) ∧ Well A t.2.2.1 ((t.2.2.2.drop t.1).take t.2.1) ∧ 2 * unc t.2.2.1 + t.2.1 ≤ 100)
    (μ := fun t => 2 * unc t.2.2.1 + t.2.1)
    (Q := fun r => (r = Sum.inl (false, []) ∧ ¬ ∃ c, Proper A c) ∨ ∃ s' : List Int, r = Sum.inr s' ∧ Col A s' ∧ (∀ v, v ≤ i → 0 ≤ sv s' v) ∧ Well A s' [])
    ?_ LL (off, len, s, base) ⟨ol, W, we, mes⟩ (by simp only [LL]; omega)
  rintro ⟨off, len, s, base⟩ ⟨ol, W, we, mes⟩
  simp only at ol W we mes
  simp only [spec_l11Sides_n17, spec_l11Sides_n10]
  by_cases z : len = 0
  · right
    subst z
    refine ⟨Sum.inr s, rfl, .inr ⟨s, rfl, W.col, W.pre, ?_⟩⟩
    rw [List.take_zero] at we
    exact we
  · obtain ⟨n, rfl⟩ : ∃ n, len = n + 1 := ⟨len - 1, by omega⟩
    have hd : (base.drop off).take (n + 1) = base[off]'(by omega) :: (base.drop (off + 1)).take n := by
      rw [List.drop_eq_getElem_cons (by omega), List.take_succ_cons]
    rw [hd] at W we
    obtain ⟨a, ea, ha, sa, ca⟩ := W.que _ (List.mem_cons_self ..)
    rw [ea] at we
    have g : base[off + 0]? = some (a : Int) := by rw [Nat.add_zero, List.getElem?_eq_getElem (by omega), ea]
    have i0 : inb 0 (n + 1) = some 0 := inb_nat (k := 0) (by omega)
    have i1 : inc 1 (n + 1) = some 1 := by
      unfold inc
      rw [if_pos (by omega)]
      rfl
    rw [decide_eq_true (show ((n + 1 : Nat) : Int) > 0 by omega)]
    have inner := sides_inner h8 hA (i := i) (a := a) (M := 2 * unc s + n) (s := s) (base := base) (off := off + 1) (len := n) (by omega) (by omega)
      ⟨⟨W.col, W.pre, fun x hx => W.que x (List.mem_cons_of_mem _ hx)⟩, hi, ha, sa, ca, fun b k hb hk x h nq na => we b k hb hk x h (fun z => by
          rcases List.mem_cons.mp z with z | z
          · omega
          · exact nq z), fun k hk => by omega, by rw [List.length_take, List.length_drop]; omega⟩
    obtain ⟨r, hr, R⟩ := inner
    simp only [cond_true, Option.bind_some, Sum.elim_inl, spec_l11Sides_n16, spec_l11Sides_n15, spec_l11Sides_n11, i0, i1, g, spec_l11Sides_n14, Nat.add_sub_cancel, hr, Option.map_some]
    rcases R with ⟨rfl, no⟩ | ⟨off', len', s', base', rfl, ol', hi', W', we', mes'⟩
    · right
      exact ⟨_, rfl, .inl ⟨rfl, no⟩⟩
    · left
      exact ⟨(off', len', s', base'), rfl, ⟨ol', W', we', by show 2 * unc s' + len' ≤ 100; omega⟩, by show 2 * unc s' + len' < 2 * unc s + (n + 1); omega⟩

theorem specSides_ex : ∃ r, spec_l11Sides (A.map asRow) = some r ∧ ((r = (false, []) ∧ ¬ ∃ c, Proper A c) ∨ ∃ s : List Int, r = (true, s) ∧ s.length = A.length ∧ Canon A (sv s) ∧ ∀ c, Canon A c → ∀ v, v < A.length → c v = sv s v) := by
  have e : spec_l11Sides (A.map asRow) = spec_l11Sides_n31 (A.map asRow) := by unfold spec_l11Sides; rfl
  rw [e]
  unfold spec_l11Sides_n31 spec_l11Sides_n1 spec_l11Sides_n30 spec_l11Sides_n6 spec_l11Sides_n2 spec_l11Sides_n5 spec_l11Sides_n4
  have lp := nloop_to (body := fun (s : Int × (List Int)) => ((spec_l11Sides_n3 (A.map asRow) s.1 s.2).map (Sum.elim (fun (t : Int × (List Int)) => Sum.inl (t.1, t.2)) (fun (t : (List Int)) => Sum.inr t)) : Option ((Int × (List Int)) ⊕ (((List Int))))))
    (fun k => ((k : Int), List.replicate k (-1))) A.length (List.replicate A.length (-1))
    (by
      intro k hk
      have w : IntKind.wrap .i64 ((k : Int) + 1) = ((k + 1 : Nat) : Int) := by rw [wrap64 (by omega) (by omega)]; omega
      simp only [spec_l11Sides_n3, List.length_map]
      rw [decide_eq_true (show (k : Int) < ((A.length : Nat) : Int) by omega), room_ok (by simp; omega), w, List.replicate_succ']
      rfl)
    (by
      simp only [spec_l11Sides_n3, List.length_map]
      rw [decide_eq_false (show ¬ ((A.length : Nat) : Int) < ((A.length : Nat) : Int) by omega)]
      rfl) LL (by simp only [LL]; omega)
  have lp' := lp
  rw [show List.replicate 0 (-1 : Int) = [] from rfl, show ((0 : Nat) : Int) = 0 from rfl] at lp'
  simp only [Option.bind_some]
  rw [lp']
  simp only [Option.map_some, Option.bind_some, spec_l11Sides_n29, spec_l11Sides_n27, spec_l11Sides_n7, spec_l11Sides_n26, spec_l11Sides_n25]
  have out := nloop_ex (body := fun (s : Int × (List Int)) => ((spec_l11Sides_n24 (A.map asRow) s.1 s.2).map (Sum.elim (fun (t : Int × (List Int)) => Sum.inl (t.1, t.2)) (Sum.elim (fun (t : Bool × (List Int)) => Sum.inr (Sum.inl t)) (fun (t : (List Int)) => Sum.inr (Sum.inr t)))) : Option ((Int × (List Int)) ⊕ ((Bool × (List Int)) ⊕ ((List Int))))))
    (I := fun t => ∃ i : Nat, t.1 = (i : Int) ∧ i ≤ A.length ∧ Col A t.2 ∧ (∀ v, v < i → 0 ≤ sv t.2 v) ∧ Well A t.2 [])
    (μ := fun t => A.length - t.1.toNat)
    (Q := fun r => (r = Sum.inl (false, []) ∧ ¬ ∃ c, Proper A c) ∨ ∃ s : List Int, r = Sum.inr s ∧ Col A s ∧ (∀ v, v < A.length → 0 ≤ sv s v) ∧ Well A s [])
    (by
      rintro ⟨ii, s⟩ ⟨i, ei, im, C, pre, we⟩
      simp only at ei C pre we
      subst ei
      have hl := C.len
      have cl : ∀ a j, a < A.length → j < A.length → xA A a j = true → 0 ≤ sv s a → 0 ≤ sv s j ∧ sv s j ≠ sv s a := fun a j ha hj x h => we a j ha hj x h (by simp)
      simp only [spec_l11Sides_n24, spec_l11Sides_n8, List.length_map]
      by_cases lt : i < A.length
      · have w : IntKind.wrap .i64 ((i : Int) + 1) = ((i + 1 : Nat) : Int) := by rw [wrap64 (by omega) (by omega)]; omega
        rw [decide_eq_true (show (i : Int) < ((A.length : Nat) : Int) by omega)]
        simp only [cond_true, Option.bind_some, Sum.elim_inl, spec_l11Sides_n23, spec_l11Sides_n21, spec_l11Sides_n20, spec_l11Sides_n9, spec_l11Sides_n22, w]
        rw [inb_nat (show i < s.length by omega)]
        simp only [Option.bind_some, sv_get (show i < s.length by omega)]
        by_cases si : 0 ≤ sv s i
        · left
          rw [decide_eq_true (show sv s i ≥ 0 from si)]
          exact ⟨(((i + 1 : Nat) : Int), s), rfl, ⟨i + 1, rfl, lt, C, fun v hv => by
            by_cases e : v = i
            · subst e; exact si
            · exact pre v (by omega), we⟩, by simp only [Int.toNat_natCast]; omega⟩
        · rw [decide_eq_false (show ¬ sv s i ≥ 0 from si)]
          have ss := sv_set (s := s) (j := i) (by omega) 0
          have ul := unc_le (s.set i 0)
          rw [List.length_set] at ul
          have wh := sides_while h8 hA lt (s := s.set i 0) (base := [(i : Int)]) (off := 0) (len := 1) (by simp)
            ⟨C.root cl lt (by omega) pre, fun v hv => by
              rw [ss]
              split
              · omega
              · exact pre v (by omega), fun x hx => by
              simp only [List.drop_zero, List.take_succ_cons, List.take_zero, List.mem_singleton] at hx
              refine ⟨i, hx, lt, ?_, fun S _ h => h⟩
              rw [ss, if_pos rfl]
              omega⟩
            (fun b k hb hk x h nq => by
              simp only [List.drop_zero, List.take_succ_cons, List.take_zero, List.mem_singleton] at nq
              have nb : b ≠ i := fun e => nq (by rw [e])
              rw [ss, if_neg nb] at h
              obtain ⟨r1, r2⟩ := cl b k hb hk x h
              have nk : k ≠ i := fun e => by subst e; omega
              rw [ss, ss, if_neg nb, if_neg nk]
              exact ⟨r1, r2⟩) (by omega)
          obtain ⟨r, hr, R⟩ := wh
          simp only [cond_false, Option.bind_some, Sum.elim_inl, List.length_singleton, spec_l11Sides_n19, spec_l11Sides_n18, hr, Option.map_some]
          rcases R with ⟨rfl, no⟩ | ⟨s', rfl, C', pre', we'⟩
          · right
            exact ⟨_, rfl, .inl ⟨rfl, no⟩⟩
          · left
            exact ⟨(((i + 1 : Nat) : Int), s'), rfl, ⟨i + 1, rfl, lt, C', fun v hv => pre' v (by omega), we'⟩, by simp only [Int.toNat_natCast]; omega⟩
      · right
        have : i = A.length := by omega
        subst this
        rw [decide_eq_false (show ¬ ((A.length : Nat) : Int) < ((A.length : Nat) : Int) by omega)]
        exact ⟨_, rfl, .inr ⟨s, rfl, C, pre, we⟩⟩) LL (0, List.replicate A.length (-1)) ⟨0, rfl, by omega, Col.start A, fun v hv => by omega, fun b k hb hk x h => by
          have z : sv (List.replicate A.length (-1)) b = -1 := by
            unfold sv
            rw [List.getD_eq_getElem?_getD, List.getElem?_replicate]
            split <;> rfl
          rw [z] at h
          omega⟩ (by simp only [LL]; omega)
  obtain ⟨r, hr, R⟩ := out
  rw [hr]
  rcases R with ⟨rfl, no⟩ | ⟨s, rfl, C, all, we⟩
  · exact ⟨_, rfl, .inl ⟨rfl, no⟩⟩
  · have d := C.done (fun a j ha hj x h => we a j ha hj x h (by simp)) all
    exact ⟨_, rfl, .inr ⟨s, rfl, C.len, d.1, d.2⟩⟩

end

/-- The sum of what belongs to each number below n. -/
def sumR (f : Nat → Nat) : Nat → Nat
  | 0 => 0
  | n + 1 => sumR f n + f n

theorem sumR_congr {f g : Nat → Nat} : ∀ {n : Nat}, (∀ i, i < n → f i = g i) → sumR f n = sumR g n
  | 0, _ => rfl
  | n + 1, h => by rw [sumR, sumR, sumR_congr fun i hi => h i (by omega), h n (by omega)]

theorem sumR_add (f g : Nat → Nat) : ∀ n, sumR (fun i => f i + g i) n = sumR f n + sumR g n
  | 0 => rfl
  | n + 1 => by
    rw [sumR, sumR, sumR, sumR_add f g n]
    omega

theorem sumR_const (c : Nat) : ∀ n, sumR (fun _ => c) n = n * c
  | 0 => by simp [sumR]
  | n + 1 => by rw [sumR, sumR_const c n, Nat.succ_mul]

/-- One for what holds, none for what does not. -/
def ind (b : Bool) : Nat := if b then 1 else 0
theorem sumR_ind (p : Nat → Bool) : ∀ n, sumR (fun i => ind (p i)) n = (List.range n).countP p
  | 0 => rfl
  | n + 1 => by
    rw [sumR, sumR_ind p n, List.range_succ, List.countP_append]
    cases h : p n <;> simp [ind, h]

theorem sumR_zero {f : Nat → Nat} : ∀ {n : Nat}, sumR f n = 0 ↔ ∀ i, i < n → f i = 0
  | 0 => by simp [sumR]
  | n + 1 => by
    rw [sumR]
    constructor
    · intro h i hi
      by_cases e : i = n
      · subst e; omega
      · exact (sumR_zero (n := n)).mp (by omega) i (by omega)
    · intro h
      have := (sumR_zero (n := n)).mpr fun i hi => h i (by omega)
      have := h n (by omega)
      omega

/-- All but one are nothing. -/
theorem sumR_single {f : Nat → Nat} : ∀ {n k : Nat}, k < n → (∀ i, i < n → i ≠ k → f i = 0) → sumR f n = f k
  | n + 1, k, hk, h => by
    rw [sumR]
    by_cases e : k = n
    · subst e
      rw [sumR_zero.mpr fun i hi => h i (by omega) (by omega)]
      omega
    · rw [sumR_single (n := n) (k := k) (by omega) fun i hi ne => h i (by omega) ne, h n (by omega) (by omega)]
      omega

section
variable {h : List Int} (T : Tree h)
include T

theorem heads_total : sumR (fun i => if hd h (i + 1) = 0 then 0 else 1) h.length = h.length - 1 := by
  have e : sumR (fun i => if hd h (i + 1) = 0 then 0 else 1) h.length + sumR (fun j => ind (hd h (j + 1) == 0)) h.length = h.length := by
    rw [← sumR_add, sumR_congr (g := fun _ => 1), sumR_const]
    · omega
    · intro i _
      by_cases z : hd h (i + 1) = 0
      · rw [z]; rfl
      · rw [if_neg z, show (hd h (i + 1) == 0) = false from beq_eq_false_iff_ne.mpr z]
        rfl
  have e3 : sumR (fun j => ind (hd h (j + 1) == 0)) h.length = 1 := by
    have t1 := top_pos h
    have t2 := T.top_le
    rw [sumR_single (k := top h - 1) (by omega) fun i hi ne => ?_]
    · rw [show top h - 1 + 1 = top h by omega, (T.hd_zero t1 t2).mpr rfl]
      rfl
    · rw [show (hd h (i + 1) == 0) = false from beq_eq_false_iff_ne.mpr fun z => ne (by
        have := (T.hd_zero (show 1 ≤ i + 1 by omega) (by omega)).mp z
        omega)]
      rfl
  omega

end

/-- The words that have a head, each less 1. -/
def arcsW (h : List Int) : List Nat := (List.range h.length).filter fun i => hd h (i + 1) != 0
section
variable {h : List Int} (T : Tree h)
include T

theorem arcsW_length : (arcsW h).length = h.length - 1 := by
  have := heads_total T
  rw [← this, arcsW, ← List.countP_eq_length_filter, ← sumR_ind]
  refine sumR_congr fun i _ => ?_
  by_cases z : hd h (i + 1) = 0
  · rw [z]; rfl
  · rw [if_neg z, show (hd h (i + 1) != 0) = true from bne_iff_ne.mpr z]
    rfl

end

def marks (k n : Nat) : List Int := (List.range n).map fun i => ((k + i : Nat) : Int)
theorem marks_length (k n : Nat) : (marks k n).length = n := by simp [marks]
theorem marks_get (k n : Nat) {i : Nat} (hi : i < n) : (marks k n)[i]'(by rw [marks_length]; exact hi) = ((k + i : Nat) : Int) := by simp [marks]
theorem marks_drop (k n : Nat) {i : Nat} (hi : i < n) : (marks k n).drop i = ((k + i : Nat) : Int) :: (marks k n).drop (i + 1) := by
  rw [List.drop_eq_getElem_cons (by rw [marks_length]; exact hi), marks_get k n hi]

theorem markIntS_eq (k : Nat) (xs : List Int) (h : xs.length ≤ 1048576) (hk : k ≤ 1099511627776) : laws_markIntS k xs = some (((k + xs.length : Nat) : Int), marks k xs.length) := by
  unfold laws_markIntS laws_markIntS_n9 laws_markIntS_n1 laws_markIntS_n8 laws_markIntS_n6 laws_markIntS_n2 laws_markIntS_n5 laws_markIntS_n4 laws_markIntS_n7
  have hloop := nloop_run (body := fun (s : Int × Int × (List Int)) => ((laws_markIntS_n3 s.1 s.2.1 s.2.2).map (Sum.elim (fun (t : Int × Int × (List Int)) => Sum.inl (t.1, t.2.1, t.2.2)) (fun (t : Int × (List Int)) => Sum.inr t)) : Option ((Int × Int × (List Int)) ⊕ ((Int × (List Int))))))
    (I := fun s => ∃ i : Nat, s.1 = ((k + i : Nat) : Int) ∧ s.2.1 = (i : Int) ∧ i ≤ xs.length ∧ s.2.2.length = xs.length) (μ := fun s => xs.length - s.2.1.toNat)
    (f := fun s => (((k + xs.length : Nat) : Int), s.2.2.take s.2.1.toNat ++ (marks k xs.length).drop s.2.1.toNat))
    (by
      rintro ⟨_, _, out⟩ ⟨i, rfl, rfl, hi, ho⟩
      simp only at ho
      simp only [laws_markIntS_n3, Int.toNat_natCast]
      by_cases hlt : i < xs.length
      · left
        refine ⟨(((k + (i + 1) : Nat) : Int), ((i + 1 : Nat) : Int), out.set i ((k + i : Nat) : Int)), ?_, ⟨i + 1, rfl, rfl, hlt, by simpa using ho⟩, by simp; omega, ?_⟩
        · rw [show decide ((i : Int) < ((out.length : Nat) : Int)) = true from decide_eq_true (by omega), inb_nat (show i < out.length by omega), wrap64 (by omega) (by omega), wrap64 (by omega) (by omega)]
          simp; omega
        · simp only [Int.toNat_natCast]
          rw [set_take (by omega), marks_drop k xs.length hlt]
          simp
      · right
        have e : i = xs.length := by omega
        rw [show decide ((i : Int) < ((out.length : Nat) : Int)) = false from decide_eq_false (by omega)]
        subst e
        simp [List.take_of_length_le (Nat.le_of_eq ho), List.drop_of_length_le (Nat.le_of_eq (marks_length k xs.length))])
  simp only [Option.bind_some]
  rw [hloop LL ((k : Int), 0, xs) ⟨0, by simp, by simp, by omega, rfl⟩ (by simp only [LL]; simp; omega)]
  simp

theorem heldIntS_eq (k n : Nat) (h : n ≤ 1048576) (hk : k ≤ 1099511627776) : laws_heldIntS (marks k n) k = some ((k + n : Nat) : Int) := by
  unfold laws_heldIntS laws_heldIntS_n9 laws_heldIntS_n1 laws_heldIntS_n8 laws_heldIntS_n6 laws_heldIntS_n2 laws_heldIntS_n5 laws_heldIntS_n4 laws_heldIntS_n7
  have hloop := nloop_run (body := fun (s : Int × Int) => ((laws_heldIntS_n3 (marks k n) s.1 s.2).map (Sum.elim (fun (t : Int × Int) => Sum.inl (t.1, t.2)) (Sum.elim (fun (t : Int) => Sum.inr (Sum.inl t)) (fun (t : Int) => Sum.inr (Sum.inr t)))) : Option ((Int × Int) ⊕ (Int ⊕ Int))))
    (I := fun s => ∃ i : Nat, s = (((k + i : Nat) : Int), (i : Int)) ∧ i ≤ n) (μ := fun s => n - s.2.toNat) (f := fun s => .inr ((k + n : Nat) : Int))
    (by
      rintro _ ⟨i, rfl, hi⟩
      simp only [laws_heldIntS_n3, marks_length]
      by_cases hlt : i < n
      · left
        refine ⟨(((k + (i + 1) : Nat) : Int), ((i + 1 : Nat) : Int)), ?_, ⟨i + 1, rfl, hlt⟩, by simp; omega, trivial⟩
        rw [show decide ((i : Int) < ((n : Nat) : Int)) = true from decide_eq_true (by omega), idx_lt (by rw [marks_length]; exact hlt), marks_get k n hlt, wrap64 (by omega) (by omega), wrap64 (by omega) (by omega)]
        simp; omega
      · right
        have e : i = n := by omega
        subst e
        rw [show decide ((i : Int) < ((i : Nat) : Int)) = false from decide_eq_false (by omega)]
        simp)
  simp only [Option.bind_some]
  rw [hloop LL ((k : Int), 0) ⟨0, by simp, by omega⟩ (by simp only [LL]; simp; omega)]
  simp

noncomputable def sidesI (h : List Int) : Bool × List Int := if treeB h then (spec_l11Sides ((arcsP h).map asRow)).getD (false, []) else (false, [])

theorem arcs_good {h : List Int} (T : Tree h) : (arcsP h).length ≤ 8 ∧ ∀ p ∈ arcsP h, 1 ≤ p.1 ∧ p.1 < p.2 :=
  ⟨by have := arcsK_length h h.length; have := T.le; unfold arcsP; omega, fun p hp => ⟨(arc_ends T hp).1, (arc_ends T hp).2.1⟩⟩

theorem specSidesFor_eq (h : List Int) (hl : h.length ≤ 1048576) : spec_SidesFor h = some (sidesI h) := by
  unfold spec_SidesFor spec_SidesFor_n1 sidesI
  rw [specTree_eq]
  cases t : treeB h with
  | false => rfl
  | true =>
    have T := (tree_iff h).mp t
    obtain ⟨h8, hA⟩ := arcs_good T
    obtain ⟨r, hr, _⟩ := specSides_ex h8 hA
    simp only [Option.bind_some, Bool.not_true, cond_false, specArcs_eq h hl, hr, if_true, Option.getD_some]

theorem sides_is {h : List Int} (T : Tree h) : (sidesI h = (false, []) ∧ ¬ ∃ c, Proper (arcsP h) c) ∨ ∃ s : List Int, sidesI h = (true, s) ∧ s.length = (arcsP h).length ∧ Canon (arcsP h) (sv s) ∧ ∀ c, Canon (arcsP h) c → ∀ v, v < (arcsP h).length → c v = sv s v := by
  obtain ⟨h8, hA⟩ := arcs_good T
  obtain ⟨r, hr, R⟩ := specSides_ex h8 hA
  have e : sidesI h = r := by
    unfold sidesI
    rw [(tree_iff h).mpr T, if_pos rfl, hr]
    rfl
  rw [e]
  exact R

theorem arcsP_len {h : List Int} (T : Tree h) : (arcsP h).length = h.length - 1 := by
  have e : (arcsP h).length = (arcsW h).length := by
    unfold arcsP arcsK arcsW
    rw [List.length_map]
    congr 1
    refine List.filter_congr fun i hi => ?_
    rw [List.mem_range] at hi
    have g := T.getD_hd hi
    rw [g, Bool.eq_iff_iff]
    simp only [decide_eq_true_eq, bne_iff_ne]
    omega
  rw [e, arcsW_length T]

theorem sidesI_le {h : List Int} : (sidesI h).2.length ≤ 1048576 := by
  cases t : treeB h with
  | false =>
    unfold sidesI
    rw [t]
    simp
  | true =>
    have T := (tree_iff h).mp t
    have := T.le
    have := arcsP_len T
    rcases sides_is T with ⟨e0, _⟩ | ⟨s, e0, sl, _⟩ <;> rw [e0]
    · simp
    · simp only
      omega

theorem core_FnExactSidesFor (hS : ∀ h, h.length ≤ 1048576 → impl_SidesFor h = some (sidesI h)) (x : List Int) (w : ∀ n ∈ x, (Lit.int .i64 n).wf = true) (l : x.length ≤ maxLen) : laws_FnExactSidesFor x = some true := by
  unfold laws_FnExactSidesFor laws_FnExactSidesFor_n1
  by_cases h : x.length ≤ 1048576
  · have le := sidesI_le (h := x)
    have m1 := markIntS_eq 1 x h (by omega)
    have m2 := markIntS_eq 1 (sidesI x).2 le (by omega)
    have m3 := heldIntS_eq 1 (sidesI x).2.length le (by omega)
    rw [show decide (((x.length : Nat) : Int) > 1048576) = false from decide_eq_false (by omega)]
    simp only [cond_false, toIntS_eq x h, specSidesFor_eq x h, hS x h, eqIntS_eq x x h, eqIntS_eq (sidesI x).2 (sidesI x).2 le, Option.bind_some, beq_self_eq_true, bne_self_eq_false, Bool.not_true]
    rw [show ((1 : Nat) : Int) = 1 from rfl] at m1 m2 m3
    rw [m1]
    simp only [Option.bind_some]
    rw [decide_eq_false (show ¬ ((1 + x.length : Nat) : Int) < 0 by omega)]
    simp only [cond_false, m2, Option.bind_some, m3]
    rw [decide_eq_false (show ¬ ((1 + (sidesI x).2.length : Nat) : Int) < 0 by omega)]
    simp
  · rw [show decide (((x.length : Nat) : Int) > 1048576) = true from decide_eq_true (by omega)]
    rfl

theorem implSidesFor_eq (h : List Int) : impl_SidesFor h = some (sidesI h) := by
  have e : impl_SidesFor h = impl_SidesFor_n1 h := by unfold impl_SidesFor; rfl
  rw [e]
  unfold impl_SidesFor_n1
  rw [implTree_eq]
  cases t : treeB h with
  | false => unfold sidesI; rw [t]; rfl
  | true =>
    have T := (tree_iff h).mp t
    obtain ⟨h8, hA⟩ := arcs_good T
    obtain ⟨b, s, hd, d0, d1⟩ := drawAll_eq h8 (fun p hp => (hA p hp).2)
    simp only [Option.bind_some, Bool.not_true, cond_false, implArcs_eq T, newDrawing_eq h8, hd]
    cases b with
    | false =>
      rcases sides_is T with ⟨q, _⟩ | ⟨s0, _, _, C0, _⟩
      · rw [q]
        rfl
      · exact absurd ⟨_, C0.1⟩ (d0 rfl)
    | true =>
      obtain ⟨C, sl⟩ := d1 rfl
      rcases sides_is T with ⟨_, no⟩ | ⟨s0, q, sl0, _, uni⟩
      · exact absurd ⟨_, C.1⟩ no
      · rw [q]
        simp only [Bool.not_true, cond_false]
        congr 2
        refine List.ext_getElem? fun i => ?_
        by_cases hi : i < (arcsP h).length
        · rw [sv_get (by omega), sv_get (by omega), uni _ C i hi]
        · rw [List.getElem?_eq_none (by omega), List.getElem?_eq_none (by omega)]

end Go.Rv
