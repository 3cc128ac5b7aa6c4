/-
  Plain mathematics of what the law reaches. Conditions: none.
-/
import Derived.Test.YtgjhjbankpdcgaaGFnExactExchangedAt
set_option linter.unusedVariables false
set_option linter.unusedSimpArgs false
namespace Go.Rv
theorem nloop_run {σ ω : Type} {body : σ → Option (σ ⊕ ω)} (I : σ → Prop) (μ : σ → Nat) (f : σ → ω)
    (h : ∀ s, I s → (∃ s', body s = some (.inl s') ∧ I s' ∧ μ s' < μ s ∧ f s' = f s) ∨ body s = some (.inr (f s))) : ∀ (n : Nat) (s : σ), I s → μ s < n → nloop body n s = some (f s)
  | 0, s, _, hn => by omega
  | n + 1, s, hi, hn => by
    rcases h s hi with ⟨s', hb, hi', hm, hf⟩ | hb
    · simp only [nloop, hb, Option.bind_some]
      rw [nloop_run I μ f h n s' hi' (by omega), hf]
    · simp only [nloop, hb, Option.bind_some]

/-- A loop that counts from a number on: state (k, x), k < n goes on. -/
theorem wrap64 {x : Int} (h1 : -9223372036854775808 ≤ x) (h2 : x ≤ 9223372036854775807) : IntKind.wrap .i64 x = x := by
  simp only [IntKind.wrap, IntKind.bits, IntKind.signed]
  simp
  omega

theorem idx_lt {α : Type} {xs : List α} {k : Nat} (h : k < xs.length) : idx xs (k : Int) = some xs[k] := by simp [idx, h]
theorem inb_nat {k n : Nat} (h : k < n) : inb (k : Int) n = some k := by
  simp only [inb]
  rw [if_pos (by omega)]
  simp
theorem mk_nat {n : Nat} (h : n ≤ 1099511627776) : mk (n : Int) (n : Int) = some n := by
  simp only [mk]
  rw [if_pos (by omega)]
  simp
theorem toIntS_eq (xs : List Int) (h : xs.length ≤ 1048576) : laws_toIntS xs = some xs := by
  have hl := nloop_run (body := fun (s : Int × (List Int)) => ((laws_toIntS_n3 xs s.1 s.2).map (Sum.elim (fun (t : Int × (List Int)) => Sum.inl (t.1, t.2)) (fun (t : (List Int)) => Sum.inr t)) : Option ((Int × (List Int)) ⊕ (((List Int))))))
    (I := fun s => ∃ k : Nat, s.1 = k ∧ k ≤ xs.length ∧ s.2.length = xs.length) (μ := fun s => xs.length - s.1.toNat) (f := fun s => s.2.take s.1.toNat ++ xs.drop s.1.toNat)
    (by
      rintro ⟨_, out⟩ ⟨k, rfl, hk, ho⟩
      simp only at ho
      by_cases hlt : k < xs.length
      · left
        refine ⟨((k + 1 : Nat), out.set k xs[k]), ?_, ⟨k + 1, rfl, hlt, by simpa using ho⟩, by simp; omega, ?_⟩
        · simp only [laws_toIntS_n3]
          rw [show decide ((k : Int) < ((xs.length : Nat) : Int)) = true from decide_eq_true (by omega)]
          simp only [cond_true, idx_lt hlt, Option.bind_some, inb_nat (show k < out.length by omega)]
          rw [wrap64 (by omega) (by omega)]
          simp
        · simp only [Int.toNat_natCast]
          rw [List.take_set, List.take_add_one, List.getElem?_eq_getElem (by omega)]
          have hl : (out.take k).length = k := by simp; omega
          rw [List.set_append_right _ _ (by omega), hl]
          simp
      · right
        have e : k = xs.length := by omega
        subst e
        simp only [laws_toIntS_n3]
        rw [show decide (((xs.length : Nat) : Int) < ((xs.length : Nat) : Int)) = false from decide_eq_false (by omega)]
        simp [List.take_of_length_le (Nat.le_of_eq ho)])
  unfold laws_toIntS laws_toIntS_n9 laws_toIntS_n1 laws_toIntS_n8 laws_toIntS_n6 laws_toIntS_n2 laws_toIntS_n5 laws_toIntS_n4 laws_toIntS_n7
  rw [mk_nat (by omega)]
  simp only [Option.bind_some]
  rw [hl LL (0, List.replicate xs.length 0) ⟨0, by simp, by omega, by simp⟩ (by simp only [LL]; simp; omega)]
  simp

theorem drop_cons {α : Type} {xs : List α} {k : Nat} (h : k < xs.length) : xs.drop k = xs[k] :: xs.drop (k + 1) := List.drop_eq_getElem_cons h

theorem drop_beq {xs ys : List Int} {k : Nat} (h1 : k < xs.length) (h2 : k < ys.length) : (xs.drop k == ys.drop k) = (xs[k] == ys[k] && xs.drop (k + 1) == ys.drop (k + 1)) := by
  rw [drop_cons h1, drop_cons h2]
  rfl

theorem eqIntS_eq (xs ys : List Int) (h : xs.length ≤ 1048576) : laws_eqIntS xs ys = some (xs == ys) := by
  unfold laws_eqIntS laws_eqIntS_n9 laws_eqIntS_n1 laws_eqIntS_n8 laws_eqIntS_n6 laws_eqIntS_n5 laws_eqIntS_n4 laws_eqIntS_n2 laws_eqIntS_n7
  by_cases hl : xs.length = ys.length
  · have hloop := nloop_run (body := fun (s : Int) => ((laws_eqIntS_n3 xs ys s).map (Sum.elim (fun (t : Int) => Sum.inl t) (Sum.elim (fun (t : Bool) => Sum.inr (Sum.inl t)) (fun (t : Unit) => Sum.inr (Sum.inr t)))) : Option ((Int) ⊕ (Bool ⊕ Unit))))
      (I := fun s => ∃ k : Nat, s = k ∧ k ≤ xs.length) (μ := fun s => xs.length - s.toNat) (f := fun s => cond (xs.drop s.toNat == ys.drop s.toNat) (.inr ()) (.inl false))
      (by
        rintro _ ⟨k, rfl, hk⟩
        by_cases hlt : k < xs.length
        · have hlt' : k < ys.length := by omega
          simp only [laws_eqIntS_n3]
          rw [show decide ((k : Int) < ((xs.length : Nat) : Int)) = true from decide_eq_true (by omega)]
          simp only [cond_true, idx_lt hlt, idx_lt hlt', Option.bind_some, Int.toNat_natCast]
          rw [wrap64 (by omega) (by omega), drop_beq hlt hlt']
          by_cases he : xs[k] = ys[k]
          · left
            refine ⟨((k + 1 : Nat) : Int), by simp [he], ⟨k + 1, rfl, hlt⟩, by simp; omega, by simp [he]⟩
          · right
            have e1 : (xs[k] == ys[k]) = false := by simpa using he
            simp [bne, e1]
        · right
          have e : k = xs.length := by omega
          subst e
          simp only [laws_eqIntS_n3]
          rw [show decide (((xs.length : Nat) : Int) < ((xs.length : Nat) : Int)) = false from decide_eq_false (by omega)]
          simp [List.drop_of_length_le (Nat.le_of_eq hl.symm)])
    rw [show ((((xs.length : Nat) : Int)) != (((ys.length : Nat) : Int))) = false by simp [hl]]
    simp only [cond_false, Option.bind_some, Sum.elim_inl]
    rw [hloop LL 0 ⟨0, by simp, by omega⟩ (by simp only [LL]; simp; omega)]
    simp only [Int.toNat_zero, List.drop_zero]
    cases xs == ys <;> rfl
  · rw [show ((((xs.length : Nat) : Int)) != (((ys.length : Nat) : Int))) = true by simp; omega]
    have : (xs == ys) = false := by
      rw [beq_eq_false_iff_ne]
      exact fun e => hl (by rw [e])
    rw [this]; rfl

theorem l1In_eq (a b c : Int) : spec_l1In a b c = some (decide (b ≤ a) && decide (a ≤ c)) := by
  unfold spec_l1In spec_l1In_n1
  by_cases h : a ≥ b
  · have e : decide (a ≥ b) = true := decide_eq_true h
    rw [e]; rfl
  · have e : decide (a ≥ b) = false := decide_eq_false h
    rw [e]; rfl

theorem set_take {l : List Int} {k : Nat} {v : Int} (hk : k < l.length) : (l.set k v).take (k + 1) = l.take k ++ [v] := by
  rw [List.take_set, List.take_add_one, List.getElem?_eq_getElem hk]
  have hl : (l.take k).length = k := by simp; omega
  rw [List.set_append_right _ _ (by omega), hl]
  simp

def dupB (o : List Int) : Bool := (List.range o.length).any fun j => (List.range j).any fun i => o.getD i 0 == o.getD j 0
def orderAll (o : List Int) (m : Int) : Bool := o.all (fun x => decide (1 ≤ x) && decide (x ≤ m)) && !dupB o
def orderB (o : List Int) (m : Int) : Bool := decide (1 ≤ m) && decide (m ≤ 8) && (((o.length : Nat) : Int) == m) && orderAll o m

def OrderP (o : List Int) (m : Int) : Prop := (∀ (k : Nat) (hk : k < o.length), 1 ≤ o[k] ∧ o[k] ≤ m) ∧ ∀ (i j : Nat) (hij : i < j) (hj : j < o.length), o[i] ≠ o[j]

theorem orderAll_iff (o : List Int) (m : Int) : orderAll o m = true ↔ OrderP o m := by
  unfold orderAll dupB OrderP
  simp only [Bool.and_eq_true, List.all_eq_true, decide_eq_true_eq, Bool.not_eq_true', List.any_eq_false, List.mem_range]
  constructor
  · rintro ⟨h1, h2⟩
    refine ⟨fun k hk => h1 _ (List.getElem_mem hk), fun i j hij hj e => ?_⟩
    have := h2 j hj
    rw [List.any_eq_true] at this
    refine this ⟨i, by simpa using hij, ?_⟩
    simp [List.getD, hj, show i < o.length by omega, e]
  · rintro ⟨h1, h2⟩
    refine ⟨fun x hx => ?_, fun j hj => ?_⟩
    · obtain ⟨k, hk, rfl⟩ := List.getElem_of_mem hx
      exact h1 k hk
    · rw [List.any_eq_true]
      rintro ⟨i, hi, e⟩
      have hi' : i < j := by simpa using hi
      simp only [List.getD, List.getElem?_eq_getElem hj, List.getElem?_eq_getElem (show i < o.length by omega), Option.getD_some, beq_iff_eq] at e
      exact h2 i j hi' hj e

theorem orderAll_false {o : List Int} {m : Int} (h : ¬ OrderP o m) : orderAll o m = false := by
  cases e : orderAll o m with
  | false => rfl
  | true => exact absurd ((orderAll_iff o m).1 e) h

theorem mem_take {o : List Int} {k : Nat} {x : Int} (hk : k ≤ o.length) : x ∈ o.take k ↔ ∃ (i : Nat) (hi : i < k), o[i]'(by omega) = x := by
  constructor
  · intro h
    obtain ⟨i, hi, e⟩ := List.getElem_of_mem h
    have hi' : i < k := by simp at hi; omega
    exact ⟨i, hi', by simpa using e⟩
  · rintro ⟨i, hi, e⟩
    have : (o.take k)[i]'(by simp; omega) = x := by simpa using e
    rw [← this]; exact List.getElem_mem _

theorem implOrder_eq (o : List Int) (m : Int) : impl_OrderOk o m = some (orderB o m) := by
  unfold impl_OrderOk impl_OrderOk_n9 impl_OrderOk_n1 impl_OrderOk_n8 impl_OrderOk_n6 impl_OrderOk_n2 impl_OrderOk_n5 impl_OrderOk_n4 impl_OrderOk_n7 orderB
  by_cases h1 : m < 1
  · rw [decide_eq_true h1, show decide (1 ≤ m) = false from decide_eq_false (by omega)]; rfl
  rw [decide_eq_false h1, show decide (1 ≤ m) = true from decide_eq_true (by omega)]
  by_cases h2 : m > 8
  · rw [decide_eq_true h2, show decide (m ≤ 8) = false from decide_eq_false (by omega)]; rfl
  rw [decide_eq_false h2, show decide (m ≤ 8) = true from decide_eq_true (by omega)]
  by_cases h3 : ((o.length : Nat) : Int) = m
  · rw [show (((o.length : Nat) : Int) != m) = false by simp [h3], show (((o.length : Nat) : Int) == m) = true by simp [h3]]
    simp only [cond_false, Option.bind_some, Sum.elim_inl, Bool.true_and]
    have hloop := nloop_run (body := fun (s : Int × (List Bool)) => ((impl_OrderOk_n3 m o o.length s.1 s.2).map (Sum.elim (fun (t : Int × (List Bool)) => Sum.inl (t.1, t.2)) (Sum.elim (fun (t : Bool) => Sum.inr (Sum.inl t)) (fun (t : Unit) => Sum.inr (Sum.inr t)))) : Option ((Int × (List Bool)) ⊕ (Bool ⊕ Unit))))
      (I := fun s => ∃ k : Nat, s.1 = (k : Int) ∧ k ≤ o.length ∧ s.2.length = 9 ∧ (∀ v : Nat, v < 9 → s.2[v]? = some (decide ((v : Int) ∈ o.take k))) ∧ OrderP (o.take k) m) (μ := fun s => o.length - s.1.toNat)
      (f := fun _ => cond (orderAll o m) (.inr ()) (.inl false))
      (by
        rintro ⟨_, seen⟩ ⟨k, rfl, hk, hs, hseen, hP⟩
        simp only at hs hseen
        simp only [impl_OrderOk_n3]
        by_cases hlt : k < o.length
        · rw [show decide ((k : Int) < ((o.length : Nat) : Int)) = true from decide_eq_true (by omega), idx_lt hlt, wrap64 (by omega) (by omega)]
          simp only [cond_true, Option.bind_some]
          by_cases c1 : o[k] < 1
          · right
            rw [decide_eq_true c1, orderAll_false (fun hh => by have := (hh.1 k hlt).1; omega)]
            rfl
          rw [decide_eq_false c1]
          by_cases c2 : o[k] > m
          · right
            rw [decide_eq_true c2, orderAll_false (fun hh => by have := (hh.1 k hlt).2; omega)]
            rfl
          rw [decide_eq_false c2]
          obtain ⟨v, hv⟩ : ∃ v : Nat, o[k] = (v : Int) := ⟨o[k].toNat, by omega⟩
          have hv9 : v < 9 := by omega
          have hin : inb o[k] 9 = some v := by rw [hv]; exact inb_nat hv9
          have hsame : same seen.length 9 = some () := by simp [same, hs]
          simp only [cond_false, hsame, hin, Option.bind_some, hseen v hv9]
          by_cases c3 : (v : Int) ∈ o.take k
          · right
            rw [decide_eq_true c3]
            obtain ⟨i, hi, e⟩ := (mem_take hk).1 c3
            rw [orderAll_false (fun hh => hh.2 i k hi hlt (by rw [e, hv]))]
            rfl
          · left
            rw [decide_eq_false c3]
            refine ⟨(((k + 1 : Nat) : Int), seen.set v true), by simp, ⟨k + 1, rfl, hlt, by simpa using hs, fun u hu => ?_, ?_⟩, by simp; omega, trivial⟩
            · rw [List.take_add_one, List.getElem?_eq_getElem hlt, hv]
              simp only [Option.toList_some, List.mem_append, List.mem_singleton]
              by_cases e : v = u
              · subst e
                simp [hs, hv9]
              · rw [List.getElem?_set_ne e, hseen u hu]
                have : ¬ (u : Int) = (v : Int) := by omega
                simp [this]
            · have hl : (o.take (k + 1)).length = k + 1 := by simp; omega
              refine ⟨fun i hi => ?_, fun i j hij hj => ?_⟩
              · rw [hl] at hi
                rw [List.getElem_take]
                by_cases e : i = k
                · subst e; omega
                · have := hP.1 i (by simp; omega)
                  rwa [List.getElem_take] at this
              · rw [hl] at hj
                rw [List.getElem_take, List.getElem_take]
                by_cases e : j = k
                · subst e
                  intro hh
                  exact c3 ((mem_take hk).2 ⟨i, hij, by rw [hh, hv]⟩)
                · have := hP.2 i j hij (by simp; omega)
                  rwa [List.getElem_take, List.getElem_take] at this
        · right
          have e : k = o.length := by omega
          subst e
          rw [List.take_length] at hP
          rw [show decide (((o.length : Nat) : Int) < ((o.length : Nat) : Int)) = false from decide_eq_false (by omega), (orderAll_iff o m).2 hP]
          rfl)
    rw [hloop LL (0, List.replicate 9 false) ⟨0, by simp, by omega, by simp, fun v hv => by rw [List.getElem?_replicate, if_pos hv]; simp, ⟨fun k hk => by simp at hk, fun i j hij hj => by simp at hj⟩⟩ (by simp only [LL]; simp; omega)]
    cases orderAll o m <;> rfl
  · rw [show (((o.length : Nat) : Int) != m) = true by simp [h3], show (((o.length : Nat) : Int) == m) = false by simp [h3]]
    rfl

theorem orderB_iff (o : List Int) (m : Int) : orderB o m = true ↔ 1 ≤ m ∧ m ≤ 8 ∧ (o.length : Int) = m ∧ OrderP o m := by
  unfold orderB
  simp only [Bool.and_eq_true, decide_eq_true_eq, beq_iff_eq, orderAll_iff]
  constructor
  · rintro ⟨⟨⟨a, b⟩, c⟩, d⟩; exact ⟨a, b, c, d⟩
  · rintro ⟨a, b, c, d⟩; exact ⟨⟨⟨a, b⟩, c⟩, d⟩

theorem specOrder_eq (o : List Int) (m : Int) (hl : o.length ≤ 1048576) : spec_OrderOk o m = some (orderB o m) := by
  unfold spec_OrderOk spec_OrderOk_n18 spec_OrderOk_n1 spec_OrderOk_n17 spec_OrderOk_n15 spec_OrderOk_n2 spec_OrderOk_n14 spec_OrderOk_n13
  have hin : ∀ k, (hk : k < o.length) → spec_OrderOk_n6 o k = some (cond (decide (o[k] ∈ o.take k)) (.inl false) (.inr ())) := fun k hk => by
    unfold spec_OrderOk_n6
    have hloop := nloop_run (body := fun (s : Int) => ((spec_OrderOk_n5 o k s).map (Sum.elim (fun (t : Int) => Sum.inl t) (Sum.elim (fun (t : Bool) => Sum.inr (Sum.inl t)) (fun (t : Unit) => Sum.inr (Sum.inr t)))) : Option ((Int) ⊕ (Bool ⊕ Unit))))
      (I := fun s => ∃ j : Nat, s = (j : Int) ∧ j ≤ k ∧ o[k] ∉ o.take j) (μ := fun s => k - s.toNat) (f := fun _ => cond (decide (o[k] ∈ o.take k)) (.inl false) (.inr ()))
      (by
        rintro _ ⟨j, rfl, hj, hno⟩
        simp only [spec_OrderOk_n5]
        by_cases hlt : j < k
        · rw [show decide ((j : Int) < (k : Int)) = true from decide_eq_true (by omega), idx_lt (show j < o.length by omega), idx_lt hk, wrap64 (by omega) (by omega)]
          simp only [cond_true, Option.bind_some]
          by_cases e : o[j] = o[k]
          · right
            have : o[k] ∈ o.take k := (mem_take (by omega)).2 ⟨j, hlt, e⟩
            rw [decide_eq_true this]
            simp [e]
          · left
            have e1 : (o[j] == o[k]) = false := by simpa using e
            refine ⟨((j + 1 : Nat) : Int), by simp [e1], ⟨j + 1, rfl, hlt, ?_⟩, by simp; omega, trivial⟩
            rw [List.take_add_one, List.getElem?_eq_getElem (by omega)]
            simp only [Option.toList_some, List.mem_append, List.mem_singleton, not_or]
            exact ⟨hno, fun hh => e hh.symm⟩
        · right
          have e : j = k := by omega
          subst e
          rw [show decide ((j : Int) < (j : Int)) = false from decide_eq_false (by omega), decide_eq_false hno]
          rfl)
    exact hloop LL 0 ⟨0, rfl, by omega, by simp⟩ (by simp only [LL]; simp; omega)
  have hloop := nloop_run (body := fun (s : Int) => ((spec_OrderOk_n12 o m s).map (Sum.elim (fun (t : Int) => Sum.inl t) (Sum.elim (fun (t : Bool) => Sum.inr (Sum.inl t)) (fun (t : Unit) => Sum.inr (Sum.inr t)))) : Option ((Int) ⊕ (Bool ⊕ Unit))))
    (I := fun s => ∃ k : Nat, s = (k : Int) ∧ k ≤ o.length ∧ OrderP (o.take k) m) (μ := fun s => o.length - s.toNat) (f := fun _ => cond (orderAll o m) (.inr ()) (.inl false))
    (by
      rintro _ ⟨k, rfl, hk, hP⟩
      simp only [spec_OrderOk_n12, spec_OrderOk_n3]
      by_cases hlt : k < o.length
      · rw [show decide ((k : Int) < ((o.length : Nat) : Int)) = true from decide_eq_true (by omega)]
        simp only [cond_true, Option.bind_some, Sum.elim_inl]
        unfold spec_OrderOk_n11 spec_OrderOk_n9 spec_OrderOk_n8 spec_OrderOk_n4 spec_OrderOk_n7 spec_OrderOk_n10
        rw [idx_lt hlt, wrap64 (by omega) (by omega)]
        simp only [Option.bind_some, l1In_eq, hin k hlt]
        by_cases c : 1 ≤ o[k] ∧ o[k] ≤ m
        · have e1 : (decide (1 ≤ o[k]) && decide (o[k] ≤ m)) = true := by simp [c.1, c.2]
          rw [e1]
          by_cases c3 : o[k] ∈ o.take k
          · right
            obtain ⟨i, hi, e⟩ := (mem_take hk).1 c3
            rw [decide_eq_true c3, orderAll_false (fun hh => hh.2 i k hi hlt e)]
            rfl
          · left
            rw [decide_eq_false c3]
            refine ⟨((k + 1 : Nat) : Int), by simp, ⟨k + 1, rfl, hlt, ?_⟩, by simp; omega, trivial⟩
            have hl : (o.take (k + 1)).length = k + 1 := by simp; omega
            refine ⟨fun i hi => ?_, fun i j hij hj => ?_⟩
            · rw [hl] at hi
              rw [List.getElem_take]
              by_cases e : i = k
              · subst e; exact c
              · have := hP.1 i (by simp; omega)
                rwa [List.getElem_take] at this
            · rw [hl] at hj
              rw [List.getElem_take, List.getElem_take]
              by_cases e : j = k
              · subst e
                exact fun hh => c3 ((mem_take hk).2 ⟨i, hij, hh⟩)
              · have := hP.2 i j hij (by simp; omega)
                rwa [List.getElem_take, List.getElem_take] at this
        · right
          have e1 : (decide (1 ≤ o[k]) && decide (o[k] ≤ m)) = false := by
            simp only [Bool.and_eq_false_iff, decide_eq_false_iff_not]; omega
          rw [e1, orderAll_false (fun hh => c (hh.1 k hlt))]
          rfl
      · right
        have e : k = o.length := by omega
        subst e
        rw [List.take_length] at hP
        rw [show decide (((o.length : Nat) : Int) < ((o.length : Nat) : Int)) = false from decide_eq_false (by omega), (orderAll_iff o m).2 hP]
        rfl)
  simp only [Option.bind_some]
  rw [hloop LL 0 ⟨0, rfl, by omega, ⟨fun k hk => by simp at hk, fun i j hij hj => by simp at hj⟩⟩ (by simp only [LL]; simp; omega)]
  unfold orderB
  cases orderAll o m with
  | false => simp
  | true =>
    simp only [cond_true, Option.map_some, Sum.elim_inr, Option.bind_some, Sum.elim_inl, spec_OrderOk_n16, l1In_eq, Bool.and_true]
    cases (decide (1 ≤ m) && decide (m ≤ 8)) <;> simp

theorem room8 {n : Nat} (h : n ≤ 1099511627776) : room n = some () := by unfold room; rw [if_pos h]

/-- Neighbours exchanged. -/
def excL (o : List Int) (k : Nat) : List Int := (o.set k (o.getD (k + 1) 0)).set (k + 1) (o.getD k 0)
def excI (o : List Int) (at' : Int) : Bool × List Int := if orderB o o.length = true ∧ 0 ≤ at' ∧ at' ≤ (o.length : Int) - 2 then (true, excL o at'.toNat) else (false, [])

theorem specExchanged_eq (o : List Int) (at' : Int) (hl : o.length ≤ 1048576) : spec_ExchangedAt o at' = some (excI o at') := by
  unfold spec_ExchangedAt spec_ExchangedAt_n1 excI
  rw [specOrder_eq o _ hl, l1In_eq, wrap64 (by omega) (by omega)]
  cases t : orderB o o.length with
  | false => simp
  | true =>
    by_cases b : 0 ≤ at' ∧ at' ≤ (o.length : Int) - 2
    · rw [if_pos ⟨rfl, b⟩, decide_eq_true b.1, decide_eq_true b.2]
      obtain ⟨k, rfl⟩ : ∃ k : Nat, at' = (k : Int) := ⟨at'.toNat, by omega⟩
      have w : IntKind.wrap .i64 ((k : Int) + 1) = ((k + 1 : Nat) : Int) := by rw [wrap64 (by omega) (by omega)]; omega
      have i1 : inb (k : Int) o.length = some k := by unfold inb; rw [if_pos (by omega)]; simp
      have i2 : inb ((k + 1 : Nat) : Int) o.length = some (k + 1) := by unfold inb; rw [if_pos (by omega)]; simp
      have g1 : o[k]? = some o[k] := List.getElem?_eq_getElem (by omega)
      have g2 : o[k + 1]? = some o[k + 1] := List.getElem?_eq_getElem (by omega)
      simp only [Option.bind_some, Bool.not_true, cond_false, Bool.and_self, List.nil_append, List.length_set, w, i1, i2, g1, g2, Int.toNat_natCast]
      rw [room8 (by simp; omega)]
      simp only [Option.bind_some]
      unfold excL
      rw [List.getD_eq_getElem?_getD, List.getD_eq_getElem?_getD, g1, g2]
      rfl
    · rw [if_neg (fun z => b z.2)]
      have : (decide (0 ≤ at') && decide (at' ≤ (o.length : Int) - 2)) = false := by
        rw [Bool.eq_false_iff]
        intro x
        simp only [Bool.and_eq_true, decide_eq_true_eq] at x
        exact b x
      rw [this]
      rfl

theorem idx_some {α : Type} {xs : List α} {k : Nat} (h : k < xs.length) : idx xs (k : Int) = some xs[k] := idx_lt h

theorem implExchanged_eq (o : List Int) (at' : Int) : impl_ExchangedAt o at' = some (excI o at') := by
  have e : impl_ExchangedAt o at' = impl_ExchangedAt_n1 o at' := by unfold impl_ExchangedAt; rfl
  rw [e]
  unfold impl_ExchangedAt_n1 excI
  rw [implOrder_eq]
  cases t : orderB o o.length with
  | false => simp
  | true =>
    have ok := (orderB_iff o _).mp t
    have h8 : o.length ≤ 8 := by omega
    rw [wrap64 (x := ((o.length : Nat) : Int) - 1) (by omega) (by omega)]
    simp only [Option.bind_some, Bool.not_true, cond_false]
    by_cases b : 0 ≤ at' ∧ at' ≤ (o.length : Int) - 2
    · rw [if_pos ⟨trivial, b⟩, decide_eq_false (by omega), decide_eq_false (by omega)]
      obtain ⟨k, rfl⟩ : ∃ k : Nat, at' = (k : Int) := ⟨at'.toNat, by omega⟩
      have w : IntKind.wrap .i64 ((k : Int) + 1) = ((k + 1 : Nat) : Int) := by rw [wrap64 (by omega) (by omega)]; omega
      have c : slices_Clone_int_int o = some o := by
        have e : slices_Clone_int_int o = slices_Clone_int_int_n1 o := by unfold slices_Clone_int_int; rfl
        rw [e]
        unfold slices_Clone_int_int_n1
        rw [room8 (by simp; omega)]
        cases o with
        | nil => simp at b; omega
        | cons x l => rfl
      have i1 : inb (k : Int) o.length = some k := by unfold inb; rw [if_pos (by omega)]; simp
      have i2 : ∀ x, inb ((k + 1 : Nat) : Int) (o.set k x).length = some (k + 1) := fun x => by
        unfold inb
        rw [List.length_set, if_pos (by omega)]
        simp
      have g1 : o[k]? = some o[k] := List.getElem?_eq_getElem (by omega)
      have g2 : o[k + 1]? = some o[k + 1] := List.getElem?_eq_getElem (by omega)
      simp only [cond_false, c, Option.bind_some, w]
      rw [idx_some (show k + 1 < o.length by omega), idx_some (show k < o.length by omega)]
      simp only [Option.bind_some, i1, i2, Int.toNat_natCast]
      unfold excL
      rw [List.getD_eq_getElem?_getD, List.getD_eq_getElem?_getD, g1, g2]
      rfl
    · rw [if_neg (fun z => b z.2)]
      by_cases c : at' < 0
      · rw [decide_eq_true c]
        rfl
      · rw [decide_eq_false c, decide_eq_true (show at' ≥ ((o.length : Nat) : Int) - 1 by omega)]
        rfl

def marks (k n : Nat) : List Int := (List.range n).map fun i => ((k + i : Nat) : Int)
theorem marks_length (k n : Nat) : (marks k n).length = n := by simp [marks]
theorem marks_get (k n : Nat) {i : Nat} (hi : i < n) : (marks k n)[i]'(by rw [marks_length]; exact hi) = ((k + i : Nat) : Int) := by simp [marks]
theorem marks_drop (k n : Nat) {i : Nat} (hi : i < n) : (marks k n).drop i = ((k + i : Nat) : Int) :: (marks k n).drop (i + 1) := by
  rw [List.drop_eq_getElem_cons (by rw [marks_length]; exact hi), marks_get k n hi]

theorem markIntS_eq (k : Nat) (xs : List Int) (h : xs.length ≤ 1048576) (hk : k ≤ 1099511627776) : laws_markIntS k xs = some (((k + xs.length : Nat) : Int), marks k xs.length) := by
  unfold laws_markIntS laws_markIntS_n9 laws_markIntS_n1 laws_markIntS_n8 laws_markIntS_n6 laws_markIntS_n2 laws_markIntS_n5 laws_markIntS_n4 laws_markIntS_n7
  have hloop := nloop_run (body := fun (s : Int × Int × (List Int)) => ((laws_markIntS_n3 s.1 s.2.1 s.2.2).map (Sum.elim (fun (t : Int × Int × (List Int)) => Sum.inl (t.1, t.2.1, t.2.2)) (fun (t : Int × (List Int)) => Sum.inr t)) : Option ((Int × Int × (List Int)) ⊕ ((Int × (List Int))))))
    (I := fun s => ∃ i : Nat, s.1 = ((k + i : Nat) : Int) ∧ s.2.1 = (i : Int) ∧ i ≤ xs.length ∧ s.2.2.length = xs.length) (μ := fun s => xs.length - s.2.1.toNat)
    (f := fun s => (((k + xs.length : Nat) : Int), s.2.2.take s.2.1.toNat ++ (marks k xs.length).drop s.2.1.toNat))
    (by
      rintro ⟨_, _, out⟩ ⟨i, rfl, rfl, hi, ho⟩
      simp only at ho
      simp only [laws_markIntS_n3, Int.toNat_natCast]
      by_cases hlt : i < xs.length
      · left
        refine ⟨(((k + (i + 1) : Nat) : Int), ((i + 1 : Nat) : Int), out.set i ((k + i : Nat) : Int)), ?_, ⟨i + 1, rfl, rfl, hlt, by simpa using ho⟩, by simp; omega, ?_⟩
        · rw [show decide ((i : Int) < ((out.length : Nat) : Int)) = true from decide_eq_true (by omega), inb_nat (show i < out.length by omega), wrap64 (by omega) (by omega), wrap64 (by omega) (by omega)]
          simp; omega
        · simp only [Int.toNat_natCast]
          rw [set_take (by omega), marks_drop k xs.length hlt]
          simp
      · right
        have e : i = xs.length := by omega
        rw [show decide ((i : Int) < ((out.length : Nat) : Int)) = false from decide_eq_false (by omega)]
        subst e
        simp [List.take_of_length_le (Nat.le_of_eq ho), List.drop_of_length_le (Nat.le_of_eq (marks_length k xs.length))])
  simp only [Option.bind_some]
  rw [hloop LL ((k : Int), 0, xs) ⟨0, by simp, by simp, by omega, rfl⟩ (by simp only [LL]; simp; omega)]
  simp

theorem heldIntS_eq (k n : Nat) (h : n ≤ 1048576) (hk : k ≤ 1099511627776) : laws_heldIntS (marks k n) k = some ((k + n : Nat) : Int) := by
  unfold laws_heldIntS laws_heldIntS_n9 laws_heldIntS_n1 laws_heldIntS_n8 laws_heldIntS_n6 laws_heldIntS_n2 laws_heldIntS_n5 laws_heldIntS_n4 laws_heldIntS_n7
  have hloop := nloop_run (body := fun (s : Int × Int) => ((laws_heldIntS_n3 (marks k n) s.1 s.2).map (Sum.elim (fun (t : Int × Int) => Sum.inl (t.1, t.2)) (Sum.elim (fun (t : Int) => Sum.inr (Sum.inl t)) (fun (t : Int) => Sum.inr (Sum.inr t)))) : Option ((Int × Int) ⊕ (Int ⊕ Int))))
    (I := fun s => ∃ i : Nat, s = (((k + i : Nat) : Int), (i : Int)) ∧ i ≤ n) (μ := fun s => n - s.2.toNat) (f := fun s => .inr ((k + n : Nat) : Int))
    (by
      rintro _ ⟨i, rfl, hi⟩
      simp only [laws_heldIntS_n3, marks_length]
      by_cases hlt : i < n
      · left
        refine ⟨(((k + (i + 1) : Nat) : Int), ((i + 1 : Nat) : Int)), ?_, ⟨i + 1, rfl, hlt⟩, by simp; omega, trivial⟩
        rw [show decide ((i : Int) < ((n : Nat) : Int)) = true from decide_eq_true (by omega), idx_lt (by rw [marks_length]; exact hlt), marks_get k n hlt, wrap64 (by omega) (by omega), wrap64 (by omega) (by omega)]
        simp; omega
      · right
        have e : i = n := by omega
        subst e
        rw [show decide ((i : Int) < ((i : Nat) : Int)) = false from decide_eq_false (by omega)]
        simp)
  simp only [Option.bind_some]
  rw [hloop LL ((k : Int), 0) ⟨0, by simp, by omega⟩ (by simp only [LL]; simp; omega)]
  simp

end Go.Rv
