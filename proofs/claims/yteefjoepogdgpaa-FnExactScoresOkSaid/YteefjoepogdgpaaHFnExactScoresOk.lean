/-
  Plain mathematics of what the law reaches. Conditions: none.
-/
import Derived.Test.YteefjoepogdgpaaGFnExactScoresOk
set_option linter.unusedVariables false
set_option linter.unusedSimpArgs false
namespace Go.Rv
theorem nloop_run {σ ω : Type} {body : σ → Option (σ ⊕ ω)} (I : σ → Prop) (μ : σ → Nat) (f : σ → ω)
    (h : ∀ s, I s → (∃ s', body s = some (.inl s') ∧ I s' ∧ μ s' < μ s ∧ f s' = f s) ∨ body s = some (.inr (f s))) : ∀ (n : Nat) (s : σ), I s → μ s < n → nloop body n s = some (f s)
  | 0, s, _, hn => by omega
  | n + 1, s, hi, hn => by
    rcases h s hi with ⟨s', hb, hi', hm, hf⟩ | hb
    · simp only [nloop, hb, Option.bind_some]
      rw [nloop_run I μ f h n s' hi' (by omega), hf]
    · simp only [nloop, hb, Option.bind_some]

/-- A loop that counts from a number on: state (k, x), k < n goes on. -/
theorem wrap64 {x : Int} (h1 : -9223372036854775808 ≤ x) (h2 : x ≤ 9223372036854775807) : IntKind.wrap .i64 x = x := by
  simp only [IntKind.wrap, IntKind.bits, IntKind.signed]
  simp
  omega

theorem idx_nat {α : Type} (xs : List α) (k : Nat) : idx xs (k : Int) = xs[k]? := by simp [idx]
theorem idx_lt {α : Type} {xs : List α} {k : Nat} (h : k < xs.length) : idx xs (k : Int) = some xs[k] := by simp [idx, h]
theorem inb_nat {k n : Nat} (h : k < n) : inb (k : Int) n = some k := by
  simp only [inb]
  rw [if_pos (by omega)]
  simp
theorem mk_nat {n : Nat} (h : n ≤ 1099511627776) : mk (n : Int) (n : Int) = some n := by
  simp only [mk]
  rw [if_pos (by omega)]
  simp
theorem toIntS_eq (xs : List Int) (h : xs.length ≤ 1048576) : laws_toIntS xs = some xs := by
  have hl := nloop_run (body := fun (s : Int × (List Int)) => ((laws_toIntS_n3 xs s.1 s.2).map (Sum.elim (fun (t : Int × (List Int)) => Sum.inl (t.1, t.2)) (fun (t : (List Int)) => Sum.inr t)) : Option ((Int × (List Int)) ⊕ (((List Int))))))
    (I := fun s => ∃ k : Nat, s.1 = k ∧ k ≤ xs.length ∧ s.2.length = xs.length) (μ := fun s => xs.length - s.1.toNat) (f := fun s => s.2.take s.1.toNat ++ xs.drop s.1.toNat)
    (by
      rintro ⟨_, out⟩ ⟨k, rfl, hk, ho⟩
      simp only at ho
      by_cases hlt : k < xs.length
      · left
        refine ⟨((k + 1 : Nat), out.set k xs[k]), ?_, ⟨k + 1, rfl, hlt, by simpa using ho⟩, by simp; omega, ?_⟩
        · simp only [laws_toIntS_n3]
          rw [show decide ((k : Int) < ((xs.length : Nat) : Int)) = true from decide_eq_true (by omega)]
          simp only [cond_true, idx_lt hlt, Option.bind_some, inb_nat (show k < out.length by omega)]
          rw [wrap64 (by omega) (by omega)]
          simp
        · simp only [Int.toNat_natCast]
          rw [List.take_set, List.take_add_one, List.getElem?_eq_getElem (by omega)]
          have hl : (out.take k).length = k := by simp; omega
          rw [List.set_append_right _ _ (by omega), hl]
          simp
      · right
        have e : k = xs.length := by omega
        subst e
        simp only [laws_toIntS_n3]
        rw [show decide (((xs.length : Nat) : Int) < ((xs.length : Nat) : Int)) = false from decide_eq_false (by omega)]
        simp [List.take_of_length_le (Nat.le_of_eq ho)])
  unfold laws_toIntS laws_toIntS_n9 laws_toIntS_n1 laws_toIntS_n8 laws_toIntS_n6 laws_toIntS_n2 laws_toIntS_n5 laws_toIntS_n4 laws_toIntS_n7
  rw [mk_nat (by omega)]
  simp only [Option.bind_some]
  rw [hl LL (0, List.replicate xs.length 0) ⟨0, by simp, by omega, by simp⟩ (by simp only [LL]; simp; omega)]
  simp

theorem drop_cons {α : Type} {xs : List α} {k : Nat} (h : k < xs.length) : xs.drop k = xs[k] :: xs.drop (k + 1) := List.drop_eq_getElem_cons h

theorem drop_beq {xs ys : List Int} {k : Nat} (h1 : k < xs.length) (h2 : k < ys.length) : (xs.drop k == ys.drop k) = (xs[k] == ys[k] && xs.drop (k + 1) == ys.drop (k + 1)) := by
  rw [drop_cons h1, drop_cons h2]
  rfl

theorem eqIntS_eq (xs ys : List Int) (h : xs.length ≤ 1048576) : laws_eqIntS xs ys = some (xs == ys) := by
  unfold laws_eqIntS laws_eqIntS_n9 laws_eqIntS_n1 laws_eqIntS_n8 laws_eqIntS_n6 laws_eqIntS_n5 laws_eqIntS_n4 laws_eqIntS_n2 laws_eqIntS_n7
  by_cases hl : xs.length = ys.length
  · have hloop := nloop_run (body := fun (s : Int) => ((laws_eqIntS_n3 xs ys s).map (Sum.elim (fun (t : Int) => Sum.inl t) (Sum.elim (fun (t : Bool) => Sum.inr (Sum.inl t)) (fun (t : Unit) => Sum.inr (Sum.inr t)))) : Option ((Int) ⊕ (Bool ⊕ Unit))))
      (I := fun s => ∃ k : Nat, s = k ∧ k ≤ xs.length) (μ := fun s => xs.length - s.toNat) (f := fun s => cond (xs.drop s.toNat == ys.drop s.toNat) (.inr ()) (.inl false))
      (by
        rintro _ ⟨k, rfl, hk⟩
        by_cases hlt : k < xs.length
        · have hlt' : k < ys.length := by omega
          simp only [laws_eqIntS_n3]
          rw [show decide ((k : Int) < ((xs.length : Nat) : Int)) = true from decide_eq_true (by omega)]
          simp only [cond_true, idx_lt hlt, idx_lt hlt', Option.bind_some, Int.toNat_natCast]
          rw [wrap64 (by omega) (by omega), drop_beq hlt hlt']
          by_cases he : xs[k] = ys[k]
          · left
            refine ⟨((k + 1 : Nat) : Int), by simp [he], ⟨k + 1, rfl, hlt⟩, by simp; omega, by simp [he]⟩
          · right
            have e1 : (xs[k] == ys[k]) = false := by simpa using he
            simp [bne, e1]
        · right
          have e : k = xs.length := by omega
          subst e
          simp only [laws_eqIntS_n3]
          rw [show decide (((xs.length : Nat) : Int) < ((xs.length : Nat) : Int)) = false from decide_eq_false (by omega)]
          simp [List.drop_of_length_le (Nat.le_of_eq hl.symm)])
    rw [show ((((xs.length : Nat) : Int)) != (((ys.length : Nat) : Int))) = false by simp [hl]]
    simp only [cond_false, Option.bind_some, Sum.elim_inl]
    rw [hloop LL 0 ⟨0, by simp, by omega⟩ (by simp only [LL]; simp; omega)]
    simp only [Int.toNat_zero, List.drop_zero]
    cases xs == ys <;> rfl
  · rw [show ((((xs.length : Nat) : Int)) != (((ys.length : Nat) : Int))) = true by simp; omega]
    have : (xs == ys) = false := by
      rw [beq_eq_false_iff_ne]
      exact fun e => hl (by rw [e])
    rw [this]; rfl

theorem l1In_eq (a b c : Int) : spec_l1In a b c = some (decide (b ≤ a) && decide (a ≤ c)) := by
  unfold spec_l1In spec_l1In_n1
  by_cases h : a ≥ b
  · have e : decide (a ≥ b) = true := decide_eq_true h
    rw [e]; rfl
  · have e : decide (a ≥ b) = false := decide_eq_false h
    rw [e]; rfl

theorem nloop_to {σ ω : Type} {body : σ → Option (σ ⊕ ω)} (S : Nat → σ) (n : Nat) (w : ω) (hs : ∀ k, k < n → body (S k) = some (.inl (S (k + 1)))) (he : body (S n) = some (.inr w)) :
    ∀ (N : Nat), n < N → nloop body N (S 0) = some w := by
  have key : ∀ (m k N : Nat), k + m = n → m < N → nloop body N (S k) = some w := by
    intro m
    induction m with
    | zero =>
      intro k N hk hN
      obtain ⟨N', rfl⟩ : ∃ N', N = N' + 1 := ⟨N - 1, by omega⟩
      have : k = n := by omega
      subst this
      simp only [nloop, he, Option.bind_some]
    | succ m ih =>
      intro k N hk hN
      obtain ⟨N', rfl⟩ : ∃ N', N = N' + 1 := ⟨N - 1, by omega⟩
      simp only [nloop, hs k (by omega), Option.bind_some]
      exact ih (k + 1) N' (by omega) (by omega)
  intro N hN
  exact key n 0 N (by omega) hN

/-- A loop that stops at the first place where p does not hold. -/
theorem nloop_while {σ ω : Type} {body : σ → Option (σ ⊕ ω)} (S : Nat → σ) (n : Nat) (p : Nat → Bool) (w : Bool → ω) (hs : ∀ k, k < n → p k = true → body (S k) = some (.inl (S (k + 1))))
    (hb : ∀ k, k < n → p k = false → body (S k) = some (.inr (w false))) (he : body (S n) = some (.inr (w true))) (N : Nat) (hN : n < N) :
    nloop body N (S 0) = some (w ((List.range n).all p)) := by
  have key : ∀ (m k N : Nat), k + m = n → m < N → nloop body N (S k) = some (w ((List.range' k m).all p)) := by
    intro m
    induction m with
    | zero =>
      intro k N hk hN
      obtain ⟨N', rfl⟩ : ∃ N', N = N' + 1 := ⟨N - 1, by omega⟩
      have : k = n := by omega
      subst this
      simp only [nloop, he, Option.bind_some]
      rfl
    | succ m ih =>
      intro k N hk hN
      obtain ⟨N', rfl⟩ : ∃ N', N = N' + 1 := ⟨N - 1, by omega⟩
      rw [List.range'_succ, List.all_cons]
      cases hp : p k with
      | false => simp only [nloop, hb k (by omega) hp, Option.bind_some, Bool.false_and]
      | true =>
        simp only [nloop, hs k (by omega) hp, Option.bind_some, Bool.true_and]
        exact ih (k + 1) N' (by omega) (by omega)
  rw [List.range_eq_range']
  exact key n 0 N (by omega) hN

theorem nloop_ex {σ ω : Type} {body : σ → Option (σ ⊕ ω)} (I : σ → Prop) (μ : σ → Nat) (Q : ω → Prop)
    (h : ∀ s, I s → (∃ s', body s = some (.inl s') ∧ I s' ∧ μ s' < μ s) ∨ (∃ o, body s = some (.inr o) ∧ Q o)) : ∀ (n : Nat) (s : σ), I s → μ s < n → ∃ o, nloop body n s = some o ∧ Q o
  | 0, s, _, hn => by omega
  | n + 1, s, hi, hn => by
    rcases h s hi with ⟨s', hb, hi', hm⟩ | ⟨o, hb, hq⟩
    · simp only [nloop, hb, Option.bind_some]
      exact nloop_ex I μ Q h n s' hi' (by omega)
    · simp only [nloop, hb, Option.bind_some]
      exact ⟨o, rfl, hq⟩

def tot (l : List (List Int)) : Nat := (l.map List.length).sum
theorem tot_snoc (l : List (List Int)) (r : List Int) : tot (l ++ [r]) = tot l + r.length := by unfold tot; simp
theorem tot_take {S : List (List Int)} {k : Nat} (h : k < S.length) : tot (S.take (k + 1)) = tot (S.take k) + S[k].length := by
  rw [List.take_add_one, List.getElem?_eq_getElem h]
  exact tot_snoc _ _
theorem tot_le (S : List (List Int)) : ∀ k, tot (S.take k) ≤ tot S := fun k => by
  have : tot S = tot (S.take k) + tot (S.drop k) := by
    unfold tot
    rw [← List.sum_append, ← List.map_append, List.take_append_drop]
  omega
def szT (S : List (List Int)) : Nat := S.length + tot S

theorem row_le {S : List (List Int)} {k : Nat} (h : k < S.length) : S[k].length ≤ tot S := by
  have := tot_take h
  have := tot_le S (k + 1)
  omega

theorem szSS (S : List (List Int)) (l : S.length ≤ maxLen) (l2 : ∀ r ∈ S, r.length ≤ maxLen) : ∃ v, laws_szIntSS S 1048576 = some v ∧ (v < 0 ∨ (0 ≤ v ∧ szT S ≤ 1048576)) := by
  have mx : maxLen = 9223372036854775807 := rfl
  have e : laws_szIntSS S 1048576 = laws_szIntSS_n9 S 1048576 := by unfold laws_szIntSS; rfl
  rw [e]
  unfold laws_szIntSS_n9 laws_szIntSS_n1
  rw [wrap64 (by omega) (by omega)]
  by_cases n : (1048576 : Int) - ((S.length : Nat) : Int) < 0
  · rw [decide_eq_true n]
    exact ⟨-1, rfl, .inl (by omega)⟩
  · rw [decide_eq_false n]
    have ex := nloop_ex (body := fun (s : Int × Int) => ((laws_szIntSS_n3 S s.1 s.2).map (Sum.elim (fun (t : Int × Int) => Sum.inl (t.1, t.2)) (Sum.elim (fun (t : Int) => Sum.inr (Sum.inl t)) (fun (t : Int) => Sum.inr (Sum.inr t)))) : Option ((Int × Int) ⊕ (Int ⊕ Int))))
      (I := fun t => ∃ k : Nat, k ≤ S.length ∧ t.2 = (k : Int) ∧ t.1 = 1048576 - ((S.length + tot (S.take k) : Nat) : Int) ∧ 0 ≤ t.1)
      (μ := fun t => S.length - t.2.toNat) (Q := fun r => r = Sum.inl (-1) ∨ ∃ v : Int, r = Sum.inr v ∧ 0 ≤ v ∧ szT S ≤ 1048576)
      (by
        rintro ⟨b, i⟩ ⟨k, hk, ei, eb, b0⟩
        simp only at ei eb b0
        subst ei
        simp only [laws_szIntSS_n3]
        by_cases lt : k < S.length
        · have w : IntKind.wrap .i64 ((k : Int) + 1) = ((k + 1 : Nat) : Int) := by rw [wrap64 (by omega) (by omega)]; omega
          have rl := l2 S[k] (List.getElem_mem lt)
          have tt := tot_take lt
          rw [decide_eq_true (show (k : Int) < ((S.length : Nat) : Int) by omega), idx_lt lt, w]
          simp only [cond_true, Option.bind_some, laws_szIntS, laws_szIntS_n1]
          rw [wrap64 (by omega) (by omega)]
          by_cases q : b - ((S[k].length : Nat) : Int) < 0
          · right
            rw [decide_eq_true q]
            exact ⟨_, rfl, .inl rfl⟩
          · left
            rw [decide_eq_false q]
            simp only [cond_false, Option.bind_some]
            rw [decide_eq_false q]
            exact ⟨(b - ((S[k].length : Nat) : Int), ((k + 1 : Nat) : Int)), rfl, ⟨k + 1, lt, rfl, by simp only; omega, by simp only; omega⟩, by simp only [Int.toNat_natCast]; omega⟩
        · right
          have : k = S.length := by omega
          subst this
          rw [decide_eq_false (show ¬ ((S.length : Nat) : Int) < ((S.length : Nat) : Int) by omega)]
          rw [List.take_of_length_le (Nat.le_refl _)] at eb
          exact ⟨_, rfl, .inr ⟨b, rfl, b0, by unfold szT; omega⟩⟩) LL (1048576 - ((S.length : Nat) : Int), 0) ⟨0, by omega, rfl, by simp [tot], by simp only; omega⟩ (by simp only [LL]; omega)
    obtain ⟨r, hr, R⟩ := ex
    simp only [cond_false, Option.bind_some, Sum.elim_inl, laws_szIntSS_n8, laws_szIntSS_n6, laws_szIntSS_n2, laws_szIntSS_n5, laws_szIntSS_n4]
    rw [hr]
    rcases R with rfl | ⟨v, rfl, v0, sz⟩
    · exact ⟨-1, rfl, .inl (by omega)⟩
    · exact ⟨v, rfl, .inr ⟨v0, sz⟩⟩

section
variable {S : List (List Int)} (sz : szT S ≤ 1048576)
include sz

theorem toIntSS_eq : laws_toIntSS S = some S := by
  have e : laws_toIntSS S = laws_toIntSS_n9 S := by unfold laws_toIntSS; rfl
  have s1 : S.length ≤ 1048576 := by unfold szT at sz; omega
  rw [e]
  unfold laws_toIntSS_n9 laws_toIntSS_n1 laws_toIntSS_n8 laws_toIntSS_n6 laws_toIntSS_n2 laws_toIntSS_n5 laws_toIntSS_n4 laws_toIntSS_n7
  rw [mk_nat (by omega)]
  have lp := nloop_to (body := fun (s : Int × (List (List Int))) => ((laws_toIntSS_n3 S s.1 s.2).map (Sum.elim (fun (t : Int × (List (List Int))) => Sum.inl (t.1, t.2)) (fun (t : (List (List Int))) => Sum.inr t)) : Option ((Int × (List (List Int))) ⊕ (((List (List Int)))))))
    (fun k => ((k : Int), S.take k ++ List.replicate (S.length - k) [])) S.length S
    (by
      intro k hk
      have rl := row_le hk
      have w : IntKind.wrap .i64 ((k : Int) + 1) = ((k + 1 : Nat) : Int) := by rw [wrap64 (by omega) (by omega)]; omega
      have lt : (S.take k).length = k := by rw [List.length_take]; omega
      have len : (S.take k ++ List.replicate (S.length - k) ([] : List Int)).length = S.length := by rw [List.length_append, lt, List.length_replicate]; omega
      simp only [laws_toIntSS_n3]
      rw [decide_eq_true (show (k : Int) < ((S.length : Nat) : Int) by omega), idx_lt hk, w]
      simp only [cond_true, Option.bind_some]
      rw [toIntS_eq S[k] (by unfold szT at sz; omega), len, inb_nat hk]
      simp only [Option.bind_some, within]
      try rw [if_pos hk]
      simp only [Option.bind_some, Option.map_some, Sum.elim_inl]
      congr 3
      rw [List.set_append_right _ _ (by omega), lt, Nat.sub_self, show S.length - k = (S.length - (k + 1)) + 1 by omega, List.replicate_succ, List.set_cons_zero, List.take_add_one, List.getElem?_eq_getElem hk, List.append_assoc]
      rfl)
    (by
      simp only [laws_toIntSS_n3]
      rw [decide_eq_false (show ¬ ((S.length : Nat) : Int) < ((S.length : Nat) : Int) by omega)]
      simp) LL (by simp only [LL]; omega)
  have lp' := lp
  rw [List.take_zero, Nat.sub_zero, List.nil_append, show ((0 : Nat) : Int) = 0 from rfl] at lp'
  simp only [Option.bind_some]
  rw [lp']
  rfl

theorem eqIntSS_refl : laws_eqIntSS S S = some true := by
  have e : laws_eqIntSS S S = laws_eqIntSS_n9 S S := by unfold laws_eqIntSS; rfl
  have s1 : S.length ≤ 1048576 := by unfold szT at sz; omega
  rw [e]
  unfold laws_eqIntSS_n9 laws_eqIntSS_n1 laws_eqIntSS_n8 laws_eqIntSS_n6 laws_eqIntSS_n2 laws_eqIntSS_n5 laws_eqIntSS_n4 laws_eqIntSS_n7
  have lp := nloop_to (body := fun (s : Int) => ((laws_eqIntSS_n3 S S s).map (Sum.elim (fun (t : Int) => Sum.inl t) (Sum.elim (fun (t : Bool) => Sum.inr (Sum.inl t)) (fun (t : Unit) => Sum.inr (Sum.inr t)))) : Option ((Int) ⊕ (Bool ⊕ Unit))))
    (fun k => (k : Int)) S.length (Sum.inr ())
    (by
      intro k hk
      have rl := row_le hk
      have w : IntKind.wrap .i64 ((k : Int) + 1) = ((k + 1 : Nat) : Int) := by rw [wrap64 (by omega) (by omega)]; omega
      simp only [laws_eqIntSS_n3]
      rw [decide_eq_true (show (k : Int) < ((S.length : Nat) : Int) by omega), idx_lt hk, w]
      simp only [cond_true, Option.bind_some]
      rw [eqIntS_eq S[k] S[k] (by unfold szT at sz; omega)]
      simp)
    (by
      simp only [laws_eqIntSS_n3]
      rw [decide_eq_false (show ¬ ((S.length : Nat) : Int) < ((S.length : Nat) : Int) by omega)]
      rfl) LL (by simp only [LL]; omega)
  have lp' := lp
  rw [show ((0 : Nat) : Int) = 0 from rfl] at lp'
  simp only [bne_self_eq_false, cond_false, Option.bind_some, Sum.elim_inl]
  rw [lp']
  rfl

end

def okRow (n : Nat) (r : List Int) : Bool := r.length == n + 1 && (List.range r.length).all fun j => decide (0 ≤ r.getD j 0) && decide (r.getD j 0 ≤ 20)
def okB (S : List (List Int)) : Bool := ((List.range S.length).all fun k => okRow S.length (S.getD k [])) && (decide (1 ≤ S.length) && decide (S.length ≤ 5))

theorem idx_getD {α : Type} {l : List α} {k : Nat} (h : k < l.length) (d : α) : idx l (k : Int) = some (l.getD k d) := by
  rw [idx_nat, List.getD_eq_getElem?_getD, List.getElem?_eq_getElem h, Option.getD_some]

theorem okRow_loop {S : List (List Int)} {k : Nat} (hk : k < S.length) (hl : (S.getD k []).length ≤ 10000000) :
    spec_ScoresOk_n6 S (k : Int) = some (if ((List.range (S.getD k []).length).all fun j => decide (0 ≤ (S.getD k []).getD j 0) && decide ((S.getD k []).getD j 0 ≤ 20)) = true then Sum.inr () else Sum.inl false) := by
  unfold spec_ScoresOk_n6
  have lp := nloop_while (body := fun (s : Int) => ((spec_ScoresOk_n5 S (k : Int) s).map (Sum.elim (fun (t : Int) => Sum.inl t) (Sum.elim (fun (t : Bool) => Sum.inr (Sum.inl t)) (fun (t : Unit) => Sum.inr (Sum.inr t)))) : Option ((Int) ⊕ (Bool ⊕ Unit))))
    (fun j => (j : Int)) (S.getD k []).length (fun j => decide (0 ≤ (S.getD k []).getD j 0) && decide ((S.getD k []).getD j 0 ≤ 20)) (fun b => if b = true then Sum.inr () else Sum.inl false)
    (by
      intro j hj p
      have w : IntKind.wrap .i64 ((j : Int) + 1) = ((j + 1 : Nat) : Int) := by rw [wrap64 (by omega) (by omega)]; omega
      simp only [spec_ScoresOk_n5]
      rw [idx_getD hk []]
      simp only [Option.bind_some]
      rw [decide_eq_true (show (j : Int) < (((S.getD k []).length : Nat) : Int) by omega), idx_getD hj 0]
      simp only [cond_true, Option.bind_some, l1In_eq]
      rw [p, w]
      rfl)
    (by
      intro j hj p
      simp only [spec_ScoresOk_n5]
      rw [idx_getD hk []]
      simp only [Option.bind_some]
      rw [decide_eq_true (show (j : Int) < (((S.getD k []).length : Nat) : Int) by omega), idx_getD hj 0]
      simp only [cond_true, Option.bind_some, l1In_eq]
      rw [p]
      rfl)
    (by
      simp only [spec_ScoresOk_n5]
      rw [idx_getD hk []]
      simp only [Option.bind_some]
      rw [decide_eq_false (show ¬ (((S.getD k []).length : Nat) : Int) < (((S.getD k []).length : Nat) : Int) by omega)]
      rfl) LL (by simp only [LL]; omega)
  exact lp

theorem specScores_eq (S : List (List Int)) (hl : S.length ≤ 1048576) : spec_ScoresOk S = some (okB S) := by
  have e : spec_ScoresOk S = spec_ScoresOk_n18 S := by unfold spec_ScoresOk; rfl
  rw [e]
  unfold spec_ScoresOk_n18 spec_ScoresOk_n1 spec_ScoresOk_n17 spec_ScoresOk_n15 spec_ScoresOk_n2 spec_ScoresOk_n14 spec_ScoresOk_n13
  have w1 : IntKind.wrap .i64 (((S.length : Nat) : Int) + 1) = ((S.length + 1 : Nat) : Int) := by rw [wrap64 (by omega) (by omega)]; omega
  have step : ∀ k, k < S.length → spec_ScoresOk_n12 S (k : Int) = some (if okRow S.length (S.getD k []) = true then Sum.inl ((k + 1 : Nat) : Int) else Sum.inr (Sum.inl false)) := fun k hk => by
    have w : IntKind.wrap .i64 ((k : Int) + 1) = ((k + 1 : Nat) : Int) := by rw [wrap64 (by omega) (by omega)]; omega
    simp only [spec_ScoresOk_n12, spec_ScoresOk_n3, spec_ScoresOk_n11, spec_ScoresOk_n9, spec_ScoresOk_n8, spec_ScoresOk_n4, spec_ScoresOk_n7, spec_ScoresOk_n10, w, w1]
    rw [decide_eq_true (show (k : Int) < ((S.length : Nat) : Int) by omega), idx_getD hk []]
    simp only [cond_true, Option.bind_some, Sum.elim_inl]
    unfold okRow
    by_cases q : (S.getD k []).length = S.length + 1
    · rw [show ((((S.getD k []).length : Nat) : Int) != ((S.length + 1 : Nat) : Int)) = false by rw [q]; simp, beq_iff_eq.mpr q, Bool.true_and, okRow_loop hk (show (S.getD k []).length ≤ 10000000 by rw [q]; omega)]
      cases (List.range (S.getD k []).length).all fun j => decide (0 ≤ (S.getD k []).getD j 0) && decide ((S.getD k []).getD j 0 ≤ 20) <;> rfl
    · rw [show ((((S.getD k []).length : Nat) : Int) != ((S.length + 1 : Nat) : Int)) = true from bne_iff_ne.mpr (fun z => q (by omega)), beq_eq_false_iff_ne.mpr q, Bool.false_and]
      rfl
  have lp := nloop_while (body := fun (s : Int) => ((spec_ScoresOk_n12 S s).map (Sum.elim (fun (t : Int) => Sum.inl t) (Sum.elim (fun (t : Bool) => Sum.inr (Sum.inl t)) (fun (t : Unit) => Sum.inr (Sum.inr t)))) : Option ((Int) ⊕ (Bool ⊕ Unit))))
    (fun k => (k : Int)) S.length (fun k => okRow S.length (S.getD k [])) (fun b => if b = true then Sum.inr () else Sum.inl false)
    (by
      intro k hk p
      simp only [step k hk]
      rw [p]
      rfl)
    (by
      intro k hk p
      simp only [step k hk]
      rw [p]
      rfl)
    (by
      simp only [spec_ScoresOk_n12, spec_ScoresOk_n3]
      rw [decide_eq_false (show ¬ ((S.length : Nat) : Int) < ((S.length : Nat) : Int) by omega)]
      rfl) LL (by simp only [LL]; omega)
  have lp' := lp
  rw [show ((0 : Nat) : Int) = 0 from rfl] at lp'
  simp only [Option.bind_some]
  rw [lp']
  unfold okB
  cases (List.range S.length).all fun k => okRow S.length (S.getD k []) with
  | false => rfl
  | true =>
    simp only [if_true, Option.map_some, Sum.elim_inr, Option.bind_some, Sum.elim_inl, spec_ScoresOk_n16, l1In_eq, Bool.true_and]
    congr 2
    · rw [Bool.eq_iff_iff]; simp only [decide_eq_true_eq]; omega
    · rw [Bool.eq_iff_iff]; simp only [decide_eq_true_eq]; omega

theorem imax_le {a b : Int} : a ≤ imax a b ∧ b ≤ imax a b ∧ (imax a b = a ∨ imax a b = b) := by
  unfold imax
  split <;> omega

/-- The least of a row. -/
theorem min_ok {r : List Int} (h0 : 0 < r.length) (hl : r.length ≤ 1048576) : ∃ m, slices_Min_int_int r = some m ∧ m ∈ r ∧ ∀ x ∈ r, m ≤ x := by
  have e : slices_Min_int_int r = slices_Min_int_int_n9 r := by unfold slices_Min_int_int; rfl
  rw [e]
  unfold slices_Min_int_int_n9 slices_Min_int_int_n1 slices_Min_int_int_n8 slices_Min_int_int_n6 slices_Min_int_int_n2 slices_Min_int_int_n5 slices_Min_int_int_n4 slices_Min_int_int_n7
  rw [decide_eq_false (show ¬ ((r.length : Nat) : Int) < 1 by omega), show (0 : Int) = ((0 : Nat) : Int) from rfl, idx_lt h0]
  simp only [cond_false, Option.bind_some]
  have ex := nloop_ex (body := fun (s : Int × Int) => ((slices_Min_int_int_n3 r s.1 s.2).map (Sum.elim (fun (t : Int × Int) => Sum.inl (t.1, t.2)) (fun (t : Int) => Sum.inr t)) : Option ((Int × Int) ⊕ (Int))))
    (I := fun t => ∃ k : Nat, t.2 = (k : Int) ∧ 1 ≤ k ∧ k ≤ r.length ∧ t.1 ∈ r ∧ ∀ j (hj : j < r.length), j < k → t.1 ≤ r[j])
    (μ := fun t => r.length - t.2.toNat) (Q := fun m => m ∈ r ∧ ∀ x ∈ r, m ≤ x)
    (by
      rintro ⟨m, kk⟩ ⟨k, ek, h1, hk, hm, up⟩
      simp only at ek hm up
      subst ek
      simp only [slices_Min_int_int_n3]
      by_cases lt : k < r.length
      · left
        have w : IntKind.wrap .i64 ((k : Int) + 1) = ((k + 1 : Nat) : Int) := by rw [wrap64 (by omega) (by omega)]; omega
        rw [decide_eq_true (show (k : Int) < ((r.length : Nat) : Int) by omega), idx_lt lt, w]
        have im : imin m r[k] ≤ m ∧ imin m r[k] ≤ r[k] ∧ (imin m r[k] = m ∨ imin m r[k] = r[k]) := by
          unfold imin
          split <;> omega
        refine ⟨(imin m r[k], ((k + 1 : Nat) : Int)), rfl, ⟨k + 1, rfl, by omega, lt, ?_, fun j hj hjk => ?_⟩, by simp only [Int.toNat_natCast]; omega⟩
        · rcases im.2.2 with q | q
          · simp only [q]; exact hm
          · simp only [q]; exact List.getElem_mem lt
        · by_cases q : j = k
          · subst q; exact im.2.1
          · exact Int.le_trans im.1 (up j hj (by omega))
      · right
        have : k = r.length := by omega
        subst this
        rw [decide_eq_false (show ¬ ((r.length : Nat) : Int) < ((r.length : Nat) : Int) by omega)]
        refine ⟨m, rfl, hm, fun x hx => ?_⟩
        obtain ⟨j, hj, e⟩ := List.mem_iff_getElem.mp hx
        exact e ▸ up j hj hj) LL (r[0], 1) ⟨1, rfl, by omega, by omega, List.getElem_mem h0, fun j hj hj1 => by
          have : j = 0 := by omega
          subst this
          exact Int.le_refl _⟩ (by simp only [LL]; omega)
  obtain ⟨m, hm, q⟩ := ex
  rw [hm]
  exact ⟨m, rfl, q⟩

/-- The greatest of a row. -/
theorem max_ok {r : List Int} (h0 : 0 < r.length) (hl : r.length ≤ 1048576) : ∃ m, slices_Max_int_int r = some m ∧ m ∈ r ∧ ∀ x ∈ r, x ≤ m := by
  have e : slices_Max_int_int r = slices_Max_int_int_n9 r := by unfold slices_Max_int_int; rfl
  rw [e]
  unfold slices_Max_int_int_n9 slices_Max_int_int_n1 slices_Max_int_int_n8 slices_Max_int_int_n6 slices_Max_int_int_n2 slices_Max_int_int_n5 slices_Max_int_int_n4 slices_Max_int_int_n7
  rw [decide_eq_false (show ¬ ((r.length : Nat) : Int) < 1 by omega), show (0 : Int) = ((0 : Nat) : Int) from rfl, idx_lt h0]
  simp only [cond_false, Option.bind_some]
  have ex := nloop_ex (body := fun (s : Int × Int) => ((slices_Max_int_int_n3 r s.1 s.2).map (Sum.elim (fun (t : Int × Int) => Sum.inl (t.1, t.2)) (fun (t : Int) => Sum.inr t)) : Option ((Int × Int) ⊕ (Int))))
    (I := fun t => ∃ k : Nat, t.2 = (k : Int) ∧ 1 ≤ k ∧ k ≤ r.length ∧ t.1 ∈ r ∧ ∀ j (hj : j < r.length), j < k → r[j] ≤ t.1)
    (μ := fun t => r.length - t.2.toNat) (Q := fun m => m ∈ r ∧ ∀ x ∈ r, x ≤ m)
    (by
      rintro ⟨m, kk⟩ ⟨k, ek, h1, hk, hm, up⟩
      simp only at ek hm up
      subst ek
      simp only [slices_Max_int_int_n3]
      by_cases lt : k < r.length
      · left
        have w : IntKind.wrap .i64 ((k : Int) + 1) = ((k + 1 : Nat) : Int) := by rw [wrap64 (by omega) (by omega)]; omega
        rw [decide_eq_true (show (k : Int) < ((r.length : Nat) : Int) by omega), idx_lt lt, w]
        have im := imax_le (a := m) (b := r[k])
        refine ⟨(imax m r[k], ((k + 1 : Nat) : Int)), rfl, ⟨k + 1, rfl, by omega, lt, ?_, fun j hj hjk => ?_⟩, by simp only [Int.toNat_natCast]; omega⟩
        · rcases im.2.2 with q | q
          · simp only [q]; exact hm
          · simp only [q]; exact List.getElem_mem lt
        · by_cases q : j = k
          · subst q; exact im.2.1
          · exact Int.le_trans (up j hj (by omega)) im.1
      · right
        have : k = r.length := by omega
        subst this
        rw [decide_eq_false (show ¬ ((r.length : Nat) : Int) < ((r.length : Nat) : Int) by omega)]
        refine ⟨m, rfl, hm, fun x hx => ?_⟩
        obtain ⟨j, hj, e⟩ := List.mem_iff_getElem.mp hx
        exact e ▸ up j hj hj) LL (r[0], 1) ⟨1, rfl, by omega, by omega, List.getElem_mem h0, fun j hj hj1 => by
          have : j = 0 := by omega
          subst this
          exact Int.le_refl _⟩ (by simp only [LL]; omega)
  obtain ⟨m, hm, q⟩ := ex
  rw [hm]
  exact ⟨m, rfl, q⟩

theorem okRow_iff {n : Nat} {r : List Int} (h : r.length = n + 1) : okRow n r = true ↔ ∀ x ∈ r, 0 ≤ x ∧ x ≤ 20 := by
  unfold okRow
  rw [Bool.and_eq_true, beq_iff_eq, List.all_eq_true]
  constructor
  · rintro ⟨_, a⟩ x hx
    obtain ⟨j, hj, e⟩ := List.mem_iff_getElem.mp hx
    have := a j (List.mem_range.mpr hj)
    rw [List.getD_eq_getElem?_getD, List.getElem?_eq_getElem hj, Option.getD_some, e, Bool.and_eq_true, decide_eq_true_eq, decide_eq_true_eq] at this
    exact this
  · intro a
    refine ⟨h, fun j hj => ?_⟩
    have hj := List.mem_range.mp hj
    have := a r[j] (List.getElem_mem hj)
    rw [List.getD_eq_getElem?_getD, List.getElem?_eq_getElem hj, Option.getD_some, Bool.and_eq_true, decide_eq_true_eq, decide_eq_true_eq]
    exact this

theorem implRow_eq {n : Nat} (hn : n ≤ 5) (r : List Int) (hl : r.length ≤ 1048576) : impl_scoreRowOk r (n : Int) = some (okRow n r) := by
  have e : impl_scoreRowOk r (n : Int) = impl_scoreRowOk_n1 r (n : Int) := by unfold impl_scoreRowOk; rfl
  rw [e]
  unfold impl_scoreRowOk_n1
  have w : IntKind.wrap .i64 ((n : Int) + 1) = ((n + 1 : Nat) : Int) := by rw [wrap64 (by omega) (by omega)]; omega
  rw [w]
  by_cases q : r.length = n + 1
  · rw [show (((r.length : Nat) : Int) == ((n + 1 : Nat) : Int)) = true by rw [q]; simp]
    obtain ⟨m, hm, m1, m2⟩ := min_ok (r := r) (by omega) hl
    obtain ⟨M, hM, M1, M2⟩ := max_ok (r := r) (by omega) hl
    simp only [cond_true, hm, Option.bind_some, hM]
    by_cases a : 0 ≤ m
    · rw [decide_eq_true (show m ≥ 0 from a)]
      simp only [cond_true]
      congr 1
      by_cases b : M ≤ 20
      · rw [decide_eq_true b, eq_comm, okRow_iff q]
        intro x hx
        have := m2 x hx
        have := M2 x hx
        omega
      · rw [decide_eq_false b, eq_comm, Bool.eq_false_iff, ne_eq, okRow_iff q]
        intro h
        exact b (h M M1).2
    · rw [decide_eq_false (show ¬ m ≥ 0 from a)]
      simp only [cond_false]
      congr 1
      rw [eq_comm, Bool.eq_false_iff, ne_eq, okRow_iff q]
      intro h
      exact a (h m m1).1
  · rw [show (((r.length : Nat) : Int) == ((n + 1 : Nat) : Int)) = false by rw [beq_eq_false_iff_ne]; omega]
    unfold okRow
    rw [beq_eq_false_iff_ne.mpr q]
    rfl

theorem implScores_eq (S : List (List Int)) (sz : szT S ≤ 1048576) : impl_ScoresOk S = some (okB S) := by
  have e : impl_ScoresOk S = impl_ScoresOk_n9 S := by unfold impl_ScoresOk; rfl
  rw [e]
  unfold impl_ScoresOk_n9 impl_ScoresOk_n1 impl_ScoresOk_n8 impl_ScoresOk_n6 impl_ScoresOk_n2 impl_ScoresOk_n5 impl_ScoresOk_n4 impl_ScoresOk_n7 okB
  by_cases l1 : S.length < 1
  · rw [decide_eq_true (show ((S.length : Nat) : Int) < 1 by omega), decide_eq_false (show ¬ 1 ≤ S.length by omega)]
    simp
  · by_cases l5 : S.length ≤ 5
    · rw [decide_eq_false (show ¬ ((S.length : Nat) : Int) < 1 by omega), decide_eq_false (show ¬ ((S.length : Nat) : Int) > 5 by omega), decide_eq_true (show 1 ≤ S.length by omega), decide_eq_true l5]
      have lp := nloop_while (body := fun (s : Int) => ((impl_ScoresOk_n3 S ((S.length : Nat) : Int) s).map (Sum.elim (fun (t : Int) => Sum.inl t) (Sum.elim (fun (t : Bool) => Sum.inr (Sum.inl t)) (fun (t : Unit) => Sum.inr (Sum.inr t)))) : Option ((Int) ⊕ (Bool ⊕ Unit))))
        (fun j => (j : Int)) S.length (fun k => okRow S.length (S.getD k [])) (fun b => if b = true then Sum.inr () else Sum.inl false)
        (by
          intro j hj p
          have w : IntKind.wrap .i64 ((j : Int) + 1) = ((j + 1 : Nat) : Int) := by rw [wrap64 (by omega) (by omega)]; omega
          have rl := row_le hj
          simp only [impl_ScoresOk_n3]
          rw [decide_eq_true (show (j : Int) < ((S.length : Nat) : Int) by omega), idx_getD hj []]
          simp only [cond_true, Option.bind_some]
          rw [implRow_eq l5 _ (by rw [List.getD_eq_getElem?_getD, List.getElem?_eq_getElem hj, Option.getD_some]; unfold szT at sz; omega), p, w]
          rfl)
        (by
          intro j hj p
          have rl := row_le hj
          simp only [impl_ScoresOk_n3]
          rw [decide_eq_true (show (j : Int) < ((S.length : Nat) : Int) by omega), idx_getD hj []]
          simp only [cond_true, Option.bind_some]
          rw [implRow_eq l5 _ (by rw [List.getD_eq_getElem?_getD, List.getElem?_eq_getElem hj, Option.getD_some]; unfold szT at sz; omega), p]
          rfl)
        (by
          simp only [impl_ScoresOk_n3]
          rw [decide_eq_false (show ¬ ((S.length : Nat) : Int) < ((S.length : Nat) : Int) by omega)]
          rfl) LL (by simp only [LL]; omega)
      have lp' := lp
      rw [show ((0 : Nat) : Int) = 0 from rfl] at lp'
      simp only [cond_false, Option.bind_some, Sum.elim_inl]
      rw [lp']
      cases c : (List.range S.length).all fun k => okRow S.length (S.getD k []) <;> rfl
    · rw [decide_eq_false (show ¬ ((S.length : Nat) : Int) < 1 by omega), decide_eq_true (show ((S.length : Nat) : Int) > 5 by omega), decide_eq_false l5]
      simp

end Go.Rv
