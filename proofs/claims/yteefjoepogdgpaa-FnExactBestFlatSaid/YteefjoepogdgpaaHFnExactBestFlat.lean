/-
  Plain mathematics of what the law reaches. Conditions: none.
-/
import Derived.Test.YteefjoepogdgpaaGFnExactBestFlat
set_option linter.unusedVariables false
set_option linter.unusedSimpArgs false
namespace Go.Rv
theorem nloop_run {σ ω : Type} {body : σ → Option (σ ⊕ ω)} (I : σ → Prop) (μ : σ → Nat) (f : σ → ω)
    (h : ∀ s, I s → (∃ s', body s = some (.inl s') ∧ I s' ∧ μ s' < μ s ∧ f s' = f s) ∨ body s = some (.inr (f s))) : ∀ (n : Nat) (s : σ), I s → μ s < n → nloop body n s = some (f s)
  | 0, s, _, hn => by omega
  | n + 1, s, hi, hn => by
    rcases h s hi with ⟨s', hb, hi', hm, hf⟩ | hb
    · simp only [nloop, hb, Option.bind_some]
      rw [nloop_run I μ f h n s' hi' (by omega), hf]
    · simp only [nloop, hb, Option.bind_some]

/-- A loop that counts from a number on: state (k, x), k < n goes on. -/
theorem wrap64 {x : Int} (h1 : -9223372036854775808 ≤ x) (h2 : x ≤ 9223372036854775807) : IntKind.wrap .i64 x = x := by
  simp only [IntKind.wrap, IntKind.bits, IntKind.signed]
  simp
  omega

theorem idx_nat {α : Type} (xs : List α) (k : Nat) : idx xs (k : Int) = xs[k]? := by simp [idx]
theorem idx_lt {α : Type} {xs : List α} {k : Nat} (h : k < xs.length) : idx xs (k : Int) = some xs[k] := by simp [idx, h]
theorem inb_nat {k n : Nat} (h : k < n) : inb (k : Int) n = some k := by
  simp only [inb]
  rw [if_pos (by omega)]
  simp
theorem mk_nat {n : Nat} (h : n ≤ 1099511627776) : mk (n : Int) (n : Int) = some n := by
  simp only [mk]
  rw [if_pos (by omega)]
  simp
theorem toIntS_eq (xs : List Int) (h : xs.length ≤ 1048576) : laws_toIntS xs = some xs := by
  have hl := nloop_run (body := fun (s : Int × (List Int)) => ((laws_toIntS_n3 xs s.1 s.2).map (Sum.elim (fun (t : Int × (List Int)) => Sum.inl (t.1, t.2)) (fun (t : (List Int)) => Sum.inr t)) : Option ((Int × (List Int)) ⊕ (((List Int))))))
    (I := fun s => ∃ k : Nat, s.1 = k ∧ k ≤ xs.length ∧ s.2.length = xs.length) (μ := fun s => xs.length - s.1.toNat) (f := fun s => s.2.take s.1.toNat ++ xs.drop s.1.toNat)
    (by
      rintro ⟨_, out⟩ ⟨k, rfl, hk, ho⟩
      simp only at ho
      by_cases hlt : k < xs.length
      · left
        refine ⟨((k + 1 : Nat), out.set k xs[k]), ?_, ⟨k + 1, rfl, hlt, by simpa using ho⟩, by simp; omega, ?_⟩
        · simp only [laws_toIntS_n3]
          rw [show decide ((k : Int) < ((xs.length : Nat) : Int)) = true from decide_eq_true (by omega)]
          simp only [cond_true, idx_lt hlt, Option.bind_some, inb_nat (show k < out.length by omega)]
          rw [wrap64 (by omega) (by omega)]
          simp
        · simp only [Int.toNat_natCast]
          rw [List.take_set, List.take_add_one, List.getElem?_eq_getElem (by omega)]
          have hl : (out.take k).length = k := by simp; omega
          rw [List.set_append_right _ _ (by omega), hl]
          simp
      · right
        have e : k = xs.length := by omega
        subst e
        simp only [laws_toIntS_n3]
        rw [show decide (((xs.length : Nat) : Int) < ((xs.length : Nat) : Int)) = false from decide_eq_false (by omega)]
        simp [List.take_of_length_le (Nat.le_of_eq ho)])
  unfold laws_toIntS laws_toIntS_n9 laws_toIntS_n1 laws_toIntS_n8 laws_toIntS_n6 laws_toIntS_n2 laws_toIntS_n5 laws_toIntS_n4 laws_toIntS_n7
  rw [mk_nat (by omega)]
  simp only [Option.bind_some]
  rw [hl LL (0, List.replicate xs.length 0) ⟨0, by simp, by omega, by simp⟩ (by simp only [LL]; simp; omega)]
  simp

theorem drop_cons {α : Type} {xs : List α} {k : Nat} (h : k < xs.length) : xs.drop k = xs[k] :: xs.drop (k + 1) := List.drop_eq_getElem_cons h

theorem drop_beq {xs ys : List Int} {k : Nat} (h1 : k < xs.length) (h2 : k < ys.length) : (xs.drop k == ys.drop k) = (xs[k] == ys[k] && xs.drop (k + 1) == ys.drop (k + 1)) := by
  rw [drop_cons h1, drop_cons h2]
  rfl

theorem eqIntS_eq (xs ys : List Int) (h : xs.length ≤ 1048576) : laws_eqIntS xs ys = some (xs == ys) := by
  unfold laws_eqIntS laws_eqIntS_n9 laws_eqIntS_n1 laws_eqIntS_n8 laws_eqIntS_n6 laws_eqIntS_n5 laws_eqIntS_n4 laws_eqIntS_n2 laws_eqIntS_n7
  by_cases hl : xs.length = ys.length
  · have hloop := nloop_run (body := fun (s : Int) => ((laws_eqIntS_n3 xs ys s).map (Sum.elim (fun (t : Int) => Sum.inl t) (Sum.elim (fun (t : Bool) => Sum.inr (Sum.inl t)) (fun (t : Unit) => Sum.inr (Sum.inr t)))) : Option ((Int) ⊕ (Bool ⊕ Unit))))
      (I := fun s => ∃ k : Nat, s = k ∧ k ≤ xs.length) (μ := fun s => xs.length - s.toNat) (f := fun s => cond (xs.drop s.toNat == ys.drop s.toNat) (.inr ()) (.inl false))
      (by
        rintro _ ⟨k, rfl, hk⟩
        by_cases hlt : k < xs.length
        · have hlt' : k < ys.length := by omega
          simp only [laws_eqIntS_n3]
          rw [show decide ((k : Int) < ((xs.length : Nat) : Int)) = true from decide_eq_true (by omega)]
          simp only [cond_true, idx_lt hlt, idx_lt hlt', Option.bind_some, Int.toNat_natCast]
          rw [wrap64 (by omega) (by omega), drop_beq hlt hlt']
          by_cases he : xs[k] = ys[k]
          · left
            refine ⟨((k + 1 : Nat) : Int), by simp [he], ⟨k + 1, rfl, hlt⟩, by simp; omega, by simp [he]⟩
          · right
            have e1 : (xs[k] == ys[k]) = false := by simpa using he
            simp [bne, e1]
        · right
          have e : k = xs.length := by omega
          subst e
          simp only [laws_eqIntS_n3]
          rw [show decide (((xs.length : Nat) : Int) < ((xs.length : Nat) : Int)) = false from decide_eq_false (by omega)]
          simp [List.drop_of_length_le (Nat.le_of_eq hl.symm)])
    rw [show ((((xs.length : Nat) : Int)) != (((ys.length : Nat) : Int))) = false by simp [hl]]
    simp only [cond_false, Option.bind_some, Sum.elim_inl]
    rw [hloop LL 0 ⟨0, by simp, by omega⟩ (by simp only [LL]; simp; omega)]
    simp only [Int.toNat_zero, List.drop_zero]
    cases xs == ys <;> rfl
  · rw [show ((((xs.length : Nat) : Int)) != (((ys.length : Nat) : Int))) = true by simp; omega]
    have : (xs == ys) = false := by
      rw [beq_eq_false_iff_ne]
      exact fun e => hl (by rw [e])
    rw [this]; rfl

theorem l1In_eq (a b c : Int) : spec_l1In a b c = some (decide (b ≤ a) && decide (a ≤ c)) := by
  unfold spec_l1In spec_l1In_n1
  by_cases h : a ≥ b
  · have e : decide (a ≥ b) = true := decide_eq_true h
    rw [e]; rfl
  · have e : decide (a ≥ b) = false := decide_eq_false h
    rw [e]; rfl

/-- The head of a word, both from 1 on; 0 for none. -/
def hd (h : List Int) (w : Nat) : Nat := (h.getD (w - 1) 0).toNat

theorem nloop_to {σ ω : Type} {body : σ → Option (σ ⊕ ω)} (S : Nat → σ) (n : Nat) (w : ω) (hs : ∀ k, k < n → body (S k) = some (.inl (S (k + 1)))) (he : body (S n) = some (.inr w)) :
    ∀ (N : Nat), n < N → nloop body N (S 0) = some w := by
  have key : ∀ (m k N : Nat), k + m = n → m < N → nloop body N (S k) = some w := by
    intro m
    induction m with
    | zero =>
      intro k N hk hN
      obtain ⟨N', rfl⟩ : ∃ N', N = N' + 1 := ⟨N - 1, by omega⟩
      have : k = n := by omega
      subst this
      simp only [nloop, he, Option.bind_some]
    | succ m ih =>
      intro k N hk hN
      obtain ⟨N', rfl⟩ : ∃ N', N = N' + 1 := ⟨N - 1, by omega⟩
      simp only [nloop, hs k (by omega), Option.bind_some]
      exact ih (k + 1) N' (by omega) (by omega)
  intro N hN
  exact key n 0 N (by omega) hN

/-- A loop that stops at the first place where p does not hold. -/
theorem nloop_while {σ ω : Type} {body : σ → Option (σ ⊕ ω)} (S : Nat → σ) (n : Nat) (p : Nat → Bool) (w : Bool → ω) (hs : ∀ k, k < n → p k = true → body (S k) = some (.inl (S (k + 1))))
    (hb : ∀ k, k < n → p k = false → body (S k) = some (.inr (w false))) (he : body (S n) = some (.inr (w true))) (N : Nat) (hN : n < N) :
    nloop body N (S 0) = some (w ((List.range n).all p)) := by
  have key : ∀ (m k N : Nat), k + m = n → m < N → nloop body N (S k) = some (w ((List.range' k m).all p)) := by
    intro m
    induction m with
    | zero =>
      intro k N hk hN
      obtain ⟨N', rfl⟩ : ∃ N', N = N' + 1 := ⟨N - 1, by omega⟩
      have : k = n := by omega
      subst this
      simp only [nloop, he, Option.bind_some]
      rfl
    | succ m ih =>
      intro k N hk hN
      obtain ⟨N', rfl⟩ : ∃ N', N = N' + 1 := ⟨N - 1, by omega⟩
      rw [List.range'_succ, List.all_cons]
      cases hp : p k with
      | false => simp only [nloop, hb k (by omega) hp, Option.bind_some, Bool.false_and]
      | true =>
        simp only [nloop, hs k (by omega) hp, Option.bind_some, Bool.true_and]
        exact ih (k + 1) N' (by omega) (by omega)
  rw [List.range_eq_range']
  exact key n 0 N (by omega) hN

theorem nloop_ex {σ ω : Type} {body : σ → Option (σ ⊕ ω)} (I : σ → Prop) (μ : σ → Nat) (Q : ω → Prop)
    (h : ∀ s, I s → (∃ s', body s = some (.inl s') ∧ I s' ∧ μ s' < μ s) ∨ (∃ o, body s = some (.inr o) ∧ Q o)) : ∀ (n : Nat) (s : σ), I s → μ s < n → ∃ o, nloop body n s = some o ∧ Q o
  | 0, s, _, hn => by omega
  | n + 1, s, hi, hn => by
    rcases h s hi with ⟨s', hb, hi', hm⟩ | ⟨o, hb, hq⟩
    · simp only [nloop, hb, Option.bind_some]
      exact nloop_ex I μ Q h n s' hi' (by omega)
    · simp only [nloop, hb, Option.bind_some]
      exact ⟨o, rfl, hq⟩

def tot (l : List (List Int)) : Nat := (l.map List.length).sum
theorem tot_snoc (l : List (List Int)) (r : List Int) : tot (l ++ [r]) = tot l + r.length := by unfold tot; simp
theorem tot_take {S : List (List Int)} {k : Nat} (h : k < S.length) : tot (S.take (k + 1)) = tot (S.take k) + S[k].length := by
  rw [List.take_add_one, List.getElem?_eq_getElem h]
  exact tot_snoc _ _
theorem tot_le (S : List (List Int)) : ∀ k, tot (S.take k) ≤ tot S := fun k => by
  have : tot S = tot (S.take k) + tot (S.drop k) := by
    unfold tot
    rw [← List.sum_append, ← List.map_append, List.take_append_drop]
  omega
def szT (S : List (List Int)) : Nat := S.length + tot S

theorem row_le {S : List (List Int)} {k : Nat} (h : k < S.length) : S[k].length ≤ tot S := by
  have := tot_take h
  have := tot_le S (k + 1)
  omega

theorem szSS (S : List (List Int)) (l : S.length ≤ maxLen) (l2 : ∀ r ∈ S, r.length ≤ maxLen) : ∃ v, laws_szIntSS S 1048576 = some v ∧ (v < 0 ∨ (0 ≤ v ∧ szT S ≤ 1048576)) := by
  have mx : maxLen = 9223372036854775807 := rfl
  have e : laws_szIntSS S 1048576 = laws_szIntSS_n9 S 1048576 := by unfold laws_szIntSS; rfl
  rw [e]
  unfold laws_szIntSS_n9 laws_szIntSS_n1
  rw [wrap64 (by omega) (by omega)]
  by_cases n : (1048576 : Int) - ((S.length : Nat) : Int) < 0
  · rw [decide_eq_true n]
    exact ⟨-1, rfl, .inl (by omega)⟩
  · rw [decide_eq_false n]
    have ex := nloop_ex (body := fun (s : Int × Int) => ((laws_szIntSS_n3 S s.1 s.2).map (Sum.elim (fun (t : Int × Int) => Sum.inl (t.1, t.2)) (Sum.elim (fun (t : Int) => Sum.inr (Sum.inl t)) (fun (t : Int) => Sum.inr (Sum.inr t)))) : Option ((Int × Int) ⊕ (Int ⊕ Int))))
      (I := fun t => ∃ k : Nat, k ≤ S.length ∧ t.2 = (k : Int) ∧ t.1 = 1048576 - ((S.length + tot (S.take k) : Nat) : Int) ∧ 0 ≤ t.1)
      (μ := fun t => S.length - t.2.toNat) (Q := fun r => r = Sum.inl (-1) ∨ ∃ v : Int, r = Sum.inr v ∧ 0 ≤ v ∧ szT S ≤ 1048576)
      (by
        rintro ⟨b, i⟩ ⟨k, hk, ei, eb, b0⟩
        simp only at ei eb b0
        subst ei
        simp only [laws_szIntSS_n3]
        by_cases lt : k < S.length
        · have w : IntKind.wrap .i64 ((k : Int) + 1) = ((k + 1 : Nat) : Int) := by rw [wrap64 (by omega) (by omega)]; omega
          have rl := l2 S[k] (List.getElem_mem lt)
          have tt := tot_take lt
          rw [decide_eq_true (show (k : Int) < ((S.length : Nat) : Int) by omega), idx_lt lt, w]
          simp only [cond_true, Option.bind_some, laws_szIntS, laws_szIntS_n1]
          rw [wrap64 (by omega) (by omega)]
          by_cases q : b - ((S[k].length : Nat) : Int) < 0
          · right
            rw [decide_eq_true q]
            exact ⟨_, rfl, .inl rfl⟩
          · left
            rw [decide_eq_false q]
            simp only [cond_false, Option.bind_some]
            rw [decide_eq_false q]
            exact ⟨(b - ((S[k].length : Nat) : Int), ((k + 1 : Nat) : Int)), rfl, ⟨k + 1, lt, rfl, by simp only; omega, by simp only; omega⟩, by simp only [Int.toNat_natCast]; omega⟩
        · right
          have : k = S.length := by omega
          subst this
          rw [decide_eq_false (show ¬ ((S.length : Nat) : Int) < ((S.length : Nat) : Int) by omega)]
          rw [List.take_of_length_le (Nat.le_refl _)] at eb
          exact ⟨_, rfl, .inr ⟨b, rfl, b0, by unfold szT; omega⟩⟩) LL (1048576 - ((S.length : Nat) : Int), 0) ⟨0, by omega, rfl, by simp [tot], by simp only; omega⟩ (by simp only [LL]; omega)
    obtain ⟨r, hr, R⟩ := ex
    simp only [cond_false, Option.bind_some, Sum.elim_inl, laws_szIntSS_n8, laws_szIntSS_n6, laws_szIntSS_n2, laws_szIntSS_n5, laws_szIntSS_n4]
    rw [hr]
    rcases R with rfl | ⟨v, rfl, v0, sz⟩
    · exact ⟨-1, rfl, .inl (by omega)⟩
    · exact ⟨v, rfl, .inr ⟨v0, sz⟩⟩

section
variable {S : List (List Int)} (sz : szT S ≤ 1048576)
include sz

theorem toIntSS_eq : laws_toIntSS S = some S := by
  have e : laws_toIntSS S = laws_toIntSS_n9 S := by unfold laws_toIntSS; rfl
  have s1 : S.length ≤ 1048576 := by unfold szT at sz; omega
  rw [e]
  unfold laws_toIntSS_n9 laws_toIntSS_n1 laws_toIntSS_n8 laws_toIntSS_n6 laws_toIntSS_n2 laws_toIntSS_n5 laws_toIntSS_n4 laws_toIntSS_n7
  rw [mk_nat (by omega)]
  have lp := nloop_to (body := fun (s : Int × (List (List Int))) => ((laws_toIntSS_n3 S s.1 s.2).map (Sum.elim (fun (t : Int × (List (List Int))) => Sum.inl (t.1, t.2)) (fun (t : (List (List Int))) => Sum.inr t)) : Option ((Int × (List (List Int))) ⊕ (((List (List Int)))))))
    (fun k => ((k : Int), S.take k ++ List.replicate (S.length - k) [])) S.length S
    (by
      intro k hk
      have rl := row_le hk
      have w : IntKind.wrap .i64 ((k : Int) + 1) = ((k + 1 : Nat) : Int) := by rw [wrap64 (by omega) (by omega)]; omega
      have lt : (S.take k).length = k := by rw [List.length_take]; omega
      have len : (S.take k ++ List.replicate (S.length - k) ([] : List Int)).length = S.length := by rw [List.length_append, lt, List.length_replicate]; omega
      simp only [laws_toIntSS_n3]
      rw [decide_eq_true (show (k : Int) < ((S.length : Nat) : Int) by omega), idx_lt hk, w]
      simp only [cond_true, Option.bind_some]
      rw [toIntS_eq S[k] (by unfold szT at sz; omega), len, inb_nat hk]
      simp only [Option.bind_some, within]
      try rw [if_pos hk]
      simp only [Option.bind_some, Option.map_some, Sum.elim_inl]
      congr 3
      rw [List.set_append_right _ _ (by omega), lt, Nat.sub_self, show S.length - k = (S.length - (k + 1)) + 1 by omega, List.replicate_succ, List.set_cons_zero, List.take_add_one, List.getElem?_eq_getElem hk, List.append_assoc]
      rfl)
    (by
      simp only [laws_toIntSS_n3]
      rw [decide_eq_false (show ¬ ((S.length : Nat) : Int) < ((S.length : Nat) : Int) by omega)]
      simp) LL (by simp only [LL]; omega)
  have lp' := lp
  rw [List.take_zero, Nat.sub_zero, List.nil_append, show ((0 : Nat) : Int) = 0 from rfl] at lp'
  simp only [Option.bind_some]
  rw [lp']
  rfl

theorem eqIntSS_refl : laws_eqIntSS S S = some true := by
  have e : laws_eqIntSS S S = laws_eqIntSS_n9 S S := by unfold laws_eqIntSS; rfl
  have s1 : S.length ≤ 1048576 := by unfold szT at sz; omega
  rw [e]
  unfold laws_eqIntSS_n9 laws_eqIntSS_n1 laws_eqIntSS_n8 laws_eqIntSS_n6 laws_eqIntSS_n2 laws_eqIntSS_n5 laws_eqIntSS_n4 laws_eqIntSS_n7
  have lp := nloop_to (body := fun (s : Int) => ((laws_eqIntSS_n3 S S s).map (Sum.elim (fun (t : Int) => Sum.inl t) (Sum.elim (fun (t : Bool) => Sum.inr (Sum.inl t)) (fun (t : Unit) => Sum.inr (Sum.inr t)))) : Option ((Int) ⊕ (Bool ⊕ Unit))))
    (fun k => (k : Int)) S.length (Sum.inr ())
    (by
      intro k hk
      have rl := row_le hk
      have w : IntKind.wrap .i64 ((k : Int) + 1) = ((k + 1 : Nat) : Int) := by rw [wrap64 (by omega) (by omega)]; omega
      simp only [laws_eqIntSS_n3]
      rw [decide_eq_true (show (k : Int) < ((S.length : Nat) : Int) by omega), idx_lt hk, w]
      simp only [cond_true, Option.bind_some]
      rw [eqIntS_eq S[k] S[k] (by unfold szT at sz; omega)]
      simp)
    (by
      simp only [laws_eqIntSS_n3]
      rw [decide_eq_false (show ¬ ((S.length : Nat) : Int) < ((S.length : Nat) : Int) by omega)]
      rfl) LL (by simp only [LL]; omega)
  have lp' := lp
  rw [show ((0 : Nat) : Int) = 0 from rfl] at lp'
  simp only [bne_self_eq_false, cond_false, Option.bind_some, Sum.elim_inl]
  rw [lp']
  rfl

end

theorem all_lt {n : Nat} {p : Nat → Bool} (h : (List.range n).all p = true) {i : Nat} (hi : i < n) : p i = true :=
  List.all_eq_true.1 h i (List.mem_range.2 hi)

theorem imaxN (y z : Nat) : imax (y : Int) (z : Int) = ((max y z : Nat) : Int) := by unfold imax; split <;> omega
def okRow (n : Nat) (r : List Int) : Bool := r.length == n + 1 && (List.range r.length).all fun j => decide (0 ≤ r.getD j 0) && decide (r.getD j 0 ≤ 20)
def okB (S : List (List Int)) : Bool := ((List.range S.length).all fun k => okRow S.length (S.getD k [])) && (decide (1 ≤ S.length) && decide (S.length ≤ 5))

/-- What word k + 1 gets for head j. -/
def scN (S : List (List Int)) (k j : Nat) : Nat := ((S.getD k []).getD j 0).toNat
theorem idx_getD {α : Type} {l : List α} {k : Nat} (h : k < l.length) (d : α) : idx l (k : Int) = some (l.getD k d) := by
  rw [idx_nat, List.getD_eq_getElem?_getD, List.getElem?_eq_getElem h, Option.getD_some]

theorem okB_word {S : List (List Int)} (o : okB S = true) {k j : Nat} (hk : k < S.length) (hj : j ≤ S.length) : (S.getD k []).length = S.length + 1 ∧ (S.getD k []).getD j 0 = ((scN S k j : Nat) : Int) ∧ scN S k j ≤ 20 := by
  unfold okB at o
  simp only [Bool.and_eq_true, List.all_eq_true, List.mem_range] at o
  have r := o.1 k hk
  unfold okRow at r
  simp only [Bool.and_eq_true, List.all_eq_true, List.mem_range, beq_iff_eq, decide_eq_true_eq] at r
  have b := r.2 j (by omega)
  refine ⟨r.1, ?_, ?_⟩
  · unfold scN
    omega
  · unfold scN
    omega

theorem okB_len {S : List (List Int)} (o : okB S = true) : 1 ≤ S.length ∧ S.length ≤ 5 := by
  unfold okB at o
  simp only [Bool.and_eq_true, decide_eq_true_eq] at o
  exact o.2

theorem okRow_loop {S : List (List Int)} {k : Nat} (hk : k < S.length) (hl : (S.getD k []).length ≤ 10000000) :
    spec_ScoresOk_n6 S (k : Int) = some (if ((List.range (S.getD k []).length).all fun j => decide (0 ≤ (S.getD k []).getD j 0) && decide ((S.getD k []).getD j 0 ≤ 20)) = true then Sum.inr () else Sum.inl false) := by
  unfold spec_ScoresOk_n6
  have lp := nloop_while (body := fun (s : Int) => ((spec_ScoresOk_n5 S (k : Int) s).map (Sum.elim (fun (t : Int) => Sum.inl t) (Sum.elim (fun (t : Bool) => Sum.inr (Sum.inl t)) (fun (t : Unit) => Sum.inr (Sum.inr t)))) : Option ((Int) ⊕ (Bool ⊕ Unit))))
    (fun j => (j : Int)) (S.getD k []).length (fun j => decide (0 ≤ (S.getD k []).getD j 0) && decide ((S.getD k []).getD j 0 ≤ 20)) (fun b => if b = true then Sum.inr () else Sum.inl false)
    (by
      intro j hj p
      have w : IntKind.wrap .i64 ((j : Int) + 1) = ((j + 1 : Nat) : Int) := by rw [wrap64 (by omega) (by omega)]; omega
      simp only [spec_ScoresOk_n5]
      rw [idx_getD hk []]
      simp only [Option.bind_some]
      rw [decide_eq_true (show (j : Int) < (((S.getD k []).length : Nat) : Int) by omega), idx_getD hj 0]
      simp only [cond_true, Option.bind_some, l1In_eq]
      rw [p, w]
      rfl)
    (by
      intro j hj p
      simp only [spec_ScoresOk_n5]
      rw [idx_getD hk []]
      simp only [Option.bind_some]
      rw [decide_eq_true (show (j : Int) < (((S.getD k []).length : Nat) : Int) by omega), idx_getD hj 0]
      simp only [cond_true, Option.bind_some, l1In_eq]
      rw [p]
      rfl)
    (by
      simp only [spec_ScoresOk_n5]
      rw [idx_getD hk []]
      simp only [Option.bind_some]
      rw [decide_eq_false (show ¬ (((S.getD k []).length : Nat) : Int) < (((S.getD k []).length : Nat) : Int) by omega)]
      rfl) LL (by simp only [LL]; omega)
  exact lp

theorem specScores_eq (S : List (List Int)) (hl : S.length ≤ 1048576) : spec_ScoresOk S = some (okB S) := by
  have e : spec_ScoresOk S = spec_ScoresOk_n18 S := by unfold spec_ScoresOk; rfl
  rw [e]
  unfold spec_ScoresOk_n18 spec_ScoresOk_n1 spec_ScoresOk_n17 spec_ScoresOk_n15 spec_ScoresOk_n2 spec_ScoresOk_n14 spec_ScoresOk_n13
  have w1 : IntKind.wrap .i64 (((S.length : Nat) : Int) + 1) = ((S.length + 1 : Nat) : Int) := by rw [wrap64 (by omega) (by omega)]; omega
  have step : ∀ k, k < S.length → spec_ScoresOk_n12 S (k : Int) = some (if okRow S.length (S.getD k []) = true then Sum.inl ((k + 1 : Nat) : Int) else Sum.inr (Sum.inl false)) := fun k hk => by
    have w : IntKind.wrap .i64 ((k : Int) + 1) = ((k + 1 : Nat) : Int) := by rw [wrap64 (by omega) (by omega)]; omega
    simp only [spec_ScoresOk_n12, spec_ScoresOk_n3, spec_ScoresOk_n11, spec_ScoresOk_n9, spec_ScoresOk_n8, spec_ScoresOk_n4, spec_ScoresOk_n7, spec_ScoresOk_n10, w, w1]
    rw [decide_eq_true (show (k : Int) < ((S.length : Nat) : Int) by omega), idx_getD hk []]
    simp only [cond_true, Option.bind_some, Sum.elim_inl]
    unfold okRow
    by_cases q : (S.getD k []).length = S.length + 1
    · rw [show ((((S.getD k []).length : Nat) : Int) != ((S.length + 1 : Nat) : Int)) = false by rw [q]; simp, beq_iff_eq.mpr q, Bool.true_and, okRow_loop hk (show (S.getD k []).length ≤ 10000000 by rw [q]; omega)]
      cases (List.range (S.getD k []).length).all fun j => decide (0 ≤ (S.getD k []).getD j 0) && decide ((S.getD k []).getD j 0 ≤ 20) <;> rfl
    · rw [show ((((S.getD k []).length : Nat) : Int) != ((S.length + 1 : Nat) : Int)) = true from bne_iff_ne.mpr (fun z => q (by omega)), beq_eq_false_iff_ne.mpr q, Bool.false_and]
      rfl
  have lp := nloop_while (body := fun (s : Int) => ((spec_ScoresOk_n12 S s).map (Sum.elim (fun (t : Int) => Sum.inl t) (Sum.elim (fun (t : Bool) => Sum.inr (Sum.inl t)) (fun (t : Unit) => Sum.inr (Sum.inr t)))) : Option ((Int) ⊕ (Bool ⊕ Unit))))
    (fun k => (k : Int)) S.length (fun k => okRow S.length (S.getD k [])) (fun b => if b = true then Sum.inr () else Sum.inl false)
    (by
      intro k hk p
      simp only [step k hk]
      rw [p]
      rfl)
    (by
      intro k hk p
      simp only [step k hk]
      rw [p]
      rfl)
    (by
      simp only [spec_ScoresOk_n12, spec_ScoresOk_n3]
      rw [decide_eq_false (show ¬ ((S.length : Nat) : Int) < ((S.length : Nat) : Int) by omega)]
      rfl) LL (by simp only [LL]; omega)
  have lp' := lp
  rw [show ((0 : Nat) : Int) = 0 from rfl] at lp'
  simp only [Option.bind_some]
  rw [lp']
  unfold okB
  cases (List.range S.length).all fun k => okRow S.length (S.getD k []) with
  | false => rfl
  | true =>
    simp only [if_true, Option.map_some, Sum.elim_inr, Option.bind_some, Sum.elim_inl, spec_ScoresOk_n16, l1In_eq, Bool.true_and]
    congr 2
    · rw [Bool.eq_iff_iff]; simp only [decide_eq_true_eq]; omega
    · rw [Bool.eq_iff_iff]; simp only [decide_eq_true_eq]; omega

theorem imax_le {a b : Int} : a ≤ imax a b ∧ b ≤ imax a b ∧ (imax a b = a ∨ imax a b = b) := by
  unfold imax
  split <;> omega

/-- The least of a row. -/
theorem min_ok {r : List Int} (h0 : 0 < r.length) (hl : r.length ≤ 1048576) : ∃ m, slices_Min_int_int r = some m ∧ m ∈ r ∧ ∀ x ∈ r, m ≤ x := by
  have e : slices_Min_int_int r = slices_Min_int_int_n9 r := by unfold slices_Min_int_int; rfl
  rw [e]
  unfold slices_Min_int_int_n9 slices_Min_int_int_n1 slices_Min_int_int_n8 slices_Min_int_int_n6 slices_Min_int_int_n2 slices_Min_int_int_n5 slices_Min_int_int_n4 slices_Min_int_int_n7
  rw [decide_eq_false (show ¬ ((r.length : Nat) : Int) < 1 by omega), show (0 : Int) = ((0 : Nat) : Int) from rfl, idx_lt h0]
  simp only [cond_false, Option.bind_some]
  have ex := nloop_ex (body := fun (s : Int × Int) => ((slices_Min_int_int_n3 r s.1 s.2).map (Sum.elim (fun (t : Int × Int) => Sum.inl (t.1, t.2)) (fun (t : Int) => Sum.inr t)) : Option ((Int × Int) ⊕ (Int))))
    (I := fun t => ∃ k : Nat, t.2 = (k : Int) ∧ 1 ≤ k ∧ k ≤ r.length ∧ t.1 ∈ r ∧ ∀ j (hj : j < r.length), j < k → t.1 ≤ r[j])
    (μ := fun t => r.length - t.2.toNat) (Q := fun m => m ∈ r ∧ ∀ x ∈ r, m ≤ x)
    (by
      rintro ⟨m, kk⟩ ⟨k, ek, h1, hk, hm, up⟩
      simp only at ek hm up
      subst ek
      simp only [slices_Min_int_int_n3]
      by_cases lt : k < r.length
      · left
        have w : IntKind.wrap .i64 ((k : Int) + 1) = ((k + 1 : Nat) : Int) := by rw [wrap64 (by omega) (by omega)]; omega
        rw [decide_eq_true (show (k : Int) < ((r.length : Nat) : Int) by omega), idx_lt lt, w]
        have im : imin m r[k] ≤ m ∧ imin m r[k] ≤ r[k] ∧ (imin m r[k] = m ∨ imin m r[k] = r[k]) := by
          unfold imin
          split <;> omega
        refine ⟨(imin m r[k], ((k + 1 : Nat) : Int)), rfl, ⟨k + 1, rfl, by omega, lt, ?_, fun j hj hjk => ?_⟩, by simp only [Int.toNat_natCast]; omega⟩
        · rcases im.2.2 with q | q
          · simp only [q]; exact hm
          · simp only [q]; exact List.getElem_mem lt
        · by_cases q : j = k
          · subst q; exact im.2.1
          · exact Int.le_trans im.1 (up j hj (by omega))
      · right
        have : k = r.length := by omega
        subst this
        rw [decide_eq_false (show ¬ ((r.length : Nat) : Int) < ((r.length : Nat) : Int) by omega)]
        refine ⟨m, rfl, hm, fun x hx => ?_⟩
        obtain ⟨j, hj, e⟩ := List.mem_iff_getElem.mp hx
        exact e ▸ up j hj hj) LL (r[0], 1) ⟨1, rfl, by omega, by omega, List.getElem_mem h0, fun j hj hj1 => by
          have : j = 0 := by omega
          subst this
          exact Int.le_refl _⟩ (by simp only [LL]; omega)
  obtain ⟨m, hm, q⟩ := ex
  rw [hm]
  exact ⟨m, rfl, q⟩

/-- The greatest of a row. -/
theorem max_ok {r : List Int} (h0 : 0 < r.length) (hl : r.length ≤ 1048576) : ∃ m, slices_Max_int_int r = some m ∧ m ∈ r ∧ ∀ x ∈ r, x ≤ m := by
  have e : slices_Max_int_int r = slices_Max_int_int_n9 r := by unfold slices_Max_int_int; rfl
  rw [e]
  unfold slices_Max_int_int_n9 slices_Max_int_int_n1 slices_Max_int_int_n8 slices_Max_int_int_n6 slices_Max_int_int_n2 slices_Max_int_int_n5 slices_Max_int_int_n4 slices_Max_int_int_n7
  rw [decide_eq_false (show ¬ ((r.length : Nat) : Int) < 1 by omega), show (0 : Int) = ((0 : Nat) : Int) from rfl, idx_lt h0]
  simp only [cond_false, Option.bind_some]
  have ex := nloop_ex (body := fun (s : Int × Int) => ((slices_Max_int_int_n3 r s.1 s.2).map (Sum.elim (fun (t : Int × Int) => Sum.inl (t.1, t.2)) (fun (t : Int) => Sum.inr t)) : Option ((Int × Int) ⊕ (Int))))
    (I := fun t => ∃ k : Nat, t.2 = (k : Int) ∧ 1 ≤ k ∧ k ≤ r.length ∧ t.1 ∈ r ∧ ∀ j (hj : j < r.length), j < k → r[j] ≤ t.1)
    (μ := fun t => r.length - t.2.toNat) (Q := fun m => m ∈ r ∧ ∀ x ∈ r, x ≤ m)
    (by
      rintro ⟨m, kk⟩ ⟨k, ek, h1, hk, hm, up⟩
      simp only at ek hm up
      subst ek
      simp only [slices_Max_int_int_n3]
      by_cases lt : k < r.length
      · left
        have w : IntKind.wrap .i64 ((k : Int) + 1) = ((k + 1 : Nat) : Int) := by rw [wrap64 (by omega) (by omega)]; omega
        rw [decide_eq_true (show (k : Int) < ((r.length : Nat) : Int) by omega), idx_lt lt, w]
        have im := imax_le (a := m) (b := r[k])
        refine ⟨(imax m r[k], ((k + 1 : Nat) : Int)), rfl, ⟨k + 1, rfl, by omega, lt, ?_, fun j hj hjk => ?_⟩, by simp only [Int.toNat_natCast]; omega⟩
        · rcases im.2.2 with q | q
          · simp only [q]; exact hm
          · simp only [q]; exact List.getElem_mem lt
        · by_cases q : j = k
          · subst q; exact im.2.1
          · exact Int.le_trans (up j hj (by omega)) im.1
      · right
        have : k = r.length := by omega
        subst this
        rw [decide_eq_false (show ¬ ((r.length : Nat) : Int) < ((r.length : Nat) : Int) by omega)]
        refine ⟨m, rfl, hm, fun x hx => ?_⟩
        obtain ⟨j, hj, e⟩ := List.mem_iff_getElem.mp hx
        exact e ▸ up j hj hj) LL (r[0], 1) ⟨1, rfl, by omega, by omega, List.getElem_mem h0, fun j hj hj1 => by
          have : j = 0 := by omega
          subst this
          exact Int.le_refl _⟩ (by simp only [LL]; omega)
  obtain ⟨m, hm, q⟩ := ex
  rw [hm]
  exact ⟨m, rfl, q⟩

theorem okRow_iff {n : Nat} {r : List Int} (h : r.length = n + 1) : okRow n r = true ↔ ∀ x ∈ r, 0 ≤ x ∧ x ≤ 20 := by
  unfold okRow
  rw [Bool.and_eq_true, beq_iff_eq, List.all_eq_true]
  constructor
  · rintro ⟨_, a⟩ x hx
    obtain ⟨j, hj, e⟩ := List.mem_iff_getElem.mp hx
    have := a j (List.mem_range.mpr hj)
    rw [List.getD_eq_getElem?_getD, List.getElem?_eq_getElem hj, Option.getD_some, e, Bool.and_eq_true, decide_eq_true_eq, decide_eq_true_eq] at this
    exact this
  · intro a
    refine ⟨h, fun j hj => ?_⟩
    have hj := List.mem_range.mp hj
    have := a r[j] (List.getElem_mem hj)
    rw [List.getD_eq_getElem?_getD, List.getElem?_eq_getElem hj, Option.getD_some, Bool.and_eq_true, decide_eq_true_eq, decide_eq_true_eq]
    exact this

theorem implRow_eq {n : Nat} (hn : n ≤ 5) (r : List Int) (hl : r.length ≤ 1048576) : impl_scoreRowOk r (n : Int) = some (okRow n r) := by
  have e : impl_scoreRowOk r (n : Int) = impl_scoreRowOk_n1 r (n : Int) := by unfold impl_scoreRowOk; rfl
  rw [e]
  unfold impl_scoreRowOk_n1
  have w : IntKind.wrap .i64 ((n : Int) + 1) = ((n + 1 : Nat) : Int) := by rw [wrap64 (by omega) (by omega)]; omega
  rw [w]
  by_cases q : r.length = n + 1
  · rw [show (((r.length : Nat) : Int) == ((n + 1 : Nat) : Int)) = true by rw [q]; simp]
    obtain ⟨m, hm, m1, m2⟩ := min_ok (r := r) (by omega) hl
    obtain ⟨M, hM, M1, M2⟩ := max_ok (r := r) (by omega) hl
    simp only [cond_true, hm, Option.bind_some, hM]
    by_cases a : 0 ≤ m
    · rw [decide_eq_true (show m ≥ 0 from a)]
      simp only [cond_true]
      congr 1
      by_cases b : M ≤ 20
      · rw [decide_eq_true b, eq_comm, okRow_iff q]
        intro x hx
        have := m2 x hx
        have := M2 x hx
        omega
      · rw [decide_eq_false b, eq_comm, Bool.eq_false_iff, ne_eq, okRow_iff q]
        intro h
        exact b (h M M1).2
    · rw [decide_eq_false (show ¬ m ≥ 0 from a)]
      simp only [cond_false]
      congr 1
      rw [eq_comm, Bool.eq_false_iff, ne_eq, okRow_iff q]
      intro h
      exact a (h m m1).1
  · rw [show (((r.length : Nat) : Int) == ((n + 1 : Nat) : Int)) = false by rw [beq_eq_false_iff_ne]; omega]
    unfold okRow
    rw [beq_eq_false_iff_ne.mpr q]
    rfl

theorem implScores_eq (S : List (List Int)) (sz : szT S ≤ 1048576) : impl_ScoresOk S = some (okB S) := by
  have e : impl_ScoresOk S = impl_ScoresOk_n9 S := by unfold impl_ScoresOk; rfl
  rw [e]
  unfold impl_ScoresOk_n9 impl_ScoresOk_n1 impl_ScoresOk_n8 impl_ScoresOk_n6 impl_ScoresOk_n2 impl_ScoresOk_n5 impl_ScoresOk_n4 impl_ScoresOk_n7 okB
  by_cases l1 : S.length < 1
  · rw [decide_eq_true (show ((S.length : Nat) : Int) < 1 by omega), decide_eq_false (show ¬ 1 ≤ S.length by omega)]
    simp
  · by_cases l5 : S.length ≤ 5
    · rw [decide_eq_false (show ¬ ((S.length : Nat) : Int) < 1 by omega), decide_eq_false (show ¬ ((S.length : Nat) : Int) > 5 by omega), decide_eq_true (show 1 ≤ S.length by omega), decide_eq_true l5]
      have lp := nloop_while (body := fun (s : Int) => ((impl_ScoresOk_n3 S ((S.length : Nat) : Int) s).map (Sum.elim (fun (t : Int) => Sum.inl t) (Sum.elim (fun (t : Bool) => Sum.inr (Sum.inl t)) (fun (t : Unit) => Sum.inr (Sum.inr t)))) : Option ((Int) ⊕ (Bool ⊕ Unit))))
        (fun j => (j : Int)) S.length (fun k => okRow S.length (S.getD k [])) (fun b => if b = true then Sum.inr () else Sum.inl false)
        (by
          intro j hj p
          have w : IntKind.wrap .i64 ((j : Int) + 1) = ((j + 1 : Nat) : Int) := by rw [wrap64 (by omega) (by omega)]; omega
          have rl := row_le hj
          simp only [impl_ScoresOk_n3]
          rw [decide_eq_true (show (j : Int) < ((S.length : Nat) : Int) by omega), idx_getD hj []]
          simp only [cond_true, Option.bind_some]
          rw [implRow_eq l5 _ (by rw [List.getD_eq_getElem?_getD, List.getElem?_eq_getElem hj, Option.getD_some]; unfold szT at sz; omega), p, w]
          rfl)
        (by
          intro j hj p
          have rl := row_le hj
          simp only [impl_ScoresOk_n3]
          rw [decide_eq_true (show (j : Int) < ((S.length : Nat) : Int) by omega), idx_getD hj []]
          simp only [cond_true, Option.bind_some]
          rw [implRow_eq l5 _ (by rw [List.getD_eq_getElem?_getD, List.getElem?_eq_getElem hj, Option.getD_some]; unfold szT at sz; omega), p]
          rfl)
        (by
          simp only [impl_ScoresOk_n3]
          rw [decide_eq_false (show ¬ ((S.length : Nat) : Int) < ((S.length : Nat) : Int) by omega)]
          rfl) LL (by simp only [LL]; omega)
      have lp' := lp
      rw [show ((0 : Nat) : Int) = 0 from rfl] at lp'
      simp only [cond_false, Option.bind_some, Sum.elim_inl]
      rw [lp']
      cases c : (List.range S.length).all fun k => okRow S.length (S.getD k []) <;> rfl
    · rw [decide_eq_false (show ¬ ((S.length : Nat) : Int) < 1 by omega), decide_eq_true (show ((S.length : Nat) : Int) > 5 by omega), decide_eq_false l5]
      simp

/-- What words and heads get. -/
def sumP (S : List (List Int)) : List (Nat × Nat) → Nat
  | [] => 0
  | p :: r => scN S (p.1 - 1) p.2 + sumP S r
theorem sumP_app (S : List (List Int)) : ∀ a b, sumP S (a ++ b) = sumP S a + sumP S b
  | [], b => by simp [sumP]
  | p :: r, b => by
    rw [List.cons_append, sumP, sumP, sumP_app S r b]
    omega
theorem sumP_perm (S : List (List Int)) {a b : List (Nat × Nat)} (p : a.Perm b) : sumP S a = sumP S b := by
  induction p with
  | nil => rfl
  | cons x _ ih => simp only [sumP]; omega
  | swap x y l => simp only [sumP]; omega
  | trans _ _ i1 i2 => omega

/-- The greatest of some. -/
def MaxP (S : List (List Int)) (L : List (List (Nat × Nat))) (v : Nat) : Prop := (∃ l, l ∈ L ∧ sumP S l = v) ∧ ∀ l, l ∈ L → sumP S l ≤ v

theorem MaxP.mix {S : List (List Int)} {A B : List (List (Nat × Nat))} {a b c : Nat} (ha : MaxP S A a) (hb : MaxP S B b) {k : List (Nat × Nat) → List (Nat × Nat) → List (Nat × Nat)}
    (hk : ∀ x y, sumP S (k x y) = c + sumP S x + sumP S y) : MaxP S (A.flatMap fun x => B.map fun y => k x y) (c + a + b) := by
  obtain ⟨⟨x, hx, ex⟩, ua⟩ := ha
  obtain ⟨⟨y, hy, ey⟩, ub⟩ := hb
  refine ⟨⟨k x y, List.mem_flatMap.mpr ⟨x, hx, List.mem_map.mpr ⟨y, hy, rfl⟩⟩, by rw [hk, ex, ey]⟩, fun l hl => ?_⟩
  obtain ⟨x', hx', hm⟩ := List.mem_flatMap.mp hl
  obtain ⟨y', hy', e⟩ := List.mem_map.mp hm
  have := ua x' hx'
  have := ub y' hy'
  rw [← e, hk]
  omega

theorem MaxP.app {S : List (List Int)} {A B : List (List (Nat × Nat))} {a b : Nat} (ha : MaxP S A a) (hb : MaxP S B b) : MaxP S (A ++ B) (max a b) := by
  obtain ⟨⟨x, hx, ex⟩, ua⟩ := ha
  obtain ⟨⟨y, hy, ey⟩, ub⟩ := hb
  refine ⟨?_, fun l hl => ?_⟩
  · by_cases q : a ≤ b
    · exact ⟨y, List.mem_append_right _ hy, by omega⟩
    · exact ⟨x, List.mem_append_left _ hx, by omega⟩
  · rcases List.mem_append.mp hl with h | h
    · have := ua l h; omega
    · have := ub l h; omega

/-- All flat trees over a row of words, and all rows of such, one after another. -/
def gen : Nat → (Nat → Nat → Nat → List (List (Nat × Nat))) × (Nat → Nat → Nat → List (List (Nat × Nat)))
  | 0 => (fun _ _ _ => [], fun _ _ _ => [])
  | f + 1 => (fun low high head => (List.range (high + 1 - low)).flatMap fun d => ((gen f).2 low (low + d - 1) (low + d)).flatMap fun a => ((gen f).2 (low + d + 1) high (low + d)).map fun b => (low + d, head) :: (a ++ b),
      fun low high head => if high < low then [[]] else (List.range (high + 1 - low)).flatMap fun d => ((gen f).1 low (low + d) head).flatMap fun a => ((gen f).2 (low + d + 1) high head).map fun b => a ++ b)

/-- A loop that takes the greatest of parts. -/
theorem max_loop {S : List (List Int)} {F : Nat → List (List (Nat × Nat))} {m B : Nat} (low : Nat) (hm : 0 < m) (hB : B ≤ 1000) (hlow : low ≤ 1000) (hm2 : m ≤ 1000) {body : Int × Int → Option ((Int × Int) ⊕ Int)}
    (hs : ∀ d, d < m → ∃ v : Nat, v ≤ B ∧ MaxP S (F d) v ∧ ∀ b : Int, body (b, ((low + d : Nat) : Int)) = some (Sum.inl (imax b (v : Int), ((low + d + 1 : Nat) : Int))))
    (he : ∀ b : Int, body (b, ((low + m : Nat) : Int)) = some (Sum.inr b)) :
    ∃ v : Nat, v ≤ B ∧ nloop body LL (-1, (low : Int)) = some (v : Int) ∧ MaxP S ((List.range m).flatMap F) v := by
  have := nloop_ex (body := body)
    (I := fun t => ∃ d : Nat, t.2 = ((low + d : Nat) : Int) ∧ d ≤ m ∧ ((d = 0 ∧ t.1 = -1) ∨ ∃ v : Nat, v ≤ B ∧ t.1 = (v : Int) ∧ MaxP S ((List.range d).flatMap F) v))
    (μ := fun t => low + m - t.2.toNat)
    (Q := fun o => ∃ v : Nat, v ≤ B ∧ o = (v : Int) ∧ MaxP S ((List.range m).flatMap F) v)
    (by
      rintro ⟨b, r⟩ ⟨d, er, dm, I⟩
      simp only at er I
      subst er
      by_cases lt : d < m
      · left
        obtain ⟨v, vB, vM, hv⟩ := hs d lt
        refine ⟨_, hv b, ⟨d + 1, rfl, lt, .inr ?_⟩, by simp only [Int.toNat_natCast]; omega⟩
        have er : (List.range (d + 1)).flatMap F = (List.range d).flatMap F ++ F d := by rw [List.range_succ, List.flatMap_append, List.flatMap_singleton]
        rw [er]
        rcases I with ⟨z, eb⟩ | ⟨u, uB, eb, uM⟩
        · subst z
          refine ⟨v, vB, ?_, by simpa using vM⟩
          simp only [eb]
          unfold imax
          split <;> omega
        · refine ⟨max u v, by omega, ?_, uM.app vM⟩
          simp only [eb]
          exact imaxN u v
      · right
        have : d = m := by omega
        subst this
        rcases I with ⟨z, _⟩ | ⟨u, uB, eb, uM⟩
        · omega
        · exact ⟨b, he b, u, uB, eb, uM⟩) LL (-1, (low : Int)) ⟨0, rfl, by omega, .inl ⟨rfl, rfl⟩⟩ (by simp only [LL]; omega)
  obtain ⟨o, ho, v, vB, e, M⟩ := this
  exact ⟨v, vB, by rw [ho, e], M⟩

section
variable {S : List (List Int)} (o : okB S = true)
include o

theorem flat_dp : ∀ f : Nat,
    (∀ (g low high head : Nat), 1 ≤ low → low ≤ high → high ≤ S.length → head ≤ S.length → 2 * (high + 1 - low) ≤ f → 2 * (high + 1 - low) ≤ g →
      ∃ v : Nat, v ≤ 20 * (high + 1 - low) ∧ (spec_l9Tree_knot f).1 S (low : Int) (high : Int) (head : Int) = some (v : Int) ∧ MaxP S ((gen g).1 low high head) v) ∧
    (∀ (g low high head : Nat), 1 ≤ low → low ≤ high + 1 → high ≤ S.length → head ≤ S.length → 2 * (high + 1 - low) + 1 ≤ f → 2 * (high + 1 - low) + 1 ≤ g →
      ∃ v : Nat, v ≤ 20 * (high + 1 - low) ∧ (spec_l9Tree_knot f).2 S (low : Int) (high : Int) (head : Int) = some (v : Int) ∧ MaxP S ((gen g).2 low high head) v)
  | 0 => ⟨fun g low high head h1 h2 h3 h4 hf => by omega, fun g low high head h1 h2 h3 h4 hf => by omega⟩
  | f + 1 => by
    have l5 := okB_len o
    obtain ⟨iT, iR⟩ := flat_dp f
    constructor
    · intro g low high head h1 h2 h3 h4 hf hg
      obtain ⟨g, rfl⟩ : ∃ g', g = g' + 1 := ⟨g - 1, by omega⟩
      show ∃ v : Nat, v ≤ _ ∧ spec_l9Tree_one (spec_l9Tree_knot f).1 (spec_l9Tree_knot f).2 S (low : Int) (high : Int) (head : Int) = some (v : Int) ∧ _
      unfold spec_l9Tree_one spec_l9Tree_n9 spec_l9Tree_n1 spec_l9Tree_n8 spec_l9Tree_n6 spec_l9Tree_n2 spec_l9Tree_n5 spec_l9Tree_n4 spec_l9Tree_n7
      have lp := max_loop (S := S) (F := fun d => ((gen g).2 low (low + d - 1) (low + d)).flatMap fun a => ((gen g).2 (low + d + 1) high (low + d)).map fun b => (low + d, head) :: (a ++ b))
        (m := high + 1 - low) (B := 20 * (high + 1 - low)) low (by omega) (by omega) (by omega) (by omega)
        (body := fun (s : Int × Int) => ((spec_l9Tree_n3 (spec_l9Tree_knot f).1 (spec_l9Tree_knot f).2 S (low : Int) (high : Int) (head : Int) s.1 s.2).map (Sum.elim (fun (t : Int × Int) => Sum.inl (t.1, t.2)) (fun (t : Int) => Sum.inr t)) : Option ((Int × Int) ⊕ (Int))))
        (by
          intro d hd
          obtain ⟨va, ba, ea, ma⟩ := iR g low (low + d - 1) (low + d) h1 (by omega) (by omega) (by omega) (by omega) (by omega)
          obtain ⟨vb, bb, eb, mb⟩ := iR g (low + d + 1) high (low + d) (by omega) (by omega) (by omega) (by omega) (by omega) (by omega)
          obtain ⟨b1, b2, b3⟩ := okB_word o (k := low + d - 1) (j := head) (by omega) h4
          refine ⟨scN S (low + d - 1) head + va + vb, by omega, ma.mix mb (k := fun a b => (low + d, head) :: (a ++ b)) (fun x y => by simp only [sumP, sumP_app]; omega), fun b => ?_⟩
          have w1 : IntKind.wrap .i64 (((low + d : Nat) : Int) - 1) = ((low + d - 1 : Nat) : Int) := by rw [wrap64 (by omega) (by omega)]; omega
          have w2 : IntKind.wrap .i64 (((low + d : Nat) : Int) + 1) = ((low + d + 1 : Nat) : Int) := by rw [wrap64 (by omega) (by omega)]; omega
          simp only [spec_l9Tree_n3, w1, w2]
          rw [decide_eq_true (show ((low + d : Nat) : Int) ≤ (high : Int) by omega), idx_getD (show low + d - 1 < S.length by omega) []]
          simp only [cond_true, Option.bind_some]
          rw [idx_getD (show head < (S.getD (low + d - 1) []).length by omega) 0, b2, ea]
          simp only [Option.bind_some, eb, Option.map_some, Sum.elim_inl]
          rw [wrap64 (x := ((scN S (low + d - 1) head : Nat) : Int) + (va : Int)) (by omega) (by omega), wrap64 (by omega) (by omega)]
          rfl)
        (by
          intro b
          simp only [spec_l9Tree_n3]
          rw [decide_eq_false (show ¬ ((low + (high + 1 - low) : Nat) : Int) ≤ (high : Int) by omega)]
          rfl)
      obtain ⟨v, vB, e, M⟩ := lp
      refine ⟨v, vB, ?_, M⟩
      simp only [Option.bind_some]
      rw [e]
      rfl
    · intro g low high head h1 h2 h3 h4 hf hg
      obtain ⟨g, rfl⟩ : ∃ g', g = g' + 1 := ⟨g - 1, by omega⟩
      show ∃ v : Nat, v ≤ _ ∧ spec_l9Row_one (spec_l9Tree_knot f).1 (spec_l9Tree_knot f).2 S (low : Int) (high : Int) (head : Int) = some (v : Int) ∧ MaxP S (if high < low then [[]] else (List.range (high + 1 - low)).flatMap fun d => ((gen g).1 low (low + d) head).flatMap fun a => ((gen g).2 (low + d + 1) high head).map fun b => a ++ b) v
      unfold spec_l9Row_one spec_l9Row_n9 spec_l9Row_n1
      by_cases z : high < low
      · rw [decide_eq_true (show (low : Int) > (high : Int) by omega), if_pos z]
        exact ⟨0, by omega, rfl, ⟨[], by simp, rfl⟩, fun l hl => by
          rw [List.mem_singleton] at hl
          rw [hl]
          exact Nat.le_refl _⟩
      · rw [decide_eq_false (show ¬ (low : Int) > (high : Int) by omega), if_neg z]
        have lp := max_loop (S := S) (F := fun d => ((gen g).1 low (low + d) head).flatMap fun a => ((gen g).2 (low + d + 1) high head).map fun b => a ++ b)
          (m := high + 1 - low) (B := 20 * (high + 1 - low)) low (by omega) (by omega) (by omega) (by omega)
          (body := fun (s : Int × Int) => ((spec_l9Row_n3 (spec_l9Tree_knot f).1 (spec_l9Tree_knot f).2 S (low : Int) (high : Int) (head : Int) s.1 s.2).map (Sum.elim (fun (t : Int × Int) => Sum.inl (t.1, t.2)) (fun (t : Int) => Sum.inr t)) : Option ((Int × Int) ⊕ (Int))))
          (by
            intro d hd
            obtain ⟨va, ba, ea, ma⟩ := iT g low (low + d) head h1 (by omega) (by omega) h4 (by omega) (by omega)
            obtain ⟨vb, bb, eb, mb⟩ := iR g (low + d + 1) high head (by omega) (by omega) (by omega) h4 (by omega) (by omega)
            refine ⟨0 + va + vb, by omega, ma.mix mb (k := fun a b => a ++ b) (fun x y => by rw [sumP_app]; omega), fun b => ?_⟩
            have w2 : IntKind.wrap .i64 (((low + d : Nat) : Int) + 1) = ((low + d + 1 : Nat) : Int) := by rw [wrap64 (by omega) (by omega)]; omega
            simp only [spec_l9Row_n3, w2]
            rw [decide_eq_true (show ((low + d : Nat) : Int) ≤ (high : Int) by omega), ea]
            simp only [cond_true, Option.bind_some, eb, Option.map_some, Sum.elim_inl]
            rw [wrap64 (by omega) (by omega), Nat.zero_add]
            rfl)
          (by
            intro b
            simp only [spec_l9Row_n3]
            rw [decide_eq_false (show ¬ ((low + (high + 1 - low) : Nat) : Int) ≤ (high : Int) by omega)]
            rfl)
        obtain ⟨v, vB, e, M⟩ := lp
        refine ⟨v, vB, ?_, M⟩
        simp only [cond_false, Option.bind_some, Sum.elim_inl]
        unfold spec_l9Row_n8 spec_l9Row_n6 spec_l9Row_n2 spec_l9Row_n5 spec_l9Row_n4 spec_l9Row_n7
        simp only [Option.bind_some]
        rw [e]
        rfl

end

noncomputable def bflatI (S : List (List Int)) : Int := if okB S then (spec_l9Tree S 1 ((S.length : Nat) : Int) 0).getD 0 else -1

theorem flat_val {S : List (List Int)} (o : okB S = true) : ∃ v : Nat, spec_l9Tree S 1 ((S.length : Nat) : Int) 0 = some (v : Int) ∧ MaxP S ((gen (2 * S.length)).1 1 S.length 0) v := by
  have l5 := okB_len o
  obtain ⟨v, _, e, M⟩ := (flat_dp o RR).1 (2 * S.length) 1 S.length 0 (by omega) (by omega) (by omega) (by omega) (by simp only [RR]; omega) (by omega)
  have e2 : spec_l9Tree S 1 ((S.length : Nat) : Int) 0 = (spec_l9Tree_knot RR).1 S 1 ((S.length : Nat) : Int) 0 := by unfold spec_l9Tree spec_l9Tree_fuel; rfl
  exact ⟨v, by rw [e2]; exact e, M⟩

theorem specBestFlat_eq (S : List (List Int)) (hl : S.length ≤ 1048576) : spec_BestFlat S = some (bflatI S) := by
  unfold spec_BestFlat spec_BestFlat_n1 bflatI
  rw [specScores_eq S hl]
  cases o : okB S with
  | false => rfl
  | true =>
    obtain ⟨v, e, _⟩ := flat_val o
    simp only [Option.bind_some, Bool.not_true, cond_false, e, if_true, Option.getD_some]

abbrev Prs := List (List (Nat × Nat))

/-- The words between two ends: those up to some word hang on the left end, the others on the right one. -/
def btw (p : (Nat → Nat → Prs) × (Nat → Nat → Prs)) (f l : Nat) : Prs := (List.range (l - f)).flatMap fun d => (p.1 f (f + d)).flatMap fun a => (p.2 (f + d + 1) l).map fun b => a ++ b

/-- Parts that hang on their first word, and on their last one. -/
def two : Nat → (Nat → Nat → Prs) × (Nat → Nat → Prs)
  | 0 => (fun _ _ => [], fun _ _ => [])
  | k + 1 => (fun f l => if l ≤ f then [[]] else (List.range (l - f)).flatMap fun d => (btw (two k) f (f + 1 + d)).flatMap fun a => ((two k).1 (f + 1 + d) l).map fun b => (f + 1 + d, f) :: (a ++ b),
      fun f l => if l ≤ f then [[]] else (List.range (l - f)).flatMap fun d => ((two k).2 f (f + d)).flatMap fun a => (btw (two k) (f + d) l).map fun b => (f + d, l) :: (a ++ b))

/-- A root, with what hangs on it on both sides. -/
def whole (n k : Nat) : Prs := (List.range n).flatMap fun d => ((two k).2 1 (1 + d)).flatMap fun a => ((two k).1 (1 + d) n).map fun b => (1 + d, 0) :: (a ++ b)

abbrev Tab := List (Int × Int × Unit)

/-- An entry of the table that is right. -/
def GoodAt (S : List (List Int)) (T : Tab) (f l : Nat) : Prop := ∃ u v : Nat, T[f * 6 + l]? = some ((u : Int), (v : Int), ()) ∧ u ≤ 20 * (l - f) ∧ v ≤ 20 * (l - f) ∧ ∀ k, l - f < k → MaxP S ((two k).1 f l) u ∧ MaxP S ((two k).2 f l) v

/-- A loop that takes the greatest of parts, none of which is below 0. -/
theorem great_loop {S : List (List Int)} {P : Nat → Prop} {F : Nat → Nat → Prs} {m B : Nat} (low : Nat) (hm : 0 < m) (hB : B ≤ 1000) (hlow : low ≤ 1000) (hm2 : m ≤ 1000) {body : Int × Int → Option ((Int × Int) ⊕ Int)}
    (hs : ∀ d, d < m → ∃ v : Nat, v ≤ B ∧ (∀ k, P k → MaxP S (F k d) v) ∧ ∀ b : Int, body (b, ((low + d : Nat) : Int)) = some (Sum.inl (imax b (v : Int), ((low + d + 1 : Nat) : Int))))
    (he : ∀ b : Int, body (b, ((low + m : Nat) : Int)) = some (Sum.inr b)) :
    ∃ v : Nat, v ≤ B ∧ nloop body LL (0, (low : Int)) = some (v : Int) ∧ ∀ k, P k → MaxP S ((List.range m).flatMap (F k)) v := by
  have := nloop_ex (body := body)
    (I := fun t => ∃ d : Nat, t.2 = ((low + d : Nat) : Int) ∧ d ≤ m ∧ ((d = 0 ∧ t.1 = 0) ∨ ∃ v : Nat, v ≤ B ∧ t.1 = (v : Int) ∧ ∀ k, P k → MaxP S ((List.range d).flatMap (F k)) v))
    (μ := fun t => low + m - t.2.toNat)
    (Q := fun o => ∃ v : Nat, v ≤ B ∧ o = (v : Int) ∧ ∀ k, P k → MaxP S ((List.range m).flatMap (F k)) v)
    (by
      rintro ⟨b, r⟩ ⟨d, er, dm, I⟩
      simp only at er I
      subst er
      by_cases lt : d < m
      · left
        obtain ⟨v, vB, vM, hv⟩ := hs d lt
        refine ⟨_, hv b, ⟨d + 1, rfl, lt, .inr ?_⟩, by simp only [Int.toNat_natCast]; omega⟩
        have er : ∀ k, (List.range (d + 1)).flatMap (F k) = (List.range d).flatMap (F k) ++ F k d := fun k => by rw [List.range_succ, List.flatMap_append, List.flatMap_singleton]
        rcases I with ⟨z, eb⟩ | ⟨u, uB, eb, uM⟩
        · subst z
          refine ⟨v, vB, ?_, fun k hk => by rw [er]; simpa using vM k hk⟩
          simp only [eb]
          unfold imax
          split <;> omega
        · refine ⟨max u v, by omega, ?_, fun k hk => by rw [er]; exact (uM k hk).app (vM k hk)⟩
          simp only [eb]
          exact imaxN u v
      · right
        have : d = m := by omega
        subst this
        rcases I with ⟨z, _⟩ | ⟨u, uB, eb, uM⟩
        · omega
        · exact ⟨b, he b, u, uB, eb, uM⟩) LL (0, (low : Int)) ⟨0, rfl, by omega, .inl ⟨rfl, rfl⟩⟩ (by simp only [LL]; omega)
  obtain ⟨o, ho, v, vB, e, M⟩ := this
  exact ⟨v, vB, by rw [ho, e], M⟩

theorem part_len {T : Tab} (hT : T.length = 36) {f : Nat} (hf : f < 6) : ((T.drop (f * 6)).take 6).length = 6 := by
  rw [List.length_take, List.length_drop, hT]
  omega
theorem part_get {T : Tab} {f l : Nat} (hl : l < 6) {e : Int × Int × Unit} (h : T[f * 6 + l]? = some e) : idx ((T.drop (f * 6)).take 6) (l : Int) = some e := by
  rw [idx_nat, List.getElem?_take, if_pos hl, List.getElem?_drop, h]
theorem same_refl (n : Nat) : same n n = some () := by simp [same]
theorem wrapS {x : Nat} (h : x ≤ 1000) : IntKind.wrap .i64 ((x : Int) + 1) = ((x + 1 : Nat) : Int) := by rw [wrap64 (by omega) (by omega)]; omega
theorem wrapP {x : Nat} (h : x ≤ 1000) (h1 : 1 ≤ x) : IntKind.wrap .i64 ((x : Int) - 1) = ((x - 1 : Nat) : Int) := by rw [wrap64 (by omega) (by omega)]; omega
theorem wrapA {x y : Nat} (h : x + y ≤ 1000) : IntKind.wrap .i64 ((x : Int) + (y : Int)) = ((x + y : Nat) : Int) := by rw [wrap64 (by omega) (by omega)]; omega

section
variable {S : List (List Int)}

/-- The words between two ends. -/
theorem between_ok {T : Tab} (hT : T.length = 36) {f l : Nat} (hf : f < l) (hl : l ≤ 5) (G : ∀ d, d < l - f → GoodAt S T f (f + d) ∧ GoodAt S T (f + d + 1) l) :
    ∃ m : Nat, m ≤ 20 * (l - f - 1) ∧ impl_partTable_between T (f : Int) (l : Int) = some (m : Int) ∧ ∀ k, l - f ≤ k → MaxP S (btw (two k) f l) m := by
  have e : impl_partTable_between T (f : Int) (l : Int) = impl_partTable_between_n1 T (f : Int) (l : Int) := by unfold impl_partTable_between; rfl
  rw [e]
  unfold impl_partTable_between_n1
  have e2 : ∀ x, impl_greatest_v2 (f : Int) x T (f : Int) (l : Int) = impl_greatest_v2_n9 (f : Int) x T (f : Int) (l : Int) := fun x => by unfold impl_greatest_v2; rfl
  rw [wrapP (x := l) (by omega) (by omega), e2]
  unfold impl_greatest_v2_n9 impl_greatest_v2_n1 impl_greatest_v2_n8 impl_greatest_v2_n6 impl_greatest_v2_n2 impl_greatest_v2_n5 impl_greatest_v2_n4 impl_greatest_v2_n7
  have lp := great_loop (S := S) (P := fun k => l - f ≤ k) (F := fun k d => ((two k).1 f (f + d)).flatMap fun a => ((two k).2 (f + d + 1) l).map fun b => a ++ b) (m := l - f) (B := 20 * (l - f - 1)) f (by omega) (by omega) (by omega) (by omega)
    (body := fun (s : Int × Int) => ((impl_greatest_v2_n3 ((l - 1 : Nat) : Int) T (f : Int) (l : Int) s.1 s.2).map (Sum.elim (fun (t : Int × Int) => Sum.inl (t.1, t.2)) (fun (t : Int) => Sum.inr t)) : Option ((Int × Int) ⊕ (Int))))
    (by
      intro d hd
      obtain ⟨⟨u, _, e1, b1, _, M1⟩, ⟨_, v, e2, _, b2, M2⟩⟩ := G d hd
      refine ⟨0 + u + v, by omega, fun k hk => (M1 k (by omega)).1.mix (M2 k (by omega)).2 (k := fun a b => a ++ b) (fun x y => by rw [sumP_app]; omega), fun b => ?_⟩
      simp only [impl_greatest_v2_n3]
      rw [decide_eq_true (show ((f + d : Nat) : Int) ≤ ((l - 1 : Nat) : Int) by omega)]
      have e3 : impl_partTable_between_1 ((f + d : Nat) : Int) T (f : Int) (l : Int) = some ((u + v : Nat) : Int) := by
        have e : impl_partTable_between_1 ((f + d : Nat) : Int) T (f : Int) (l : Int) = impl_partTable_between_1_n1 ((f + d : Nat) : Int) T (f : Int) (l : Int) := by unfold impl_partTable_between_1; rfl
        rw [e]
        unfold impl_partTable_between_1_n1
        rw [hT, same_refl, inb_nat (show f < 6 by omega)]
        simp only [Option.bind_some]
        rw [part_len hT (show f < 6 by omega), same_refl, part_get (show f + d < 6 by omega) e1, wrapS (show f + d ≤ 1000 by omega), inb_nat (show f + d + 1 < 6 by omega)]
        simp only [Option.bind_some]
        rw [part_len hT (show f + d + 1 < 6 by omega), same_refl, part_get (show l < 6 by omega) e2]
        simp only [Option.bind_some]
        rw [wrapA (by omega)]
      rw [e3]
      simp only [cond_true, Option.bind_some, Option.map_some, Sum.elim_inl]
      rw [wrapS (show f + d ≤ 1000 by omega), Nat.zero_add])
    (by
      intro b
      simp only [impl_greatest_v2_n3]
      rw [decide_eq_false (show ¬ ((f + (l - f) : Nat) : Int) ≤ ((l - 1 : Nat) : Int) by omega)]
      rfl)
  obtain ⟨m, mB, em, M⟩ := lp
  refine ⟨m, mB, ?_, M⟩
  simp only [Option.bind_some]
  rw [em]
  rfl

variable (o : okB S = true)
include o

theorem joined_ok {T : Tab} (hT : T.length = 36) {f l : Nat} (h1 : 1 ≤ f) (hf : f < l) (hl : l ≤ S.length) (G : ∀ a b, f ≤ a → a ≤ b → b ≤ l → (f < a ∨ b < l) → GoodAt S T a b) :
    ∃ u v : Nat, u ≤ 20 * (l - f) ∧ v ≤ 20 * (l - f) ∧ impl_partTable_joined T S (f : Int) (l : Int) = some ((u : Int), (v : Int)) ∧ ∀ k, l - f < k → MaxP S ((two k).1 f l) u ∧ MaxP S ((two k).2 f l) v := by
  have l5 := okB_len o
  have e : impl_partTable_joined T S (f : Int) (l : Int) = impl_partTable_joined_n1 T S (f : Int) (l : Int) := by unfold impl_partTable_joined; rfl
  rw [e]
  unfold impl_partTable_joined_n1
  rw [wrapS (show f ≤ 1000 by omega), wrapP (x := l) (by omega) (by omega)]
  have e1 : impl_greatest ((f + 1 : Nat) : Int) (l : Int) T (f : Int) S (l : Int) = impl_greatest_n9 ((f + 1 : Nat) : Int) (l : Int) T (f : Int) S (l : Int) := by unfold impl_greatest; rfl
  have e2 : impl_greatest_v3 (f : Int) ((l - 1 : Nat) : Int) T (f : Int) S (l : Int) = impl_greatest_v3_n9 (f : Int) ((l - 1 : Nat) : Int) T (f : Int) S (l : Int) := by unfold impl_greatest_v3; rfl
  have lp1 := great_loop (S := S) (P := fun k => l - f ≤ k) (F := fun k d => (btw (two k) f (f + 1 + d)).flatMap fun a => ((two k).1 (f + 1 + d) l).map fun b => (f + 1 + d, f) :: (a ++ b)) (m := l - f) (B := 20 * (l - f)) (f + 1) (by omega) (by omega) (by omega) (by omega)
    (body := fun (s : Int × Int) => ((impl_greatest_n3 (l : Int) T (f : Int) S (l : Int) s.1 s.2).map (Sum.elim (fun (t : Int × Int) => Sum.inl (t.1, t.2)) (fun (t : Int) => Sum.inr t)) : Option ((Int × Int) ⊕ (Int))))
    (by
      intro d hd
      obtain ⟨m, mB, em, M⟩ := between_ok (S := S) hT (f := f) (l := f + 1 + d) (by omega) (by omega) (fun i hi => ⟨G _ _ (by omega) (by omega) (by omega) (by omega), G _ _ (by omega) (by omega) (by omega) (by omega)⟩)
      obtain ⟨u, _, e3, b1, _, M1⟩ := G (f + 1 + d) l (by omega) (by omega) (by omega) (by omega)
      obtain ⟨s1, s2, s3⟩ := okB_word o (k := f + d) (j := f) (by omega) (by omega)
      refine ⟨scN S (f + d) f + m + u, by omega, fun k hk => (M k (by omega)).mix (M1 k (by omega)).1 (k := fun a b => (f + 1 + d, f) :: (a ++ b)) (fun x y => by
        rw [sumP, sumP_app]
        show scN S (f + 1 + d - 1) f + (sumP S x + sumP S y) = _
        rw [show f + 1 + d - 1 = f + d by omega]
        omega), fun b => ?_⟩
      simp only [impl_greatest_n3]
      rw [decide_eq_true (show ((f + 1 + d : Nat) : Int) ≤ (l : Int) by omega)]
      have e4 : impl_partTable_joined_1 ((f + 1 + d : Nat) : Int) T (f : Int) S (l : Int) = some ((scN S (f + d) f + m + u : Nat) : Int) := by
        have e : impl_partTable_joined_1 ((f + 1 + d : Nat) : Int) T (f : Int) S (l : Int) = impl_partTable_joined_1_n1 ((f + 1 + d : Nat) : Int) T (f : Int) S (l : Int) := by unfold impl_partTable_joined_1; rfl
        rw [e]
        unfold impl_partTable_joined_1_n1
        rw [wrapP (x := f + 1 + d) (by omega) (by omega), show f + 1 + d - 1 = f + d by omega, idx_getD (show f + d < S.length by omega) []]
        simp only [Option.bind_some]
        rw [idx_getD (show f < (S.getD (f + d) []).length by omega) 0, s2, hT, same_refl, inb_nat (show f + 1 + d < 6 by omega)]
        simp only [Option.bind_some]
        rw [part_len hT (show f + 1 + d < 6 by omega), same_refl, part_get (show l < 6 by omega) e3, em]
        simp only [Option.bind_some]
        rw [wrapA (by omega), wrapA (by omega)]
        congr 2
        omega
      rw [e4]
      simp only [cond_true, Option.bind_some, Option.map_some, Sum.elim_inl]
      rw [wrapS (show f + 1 + d ≤ 1000 by omega)])
    (by
      intro b
      simp only [impl_greatest_n3]
      rw [decide_eq_false (show ¬ ((f + 1 + (l - f) : Nat) : Int) ≤ (l : Int) by omega)]
      rfl)
  have lp2 := great_loop (S := S) (P := fun k => l - f ≤ k) (F := fun k d => ((two k).2 f (f + d)).flatMap fun a => (btw (two k) (f + d) l).map fun b => (f + d, l) :: (a ++ b)) (m := l - f) (B := 20 * (l - f)) f (by omega) (by omega) (by omega) (by omega)
    (body := fun (s : Int × Int) => ((impl_greatest_v3_n3 ((l - 1 : Nat) : Int) T (f : Int) S (l : Int) s.1 s.2).map (Sum.elim (fun (t : Int × Int) => Sum.inl (t.1, t.2)) (fun (t : Int) => Sum.inr t)) : Option ((Int × Int) ⊕ (Int))))
    (by
      intro d hd
      obtain ⟨m, mB, em, M⟩ := between_ok (S := S) hT (f := f + d) (l := l) (by omega) (by omega) (fun i hi => ⟨G _ _ (by omega) (by omega) (by omega) (by omega), G _ _ (by omega) (by omega) (by omega) (by omega)⟩)
      obtain ⟨_, v, e3, _, b1, M1⟩ := G f (f + d) (by omega) (by omega) (by omega) (by omega)
      obtain ⟨s1, s2, s3⟩ := okB_word o (k := f + d - 1) (j := l) (by omega) (by omega)
      refine ⟨scN S (f + d - 1) l + v + m, by omega, fun k hk => (M1 k (by omega)).2.mix (M k (by omega)) (k := fun a b => (f + d, l) :: (a ++ b)) (fun x y => by
        rw [sumP, sumP_app]
        show scN S (f + d - 1) l + (sumP S x + sumP S y) = _
        omega), fun b => ?_⟩
      simp only [impl_greatest_v3_n3]
      rw [decide_eq_true (show ((f + d : Nat) : Int) ≤ ((l - 1 : Nat) : Int) by omega)]
      have e4 : impl_partTable_joined_2 ((f + d : Nat) : Int) T (f : Int) S (l : Int) = some ((scN S (f + d - 1) l + v + m : Nat) : Int) := by
        have e : impl_partTable_joined_2 ((f + d : Nat) : Int) T (f : Int) S (l : Int) = impl_partTable_joined_2_n1 ((f + d : Nat) : Int) T (f : Int) S (l : Int) := by unfold impl_partTable_joined_2; rfl
        rw [e]
        unfold impl_partTable_joined_2_n1
        rw [hT, same_refl, inb_nat (show f < 6 by omega)]
        simp only [Option.bind_some]
        rw [part_len hT (show f < 6 by omega), same_refl, part_get (show f + d < 6 by omega) e3, wrapP (x := f + d) (by omega) (by omega), idx_getD (show f + d - 1 < S.length by omega) []]
        simp only [Option.bind_some]
        rw [idx_getD (show l < (S.getD (f + d - 1) []).length by omega) 0, s2, em]
        simp only [Option.bind_some]
        rw [wrapA (by omega), wrapA (by omega)]
        congr 2
        omega
      rw [e4]
      simp only [cond_true, Option.bind_some, Option.map_some, Sum.elim_inl]
      rw [wrapS (show f + d ≤ 1000 by omega)])
    (by
      intro b
      simp only [impl_greatest_v3_n3]
      rw [decide_eq_false (show ¬ ((f + (l - f) : Nat) : Int) ≤ ((l - 1 : Nat) : Int) by omega)]
      rfl)
  obtain ⟨u, uB, eu, Mu⟩ := lp1
  obtain ⟨v, vB, ev, Mv⟩ := lp2
  refine ⟨u, v, uB, vB, ?_, fun k hk => ?_⟩
  · rw [e1, e2]
    unfold impl_greatest_n9 impl_greatest_n1 impl_greatest_n8 impl_greatest_n6 impl_greatest_n2 impl_greatest_n5 impl_greatest_n4 impl_greatest_n7
    unfold impl_greatest_v3_n9 impl_greatest_v3_n1 impl_greatest_v3_n8 impl_greatest_v3_n6 impl_greatest_v3_n2 impl_greatest_v3_n5 impl_greatest_v3_n4 impl_greatest_v3_n7
    simp only [Option.bind_some]
    rw [eu]
    simp only [Option.map_some, Option.bind_some]
    rw [ev]
    rfl
  · obtain ⟨k, rfl⟩ : ∃ k', k = k' + 1 := ⟨k - 1, by omega⟩
    have q : ¬ l ≤ f := by omega
    simp only [two, if_neg q]
    exact ⟨Mu k (by omega), Mv k (by omega)⟩

omit o in
theorem zero_good {T : Tab} {f : Nat} (h : T[f * 6 + f]? = some ((0 : Int), ((0 : Int), ()))) : GoodAt S T f f := by
  refine ⟨0, 0, h, by omega, by omega, fun k hk => ?_⟩
  obtain ⟨k, rfl⟩ : ∃ k', k = k' + 1 := ⟨k - 1, by omega⟩
  simp only [two, if_pos (Nat.le_refl f)]
  have : MaxP S [[]] 0 := ⟨⟨[], by simp, rfl⟩, fun l hl => by
    have : l = [] := by simpa using hl
    subst this
    exact Nat.le_refl _⟩
  exact ⟨this, this⟩

omit o in
theorem GoodAt.keep {T : Tab} {f l i : Nat} {e : Int × Int × Unit} (h : GoodAt S T f l) (hi : i ≠ f * 6 + l) : GoodAt S (T.set i e) f l := by
  obtain ⟨u, v, h1, h2⟩ := h
  exact ⟨u, v, by rw [List.getElem?_set_ne hi]; exact h1, h2⟩

theorem column_ok {T : Tab} (hT : T.length = 36) {l : Nat} (h2 : 2 ≤ l) (hl : l ≤ S.length) (D : ∀ a, a ≤ 5 → GoodAt S T a a) (G : ∀ a b, 1 ≤ a → a ≤ b → b < l → GoodAt S T a b) :
    ∃ T', impl_bestParts_n9 S (l : Int) T = some T' ∧ T'.length = 36 ∧ (∀ a, a ≤ 5 → GoodAt S T' a a) ∧ ∀ a b, 1 ≤ a → a ≤ b → b < l + 1 → GoodAt S T' a b := by
  have l5 := okB_len o
  unfold impl_bestParts_n9 impl_bestParts_n8 impl_bestParts_n4 impl_bestParts_n7 impl_bestParts_n6
  rw [wrapP (x := l) (by omega) (by omega)]
  have ex := nloop_ex (body := fun (s : Int × (List (Int × Int × Unit))) => ((impl_bestParts_n5 S (l : Int) s.1 s.2).map (Sum.elim (fun (t : Int × (List (Int × Int × Unit))) => Sum.inl (t.1, t.2)) (fun (t : (List (Int × Int × Unit))) => Sum.inr t)) : Option ((Int × (List (Int × Int × Unit))) ⊕ (((List (Int × Int × Unit)))))))
    (I := fun s => ∃ f : Nat, s.1 = (f : Int) ∧ f < l ∧ s.2.length = 36 ∧ (∀ a, a ≤ 5 → GoodAt S s.2 a a) ∧ (∀ a b, 1 ≤ a → a ≤ b → b < l → GoodAt S s.2 a b) ∧ ∀ a, f < a → a ≤ l → GoodAt S s.2 a l)
    (μ := fun s => s.1.toNat)
    (Q := fun T' => T'.length = 36 ∧ (∀ a, a ≤ 5 → GoodAt S T' a a) ∧ ∀ a b, 1 ≤ a → a ≤ b → b < l + 1 → GoodAt S T' a b)
    (by
      rintro ⟨ff, T⟩ ⟨f, ef, fl, hT, D, G, C⟩
      simp only at ef hT D G C
      subst ef
      simp only [impl_bestParts_n5]
      by_cases z : f = 0
      · right
        subst z
        rw [decide_eq_false (by omega)]
        refine ⟨T, rfl, hT, D, fun a b p1 p2 p3 => ?_⟩
        by_cases q : b = l
        · subst q; exact C a (by omega) p2
        · exact G a b p1 p2 (by omega)
      · left
        obtain ⟨u, v, uB, vB, ej, M⟩ := joined_ok o hT (f := f) (l := l) (by omega) fl hl (fun a b ha hab hb hor => by
          by_cases q : b = l
          · subst q; exact C a (by omega) hab
          · exact G a b (by omega) hab (by omega))
        have hi : f * 6 + l < T.length := by omega
        rw [decide_eq_true (show (f : Int) ≥ 1 by omega), hT, same_refl, inb_nat (show f < 6 by omega), inb_nat (show l < 6 by omega)]
        simp only [cond_true, Option.bind_some, ej]
        rw [show sure (Nat.ble (f * 6 + 6) 36) = some () by
          unfold sure
          rw [show Nat.ble (f * 6 + 6) 36 = true from Nat.ble_eq_true_of_le (by omega)]
          rfl, List.getElem?_eq_getElem hi]
        simp only [Option.bind_some, Option.map_some, Sum.elim_inl]
        rw [wrapP (x := f) (by omega) (by omega)]
        refine ⟨(((f - 1 : Nat) : Int), T.set (f * 6 + l) ((u : Int), (v : Int), ())), rfl, ⟨f - 1, rfl, by omega, by simp [hT], fun a ha => (D a ha).keep (by omega), fun a b h1 h2 h3 => (G a b h1 h2 h3).keep (by omega), fun a h1 h2 => ?_⟩, by simp only [Int.toNat_natCast]; omega⟩
        by_cases q : a = f
        · subst q
          exact ⟨u, v, by simp only; rw [List.getElem?_set_self hi], uB, vB, M⟩
        · exact (C a (by omega) h2).keep (by omega)) LL (((l - 1 : Nat) : Int), T) ⟨l - 1, rfl, by omega, hT, D, G, fun a h1 h2 => by
          have : a = l := by omega
          subst this
          exact D a (by omega)⟩ (by simp only [LL, Int.toNat_natCast]; omega)
  obtain ⟨T', e, q⟩ := ex
  simp only [Option.bind_some]
  rw [e]
  exact ⟨T', rfl, q⟩

theorem parts_ok : ∃ T, impl_bestParts S = some T ∧ T.length = 36 ∧ ∀ a b, 1 ≤ a → a ≤ b → b ≤ S.length → GoodAt S T a b := by
  have l5 := okB_len o
  have e : impl_bestParts S = impl_bestParts_n18 S := by unfold impl_bestParts; rfl
  rw [e]
  unfold impl_bestParts_n18 impl_bestParts_n1 impl_bestParts_n17 impl_bestParts_n15 impl_bestParts_n2 impl_bestParts_n14 impl_bestParts_n13 impl_bestParts_n16
  have ex := nloop_ex (body := fun (s : Int × (List (Int × Int × Unit))) => ((impl_bestParts_n12 S s.1 s.2).map (Sum.elim (fun (t : Int × (List (Int × Int × Unit))) => Sum.inl (t.1, t.2)) (fun (t : (List (Int × Int × Unit))) => Sum.inr t)) : Option ((Int × (List (Int × Int × Unit))) ⊕ (((List (Int × Int × Unit)))))))
    (I := fun s => ∃ l : Nat, s.1 = (l : Int) ∧ 2 ≤ l ∧ (l ≤ S.length + 1 ∨ l = 2) ∧ s.2.length = 36 ∧ (∀ a, a ≤ 5 → GoodAt S s.2 a a) ∧ (∀ a b, 1 ≤ a → a ≤ b → b < l → GoodAt S s.2 a b))
    (μ := fun s => 10 - s.1.toNat)
    (Q := fun T' => T'.length = 36 ∧ ∀ a b, 1 ≤ a → a ≤ b → b ≤ S.length → GoodAt S T' a b)
    (by
      rintro ⟨ll, T⟩ ⟨l, el, h2, hl, hT, D, G⟩
      simp only at el hT D G
      subst el
      unfold impl_bestParts_n12 impl_bestParts_n3
      by_cases lt : l ≤ S.length
      · left
        obtain ⟨T', eT, hT', D', G'⟩ := column_ok o hT h2 lt D G
        rw [decide_eq_true (show (l : Int) ≤ ((S.length : Nat) : Int) by omega)]
        simp only [cond_true, Option.bind_some, Sum.elim_inl]
        unfold impl_bestParts_n11 impl_bestParts_n10
        rw [eT, wrapS (show l ≤ 1000 by omega)]
        exact ⟨(((l + 1 : Nat) : Int), T'), rfl, ⟨l + 1, rfl, by omega, by omega, hT', D', G'⟩, by simp only [Int.toNat_natCast]; omega⟩
      · right
        rw [decide_eq_false (show ¬ (l : Int) ≤ ((S.length : Nat) : Int) by omega)]
        exact ⟨T, rfl, hT, fun a b h1 h3 h4 => G a b h1 h3 (by omega)⟩) LL (2, List.replicate 36 ((0 : Int), ((0 : Int), ()))) (by
      have Z : ∀ a, a ≤ 5 → GoodAt S (List.replicate 36 ((0 : Int), ((0 : Int), ()))) a a := fun a ha => zero_good (by rw [List.getElem?_replicate, if_pos (by omega)])
      refine ⟨2, rfl, by omega, .inr rfl, by simp, Z, fun a b h1 h3 h4 => ?_⟩
      have e1 : a = 1 := by omega
      have e2 : b = 1 := by omega
      subst e1 e2
      exact Z 1 (by omega)) (by simp only [LL]; omega)
  obtain ⟨T, eT, hT, G⟩ := ex
  simp only [Option.bind_some]
  rw [eT]
  exact ⟨T, rfl, hT, G⟩

theorem roots_ok {T : Tab} (hT : T.length = 36) (G : ∀ a b, 1 ≤ a → a ≤ b → b ≤ S.length → GoodAt S T a b) : ∃ m : Nat, impl_greatest_v4 1 ((S.length : Nat) : Int) T S ((S.length : Nat) : Int) = some (m : Int) ∧ MaxP S (whole S.length 5) m := by
  have l5 := okB_len o
  have e : impl_greatest_v4 1 ((S.length : Nat) : Int) T S ((S.length : Nat) : Int) = impl_greatest_v4_n9 1 ((S.length : Nat) : Int) T S ((S.length : Nat) : Int) := by unfold impl_greatest_v4; rfl
  rw [e]
  unfold impl_greatest_v4_n9 impl_greatest_v4_n1 impl_greatest_v4_n8 impl_greatest_v4_n6 impl_greatest_v4_n2 impl_greatest_v4_n5 impl_greatest_v4_n4 impl_greatest_v4_n7
  have lp := great_loop (S := S) (P := fun k => k = 5) (F := fun k d => ((two k).2 1 (1 + d)).flatMap fun a => ((two k).1 (1 + d) S.length).map fun b => (1 + d, 0) :: (a ++ b)) (m := S.length) (B := 200) 1 (by omega) (by omega) (by omega) (by omega)
    (body := fun (s : Int × Int) => ((impl_greatest_v4_n3 ((S.length : Nat) : Int) T S ((S.length : Nat) : Int) s.1 s.2).map (Sum.elim (fun (t : Int × Int) => Sum.inl (t.1, t.2)) (fun (t : Int) => Sum.inr t)) : Option ((Int × Int) ⊕ (Int))))
    (by
      intro d hd
      obtain ⟨_, v, e1, _, b1, M1⟩ := G 1 (1 + d) (by omega) (by omega) (by omega)
      obtain ⟨u, _, e2, b2, _, M2⟩ := G (1 + d) S.length (by omega) (by omega) (by omega)
      obtain ⟨s1, s2, s3⟩ := okB_word o (k := d) (j := 0) hd (by omega)
      refine ⟨scN S d 0 + v + u, by omega, fun k hk => (M1 k (by omega)).2.mix (M2 k (by omega)).1 (k := fun a b => (1 + d, 0) :: (a ++ b)) (fun x y => by
        rw [sumP, sumP_app]
        show scN S (1 + d - 1) 0 + (sumP S x + sumP S y) = _
        rw [show 1 + d - 1 = d by omega]
        omega), fun b => ?_⟩
      simp only [impl_greatest_v4_n3]
      rw [decide_eq_true (show ((1 + d : Nat) : Int) ≤ ((S.length : Nat) : Int) by omega)]
      have e4 : impl_BestFlat_1 ((1 + d : Nat) : Int) T S ((S.length : Nat) : Int) = some ((scN S d 0 + v + u : Nat) : Int) := by
        have e : impl_BestFlat_1 ((1 + d : Nat) : Int) T S ((S.length : Nat) : Int) = impl_BestFlat_1_n1 ((1 + d : Nat) : Int) T S ((S.length : Nat) : Int) := by unfold impl_BestFlat_1; rfl
        rw [e]
        unfold impl_BestFlat_1_n1
        rw [hT, same_refl, show inb 1 6 = some 1 from rfl, wrapP (x := 1 + d) (by omega) (by omega), show 1 + d - 1 = d by omega, inb_nat (show 1 + d < 6 by omega)]
        simp only [Option.bind_some]
        rw [part_len hT (show 1 < 6 by omega), same_refl, part_get (show 1 + d < 6 by omega) e1, idx_getD hd []]
        simp only [Option.bind_some]
        rw [show (0 : Int) = ((0 : Nat) : Int) from rfl, idx_getD (show 0 < (S.getD d []).length by omega) 0, s2]
        simp only [Option.bind_some]
        rw [part_len hT (show 1 + d < 6 by omega), same_refl, part_get (show S.length < 6 by omega) e2]
        simp only [Option.bind_some]
        rw [wrapA (by omega), wrapA (by omega)]
        congr 2
        omega
      rw [e4]
      simp only [cond_true, Option.bind_some, Option.map_some, Sum.elim_inl]
      rw [wrapS (show 1 + d ≤ 1000 by omega)])
    (by
      intro b
      simp only [impl_greatest_v4_n3]
      rw [decide_eq_false (show ¬ ((1 + S.length : Nat) : Int) ≤ ((S.length : Nat) : Int) by omega)]
      rfl)
  obtain ⟨m, _, em, M⟩ := lp
  refine ⟨m, ?_, M 5 rfl⟩
  simp only [Option.bind_some]
  have em' := em
  rw [show ((1 : Nat) : Int) = 1 from rfl] at em'
  rw [em']
  rfl

end

theorem wh_up4 : ((List.range 4).all fun i => (whole (i + 1) 5).all fun g => ((gen (2 * (i + 1))).1 1 (i + 1) 0).any fun g' => g.isPerm g') = true := by decide +kernel
theorem wh_dn4 : ((List.range 4).all fun i => ((gen (2 * (i + 1))).1 1 (i + 1) 0).all fun g => (whole (i + 1) 5).any fun g' => g.isPerm g') = true := by decide +kernel
theorem wh_up5 : ((whole 5 5).all fun g => ((gen 10).1 1 5 0).any fun g' => g.isPerm g') = true := by decide +kernel
theorem wh_dn5 : (((gen 10).1 1 5 0).all fun g => (whole 5 5).any fun g' => g.isPerm g') = true := by decide +kernel

theorem wh_up {n : Nat} (n1 : 1 ≤ n) (n5 : n ≤ 5) {g : List (Nat × Nat)} (hg : g ∈ whole n 5) : ∃ g', g' ∈ (gen (2 * n)).1 1 n 0 ∧ g.Perm g' := by
  have b : (((gen (2 * n)).1 1 n 0).any fun g' => g.isPerm g') = true := by
    by_cases e : n = 5
    · subst e
      exact List.all_eq_true.mp wh_up5 g hg
    · have := all_lt wh_up4 (i := n - 1) (by omega)
      rw [show n - 1 + 1 = n by omega] at this
      exact List.all_eq_true.mp this g hg
  rw [List.any_eq_true] at b
  obtain ⟨g', h1, h2⟩ := b
  exact ⟨g', h1, List.isPerm_iff.mp h2⟩

theorem wh_dn {n : Nat} (n1 : 1 ≤ n) (n5 : n ≤ 5) {g : List (Nat × Nat)} (hg : g ∈ (gen (2 * n)).1 1 n 0) : ∃ g', g' ∈ whole n 5 ∧ g.Perm g' := by
  have b : ((whole n 5).any fun g' => g.isPerm g') = true := by
    by_cases e : n = 5
    · subst e
      exact List.all_eq_true.mp wh_dn5 g hg
    · have := all_lt wh_dn4 (i := n - 1) (by omega)
      rw [show n - 1 + 1 = n by omega] at this
      exact List.all_eq_true.mp this g hg
  rw [List.any_eq_true] at b
  obtain ⟨g', h1, h2⟩ := b
  exact ⟨g', h1, List.isPerm_iff.mp h2⟩

theorem implBestFlat_eq (S : List (List Int)) (sz : szT S ≤ 1048576) : impl_BestFlat S = some (bflatI S) := by
  have e : impl_BestFlat S = impl_BestFlat_n1 S := by unfold impl_BestFlat; rfl
  rw [e]
  unfold impl_BestFlat_n1
  rw [implScores_eq S sz]
  cases o : okB S with
  | false =>
    unfold bflatI
    rw [o]
    rfl
  | true =>
    have l5 := okB_len o
    obtain ⟨T, eT, hT, G⟩ := parts_ok o
    obtain ⟨m, em, ⟨g, hg, sg⟩, up⟩ := roots_ok o hT G
    obtain ⟨v, ev, ⟨g2, hg2, sg2⟩, up2⟩ := flat_val o
    simp only [Option.bind_some, Bool.not_true, cond_false, eT, em]
    congr 1
    unfold bflatI
    rw [if_pos o, ev, Option.getD_some]
    obtain ⟨g', h1, p1⟩ := wh_up l5.1 l5.2 hg
    obtain ⟨g3, h3, p3⟩ := wh_dn l5.1 l5.2 hg2
    have a := up2 g' h1
    have b := up g3 h3
    rw [← sumP_perm S p1, sg] at a
    rw [← sumP_perm S p3, sg2] at b
    omega

end Go.Rv
