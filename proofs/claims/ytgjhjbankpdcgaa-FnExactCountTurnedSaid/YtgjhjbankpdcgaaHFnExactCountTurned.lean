/-
  Plain mathematics of what the law reaches. Conditions: none.
-/
import Derived.Test.YtgjhjbankpdcgaaGFnExactCountTurned
set_option linter.unusedVariables false
set_option linter.unusedSimpArgs false
namespace Go.Rv
theorem nloop_run {σ ω : Type} {body : σ → Option (σ ⊕ ω)} (I : σ → Prop) (μ : σ → Nat) (f : σ → ω)
    (h : ∀ s, I s → (∃ s', body s = some (.inl s') ∧ I s' ∧ μ s' < μ s ∧ f s' = f s) ∨ body s = some (.inr (f s))) : ∀ (n : Nat) (s : σ), I s → μ s < n → nloop body n s = some (f s)
  | 0, s, _, hn => by omega
  | n + 1, s, hi, hn => by
    rcases h s hi with ⟨s', hb, hi', hm, hf⟩ | hb
    · simp only [nloop, hb, Option.bind_some]
      rw [nloop_run I μ f h n s' hi' (by omega), hf]
    · simp only [nloop, hb, Option.bind_some]

/-- A loop that counts from a number on: state (k, x), k < n goes on. -/
theorem wrap64 {x : Int} (h1 : -9223372036854775808 ≤ x) (h2 : x ≤ 9223372036854775807) : IntKind.wrap .i64 x = x := by
  simp only [IntKind.wrap, IntKind.bits, IntKind.signed]
  simp
  omega

theorem idx_lt {α : Type} {xs : List α} {k : Nat} (h : k < xs.length) : idx xs (k : Int) = some xs[k] := by simp [idx, h]
theorem inb_nat {k n : Nat} (h : k < n) : inb (k : Int) n = some k := by
  simp only [inb]
  rw [if_pos (by omega)]
  simp
theorem mk_nat {n : Nat} (h : n ≤ 1099511627776) : mk (n : Int) (n : Int) = some n := by
  simp only [mk]
  rw [if_pos (by omega)]
  simp
theorem toIntS_eq (xs : List Int) (h : xs.length ≤ 1048576) : laws_toIntS xs = some xs := by
  have hl := nloop_run (body := fun (s : Int × (List Int)) => ((laws_toIntS_n3 xs s.1 s.2).map (Sum.elim (fun (t : Int × (List Int)) => Sum.inl (t.1, t.2)) (fun (t : (List Int)) => Sum.inr t)) : Option ((Int × (List Int)) ⊕ (((List Int))))))
    (I := fun s => ∃ k : Nat, s.1 = k ∧ k ≤ xs.length ∧ s.2.length = xs.length) (μ := fun s => xs.length - s.1.toNat) (f := fun s => s.2.take s.1.toNat ++ xs.drop s.1.toNat)
    (by
      rintro ⟨_, out⟩ ⟨k, rfl, hk, ho⟩
      simp only at ho
      by_cases hlt : k < xs.length
      · left
        refine ⟨((k + 1 : Nat), out.set k xs[k]), ?_, ⟨k + 1, rfl, hlt, by simpa using ho⟩, by simp; omega, ?_⟩
        · simp only [laws_toIntS_n3]
          rw [show decide ((k : Int) < ((xs.length : Nat) : Int)) = true from decide_eq_true (by omega)]
          simp only [cond_true, idx_lt hlt, Option.bind_some, inb_nat (show k < out.length by omega)]
          rw [wrap64 (by omega) (by omega)]
          simp
        · simp only [Int.toNat_natCast]
          rw [List.take_set, List.take_add_one, List.getElem?_eq_getElem (by omega)]
          have hl : (out.take k).length = k := by simp; omega
          rw [List.set_append_right _ _ (by omega), hl]
          simp
      · right
        have e : k = xs.length := by omega
        subst e
        simp only [laws_toIntS_n3]
        rw [show decide (((xs.length : Nat) : Int) < ((xs.length : Nat) : Int)) = false from decide_eq_false (by omega)]
        simp [List.take_of_length_le (Nat.le_of_eq ho)])
  unfold laws_toIntS laws_toIntS_n9 laws_toIntS_n1 laws_toIntS_n8 laws_toIntS_n6 laws_toIntS_n2 laws_toIntS_n5 laws_toIntS_n4 laws_toIntS_n7
  rw [mk_nat (by omega)]
  simp only [Option.bind_some]
  rw [hl LL (0, List.replicate xs.length 0) ⟨0, by simp, by omega, by simp⟩ (by simp only [LL]; simp; omega)]
  simp

theorem drop_cons {α : Type} {xs : List α} {k : Nat} (h : k < xs.length) : xs.drop k = xs[k] :: xs.drop (k + 1) := List.drop_eq_getElem_cons h

theorem drop_beq {xs ys : List Int} {k : Nat} (h1 : k < xs.length) (h2 : k < ys.length) : (xs.drop k == ys.drop k) = (xs[k] == ys[k] && xs.drop (k + 1) == ys.drop (k + 1)) := by
  rw [drop_cons h1, drop_cons h2]
  rfl

theorem eqIntS_eq (xs ys : List Int) (h : xs.length ≤ 1048576) : laws_eqIntS xs ys = some (xs == ys) := by
  unfold laws_eqIntS laws_eqIntS_n9 laws_eqIntS_n1 laws_eqIntS_n8 laws_eqIntS_n6 laws_eqIntS_n5 laws_eqIntS_n4 laws_eqIntS_n2 laws_eqIntS_n7
  by_cases hl : xs.length = ys.length
  · have hloop := nloop_run (body := fun (s : Int) => ((laws_eqIntS_n3 xs ys s).map (Sum.elim (fun (t : Int) => Sum.inl t) (Sum.elim (fun (t : Bool) => Sum.inr (Sum.inl t)) (fun (t : Unit) => Sum.inr (Sum.inr t)))) : Option ((Int) ⊕ (Bool ⊕ Unit))))
      (I := fun s => ∃ k : Nat, s = k ∧ k ≤ xs.length) (μ := fun s => xs.length - s.toNat) (f := fun s => cond (xs.drop s.toNat == ys.drop s.toNat) (.inr ()) (.inl false))
      (by
        rintro _ ⟨k, rfl, hk⟩
        by_cases hlt : k < xs.length
        · have hlt' : k < ys.length := by omega
          simp only [laws_eqIntS_n3]
          rw [show decide ((k : Int) < ((xs.length : Nat) : Int)) = true from decide_eq_true (by omega)]
          simp only [cond_true, idx_lt hlt, idx_lt hlt', Option.bind_some, Int.toNat_natCast]
          rw [wrap64 (by omega) (by omega), drop_beq hlt hlt']
          by_cases he : xs[k] = ys[k]
          · left
            refine ⟨((k + 1 : Nat) : Int), by simp [he], ⟨k + 1, rfl, hlt⟩, by simp; omega, by simp [he]⟩
          · right
            have e1 : (xs[k] == ys[k]) = false := by simpa using he
            simp [bne, e1]
        · right
          have e : k = xs.length := by omega
          subst e
          simp only [laws_eqIntS_n3]
          rw [show decide (((xs.length : Nat) : Int) < ((xs.length : Nat) : Int)) = false from decide_eq_false (by omega)]
          simp [List.drop_of_length_le (Nat.le_of_eq hl.symm)])
    rw [show ((((xs.length : Nat) : Int)) != (((ys.length : Nat) : Int))) = false by simp [hl]]
    simp only [cond_false, Option.bind_some, Sum.elim_inl]
    rw [hloop LL 0 ⟨0, by simp, by omega⟩ (by simp only [LL]; simp; omega)]
    simp only [Int.toNat_zero, List.drop_zero]
    cases xs == ys <;> rfl
  · rw [show ((((xs.length : Nat) : Int)) != (((ys.length : Nat) : Int))) = true by simp; omega]
    have : (xs == ys) = false := by
      rw [beq_eq_false_iff_ne]
      exact fun e => hl (by rw [e])
    rw [this]; rfl

theorem l1In_eq (a b c : Int) : spec_l1In a b c = some (decide (b ≤ a) && decide (a ≤ c)) := by
  unfold spec_l1In spec_l1In_n1
  by_cases h : a ≥ b
  · have e : decide (a ≥ b) = true := decide_eq_true h
    rw [e]; rfl
  · have e : decide (a ≥ b) = false := decide_eq_false h
    rw [e]; rfl

/-- The head of a word, both from 1 on; 0 for none. -/
def hd (h : List Int) (w : Nat) : Nat := (h.getD (w - 1) 0).toNat

def dupB (o : List Int) : Bool := (List.range o.length).any fun j => (List.range j).any fun i => o.getD i 0 == o.getD j 0
def orderAll (o : List Int) (m : Int) : Bool := o.all (fun x => decide (1 ≤ x) && decide (x ≤ m)) && !dupB o
def orderB (o : List Int) (m : Int) : Bool := decide (1 ≤ m) && decide (m ≤ 8) && (((o.length : Nat) : Int) == m) && orderAll o m

def OrderP (o : List Int) (m : Int) : Prop := (∀ (k : Nat) (hk : k < o.length), 1 ≤ o[k] ∧ o[k] ≤ m) ∧ ∀ (i j : Nat) (hij : i < j) (hj : j < o.length), o[i] ≠ o[j]

theorem orderAll_iff (o : List Int) (m : Int) : orderAll o m = true ↔ OrderP o m := by
  unfold orderAll dupB OrderP
  simp only [Bool.and_eq_true, List.all_eq_true, decide_eq_true_eq, Bool.not_eq_true', List.any_eq_false, List.mem_range]
  constructor
  · rintro ⟨h1, h2⟩
    refine ⟨fun k hk => h1 _ (List.getElem_mem hk), fun i j hij hj e => ?_⟩
    have := h2 j hj
    rw [List.any_eq_true] at this
    refine this ⟨i, by simpa using hij, ?_⟩
    simp [List.getD, hj, show i < o.length by omega, e]
  · rintro ⟨h1, h2⟩
    refine ⟨fun x hx => ?_, fun j hj => ?_⟩
    · obtain ⟨k, hk, rfl⟩ := List.getElem_of_mem hx
      exact h1 k hk
    · rw [List.any_eq_true]
      rintro ⟨i, hi, e⟩
      have hi' : i < j := by simpa using hi
      simp only [List.getD, List.getElem?_eq_getElem hj, List.getElem?_eq_getElem (show i < o.length by omega), Option.getD_some, beq_iff_eq] at e
      exact h2 i j hi' hj e

theorem orderAll_false {o : List Int} {m : Int} (h : ¬ OrderP o m) : orderAll o m = false := by
  cases e : orderAll o m with
  | false => rfl
  | true => exact absurd ((orderAll_iff o m).1 e) h

theorem mem_take {o : List Int} {k : Nat} {x : Int} (hk : k ≤ o.length) : x ∈ o.take k ↔ ∃ (i : Nat) (hi : i < k), o[i]'(by omega) = x := by
  constructor
  · intro h
    obtain ⟨i, hi, e⟩ := List.getElem_of_mem h
    have hi' : i < k := by simp at hi; omega
    exact ⟨i, hi', by simpa using e⟩
  · rintro ⟨i, hi, e⟩
    have : (o.take k)[i]'(by simp; omega) = x := by simpa using e
    rw [← this]; exact List.getElem_mem _

theorem implOrder_eq (o : List Int) (m : Int) : impl_OrderOk o m = some (orderB o m) := by
  unfold impl_OrderOk impl_OrderOk_n9 impl_OrderOk_n1 impl_OrderOk_n8 impl_OrderOk_n6 impl_OrderOk_n2 impl_OrderOk_n5 impl_OrderOk_n4 impl_OrderOk_n7 orderB
  by_cases h1 : m < 1
  · rw [decide_eq_true h1, show decide (1 ≤ m) = false from decide_eq_false (by omega)]; rfl
  rw [decide_eq_false h1, show decide (1 ≤ m) = true from decide_eq_true (by omega)]
  by_cases h2 : m > 8
  · rw [decide_eq_true h2, show decide (m ≤ 8) = false from decide_eq_false (by omega)]; rfl
  rw [decide_eq_false h2, show decide (m ≤ 8) = true from decide_eq_true (by omega)]
  by_cases h3 : ((o.length : Nat) : Int) = m
  · rw [show (((o.length : Nat) : Int) != m) = false by simp [h3], show (((o.length : Nat) : Int) == m) = true by simp [h3]]
    simp only [cond_false, Option.bind_some, Sum.elim_inl, Bool.true_and]
    have hloop := nloop_run (body := fun (s : Int × (List Bool)) => ((impl_OrderOk_n3 m o o.length s.1 s.2).map (Sum.elim (fun (t : Int × (List Bool)) => Sum.inl (t.1, t.2)) (Sum.elim (fun (t : Bool) => Sum.inr (Sum.inl t)) (fun (t : Unit) => Sum.inr (Sum.inr t)))) : Option ((Int × (List Bool)) ⊕ (Bool ⊕ Unit))))
      (I := fun s => ∃ k : Nat, s.1 = (k : Int) ∧ k ≤ o.length ∧ s.2.length = 9 ∧ (∀ v : Nat, v < 9 → s.2[v]? = some (decide ((v : Int) ∈ o.take k))) ∧ OrderP (o.take k) m) (μ := fun s => o.length - s.1.toNat)
      (f := fun _ => cond (orderAll o m) (.inr ()) (.inl false))
      (by
        rintro ⟨_, seen⟩ ⟨k, rfl, hk, hs, hseen, hP⟩
        simp only at hs hseen
        simp only [impl_OrderOk_n3]
        by_cases hlt : k < o.length
        · rw [show decide ((k : Int) < ((o.length : Nat) : Int)) = true from decide_eq_true (by omega), idx_lt hlt, wrap64 (by omega) (by omega)]
          simp only [cond_true, Option.bind_some]
          by_cases c1 : o[k] < 1
          · right
            rw [decide_eq_true c1, orderAll_false (fun hh => by have := (hh.1 k hlt).1; omega)]
            rfl
          rw [decide_eq_false c1]
          by_cases c2 : o[k] > m
          · right
            rw [decide_eq_true c2, orderAll_false (fun hh => by have := (hh.1 k hlt).2; omega)]
            rfl
          rw [decide_eq_false c2]
          obtain ⟨v, hv⟩ : ∃ v : Nat, o[k] = (v : Int) := ⟨o[k].toNat, by omega⟩
          have hv9 : v < 9 := by omega
          have hin : inb o[k] 9 = some v := by rw [hv]; exact inb_nat hv9
          have hsame : same seen.length 9 = some () := by simp [same, hs]
          simp only [cond_false, hsame, hin, Option.bind_some, hseen v hv9]
          by_cases c3 : (v : Int) ∈ o.take k
          · right
            rw [decide_eq_true c3]
            obtain ⟨i, hi, e⟩ := (mem_take hk).1 c3
            rw [orderAll_false (fun hh => hh.2 i k hi hlt (by rw [e, hv]))]
            rfl
          · left
            rw [decide_eq_false c3]
            refine ⟨(((k + 1 : Nat) : Int), seen.set v true), by simp, ⟨k + 1, rfl, hlt, by simpa using hs, fun u hu => ?_, ?_⟩, by simp; omega, trivial⟩
            · rw [List.take_add_one, List.getElem?_eq_getElem hlt, hv]
              simp only [Option.toList_some, List.mem_append, List.mem_singleton]
              by_cases e : v = u
              · subst e
                simp [hs, hv9]
              · rw [List.getElem?_set_ne e, hseen u hu]
                have : ¬ (u : Int) = (v : Int) := by omega
                simp [this]
            · have hl : (o.take (k + 1)).length = k + 1 := by simp; omega
              refine ⟨fun i hi => ?_, fun i j hij hj => ?_⟩
              · rw [hl] at hi
                rw [List.getElem_take]
                by_cases e : i = k
                · subst e; omega
                · have := hP.1 i (by simp; omega)
                  rwa [List.getElem_take] at this
              · rw [hl] at hj
                rw [List.getElem_take, List.getElem_take]
                by_cases e : j = k
                · subst e
                  intro hh
                  exact c3 ((mem_take hk).2 ⟨i, hij, by rw [hh, hv]⟩)
                · have := hP.2 i j hij (by simp; omega)
                  rwa [List.getElem_take, List.getElem_take] at this
        · right
          have e : k = o.length := by omega
          subst e
          rw [List.take_length] at hP
          rw [show decide (((o.length : Nat) : Int) < ((o.length : Nat) : Int)) = false from decide_eq_false (by omega), (orderAll_iff o m).2 hP]
          rfl)
    rw [hloop LL (0, List.replicate 9 false) ⟨0, by simp, by omega, by simp, fun v hv => by rw [List.getElem?_replicate, if_pos hv]; simp, ⟨fun k hk => by simp at hk, fun i j hij hj => by simp at hj⟩⟩ (by simp only [LL]; simp; omega)]
    cases orderAll o m <;> rfl
  · rw [show (((o.length : Nat) : Int) != m) = true by simp [h3], show (((o.length : Nat) : Int) == m) = false by simp [h3]]
    rfl

theorem orderP_iff (o : List Int) (m : Int) : OrderP o m ↔ (∀ x ∈ o, 1 ≤ x ∧ x ≤ m) ∧ o.Nodup := by
  unfold OrderP List.Nodup
  rw [List.pairwise_iff_getElem]
  constructor
  · rintro ⟨h1, h2⟩
    refine ⟨fun x hx => ?_, fun i j hi hj hij => h2 i j hij hj⟩
    obtain ⟨k, hk, rfl⟩ := List.getElem_of_mem hx
    exact h1 k hk
  · rintro ⟨h1, h2⟩
    exact ⟨fun k hk => h1 _ (List.getElem_mem hk), fun i j hij hj => h2 i j (by omega) hj hij⟩

theorem orderB_iff (o : List Int) (m : Int) : orderB o m = true ↔ 1 ≤ m ∧ m ≤ 8 ∧ (o.length : Int) = m ∧ OrderP o m := by
  unfold orderB
  simp only [Bool.and_eq_true, decide_eq_true_eq, beq_iff_eq, orderAll_iff]
  constructor
  · rintro ⟨⟨⟨a, b⟩, c⟩, d⟩; exact ⟨a, b, c, d⟩
  · rintro ⟨a, b, c, d⟩; exact ⟨⟨⟨a, b⟩, c⟩, d⟩

theorem nloop_to {σ ω : Type} {body : σ → Option (σ ⊕ ω)} (S : Nat → σ) (n : Nat) (w : ω) (hs : ∀ k, k < n → body (S k) = some (.inl (S (k + 1)))) (he : body (S n) = some (.inr w)) :
    ∀ (N : Nat), n < N → nloop body N (S 0) = some w := by
  have key : ∀ (m k N : Nat), k + m = n → m < N → nloop body N (S k) = some w := by
    intro m
    induction m with
    | zero =>
      intro k N hk hN
      obtain ⟨N', rfl⟩ : ∃ N', N = N' + 1 := ⟨N - 1, by omega⟩
      have : k = n := by omega
      subst this
      simp only [nloop, he, Option.bind_some]
    | succ m ih =>
      intro k N hk hN
      obtain ⟨N', rfl⟩ : ∃ N', N = N' + 1 := ⟨N - 1, by omega⟩
      simp only [nloop, hs k (by omega), Option.bind_some]
      exact ih (k + 1) N' (by omega) (by omega)
  intro N hN
  exact key n 0 N (by omega) hN

/-- How many pairs of places there are of which the first one has the greater number. -/
def turnN : List Int → Nat
  | [] => 0
  | x :: l => l.countP (fun y => decide (y < x)) + turnN l

theorem turn_snoc (x : Int) : ∀ l : List Int, turnN (l ++ [x]) = turnN l + l.countP (fun y => decide (x < y))
  | [] => rfl
  | y :: l => by
    rw [List.cons_append, turnN, turnN, turn_snoc x l, List.countP_append, List.countP_cons]
    simp only [List.countP_cons, List.countP_nil]
    omega

theorem count_two {x : Int} : ∀ {l : List Int}, x ∉ l → l.countP (fun y => decide (y < x)) + l.countP (fun y => decide (x < y)) = l.length
  | [], _ => rfl
  | y :: l, h => by
    have ne : y ≠ x := fun e => h (by rw [e]; exact List.mem_cons_self ..)
    have ih := count_two (l := l) (fun m => h (List.mem_cons_of_mem _ m))
    rw [List.countP_cons, List.countP_cons, List.length_cons]
    by_cases l' : y < x
    · simp [l', show ¬ x < y by omega]
      omega
    · simp [l', show x < y by omega]
      omega

theorem tri_succ (n : Nat) : (n + 1) * (n + 1 - 1) / 2 = n + n * (n - 1) / 2 := by
  cases n with
  | zero => rfl
  | succ n =>
    have e : (n + 1 + 1) * (n + 1 + 1 - 1) = 2 * (n + 1) + (n + 1) * (n + 1 - 1) := by
      simp only [Nat.add_sub_cancel]
      rw [Nat.mul_comm 2, ← Nat.mul_add, Nat.mul_comm]
      congr 1
      omega
    rw [e, Nat.mul_add_div (by omega)]

theorem turn_reverse : ∀ {l : List Int}, l.Nodup → turnN l + turnN l.reverse = l.length * (l.length - 1) / 2
  | [], _ => rfl
  | x :: l, h => by
    rw [List.nodup_cons] at h
    have ih := turn_reverse h.2
    have c := count_two h.1
    rw [List.reverse_cons, turn_snoc, turnN, List.countP_reverse, List.length_cons, tri_succ]
    omega

theorem turn_le {l : List Int} (h : l.Nodup) : turnN l ≤ l.length * (l.length - 1) / 2 := by
  have := turn_reverse h
  omega

/-- Pairs of one of the first part and one of the rest. -/
def crossT (A L : List Int) : Nat := (A.map fun a => L.countP (fun y => decide (y < a))).sum

theorem turn_append : ∀ (A L : List Int), turnN (A ++ L) = turnN A + crossT A L + turnN L
  | [], L => by simp [turnN, crossT]
  | x :: A, L => by
    rw [List.cons_append, turnN, turnN, turn_append A L, List.countP_append]
    unfold crossT
    rw [List.map_cons, List.sum_cons]
    omega

theorem cross_perm {A L L' : List Int} (p : L.Perm L') : crossT A L = crossT A L' := by
  unfold crossT
  congr 1
  refine List.map_congr_left ?_
  intro a _
  exact p.countP_eq _

/-- Two rows in ascending order as one, and how many pairs have the greater number in the first one. -/
def mergeC : List Int → List Int → List Int × Nat
  | [], B => (B, 0)
  | a :: A, [] => (a :: A, 0)
  | a :: A, b :: B => if a < b then (a :: (mergeC A (b :: B)).1, (mergeC A (b :: B)).2) else (b :: (mergeC (a :: A) B).1, (A.length + 1) + (mergeC (a :: A) B).2)
termination_by A B => A.length + B.length

theorem mergeC_lt {a b : Int} {A B : List Int} (l : a < b) : mergeC (a :: A) (b :: B) = (a :: (mergeC A (b :: B)).1, (mergeC A (b :: B)).2) := by rw [mergeC, if_pos l]
theorem mergeC_ge {a b : Int} {A B : List Int} (l : ¬ a < b) : mergeC (a :: A) (b :: B) = (b :: (mergeC (a :: A) B).1, (A.length + 1) + (mergeC (a :: A) B).2) := by rw [mergeC, if_neg l]

theorem mergeC_perm : ∀ (n : Nat) (A B : List Int), A.length + B.length ≤ n → (mergeC A B).1.Perm (A ++ B)
  | n, [], B, _ => by rw [mergeC]; exact List.Perm.refl _
  | n, a :: A, [], _ => by rw [mergeC, List.append_nil]
  | 0, a :: A, b :: B, h => by simp at h
  | n + 1, a :: A, b :: B, h => by
    simp only [List.length_cons] at h
    by_cases l : a < b
    · rw [mergeC_lt l]
      exact (mergeC_perm n A (b :: B) (by simp only [List.length_cons]; omega)).cons a
    · rw [mergeC_ge l]
      exact ((mergeC_perm n (a :: A) B (by simp only [List.length_cons]; omega)).cons b).trans List.perm_middle.symm

theorem crossT_cons (A B : List Int) (b : Int) : crossT A (b :: B) = A.countP (fun a => decide (b < a)) + crossT A B := by
  induction A with
  | nil => rfl
  | cons a A ih =>
    unfold crossT at ih ⊢
    rw [List.map_cons, List.sum_cons, List.map_cons, List.sum_cons, ih, List.countP_cons, List.countP_cons]
    omega

theorem crossT_left {A A' L : List Int} (p : A.Perm A') : crossT A L = crossT A' L := (p.map _).sum_nat

theorem mergeC_sorted : ∀ (n : Nat) (A B : List Int), A.length + B.length ≤ n → A.Pairwise (· < ·) → B.Pairwise (· < ·) → (∀ x ∈ A, x ∉ B) → (mergeC A B).1.Pairwise (· < ·) ∧ (mergeC A B).2 = crossT A B
  | n, [], B, _, _, hB, _ => by rw [mergeC]; exact ⟨hB, rfl⟩
  | n, a :: A, [], _, hA, _, _ => by
    rw [mergeC]
    refine ⟨hA, ?_⟩
    unfold crossT
    have : ∀ l : List Int, (l.map fun a => ([] : List Int).countP fun y => decide (y < a)).sum = 0 := fun l => by
      induction l with
      | nil => rfl
      | cons x l ih => rw [List.map_cons, List.sum_cons, ih]; rfl
    exact (this _).symm
  | 0, a :: A, b :: B, h, _, _, _ => by simp at h
  | n + 1, a :: A, b :: B, h, hA, hB, hd => by
    simp only [List.length_cons] at h
    have hA' := List.pairwise_cons.mp hA
    have hB' := List.pairwise_cons.mp hB
    by_cases l : a < b
    · rw [mergeC_lt l]
      have ih := mergeC_sorted n A (b :: B) (by simp only [List.length_cons]; omega) hA'.2 hB (fun x hx => hd x (List.mem_cons_of_mem _ hx))
      refine ⟨List.pairwise_cons.mpr ⟨fun y hy => ?_, ih.1⟩, ?_⟩
      · have := ((mergeC_perm n A (b :: B) (by simp only [List.length_cons]; omega)).mem_iff).mp hy
        rcases List.mem_append.mp this with m | m
        · exact hA'.1 y m
        · rcases List.mem_cons.mp m with e | m
          · omega
          · have := hB'.1 y m
            omega
      · simp only
        rw [ih.2]
        unfold crossT
        rw [List.map_cons, List.sum_cons, List.countP_eq_zero.mpr, Nat.zero_add]
        intro y hy
        simp only [decide_eq_true_eq]
        rcases List.mem_cons.mp hy with e | m
        · omega
        · have := hB'.1 y m
          omega
    · rw [mergeC_ge l]
      have ne : a ≠ b := fun e => hd a (List.mem_cons_self ..) (by rw [e]; exact List.mem_cons_self ..)
      have ih := mergeC_sorted n (a :: A) B (by simp only [List.length_cons]; omega) hA hB'.2 (fun x hx m => hd x hx (List.mem_cons_of_mem _ m))
      refine ⟨List.pairwise_cons.mpr ⟨fun y hy => ?_, ih.1⟩, ?_⟩
      · have := ((mergeC_perm n (a :: A) B (by simp only [List.length_cons]; omega)).mem_iff).mp hy
        rcases List.mem_append.mp this with m | m
        · rcases List.mem_cons.mp m with e | m
          · omega
          · have := hA'.1 y m
            omega
        · exact hB'.1 y m
      · simp only
        rw [ih.2, crossT_cons, List.countP_eq_length.mpr, List.length_cons]
        intro y hy
        simp only [decide_eq_true_eq]
        rcases List.mem_cons.mp hy with e | m
        · omega
        · have := hA'.1 y m
          omega

theorem specOrder_eq (o : List Int) (m : Int) (hl : o.length ≤ 1048576) : spec_OrderOk o m = some (orderB o m) := by
  unfold spec_OrderOk spec_OrderOk_n18 spec_OrderOk_n1 spec_OrderOk_n17 spec_OrderOk_n15 spec_OrderOk_n2 spec_OrderOk_n14 spec_OrderOk_n13
  have hin : ∀ k, (hk : k < o.length) → spec_OrderOk_n6 o k = some (cond (decide (o[k] ∈ o.take k)) (.inl false) (.inr ())) := fun k hk => by
    unfold spec_OrderOk_n6
    have hloop := nloop_run (body := fun (s : Int) => ((spec_OrderOk_n5 o k s).map (Sum.elim (fun (t : Int) => Sum.inl t) (Sum.elim (fun (t : Bool) => Sum.inr (Sum.inl t)) (fun (t : Unit) => Sum.inr (Sum.inr t)))) : Option ((Int) ⊕ (Bool ⊕ Unit))))
      (I := fun s => ∃ j : Nat, s = (j : Int) ∧ j ≤ k ∧ o[k] ∉ o.take j) (μ := fun s => k - s.toNat) (f := fun _ => cond (decide (o[k] ∈ o.take k)) (.inl false) (.inr ()))
      (by
        rintro _ ⟨j, rfl, hj, hno⟩
        simp only [spec_OrderOk_n5]
        by_cases hlt : j < k
        · rw [show decide ((j : Int) < (k : Int)) = true from decide_eq_true (by omega), idx_lt (show j < o.length by omega), idx_lt hk, wrap64 (by omega) (by omega)]
          simp only [cond_true, Option.bind_some]
          by_cases e : o[j] = o[k]
          · right
            have : o[k] ∈ o.take k := (mem_take (by omega)).2 ⟨j, hlt, e⟩
            rw [decide_eq_true this]
            simp [e]
          · left
            have e1 : (o[j] == o[k]) = false := by simpa using e
            refine ⟨((j + 1 : Nat) : Int), by simp [e1], ⟨j + 1, rfl, hlt, ?_⟩, by simp; omega, trivial⟩
            rw [List.take_add_one, List.getElem?_eq_getElem (by omega)]
            simp only [Option.toList_some, List.mem_append, List.mem_singleton, not_or]
            exact ⟨hno, fun hh => e hh.symm⟩
        · right
          have e : j = k := by omega
          subst e
          rw [show decide ((j : Int) < (j : Int)) = false from decide_eq_false (by omega), decide_eq_false hno]
          rfl)
    exact hloop LL 0 ⟨0, rfl, by omega, by simp⟩ (by simp only [LL]; simp; omega)
  have hloop := nloop_run (body := fun (s : Int) => ((spec_OrderOk_n12 o m s).map (Sum.elim (fun (t : Int) => Sum.inl t) (Sum.elim (fun (t : Bool) => Sum.inr (Sum.inl t)) (fun (t : Unit) => Sum.inr (Sum.inr t)))) : Option ((Int) ⊕ (Bool ⊕ Unit))))
    (I := fun s => ∃ k : Nat, s = (k : Int) ∧ k ≤ o.length ∧ OrderP (o.take k) m) (μ := fun s => o.length - s.toNat) (f := fun _ => cond (orderAll o m) (.inr ()) (.inl false))
    (by
      rintro _ ⟨k, rfl, hk, hP⟩
      simp only [spec_OrderOk_n12, spec_OrderOk_n3]
      by_cases hlt : k < o.length
      · rw [show decide ((k : Int) < ((o.length : Nat) : Int)) = true from decide_eq_true (by omega)]
        simp only [cond_true, Option.bind_some, Sum.elim_inl]
        unfold spec_OrderOk_n11 spec_OrderOk_n9 spec_OrderOk_n8 spec_OrderOk_n4 spec_OrderOk_n7 spec_OrderOk_n10
        rw [idx_lt hlt, wrap64 (by omega) (by omega)]
        simp only [Option.bind_some, l1In_eq, hin k hlt]
        by_cases c : 1 ≤ o[k] ∧ o[k] ≤ m
        · have e1 : (decide (1 ≤ o[k]) && decide (o[k] ≤ m)) = true := by simp [c.1, c.2]
          rw [e1]
          by_cases c3 : o[k] ∈ o.take k
          · right
            obtain ⟨i, hi, e⟩ := (mem_take hk).1 c3
            rw [decide_eq_true c3, orderAll_false (fun hh => hh.2 i k hi hlt e)]
            rfl
          · left
            rw [decide_eq_false c3]
            refine ⟨((k + 1 : Nat) : Int), by simp, ⟨k + 1, rfl, hlt, ?_⟩, by simp; omega, trivial⟩
            have hl : (o.take (k + 1)).length = k + 1 := by simp; omega
            refine ⟨fun i hi => ?_, fun i j hij hj => ?_⟩
            · rw [hl] at hi
              rw [List.getElem_take]
              by_cases e : i = k
              · subst e; exact c
              · have := hP.1 i (by simp; omega)
                rwa [List.getElem_take] at this
            · rw [hl] at hj
              rw [List.getElem_take, List.getElem_take]
              by_cases e : j = k
              · subst e
                exact fun hh => c3 ((mem_take hk).2 ⟨i, hij, hh⟩)
              · have := hP.2 i j hij (by simp; omega)
                rwa [List.getElem_take, List.getElem_take] at this
        · right
          have e1 : (decide (1 ≤ o[k]) && decide (o[k] ≤ m)) = false := by
            simp only [Bool.and_eq_false_iff, decide_eq_false_iff_not]; omega
          rw [e1, orderAll_false (fun hh => c (hh.1 k hlt))]
          rfl
      · right
        have e : k = o.length := by omega
        subst e
        rw [List.take_length] at hP
        rw [show decide (((o.length : Nat) : Int) < ((o.length : Nat) : Int)) = false from decide_eq_false (by omega), (orderAll_iff o m).2 hP]
        rfl)
  simp only [Option.bind_some]
  rw [hloop LL 0 ⟨0, rfl, by omega, ⟨fun k hk => by simp at hk, fun i j hij hj => by simp at hj⟩⟩ (by simp only [LL]; simp; omega)]
  unfold orderB
  cases orderAll o m with
  | false => simp
  | true =>
    simp only [cond_true, Option.map_some, Sum.elim_inr, Option.bind_some, Sum.elim_inl, spec_OrderOk_n16, l1In_eq, Bool.and_true]
    cases (decide (1 ≤ m) && decide (m ≤ 8)) <;> simp

theorem room8 {n : Nat} (h : n ≤ 1099511627776) : room n = some () := by unfold room; rw [if_pos h]

/-- How many pairs an order has that stand the other way; -1 for none. -/
def turnI (o : List Int) : Int := if orderB o o.length = true then (turnN o : Int) else -1

theorem take_last {o : List Int} {k : Nat} (hk : k < o.length) : o.take (k + 1) = o.take k ++ [o[k]] := List.take_succ_eq_append_getElem hk

theorem turn_small {o : List Int} (h8 : o.length ≤ 8) : ∀ k, k ≤ o.length → turnN (o.take k) ≤ 8 * k
  | 0, _ => by simp [turnN]
  | k + 1, hk => by
    have := turn_small h8 k (by omega)
    rw [take_last (by omega), turn_snoc]
    have c := List.countP_le_length (p := fun y => decide (o[k] < y)) (l := o.take k)
    rw [List.length_take] at c
    omega

theorem specTurned_eq (o : List Int) (hl : o.length ≤ 1048576) : spec_CountTurned o = some (turnI o) := by
  have e : spec_CountTurned o = spec_CountTurned_n18 o := by unfold spec_CountTurned; rfl
  rw [e]
  unfold spec_CountTurned_n18 spec_CountTurned_n1 turnI
  rw [specOrder_eq o _ hl]
  cases t : orderB o o.length with
  | false => rfl
  | true =>
    have h8 : o.length ≤ 8 := by
      have := (orderB_iff o _).mp t
      omega
    have inner : ∀ k (hk : k < o.length), spec_CountTurned_n6 o (turnN (o.take k) : Int) (k : Int) = some (turnN (o.take (k + 1)) : Int) := by
      intro k hk
      unfold spec_CountTurned_n6
      have sm := turn_small h8 k (by omega)
      have q := nloop_to (body := fun (s : Int × Int) => ((spec_CountTurned_n5 o s.1 (k : Int) s.2).map (Sum.elim (fun (t : Int × Int) => Sum.inl (t.1, t.2)) (fun (t : Int) => Sum.inr t)) : Option ((Int × Int) ⊕ (Int))))
        (fun j => ((turnN (o.take k) + (o.take j).countP (fun y => decide (o[k] < y)) : Nat), (j : Int))) k (turnN (o.take (k + 1)) : Int)
        (by
          intro j hj
          have gj : idx o (j : Int) = some o[j] := by unfold idx; rw [if_pos (by omega), Int.toNat_natCast, List.getElem?_eq_getElem (by omega)]
          have gk : idx o (k : Int) = some o[k] := by unfold idx; rw [if_pos (by omega), Int.toNat_natCast, List.getElem?_eq_getElem hk]
          have c := List.countP_le_length (p := fun y => decide (o[k] < y)) (l := o.take j)
          rw [List.length_take] at c
          simp only [spec_CountTurned_n5]
          rw [decide_eq_true (show (j : Int) < (k : Int) by omega), gj, gk, take_last (show j < o.length by omega), List.countP_append]
          simp only [cond_true, Option.bind_some]
          rw [wrap64 (x := (j : Int) + 1) (by omega) (by omega), wrap64 (x := ((turnN (o.take k) + (o.take j).countP (fun y => decide (o[k] < y)) : Nat) : Int) + 1) (by omega) (by omega)]
          by_cases g : o[k] < o[j]
          · rw [decide_eq_true (show o[j] > o[k] from g)]
            simp [g]
            omega
          · rw [decide_eq_false (show ¬ o[j] > o[k] from g)]
            simp [g])
        (by
          simp only [spec_CountTurned_n5]
          rw [decide_eq_false (show ¬ (k : Int) < (k : Int) by omega), take_last hk, turn_snoc]
          rfl) LL (by simp only [LL]; omega)
      have q' := q
      simp only [List.take_zero, List.countP_nil, Nat.add_zero] at q'
      rw [show ((0 : Nat) : Int) = 0 from rfl] at q'
      exact q'
    have q := nloop_to (body := fun (s : Int × Int) => ((spec_CountTurned_n12 o s.1 s.2).map (Sum.elim (fun (t : Int × Int) => Sum.inl (t.1, t.2)) (fun (t : Int) => Sum.inr t)) : Option ((Int × Int) ⊕ (Int))))
      (fun k => ((turnN (o.take k) : Int), (k : Int))) o.length (turnN o : Int)
      (by
        intro k hk
        simp only [spec_CountTurned_n12, spec_CountTurned_n3, spec_CountTurned_n11, spec_CountTurned_n9, spec_CountTurned_n8, spec_CountTurned_n4, spec_CountTurned_n7, spec_CountTurned_n10]
        rw [decide_eq_true (show (k : Int) < ((o.length : Nat) : Int) by omega), inner k hk, wrap64 (by omega) (by omega)]
        rfl)
      (by
        simp only [spec_CountTurned_n12, spec_CountTurned_n3]
        rw [decide_eq_false (show ¬ ((o.length : Nat) : Int) < ((o.length : Nat) : Int) by omega), List.take_of_length_le (Nat.le_refl _)]
        rfl) LL (by simp only [LL]; omega)
    simp only [Option.bind_some, Bool.not_true, cond_false, Sum.elim_inl]
    unfold spec_CountTurned_n17 spec_CountTurned_n15 spec_CountTurned_n2 spec_CountTurned_n14 spec_CountTurned_n13 spec_CountTurned_n16
    have q' := q
    rw [List.take_zero, show ((turnN [] : Nat) : Int) = 0 from rfl, show ((0 : Nat) : Int) = 0 from rfl] at q'
    simp only [Option.bind_some]
    rw [q']
    rfl

theorem idx_some {α : Type} {xs : List α} {k : Nat} (h : k < xs.length) : idx xs (k : Int) = some xs[k] := idx_lt h

theorem grow_zero (k : Nat) (hk : k ≤ 1000000) : ∃ zs : List Int, slices_Grow_int_int (k : Int) = some (0, zs) := by
  have e : slices_Grow_int_int (k : Int) = slices_Grow_int_int_n1 (k : Int) := by unfold slices_Grow_int_int; rfl
  rw [e]
  unfold slices_Grow_int_int_n1
  rw [decide_eq_false (show ¬ (k : Int) < 0 by omega), wrap64 (x := 0 - ((0 : Nat) : Int)) (by omega) (by omega), wrap64 (by omega) (by omega)]
  by_cases z : k = 0
  · subst z
    exact ⟨[], rfl⟩
  · rw [decide_eq_true (show (k : Int) - (0 - ((0 : Nat) : Int)) > 0 by omega)]
    have m : mkz ((k : Int) - (0 - ((0 : Nat) : Int))) = some k := by
      unfold mkz
      rw [if_pos (by omega), show ((k : Int) - (0 - ((0 : Nat) : Int))).toNat = k by omega]
    have i : inc ((0 : Nat) : Int) (List.replicate k (0 : Int)).length = some 0 := by
      unfold inc
      rw [if_pos (by omega)]
      rfl
    rw [m]
    simp only [cond_false, cond_true, beq_self_eq_true, sure, Option.bind_some, i]
    exact ⟨_, rfl⟩

/-- The lengths of the first rows together. -/
def lensN (xss : List (List Int)) (k : Nat) : Nat := ((xss.take k).flatten).length

theorem lens_succ {xss : List (List Int)} {k : Nat} (h : k < xss.length) : lensN xss (k + 1) = lensN xss k + xss[k].length := by
  unfold lensN
  rw [List.take_succ_eq_append_getElem h, List.flatten_append, List.length_append]
  simp
theorem lens_le {xss : List (List Int)} : ∀ k, lensN xss k ≤ xss.flatten.length := fun k => by
  unfold lensN
  have := List.take_append_drop k xss
  have e : xss.flatten = (xss.take k).flatten ++ (xss.drop k).flatten := by rw [← List.flatten_append, this]
  rw [e, List.length_append]
  omega

theorem concat_ok (xss : List (List Int)) (hl : xss.length ≤ 1000) (hf : xss.flatten.length ≤ 1000000) : ∃ n ys, slices_Concat_int_int xss = some (n, ys) ∧ (ys.drop 0).take n = xss.flatten := by
  have e : slices_Concat_int_int xss = slices_Concat_int_int_n17 xss := by unfold slices_Concat_int_int; rfl
  have p := nloop_to (body := fun (s : Int × Int) => ((slices_Concat_int_int_n3 xss s.1 ((xss.length : Nat) : Int) s.2).map (Sum.elim (fun (t : Int × Int) => Sum.inl (t.1, t.2)) (fun (t : Int) => Sum.inr t)) : Option ((Int × Int) ⊕ (Int))))
    (fun k => (((lensN xss k : Nat) : Int), (k : Int))) xss.length ((lensN xss xss.length : Nat) : Int)
    (by
      intro k hk
      have l1 := lens_le (xss := xss) (k + 1)
      have l2 := lens_succ hk
      simp only [slices_Concat_int_int_n3]
      rw [decide_eq_true (show (k : Int) < ((xss.length : Nat) : Int) by omega), idx_some hk, wrap64 (x := (k : Int) + 1) (by omega) (by omega)]
      simp only [cond_true, Option.bind_some]
      rw [wrap64 (by omega) (by omega), decide_eq_false (by omega), l2]
      simp)
    (by
      simp only [slices_Concat_int_int_n3]
      rw [decide_eq_false (show ¬ ((xss.length : Nat) : Int) < ((xss.length : Nat) : Int) by omega)]
      rfl) LL (by simp only [LL]; omega)
  have l1 := lens_le (xss := xss) xss.length
  obtain ⟨zs, gz⟩ := grow_zero (lensN xss xss.length) (by omega)
  have q := nloop_to (body := fun (s : Nat × Int × (List Int)) => ((slices_Concat_int_int_n9 s.1 xss ((xss.length : Nat) : Int) s.2.1 s.2.2).map (Sum.elim (fun (t : Nat × Int × (List Int)) => Sum.inl (t.1, t.2.1, t.2.2)) (fun (t : Nat × (List Int)) => Sum.inr t)) : Option ((Nat × Int × (List Int)) ⊕ ((Nat × (List Int))))))
    (fun k => (lensN xss k, (k : Int), if k = 0 then zs else (xss.take k).flatten)) xss.length (lensN xss xss.length, if xss.length = 0 then zs else (xss.take xss.length).flatten)
    (by
      intro k hk
      have l1 := lens_le (xss := xss) (k + 1)
      have l2 := lens_succ hk
      have c : ((if k = 0 then zs else (xss.take k).flatten).drop 0).take (lensN xss k) = (xss.take k).flatten := by
        rw [List.drop_zero]
        by_cases z : k = 0
        · subst z
          rfl
        · rw [if_neg z]
          exact List.take_length
      simp only [slices_Concat_int_int_n9]
      rw [decide_eq_true (show (k : Int) < ((xss.length : Nat) : Int) by omega), idx_some hk, wrap64 (x := (k : Int) + 1) (by omega) (by omega), c]
      simp only [cond_true, Option.bind_some]
      rw [room8 (by omega)]
      have f : (xss.take k).flatten ++ xss[k] = (xss.take (k + 1)).flatten := by
        rw [List.take_succ_eq_append_getElem hk, List.flatten_append]
        simp
      simp only [Option.bind_some, Option.map_some, Sum.elim_inl, f]
      rw [if_neg (by omega)]
      rfl)
    (by
      simp only [slices_Concat_int_int_n9]
      rw [decide_eq_false (show ¬ ((xss.length : Nat) : Int) < ((xss.length : Nat) : Int) by omega)]
      rfl) LL (by simp only [LL]; omega)
  refine ⟨lensN xss xss.length, if xss.length = 0 then zs else (xss.take xss.length).flatten, ?_, ?_⟩
  · rw [e]
    unfold slices_Concat_int_int_n17 slices_Concat_int_int_n1 slices_Concat_int_int_n16 slices_Concat_int_int_n6 slices_Concat_int_int_n2 slices_Concat_int_int_n5 slices_Concat_int_int_n4
    simp only [Option.bind_some]
    have p' := p
    rw [show ((lensN xss 0 : Nat) : Int) = 0 from rfl, show ((0 : Nat) : Int) = 0 from rfl] at p'
    rw [p']
    simp only [Option.map_some, Option.bind_some]
    unfold slices_Concat_int_int_n15 slices_Concat_int_int_n7
    rw [gz]
    simp only [Option.bind_some]
    unfold slices_Concat_int_int_n14 slices_Concat_int_int_n12 slices_Concat_int_int_n8 slices_Concat_int_int_n11 slices_Concat_int_int_n10 slices_Concat_int_int_n13
    simp only [Option.bind_some]
    have q' := q
    simp only [if_true] at q'
    rw [show lensN xss 0 = 0 from rfl, show ((0 : Nat) : Int) = 0 from rfl] at q'
    rw [q']
    rfl
  · rw [List.drop_zero]
    by_cases z : xss.length = 0
    · have : xss = [] := List.eq_nil_of_length_eq_zero z
      subst this
      rfl
    · have tk : xss.take xss.length = xss := List.take_length
      rw [if_neg z]
      unfold lensN
      rw [tk]
      exact List.take_length

theorem mergeC_le : ∀ (n : Nat) (A B : List Int), A.length + B.length ≤ n → (mergeC A B).2 ≤ A.length * B.length
  | n, [], B, _ => by rw [mergeC]; exact Nat.zero_le _
  | n, a :: A, [], _ => by rw [mergeC]; exact Nat.zero_le _
  | 0, a :: A, b :: B, h => by simp at h
  | n + 1, a :: A, b :: B, h => by
    simp only [List.length_cons] at h
    by_cases l : a < b
    · rw [mergeC_lt l]
      have := mergeC_le n A (b :: B) (by simp only [List.length_cons]; omega)
      exact Nat.le_trans this (Nat.mul_le_mul_right _ (by simp))
    · rw [mergeC_ge l]
      have := mergeC_le n (a :: A) B (by simp only [List.length_cons]; omega)
      simp only [List.length_cons] at this ⊢
      rw [Nat.mul_add (A.length + 1) B.length 1]
      omega

abbrev mergedBody : (List Int) × (List Int) × Int × (List Int) → Option (((List Int) × (List Int) × Int × (List Int)) ⊕ (((List Int) × (List Int) × Int × (List Int)))) :=
  fun (s : (List Int) × (List Int) × Int × (List Int)) => ((impl_merged_n2 s.1 s.2.1 s.2.2.1 s.2.2.2).map (Sum.elim (fun (t : (List Int) × (List Int) × Int × (List Int)) => Sum.inl (t.1, t.2.1, t.2.2.1, t.2.2.2)) (fun (t : (List Int) × (List Int) × Int × (List Int)) => Sum.inr t)) : Option (((List Int) × (List Int) × Int × (List Int)) ⊕ (((List Int) × (List Int) × Int × (List Int)))))

theorem merged_loop : ∀ (n : Nat) (A B R : List Int) (t N : Nat), A.length + B.length ≤ n → n < N → R.length + A.length + B.length ≤ 1000 → t + (mergeC A B).2 ≤ 10000000 →
    ∃ A' B' R', nloop mergedBody N (A, B, ((t : Nat) : Int), R) = some (A', B', ((t + (mergeC A B).2 : Nat) : Int), R') ∧ R' ++ A' ++ B' = R ++ (mergeC A B).1
  | n, [], B, R, t, N + 1, _, _, _, _ => by
    refine ⟨[], B, R, ?_, ?_⟩
    · rw [mergeC, nloop]
      rfl
    · rw [mergeC]
      simp
  | n, a :: A, [], R, t, N + 1, _, _, _, _ => by
    refine ⟨a :: A, [], R, ?_, ?_⟩
    · rw [mergeC, nloop]
      simp only [mergedBody, impl_merged_n2]
      rw [decide_eq_true (show ((((a :: A).length : Nat)) : Int) > 0 by simp only [List.length_cons]; omega)]
      rfl
    · rw [mergeC]
      simp
  | 0, a :: A, b :: B, R, t, N + 1, h, _, _, _ => by simp at h
  | n, A, B, R, t, 0, _, h, _, _ => by omega
  | n + 1, a :: A, b :: B, R, t, N + 1, h, hN, hR, ht => by
    simp only [List.length_cons] at h hR
    have i1 : idx (a :: A) 0 = some a := rfl
    have i2 : idx (b :: B) 0 = some b := rfl
    have g1 : decide ((((a :: A).length : Nat) : Int) > 0) = true := decide_eq_true (by simp only [List.length_cons]; omega)
    have g2 : decide ((((b :: B).length : Nat) : Int) > 0) = true := decide_eq_true (by simp only [List.length_cons]; omega)
    have c1 : ∀ (x : Int) (l : List Int), inc 1 (x :: l).length = some 1 := fun x l => by
      unfold inc
      rw [if_pos (by simp only [List.length_cons]; omega)]
      rfl
    have d1 : ∀ (x : Int) (l : List Int), ((x :: l).take (x :: l).length).drop 1 = l := fun x l => by rw [List.take_length]; rfl
    by_cases l : a < b
    · rw [mergeC_lt l] at ht ⊢
      simp only at ht ⊢
      obtain ⟨A', B', R', q, r⟩ := merged_loop n A (b :: B) (R ++ [a]) t N (by simp only [List.length_cons]; omega) (by omega) (by simp only [List.length_append, List.length_cons, List.length_nil]; omega) ht
      refine ⟨A', B', R', ?_, by rw [r]; simp⟩
      rw [nloop]
      have st : mergedBody (a :: A, b :: B, ((t : Nat) : Int), R) = some (Sum.inl (A, b :: B, ((t : Nat) : Int), R ++ [a])) := by
        simp only [mergedBody, impl_merged_n2]
        rw [g1, g2, i1, i2]
        simp only [cond_true, Option.bind_some]
        rw [decide_eq_true l, room8 (by simp only [List.length_cons, List.length_nil]; omega), c1]
        simp only [cond_true, Option.bind_some, d1]
        rfl
      rw [st]
      exact q
    · rw [mergeC_ge l] at ht ⊢
      simp only at ht ⊢
      obtain ⟨A', B', R', q, r⟩ := merged_loop n (a :: A) B (R ++ [b]) (t + (A.length + 1)) N (by simp only [List.length_cons]; omega) (by omega) (by simp only [List.length_append, List.length_cons, List.length_nil]; omega) (by omega)
      refine ⟨A', B', R', ?_, by rw [r]; simp⟩
      rw [nloop]
      have st : mergedBody (a :: A, b :: B, ((t : Nat) : Int), R) = some (Sum.inl (a :: A, B, ((t + (A.length + 1) : Nat) : Int), R ++ [b])) := by
        simp only [mergedBody, impl_merged_n2]
        rw [g1, g2, i1, i2]
        simp only [cond_true, Option.bind_some]
        rw [decide_eq_false l]
        simp only [cond_false]
        rw [room8 (by simp only [List.length_cons, List.length_nil]; omega), c1, wrap64 (x := ((t : Nat) : Int) + (((a :: A).length : Nat) : Int)) (by simp only [List.length_cons]; omega) (by simp only [List.length_cons]; omega)]
        simp only [cond_false, Option.bind_some, d1]
        simp only [List.length_cons]
        rw [show ((t : Nat) : Int) + ((A.length + 1 : Nat) : Int) = ((t + (A.length + 1) : Nat) : Int) by omega]
        rfl
      rw [st, show t + (A.length + 1 + (mergeC (a :: A) B).2) = t + (A.length + 1) + (mergeC (a :: A) B).2 by omega]
      exact q

theorem merged_ok (A B : List Int) (h : A.length + B.length ≤ 100) : ∃ n ys, impl_merged A B = some (n, ((mergeC A B).2 : Int), ys) ∧ (ys.drop 0).take n = (mergeC A B).1 := by
  have e : impl_merged A B = impl_merged_n7 A B := by unfold impl_merged; rfl
  have m0 : mk 0 (IntKind.wrap .i64 (((A.length : Nat) : Int) + ((B.length : Nat) : Int))) = some 0 := by
    rw [wrap64 (by omega) (by omega)]
    unfold mk
    rw [if_pos (by omega)]
    rfl
  have le := mergeC_le _ A B (Nat.le_refl _)
  have le2 : A.length * B.length ≤ 100 * 100 := Nat.mul_le_mul (by omega) (by omega)
  obtain ⟨A', B', R', q, r⟩ := merged_loop _ A B [] 0 LL (Nat.le_refl _) (by simp only [LL]; omega) (by simp; omega) (by omega)
  rw [List.nil_append] at r
  have fl : [R', A', B'].flatten = (mergeC A B).1 := by rw [← r]; simp
  have ln := (mergeC_perm _ A B (Nat.le_refl _)).length_eq
  obtain ⟨n, ys, q2, r2⟩ := concat_ok [R', A', B'] (by simp) (by rw [fl, ln, List.length_append]; omega)
  refine ⟨n, ys, ?_, by rw [r2, fl]⟩
  rw [e]
  unfold impl_merged_n7 impl_merged_n1
  rw [m0]
  simp only [Option.bind_some, List.replicate_zero]
  unfold impl_merged_n6 impl_merged_n4 impl_merged_n3
  rw [show (0 : Int) = ((0 : Nat) : Int) from rfl]
  have q' : nloop mergedBody LL (A, B, ((0 : Nat) : Int), []) = _ := q
  rw [Nat.zero_add] at q'
  rw [show (nloop _ LL (A, B, ((0 : Nat) : Int), ([] : List Int)) : Option ((List Int) × (List Int) × Int × (List Int))) = some (A', B', ((mergeC A B).2 : Int), R') from q']
  simp only [Option.map_some, Option.bind_some]
  unfold impl_merged_n5
  rw [q2]
  rfl

theorem quo_two (n : Nat) (h : n ≤ 1000000) : quo .i64 ((n : Nat) : Int) 2 = some ((n / 2 : Nat) : Int) := by
  unfold quo
  rw [if_neg (by omega), show Int.tdiv (n : Int) 2 = ((n / 2 : Nat) : Int) from rfl, wrap64 (by omega) (by omega)]

theorem sorted_ok : ∀ (f : Nat) (l : List Int), l.length ≤ f → l.length ≤ 50 → l.Nodup → ∃ r, impl_sorted_fuel (f + 1) l = some (r, (turnN l : Int)) ∧ r.Pairwise (· < ·) ∧ r.Perm l
  | f, l, hf, h50, hn => by
    have e : impl_sorted_fuel (f + 1) l = impl_sorted_n1 (impl_sorted_knot f) l := rfl
    rw [e]
    unfold impl_sorted_n1
    by_cases s : l.length < 2
    · rw [decide_eq_true (show ((l.length : Nat) : Int) < 2 by omega)]
      refine ⟨l, ?_, ?_, List.Perm.refl _⟩
      · match l, s with
        | [], _ => rfl
        | [x], _ => rfl
        | _ :: _ :: _, s => simp only [List.length_cons] at s; omega
      · match l, s with
        | [], _ => exact List.Pairwise.nil
        | [x], _ => exact List.pairwise_singleton _ _
        | _ :: _ :: _, s => simp only [List.length_cons] at s; omega
    · rw [decide_eq_false (show ¬ ((l.length : Nat) : Int) < 2 by omega), quo_two _ (by omega)]
      have c : inc ((l.length / 2 : Nat) : Int) l.length = some (l.length / 2) := by
        unfold inc
        rw [if_pos (by omega), Int.toNat_natCast]
      obtain ⟨f, rfl⟩ : ∃ f', f = f' + 1 := ⟨f - 1, by omega⟩
      have sp := List.take_append_drop (l.length / 2) l
      have nd : (l.take (l.length / 2) ++ l.drop (l.length / 2)).Nodup := by rw [sp]; exact hn
      rw [List.nodup_append] at nd
      have l1 : (l.take (l.length / 2)).length = l.length / 2 := by rw [List.length_take]; omega
      have l2 : (l.drop (l.length / 2)).length = l.length - l.length / 2 := List.length_drop
      obtain ⟨r1, q1, s1, p1⟩ := sorted_ok f (l.take (l.length / 2)) (by omega) (by omega) nd.1
      obtain ⟨r2, q2, s2, p2⟩ := sorted_ok f (l.drop (l.length / 2)) (by omega) (by omega) nd.2.1
      have q1 : impl_sorted_knot (f + 1) (l.take (l.length / 2)) = _ := q1
      have q2 : impl_sorted_knot (f + 1) (l.drop (l.length / 2)) = _ := q2
      have m1 := p1.length_eq
      have m2 := p2.length_eq
      obtain ⟨n, ys, q3, q4⟩ := merged_ok r1 r2 (by omega)
      have dj : ∀ x ∈ r1, x ∉ r2 := fun x hx hy => nd.2.2 x (p1.mem_iff.mp hx) x (p2.mem_iff.mp hy) rfl
      obtain ⟨s3, c3⟩ := mergeC_sorted _ r1 r2 (Nat.le_refl _) s1 s2 dj
      have p3 := mergeC_perm _ r1 r2 (Nat.le_refl _)
      have tt : turnN l = turnN (l.take (l.length / 2)) + turnN (l.drop (l.length / 2)) + (mergeC r1 r2).2 := by
        rw [c3, crossT_left p1, cross_perm p2]
        have := turn_append (l.take (l.length / 2)) (l.drop (l.length / 2))
        rw [sp] at this
        omega
      have tl := turn_le hn
      have tb : l.length * (l.length - 1) ≤ 50 * 50 := Nat.mul_le_mul h50 (by omega)
      have td : l.length * (l.length - 1) / 2 ≤ 2500 := by omega
      refine ⟨(mergeC r1 r2).1, ?_, s3, ?_⟩
      · simp only [cond_false, Option.bind_some, c, List.drop_zero, q1, List.take_length, q2, q3]
        rw [List.drop_zero] at q4
        rw [q4, wrap64 (x := (turnN (l.take (l.length / 2)) : Int) + (turnN (l.drop (l.length / 2)) : Int)) (by omega) (by omega), wrap64 (by omega) (by omega), tt]
        congr 2
      · exact p3.trans ((p1.append p2).trans (by rw [sp]))

theorem implTurned_eq (o : List Int) : impl_CountTurned o = some (turnI o) := by
  have e : impl_CountTurned o = impl_CountTurned_n1 o := by unfold impl_CountTurned; rfl
  rw [e]
  unfold impl_CountTurned_n1 turnI
  rw [implOrder_eq]
  cases t : orderB o o.length with
  | false => rfl
  | true =>
    have ok := (orderB_iff o _).mp t
    have nd := ((orderP_iff o _).mp ok.2.2.2).2
    obtain ⟨r, q, _, _⟩ := sorted_ok (RR - 1) o (by simp only [RR]; omega) (by omega) nd
    have e : impl_sorted o = impl_sorted_fuel (RR - 1 + 1) o := by unfold impl_sorted; rfl
    simp only [Option.bind_some, Bool.not_true, cond_false, e, q, if_true]

end Go.Rv
