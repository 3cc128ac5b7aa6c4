/-
  Plain mathematics: sets of words as bits, and loops that are known step by step. Conditions: none.
-/
import Derived.Test.YtiokdplogigiaaaMa
set_option linter.unusedVariables false
set_option linter.unusedSimpArgs false
namespace Go.Rv

theorem nloop_to {σ ω : Type} {body : σ → Option (σ ⊕ ω)} (S : Nat → σ) (n : Nat) (w : ω) (hs : ∀ k, k < n → body (S k) = some (.inl (S (k + 1)))) (he : body (S n) = some (.inr w)) :
    ∀ (N : Nat), n < N → nloop body N (S 0) = some w := by
  have key : ∀ (m k N : Nat), k + m = n → m < N → nloop body N (S k) = some w := by
    intro m
    induction m with
    | zero =>
      intro k N hk hN
      obtain ⟨N', rfl⟩ : ∃ N', N = N' + 1 := ⟨N - 1, by omega⟩
      have : k = n := by omega
      subst this
      simp only [nloop, he, Option.bind_some]
    | succ m ih =>
      intro k N hk hN
      obtain ⟨N', rfl⟩ : ∃ N', N = N' + 1 := ⟨N - 1, by omega⟩
      simp only [nloop, hs k (by omega), Option.bind_some]
      exact ih (k + 1) N' (by omega) (by omega)
  intro N hN
  exact key n 0 N (by omega) hN

/-- A loop that stops at the first place where p does not hold. -/
theorem nloop_while {σ ω : Type} {body : σ → Option (σ ⊕ ω)} (S : Nat → σ) (n : Nat) (p : Nat → Bool) (w : Bool → ω) (hs : ∀ k, k < n → p k = true → body (S k) = some (.inl (S (k + 1))))
    (hb : ∀ k, k < n → p k = false → body (S k) = some (.inr (w false))) (he : body (S n) = some (.inr (w true))) (N : Nat) (hN : n < N) :
    nloop body N (S 0) = some (w ((List.range n).all p)) := by
  have key : ∀ (m k N : Nat), k + m = n → m < N → nloop body N (S k) = some (w ((List.range' k m).all p)) := by
    intro m
    induction m with
    | zero =>
      intro k N hk hN
      obtain ⟨N', rfl⟩ : ∃ N', N = N' + 1 := ⟨N - 1, by omega⟩
      have : k = n := by omega
      subst this
      simp only [nloop, he, Option.bind_some]
      rfl
    | succ m ih =>
      intro k N hk hN
      obtain ⟨N', rfl⟩ : ∃ N', N = N' + 1 := ⟨N - 1, by omega⟩
      rw [List.range'_succ, List.all_cons]
      cases hp : p k with
      | false => simp only [nloop, hb k (by omega) hp, Option.bind_some, Bool.false_and]
      | true =>
        simp only [nloop, hs k (by omega) hp, Option.bind_some, Bool.true_and]
        exact ih (k + 1) N' (by omega) (by omega)
  rw [List.range_eq_range']
  exact key n 0 N (by omega) hN

/-! Sets as bits -/

def maskN (p : Nat → Bool) : Nat → Nat
  | 0 => 0
  | n + 1 => maskN p n ||| (if p n then 2 ^ n else 0)

theorem maskN_lt (p : Nat → Bool) : ∀ n, maskN p n < 2 ^ n
  | 0 => by simp [maskN]
  | n + 1 => by
    have h1 := maskN_lt p n
    have h2 : 2 ^ n < 2 ^ (n + 1) := by rw [Nat.pow_succ]; have := Nat.two_pow_pos n; omega
    simp only [maskN]
    refine Nat.or_lt_two_pow (by omega) ?_
    split
    · exact h2
    · exact Nat.two_pow_pos _

theorem maskN_bit (p : Nat → Bool) (n i : Nat) : (maskN p n).testBit i = (decide (i < n) && p i) := by
  induction n with
  | zero => simp [maskN]
  | succ n ih =>
    simp only [maskN, Nat.testBit_or, ih]
    by_cases e : i = n
    · subst e
      cases hp : p i <;> simp
    · have h1 : decide (i < n + 1) = decide (i < n) := by
        rw [Bool.eq_iff_iff]; simp only [decide_eq_true_eq]; omega
      rw [h1]
      have : (if p n = true then 2 ^ n else 0).testBit i = false := by
        split
        · rw [Nat.testBit_two_pow]; simp; omega
        · simp
      rw [this, Bool.or_false]

theorem eq_maskN {m n : Nat} {p : Nat → Bool} (hm : m < 2 ^ n) (h : ∀ i, i < n → m.testBit i = p i) : m = maskN p n := by
  apply Nat.eq_of_testBit_eq
  intro i
  rw [maskN_bit]
  by_cases hi : i < n
  · rw [h i hi]; simp [hi]
  · rw [Nat.testBit_lt_two_pow (Nat.lt_of_lt_of_le hm (Nat.pow_le_pow_right (by omega) (by omega)))]
    simp [hi]

theorem maskN_congr {p q : Nat → Bool} {n : Nat} (h : ∀ i, i < n → p i = q i) : maskN p n = maskN q n :=
  eq_maskN (maskN_lt p n) (fun i hi => by rw [maskN_bit, h i hi]; simp [hi])

theorem lt256 {m n : Nat} (h : n ≤ 8) (hm : m < 2 ^ n) : m < 256 :=
  Nat.lt_of_lt_of_le hm (Nat.pow_le_pow_right (n := 2) (by omega) h)

end Go.Rv
