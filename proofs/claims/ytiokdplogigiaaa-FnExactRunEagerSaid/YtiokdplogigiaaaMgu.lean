/-
  Plain mathematics: the eager machine tells a flat tree. Conditions: none.
-/
import Derived.Test.YtiokdplogigiaaaMgt
import Derived.Test.YtiokdplogigiaaaMgk
set_option linter.unusedVariables false
set_option linter.unusedSimpArgs false
namespace Go.Rv

/-- Neighbours on the stack, from its top: each has no head, or the one below it; words between them are under one of both; the lowest has no head. -/
def Chain (h : List Int) : List Nat → Prop
  | [] => True
  | [x] => hd h x = 0
  | y :: x :: q => (hd h y = 0 ∨ hd h y = x) ∧ (∀ j, x < j → j < y → Und h j x ∨ Und h j y) ∧ Chain h (x :: q)

/-- Those of the stack that have no head. -/
def freeE (h : List Int) (st : List Nat) : List Nat := st.filter fun w => hd h w == 0

theorem Chain.tail {h : List Int} {y : Nat} {q : List Nat} (c : Chain h (y :: q)) : Chain h q := by
  cases q with
  | nil => trivial
  | cons x q => exact c.2.2

theorem Chain.set {h : List Int} {a g : Nat} (a1 : 1 ≤ a) (a2 : a ≤ h.length) (z : hd h a = 0) : ∀ {st : List Nat}, a ∉ st → (∀ s ∈ st, 1 ≤ s) → Chain h st → Chain (h.set (a - 1) (g : Int)) st
  | [], _, _, _ => trivial
  | [x], na, p, c => by
    unfold Chain at c ⊢
    rw [hd_set a1 a2 g x (p x (List.mem_cons_self ..)), if_neg (fun e => na (by rw [e]; exact List.mem_cons_self ..))]
    exact c
  | y :: x :: q, na, p, c => by
    unfold Chain at c ⊢
    rw [hd_set a1 a2 g y (p y (List.mem_cons_self ..)), if_neg (fun e => na (by rw [e]; exact List.mem_cons_self ..))]
    refine ⟨c.1, fun j j1 j2 => (c.2.1 j j1 j2).imp (und_set a1 a2 z) (und_set a1 a2 z), ?_⟩
    exact Chain.set a1 a2 z (fun m => na (List.mem_cons_of_mem _ m)) (fun s hs => p s (List.mem_cons_of_mem _ hs)) c.2.2

theorem freeE_set {h : List Int} {a g : Nat} (a1 : 1 ≤ a) (a2 : a ≤ h.length) {st : List Nat} (na : a ∉ st) (p : ∀ s ∈ st, 1 ≤ s) : freeE (h.set (a - 1) (g : Int)) st = freeE h st := by
  unfold freeE
  refine List.filter_congr ?_
  intro x hx
  rw [hd_set a1 a2 g x (p x hx), if_neg (fun e => na (by rw [← e]; exact hx))]

theorem Chain.top {h : List Int} : ∀ {s : Nat} {rest : List Nat}, (∀ x ∈ s :: rest, 1 ≤ x ∧ x ≤ h.length) → Chain h (s :: rest) → ∃ t q, freeE h (s :: rest) = t :: q ∧ Und h s t
  | s, [], p, c => by
    have ps := p s (List.mem_cons_self ..)
    unfold Chain at c
    exact ⟨s, [], by simp [freeE, c], .refl ps.1 ps.2⟩
  | s, x :: q, p, c => by
    have ps := p s (List.mem_cons_self ..)
    have px := p x (List.mem_cons_of_mem _ (List.mem_cons_self ..))
    unfold Chain at c
    by_cases z : hd h s = 0
    · exact ⟨s, freeE h (x :: q), by unfold freeE; rw [List.filter_cons_of_pos (by simpa using z)], .refl ps.1 ps.2⟩
    · obtain ⟨t, q', e, u⟩ := Chain.top (fun y hy => p y (List.mem_cons_of_mem _ hy)) c.2.2
      have hx := c.1.resolve_left z
      refine ⟨t, q', ?_, .step ps.1 ps.2 z (by rw [hx]; exact u)⟩
      rw [← e]
      unfold freeE
      rw [List.filter_cons_of_neg (by simpa using z)]

structure EInv (n : Nat) (c : Conf) : Prop where
  i1 : 1 ≤ c.1
  hi : c.1 ≤ n + 1
  dec : c.2.1.Pairwise (· > ·)
  rng : ∀ s ∈ c.2.1, 1 ≤ s ∧ s < c.1
  chain : Chain c.2.2 c.2.1
  unread : ∀ w, c.1 ≤ w → w ≤ n → hd c.2.2 w = 0
  v1 : c.1 ≤ n → VInv n (c.1 + 1) (c.1 :: freeE c.2.2 c.2.1) c.2.2
  v2 : c.1 = n + 1 → VInv n (n + 1) (freeE c.2.2 c.2.1) c.2.2
  gap : c.1 ≤ n → ∀ y q, c.2.1 = y :: q → ∀ j, y < j → j < c.1 → Und c.2.2 j y ∨ Und c.2.2 j c.1

theorem hd_zero_rep (n w : Nat) : hd (List.replicate n 0) w = 0 := by
  unfold hd
  simp [List.getD, List.getElem?_replicate]
  split <;> simp

theorem VInv.start (n : Nat) : VInv n 1 [] (List.replicate n 0) where
  len := by simp
  hi := by omega
  dec := .nil
  rng := fun s hs => by cases hs
  num := fun x hx => by
    rw [(List.mem_replicate.mp hx).2]
    omega
  cls := fun w h1 h2 => by omega
  near := fun j h1 h2 => by omega
  below := fun w j h1 h2 => by omega

theorem EInv.start {n : Nat} (n1 : 1 ≤ n) : EInv n (1, [], List.replicate n 0) where
  i1 := by simp
  hi := by simp
  dec := .nil
  rng := fun s hs => by cases hs
  chain := trivial
  unread := fun w _ _ => hd_zero_rep n w
  v1 := fun _ => (VInv.start n).shift (by omega) n1 (hd_zero_rep n 1)
  v2 := fun e => by simp only at e; omega
  gap := fun _ y q e => by cases e

theorem EInv.len {n : Nat} {c : Conf} (E : EInv n c) : c.2.2.length = n := by
  by_cases h : c.1 ≤ n
  · exact (E.v1 h).len
  · exact (E.v2 (by have := E.hi; omega)).len

/-- The next word is put on the stack. -/
theorem EInv.push {n i : Nat} {st : List Nat} {h : List Int} (E : EInv n (i, st, h)) (hi : i ≤ n) : EInv n (i + 1, i :: st, h) := by
  have z := E.unread i (Nat.le_refl _) hi
  have v := E.v1 hi
  have i1 := E.i1
  simp only at z v i1
  have fr : freeE h (i :: st) = i :: freeE h st := by
    unfold freeE
    rw [List.filter_cons_of_pos (by simpa using z)]
  refine ⟨by simp only; omega, by simp only; omega, ?_, ?_, ?_, ?_, ?_, ?_, ?_⟩
  · exact .cons (fun s hs => (E.rng s hs).2) E.dec
  · intro s hs
    simp only at hs ⊢
    rcases List.mem_cons.mp hs with e | e
    · omega
    · have := E.rng s e
      simp only at this
      omega
  · have c := E.chain
    have g := E.gap hi
    simp only at c g ⊢
    cases st with
    | nil => exact z
    | cons x q => exact ⟨.inl z, fun j j1 j2 => g x q rfl j j1 j2, c⟩
  · intro w w1 w2
    exact E.unread w (by simp only at w1 ⊢; omega) w2
  · intro l
    simp only at l ⊢
    rw [fr]
    exact v.shift (by omega) l (E.unread (i + 1) (by simp only; omega) l)
  · intro e
    simp only at e ⊢
    rw [fr]
    rwa [show i + 1 = n + 1 by omega] at v
  · intro l y q e j j1 j2
    simp only at e j2
    injection e with e1 e2
    omega

/-- The next word is made the head of the upper one. -/
theorem EInv.left {n i s : Nat} {rest : List Nat} {h : List Int} (E : EInv n (i, s :: rest, h)) (hi : i ≤ n) (z : hd h s = 0) : EInv n (i, rest, h.set (s - 1) (i : Int)) := by
  have v := E.v1 hi
  have i1 := E.i1
  have hl := E.len
  have rs := E.rng s (List.mem_cons_self ..)
  have d := E.dec
  have gp := E.gap hi s rest rfl
  have ch := E.chain
  simp only at v i1 hl rs d gp ch
  rw [List.pairwise_cons] at d
  have ns : s ∉ rest := fun m => by
    have := d.1 s m
    omega
  have pr : ∀ x ∈ rest, 1 ≤ x := fun x hx => (E.rng x (List.mem_cons_of_mem _ hx)).1
  have fr : freeE h (s :: rest) = s :: freeE h rest := by
    unfold freeE
    rw [List.filter_cons_of_pos (by simpa using z)]
  rw [fr] at v
  have mono {x y : Nat} (u : Und h x y) : Und (h.set (s - 1) (i : Int)) x y := und_set rs.1 (by omega) z u
  have usi : Und (h.set (s - 1) (i : Int)) s i := by
    have e : hd (h.set (s - 1) (i : Int)) s = i := by rw [hd_set rs.1 (by omega) i s rs.1, if_pos rfl]
    refine .step rs.1 (by simp; omega) (by omega) ?_
    rw [e]
    exact .refl i1 (by simp; omega)
  have v' := v.arc (a := s) (g := i) (r := i) (.inl ⟨rfl, rfl⟩) i1 (by omega) (.refl i1 (by omega)) (fun j b => by
    have : s < j ∧ j < i := by unfold Betw at b; omega
    exact (gp j this.1 this.2).symm)
  refine ⟨i1, E.hi, d.2, fun x hx => E.rng x (List.mem_cons_of_mem _ hx), ?_, ?_, ?_, ?_, ?_⟩
  · exact Chain.set rs.1 (by omega) z ns pr ch.tail
  · intro w w1 w2
    simp only at w1 ⊢
    rw [hd_set rs.1 (by omega) i w (by omega), if_neg (by omega)]
    exact E.unread w w1 w2
  · intro _
    simp only
    rw [freeE_set rs.1 (by omega) ns pr]
    exact v'
  · intro e
    simp only at e
    omega
  · intro _ y q e j j1 j2
    simp only at e j2 ⊢
    subst e
    rcases Nat.lt_trichotomy j s with l | l | l
    · rcases ch.2.1 j j1 l with u | u
      · exact .inl (mono u)
      · exact .inr (und_trans0 (mono u) usi)
    · rw [l]
      exact .inr usi
    · rcases gp j l j2 with u | u
      · exact .inr (und_trans0 (mono u) usi)
      · exact .inr (mono u)

/-- The upper word is made the head of the next one, which is put on the stack. -/
theorem EInv.right {n i s : Nat} {rest : List Nat} {h : List Int} (E : EInv n (i, s :: rest, h)) (hi : i ≤ n) : EInv n (i + 1, i :: s :: rest, h.set (i - 1) (s : Int)) := by
  have v := E.v1 hi
  have i1 := E.i1
  have hl := E.len
  have rs := E.rng s (List.mem_cons_self ..)
  have d := E.dec
  have gp := E.gap hi s rest rfl
  have ch := E.chain
  have z := E.unread i (Nat.le_refl _) hi
  have rg := E.rng
  simp only at v i1 hl rs d gp ch z rg
  have ni : i ∉ s :: rest := fun m => by
    have := (rg i m).2
    omega
  have pr : ∀ x ∈ s :: rest, 1 ≤ x := fun x hx => (rg x hx).1
  obtain ⟨t, q0, fr, ut⟩ := Chain.top (fun x hx => ⟨(rg x hx).1, by have := (rg x hx).2; omega⟩) ch
  rw [fr] at v
  have v' := v.arc (a := i) (g := s) (r := t) (.inr ⟨rfl, rfl⟩) rs.1 (by omega) ut (fun j b => by
    have : s < j ∧ j < i := by unfold Betw at b; omega
    exact gp j this.1 this.2)
  have hi' : hd (h.set (i - 1) (s : Int)) i = s := by rw [hd_set i1 (by omega) s i i1, if_pos rfl]
  have fr' : freeE (h.set (i - 1) (s : Int)) (i :: s :: rest) = t :: q0 := by
    rw [← fr, ← freeE_set (g := s) i1 (by omega) ni pr]
    unfold freeE
    rw [List.filter_cons_of_neg (by rw [hi']; simp; omega)]
  have mono {x y : Nat} (u : Und h x y) : Und (h.set (i - 1) (s : Int)) x y := und_set i1 (by omega) z u
  have un : ∀ w, i + 1 ≤ w → w ≤ n → hd (h.set (i - 1) (s : Int)) w = 0 := fun w w1 w2 => by
    rw [hd_set i1 (by omega) s w (by omega), if_neg (by omega)]
    exact E.unread w (by simp only; omega) w2
  refine ⟨by simp only; omega, by simp only; omega, ?_, ?_, ?_, un, ?_, ?_, ?_⟩
  · exact .cons (fun x hx => (rg x hx).2) d
  · intro x hx
    simp only at hx ⊢
    rcases List.mem_cons.mp hx with e | e
    · omega
    · have := rg x e
      omega
  · refine ⟨.inr hi', fun j j1 j2 => (gp j j1 j2).imp mono mono, ?_⟩
    exact Chain.set i1 (by omega) z ni pr ch
  · intro l
    simp only at l ⊢
    rw [fr']
    exact v'.shift (by omega) l (un (i + 1) (Nat.le_refl _) l)
  · intro e
    simp only at e ⊢
    rw [fr']
    rwa [show i + 1 = n + 1 by omega] at v'
  · intro l y q e j j1 j2
    simp only at e j2
    injection e with e1 e2
    omega

/-- The upper word, which has a head, is taken away. -/
theorem EInv.drop {n i s : Nat} {rest : List Nat} {h : List Int} (E : EInv n (i, s :: rest, h)) (z : hd h s ≠ 0) : EInv n (i, rest, h) := by
  have hl := E.len
  have rs := E.rng s (List.mem_cons_self ..)
  have d := E.dec
  have ch := E.chain
  have hi := E.hi
  simp only at hl rs d ch hi
  rw [List.pairwise_cons] at d
  have fr : freeE h (s :: rest) = freeE h rest := by
    unfold freeE
    rw [List.filter_cons_of_neg (by simpa using z)]
  refine ⟨E.i1, E.hi, d.2, fun x hx => E.rng x (List.mem_cons_of_mem _ hx), ch.tail, E.unread, ?_, ?_, ?_⟩
  · intro l
    have := E.v1 l
    simp only at this ⊢
    rwa [fr] at this
  · intro e
    have := E.v2 e
    simp only at this ⊢
    rwa [fr] at this
  · intro l y q e j j1 j2
    simp only at e j2 ⊢
    subst e
    have gp := E.gap l s (y :: q) rfl
    have hy := ch.1.resolve_left z
    have ry := E.rng y (List.mem_cons_of_mem _ (List.mem_cons_self ..))
    simp only at gp ry
    have usy : Und h s y := .step rs.1 (by omega) z (by rw [hy]; exact .refl ry.1 (by omega))
    rcases Nat.lt_trichotomy j s with k | k | k
    · rcases ch.2.1 j j1 k with u | u
      · exact .inl u
      · exact .inl (und_trans0 u usy)
    · rw [k]
      exact .inl usy
    · rcases gp j k j2 with u | u
      · exact .inl (und_trans0 u usy)
      · exact .inr u

/-- One move, by its letter. -/
def stepE (n m : Nat) (c : Conf) : Option Conf :=
  if m = 83 then (if c.1 ≤ n then some (c.1 + 1, c.1 :: c.2.1, c.2.2) else none) else
  match c.2.1 with
  | s :: rest =>
    if m = 76 then (if c.1 ≤ n ∧ hd c.2.2 s = 0 then some (c.1, rest, c.2.2.set (s - 1) (c.1 : Int)) else none) else
    if m = 82 then (if c.1 ≤ n then some (c.1 + 1, c.1 :: s :: rest, c.2.2.set (c.1 - 1) (s : Int)) else none) else
    if m = 68 then (if hd c.2.2 s ≠ 0 then some (c.1, rest, c.2.2) else none) else none
  | [] => none

def runE (n : Nat) : List Nat → Conf → Option Conf
  | [], c => some c
  | m :: ms, c => (stepE n m c).bind (runE n ms)

/-- How many moves make an arc, and how many put a word on the stack. -/
def arcsE (ms : List Nat) : Nat := ms.countP fun m => m == 76 || m == 82
def putsE (ms : List Nat) : Nat := ms.countP fun m => m == 83 || m == 82

theorem count_set0 {h : List Int} {a g : Nat} (a1 : 1 ≤ a) (a2 : a ≤ h.length) (z : hd h a = 0) (p : ∀ x ∈ h, 0 ≤ x) (g1 : 1 ≤ g) : (h.set (a - 1) (g : Int)).count 0 + 1 = h.count 0 := by
  have lt : a - 1 < h.length := by omega
  have e : h[a - 1] = 0 := by
    unfold hd at z
    rw [List.getD_eq_getElem?_getD, List.getElem?_eq_getElem lt, Option.getD_some] at z
    have := p _ (List.getElem_mem lt)
    omega
  have m : 1 ≤ h.count 0 := List.count_pos_iff.mpr (by rw [← e]; exact List.getElem_mem lt)
  rw [List.count_set lt, e]
  simp
  rw [if_neg (show ¬ g = 0 by omega)]
  omega

theorem EInv.num {n : Nat} {c : Conf} (E : EInv n c) : ∀ x ∈ c.2.2, 0 ≤ x ∧ x ≤ (n : Int) := by
  by_cases h : c.1 ≤ n
  · exact (E.v1 h).num
  · exact (E.v2 (by have := E.hi; omega)).num

theorem estep_ok {n m : Nat} {c c' : Conf} (E : EInv n c) (e : stepE n m c = some c') :
    EInv n c' ∧ 2 * c'.1 + c.2.1.length = 2 * c.1 + c'.2.1.length + 1 ∧ arcsE [m] + c'.2.2.count 0 = c.2.2.count 0 ∧ putsE [m] + c.1 = c'.1 := by
  obtain ⟨i, st, h⟩ := c
  have hl := E.len
  have i1 := E.i1
  have nm := E.num
  unfold stepE at e
  simp only at e hl i1 nm
  by_cases m1 : m = 83
  · rw [if_pos m1] at e
    by_cases hi : i ≤ n
    · rw [if_pos hi] at e
      injection e with e
      subst e m1
      exact ⟨E.push hi, by simp only [List.length_cons]; omega, by simp [arcsE], by simp [putsE]; omega⟩
    · rw [if_neg hi] at e
      cases e
  · rw [if_neg m1] at e
    split at e
    · rename_i s rest
      have rs := E.rng s (List.mem_cons_self ..)
      have hi := E.hi
      simp only at rs hi
      by_cases m2 : m = 76
      · rw [if_pos m2] at e
        by_cases k : i ≤ n ∧ hd h s = 0
        · rw [if_pos k] at e
          injection e with e
          subst e m2
          refine ⟨E.left k.1 k.2, by simp only [List.length_cons]; omega, ?_, by simp [putsE]⟩
          have := count_set0 (h := h) (g := i) rs.1 (by omega) k.2 (fun x hx => (nm x hx).1) i1
          simp [arcsE]
          omega
        · rw [if_neg k] at e
          cases e
      · rw [if_neg m2] at e
        by_cases m3 : m = 82
        · rw [if_pos m3] at e
          by_cases k : i ≤ n
          · rw [if_pos k] at e
            injection e with e
            subst e m3
            refine ⟨E.right k, by simp only [List.length_cons]; omega, ?_, by simp [putsE]; omega⟩
            have := count_set0 (h := h) (g := s) i1 (by omega) (E.unread i (Nat.le_refl _) k) (fun x hx => (nm x hx).1) rs.1
            simp [arcsE]
            omega
          · rw [if_neg k] at e
            cases e
        · rw [if_neg m3] at e
          by_cases m4 : m = 68
          · rw [if_pos m4] at e
            by_cases k : hd h s ≠ 0
            · rw [if_pos k] at e
              injection e with e
              subst e m4
              exact ⟨E.drop k, by simp only [List.length_cons]; omega, by simp [arcsE], by simp [putsE]⟩
            · rw [if_neg k] at e
              cases e
          · rw [if_neg m4] at e
            cases e
    · cases e

theorem erun_inv {n : Nat} : ∀ {ms : List Nat} {c c' : Conf}, EInv n c → runE n ms c = some c' →
    EInv n c' ∧ 2 * c'.1 + c.2.1.length = 2 * c.1 + c'.2.1.length + ms.length ∧ arcsE ms + c'.2.2.count 0 = c.2.2.count 0 ∧ putsE ms + c.1 = c'.1
  | [], c, c', E, e => by
    unfold runE at e
    injection e with e
    subst e
    exact ⟨E, by simp only [List.length_nil]; omega, by simp [arcsE], by simp [putsE]⟩
  | m :: ms, c, c', E, e => by
    unfold runE at e
    obtain ⟨d, e1, e2⟩ := Option.bind_eq_some_iff.mp e
    have a := estep_ok E e1
    have b := erun_inv a.1 e2
    refine ⟨b.1, by simp only [List.length_cons]; omega, ?_, ?_⟩
    · have x := a.2.2.1
      have y := b.2.2.1
      unfold arcsE at x y ⊢
      rw [show m :: ms = [m] ++ ms from rfl, List.countP_append]
      omega
    · have x := a.2.2.2
      have y := b.2.2.2
      unfold putsE at x y ⊢
      rw [show m :: ms = [m] ++ ms from rfl, List.countP_append]
      omega

theorem two_zeros {h : List Int} {a b : Nat} (a1 : 1 ≤ a) (a2 : a ≤ h.length) (b1 : 1 ≤ b) (b2 : b ≤ h.length) (p : ∀ x ∈ h, 0 ≤ x) (za : hd h a = 0) (zb : hd h b = 0) (ne : a ≠ b) : 2 ≤ h.count 0 := by
  have k := count_set0 (g := 1) a1 a2 za p (Nat.le_refl _)
  have lt : b - 1 < h.length := by omega
  have e : (h.set (a - 1) ((1 : Nat) : Int))[b - 1]? = some 0 := by
    rw [List.getElem?_set_ne (by omega), List.getElem?_eq_getElem lt]
    unfold hd at zb
    rw [List.getD_eq_getElem?_getD, List.getElem?_eq_getElem lt, Option.getD_some] at zb
    have := p _ (List.getElem_mem lt)
    congr 1
    omega
  have m : 1 ≤ (h.set (a - 1) ((1 : Nat) : Int)).count 0 := List.count_pos_iff.mpr (List.mem_of_getElem? e)
  omega

/-- Each way of the eager machine tells a flat tree. -/
theorem erun_flat {n : Nat} {ms st : List Nat} {h : List Int} (n1 : 1 ≤ n) (n8 : n ≤ 8) (e : runE n ms (1, [], List.replicate n 0) = some (n + 1, st, h)) (one : h.count 0 = 1) :
    Tree h ∧ FlatP h ∧ h.length = n ∧ arcsE ms = n - 1 ∧ putsE ms = n ∧ ms.length + 1 ≤ 2 * n := by
  have a := erun_inv (EInv.start n1) e
  have E := a.1
  have v := E.v2 rfl
  have hl := E.len
  simp only at v hl
  have ex : ∃ r, freeE h st = [r] := by
    match q : freeE h st with
    | [] =>
      rw [q] at v
      obtain ⟨s, hs, _⟩ := v.near 1 (Nat.le_refl _) (by omega)
      cases hs
    | [r] => exact ⟨r, rfl⟩
    | x :: y :: l =>
      rw [q] at v
      have rx := v.rng x (List.mem_cons_self ..)
      have ry := v.rng y (List.mem_cons_of_mem _ (List.mem_cons_self ..))
      have d := v.dec
      rw [List.pairwise_cons] at d
      have := d.1 y (List.mem_cons_self ..)
      have := two_zeros rx.1 (by omega) ry.1 (by omega) (fun z hz => (v.num z hz).1) rx.2.2 ry.2.2 (by omega)
      omega
  obtain ⟨r, hr⟩ := ex
  rw [hr] at v
  have b := v.tree n8
  have st1 : 1 ≤ st.length := by
    cases st with
    | nil => simp [freeE] at hr
    | cons x q => simp
  obtain ⟨c1, c2, c3⟩ := a.2
  simp only [List.length_nil, List.count_replicate_self] at c1 c2 c3
  exact ⟨b.1, b.2.1, hl, by omega, by omega, by omega⟩

end Go.Rv
