/-
  Plain mathematics: a machine with a stack tells a flat tree. Conditions: none.
-/
import Derived.Test.YtiokdplogigiaaaMci
set_option linter.unusedVariables false
set_option linter.unusedSimpArgs false
namespace Go.Rv

theorem hd_set {h : List Int} {s : Nat} (s1 : 1 ≤ s) (s2 : s ≤ h.length) (g w : Nat) (w1 : 1 ≤ w) : hd (h.set (s - 1) (g : Int)) w = if w = s then g else hd h w := by
  unfold hd
  by_cases e : w = s
  · subst e
    rw [if_pos rfl]
    simp [List.getD, show w - 1 < h.length by omega]
  · rw [if_neg e]
    simp [List.getD, List.getElem?_set, show ¬ s - 1 = w - 1 by omega]

theorem und_set {h : List Int} {s g : Nat} (s1 : 1 ≤ s) (s2 : s ≤ h.length) (z : hd h s = 0) {a b : Nat} (u : Und h a b) : Und (h.set (s - 1) (g : Int)) a b := by
  induction u with
  | refl h1 h2 => exact .refl h1 (by simpa using h2)
  | step h1 h2 h3 u ih =>
    rename_i a b
    have ne : a ≠ s := fun e => h3 (by rw [e]; exact z)
    refine .step h1 (by simpa using h2) ?_ ?_
    · rw [hd_set s1 s2 g a h1, if_neg ne]
      exact h3
    · rw [hd_set s1 s2 g a h1, if_neg ne]
      exact ih

theorem und_trans0 {h : List Int} {a b c : Nat} (u : Und h a b) (v : Und h b c) : Und h a c := by
  induction u with
  | refl h1 h2 => exact v
  | step h1 h2 h3 u ih => exact .step h1 h2 h3 (ih v)

/-- What holds of the machine: the next word, the stack from its top, the heads. -/
structure MInv (n i : Nat) (st : List Nat) (h : List Int) : Prop where
  len : h.length = n
  lo : 1 ≤ i
  hi : i ≤ n + 1
  ne : st = [] → i = 1
  dec : st.Pairwise (· > ·)
  rng : ∀ s ∈ st, 1 ≤ s ∧ s < i ∧ hd h s = 0
  num : ∀ x ∈ h, 0 ≤ x ∧ x ≤ (n : Int)
  rank : ∃ (m : Nat) (ρ : Nat → Nat), m + st.length + 1 = i ∧ ∀ w, 1 ≤ w → w < i → w ∉ st → ρ w < m ∧ 1 ≤ hd h w ∧ hd h w < i ∧ (hd h w ∈ st ∨ ρ w < ρ (hd h w))
  near : ∀ j, 1 ≤ j → j < i → ∃ s ∈ st, Und h j s ∧ ∀ t ∈ st, ¬ Betw j s t
  below : ∀ w j, 1 ≤ w → w < i → hd h w ≠ 0 → Betw w (hd h w) j → Und h j (hd h w)

theorem MInv.start (n : Nat) : MInv n 1 [] (List.replicate n 0) where
  len := by simp
  lo := by omega
  hi := by omega
  ne := fun _ => rfl
  dec := .nil
  rng := fun s hs => by cases hs
  num := fun x hx => by
    rw [(List.mem_replicate.mp hx).2]
    omega
  rank := ⟨0, fun _ => 0, rfl, fun w h1 h2 => by omega⟩
  near := fun j h1 h2 => by omega
  below := fun w j h1 h2 => by omega

theorem MInv.shift {n i : Nat} {st : List Nat} {h : List Int} (M : MInv n i st h) (hi : i ≤ n) (z : hd h i = 0) : MInv n (i + 1) (i :: st) h where
  len := M.len
  lo := by omega
  hi := by omega
  ne := fun e => by cases e
  dec := .cons (fun s hs => (M.rng s hs).2.1) M.dec
  rng := fun s hs => by
    rcases List.mem_cons.mp hs with e | e
    · subst e
      exact ⟨M.lo, by omega, z⟩
    · have := M.rng s e
      exact ⟨this.1, by omega, this.2.2⟩
  num := M.num
  rank := by
    obtain ⟨m, ρ, e, r⟩ := M.rank
    refine ⟨m, ρ, by simp only [List.length_cons]; omega, ?_⟩
    intro w h1 h2 h3
    have h4 : w ≠ i := fun e => h3 (by rw [e]; exact List.mem_cons_self ..)
    have := r w h1 (by omega) (fun x => h3 (List.mem_cons_of_mem _ x))
    exact ⟨this.1, this.2.1, by omega, this.2.2.2.imp (List.mem_cons_of_mem _) id⟩
  near := fun j h1 h2 => by
    by_cases e : j = i
    · subst e
      refine ⟨j, List.mem_cons_self .., .refl h1 (by rw [M.len]; exact hi), ?_⟩
      intro t _ b
      unfold Betw at b
      omega
    · obtain ⟨s, hs, u, q⟩ := M.near j h1 (by omega)
      refine ⟨s, List.mem_cons_of_mem _ hs, u, ?_⟩
      intro t ht b
      rcases List.mem_cons.mp ht with e' | e'
      · subst e'
        have := (M.rng s hs).2.1
        unfold Betw at b
        omega
      · exact q t e' b
  below := fun w j h1 h2 h3 b => by
    have : w ≠ i := fun e => h3 (by rw [e]; exact z)
    exact M.below w j h1 (by omega) h3 b

/-- The one of the upper two words is made the head of the other one, which is taken away. -/
theorem MInv.arc {n i s t : Nat} {rest : List Nat} {h : List Int} (M : MInv n i (s :: t :: rest) h) {a g : Nat} (c : (a = t ∧ g = s) ∨ (a = s ∧ g = t)) :
    MInv n i (g :: rest) (h.set (a - 1) (g : Int)) := by
  have ms : s ∈ s :: t :: rest := List.mem_cons_self ..
  have mt : t ∈ s :: t :: rest := List.mem_cons_of_mem _ (List.mem_cons_self ..)
  have mr : ∀ {x}, x ∈ rest → x ∈ s :: t :: rest := fun x => List.mem_cons_of_mem _ (List.mem_cons_of_mem _ x)
  have d := M.dec
  rw [List.pairwise_cons] at d
  obtain ⟨d1, d⟩ := d
  rw [List.pairwise_cons] at d
  obtain ⟨d2, d3⟩ := d
  have lt : t < s := d1 t (List.mem_cons_self ..)
  have rs := M.rng s ms
  have rt := M.rng t mt
  have hl := M.len
  have hi := M.hi
  have ma : a ∈ s :: t :: rest := by rcases c with ⟨rfl, _⟩ | ⟨rfl, _⟩ <;> assumption
  have mg : g ∈ s :: t :: rest := by rcases c with ⟨_, rfl⟩ | ⟨_, rfl⟩ <;> assumption
  have ra := M.rng a ma
  have rg := M.rng g mg
  have ag : a ≠ g := by rcases c with ⟨rfl, rfl⟩ | ⟨rfl, rfl⟩ <;> omega
  have ha : 1 ≤ a ∧ a ≤ h.length := by omega
  have hset (w : Nat) (w1 : 1 ≤ w) := hd_set ha.1 ha.2 g w w1
  have mono {x y : Nat} (u : Und h x y) : Und (h.set (a - 1) (g : Int)) x y := und_set ha.1 ha.2 ra.2.2 u
  have len' : (h.set (a - 1) (g : Int)).length = n := by simp [hl]
  have uag : Und (h.set (a - 1) (g : Int)) a g := by
    have e : hd (h.set (a - 1) (g : Int)) a = g := by rw [hset a ha.1, if_pos rfl]
    refine .step ha.1 (by omega) (by omega) ?_
    rw [e]
    exact .refl rg.1 (by omega)
  have lower : ∀ x ∈ rest, x < t := d2
  have split : ∀ x, x ∈ s :: t :: rest → x = a ∨ x = g ∨ x ∈ rest := by
    intro x hx
    rcases List.mem_cons.mp hx with e | hx
    · rcases c with ⟨_, q⟩ | ⟨q, _⟩
      · exact .inr (.inl (by omega))
      · exact .inl (by omega)
    · rcases List.mem_cons.mp hx with e | hx
      · rcases c with ⟨q, _⟩ | ⟨_, q⟩
        · exact .inl (by omega)
        · exact .inr (.inl (by omega))
      · exact .inr (.inr hx)
  refine ⟨len', M.lo, M.hi, (fun e => by cases e), ?_, ?_, ?_, ?_, ?_, ?_⟩
  · refine .cons ?_ d3
    intro x hx
    have := lower x hx
    rcases c with ⟨_, rfl⟩ | ⟨_, rfl⟩ <;> show x < _ <;> omega
  · intro x hx
    have hx' : x ∈ s :: t :: rest := by
      rcases List.mem_cons.mp hx with rfl | e
      · exact mg
      · exact mr e
    have r := M.rng x hx'
    refine ⟨r.1, r.2.1, ?_⟩
    have : x ≠ a := by
      rcases List.mem_cons.mp hx with rfl | e
      · exact ag.symm
      · have := lower x e
        rcases c with ⟨rfl, _⟩ | ⟨rfl, _⟩ <;> omega
    rw [hset x r.1, if_neg this]
    exact r.2.2
  · intro x hx
    rcases List.mem_or_eq_of_mem_set hx with e | e
    · exact M.num x e
    · subst e
      omega
  · obtain ⟨m, ρ, e, r⟩ := M.rank
    refine ⟨m + 1, fun w => if w = a then m else ρ w, by simp only [List.length_cons] at e ⊢; omega, ?_⟩
    intro w h1 h2 h3
    rw [hset w h1]
    by_cases wa : w = a
    · subst wa
      simp only [if_pos]
      exact ⟨by omega, rg.1, rg.2.1, .inl (List.mem_cons_self ..)⟩
    · rw [if_neg wa]
      have nm : w ∉ s :: t :: rest := by
        intro x
        rcases split w x with q | q | q
        · exact wa q
        · exact h3 (by rw [q]; exact List.mem_cons_self ..)
        · exact h3 (List.mem_cons_of_mem _ q)
      obtain ⟨r1, r2, r3, r4⟩ := r w h1 h2 nm
      simp only [if_neg wa]
      refine ⟨by omega, r2, r3, ?_⟩
      rcases r4 with r4 | r4
      · rcases split _ r4 with q | q | q
        · right
          rw [if_pos q]
          exact r1
        · left
          rw [q]
          exact List.mem_cons_self ..
        · exact .inl (List.mem_cons_of_mem _ q)
      · by_cases q : hd h w = a
        · right
          rw [if_pos q]
          exact r1
        · right
          rw [if_neg q]
          exact r4
  · intro j h1 h2
    obtain ⟨x, hx, u, q⟩ := M.near j h1 h2
    rcases split x hx with e | e | e
    · subst e
      refine ⟨g, List.mem_cons_self .., und_trans0 (mono u) uag, ?_⟩
      intro y hy b
      rcases List.mem_cons.mp hy with e | e
      · subst e
        unfold Betw at b
        omega
      · have l := lower y e
        refine q y (mr e) ?_
        unfold Betw at b ⊢
        rcases c with ⟨rfl, rfl⟩ | ⟨rfl, rfl⟩ <;> omega
    · subst e
      refine ⟨x, List.mem_cons_self .., mono u, ?_⟩
      intro y hy
      rcases List.mem_cons.mp hy with e | e
      · rw [e]
        exact q x mg
      · exact q y (mr e)
    · refine ⟨x, List.mem_cons_of_mem _ e, mono u, ?_⟩
      intro y hy
      rcases List.mem_cons.mp hy with e' | e'
      · rw [e']
        exact q g mg
      · exact q y (mr e')
  · intro w j h1 h2 h3 b
    rw [hset w h1] at h3 b ⊢
    by_cases wa : w = a
    · subst wa
      simp only [if_pos] at b ⊢
      have bj : t < j ∧ j < s := by
        unfold Betw at b
        rcases c with ⟨rfl, rfl⟩ | ⟨rfl, rfl⟩ <;> omega
      obtain ⟨x, hx, u, q⟩ := M.near j (by omega) (by omega)
      rcases split x hx with e | e | e
      · subst e
        exact und_trans0 (mono u) uag
      · subst e
        exact mono u
      · exfalso
        have l := lower x e
        refine q t mt ?_
        unfold Betw
        omega
    · rw [if_neg wa] at h3 b ⊢
      exact mono (M.below w j h1 h2 h3 b)

end Go.Rv
