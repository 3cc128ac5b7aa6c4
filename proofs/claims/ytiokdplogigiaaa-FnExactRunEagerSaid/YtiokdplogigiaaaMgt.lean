/-
  Plain mathematics: words that are read, and those of them that have no head; an arc to any word of the upper part. Conditions: none.
-/
import Derived.Test.YtiokdplogigiaaaMgi
set_option linter.unusedVariables false
set_option linter.unusedSimpArgs false
namespace Go.Rv

theorem climb_same {h : List Int} {f g w : Nat} {p q : Nat × Nat} (e : climb h f w = some p) (e' : climb h g w = some q) : p = q := by
  have a := climb_le (Nat.le_max_left f g) e
  have b := climb_le (Nat.le_max_right f g) e'
  rw [a] at b
  exact Option.some.inj b

theorem climb_exact {h : List Int} : ∀ {f w : Nat} {p : Nat × Nat}, climb h f w = some p → climb h (p.2 + 1) w = some p
  | 0, w, p, e => by simp [climb] at e
  | f + 1, w, p, e => by
    simp only [climb] at e
    rw [climb]
    split at e
    · cases e
    · rename_i x hx
      split at e
      · rename_i h0
        simp only [h0, if_true]
        exact e
      · rename_i h0
        simp only [h0, if_false]
        obtain ⟨q, hq, rfl⟩ := Option.map_eq_some_iff.1 e
        rw [climb_exact hq]
        rfl

/-- The words on the way to the root are different ones. -/
theorem climb_list {h : List Int} (hr : inRange h = true) : ∀ {f w : Nat} {p : Nat × Nat}, 1 ≤ w → w ≤ h.length → climb h f w = some p →
    ∃ l : List Nat, l.length = p.2 + 1 ∧ l.Nodup ∧ ∀ x ∈ l, 1 ≤ x ∧ x ≤ h.length ∧ ∃ g q, climb h g x = some q ∧ q.2 ≤ p.2
  | 0, w, p, _, _, e => by simp [climb] at e
  | f + 1, w, p, w1, w2, e => by
    have e0 := e
    simp only [climb] at e
    split at e
    · cases e
    · rename_i x hx
      split at e
      · rename_i h0
        cases e
        exact ⟨[w], rfl, by simp, fun y hy => by
          rw [List.mem_singleton.mp hy]
          exact ⟨w1, w2, _, _, e0, Nat.le_refl _⟩⟩
      · rename_i h0
        obtain ⟨q, hq, rfl⟩ := Option.map_eq_some_iff.1 e
        have lt : w - 1 < h.length := by omega
        have rg := inRange_get hr lt
        rw [List.getElem?_eq_getElem lt] at hx
        injection hx with hx
        rw [hx] at rg
        obtain ⟨l, l1, l2, l3⟩ := climb_list hr (w := x.toNat) (by omega) (by omega) hq
        refine ⟨w :: l, by simp [l1], ?_, ?_⟩
        · rw [List.nodup_cons]
          refine ⟨fun m => ?_, l2⟩
          obtain ⟨_, _, g, r, c1, c2⟩ := l3 w m
          have := climb_same e0 c1
          subst this
          simp only at c2
          omega
        · intro y hy
          rcases List.mem_cons.mp hy with rfl | hy
          · exact ⟨w1, w2, _, _, e0, Nat.le_refl _⟩
          · obtain ⟨a, b, g, r, c1, c2⟩ := l3 y hy
            exact ⟨a, b, g, r, c1, Nat.le_trans c2 (Nat.le_succ _)⟩

theorem climb_short {h : List Int} (hr : inRange h = true) {f w : Nat} (w1 : 1 ≤ w) (w2 : w ≤ h.length) (e : (climb h f w).isSome = true) : (climb h h.length w).isSome = true := by
  obtain ⟨p, e⟩ := Option.isSome_iff_exists.mp e
  obtain ⟨l, l1, l2, l3⟩ := climb_list hr w1 w2 e
  have := List.Nodup.length_le_of_subset (l₂ := (List.range h.length).map (· + 1)) l2 (by
    intro x hx
    obtain ⟨a, b, _⟩ := l3 x hx
    rw [List.mem_map]
    exact ⟨x - 1, by rw [List.mem_range]; omega, by omega⟩)
  simp only [List.length_map, List.length_range] at this
  rw [climb_le (show p.2 + 1 ≤ h.length by omega) (climb_exact e)]
  rfl

/-- What holds of words that are read, those before `i`: the ones without heads, from the last one; the heads. -/
structure VInv (n i : Nat) (st : List Nat) (h : List Int) : Prop where
  len : h.length = n
  hi : i ≤ n + 1
  dec : st.Pairwise (· > ·)
  rng : ∀ s ∈ st, 1 ≤ s ∧ s < i ∧ hd h s = 0
  num : ∀ x ∈ h, 0 ≤ x ∧ x ≤ (n : Int)
  cls : ∀ w, 1 ≤ w → w < i → w ∉ st → hd h w ≠ 0
  near : ∀ j, 1 ≤ j → j < i → ∃ s ∈ st, Und h j s ∧ ∀ t ∈ st, ¬ Betw j s t
  below : ∀ w j, 1 ≤ w → w < i → hd h w ≠ 0 → Betw w (hd h w) j → Und h j (hd h w)

theorem VInv.shift {n i : Nat} {st : List Nat} {h : List Int} (M : VInv n i st h) (i1 : 1 ≤ i) (hi : i ≤ n) (z : hd h i = 0) : VInv n (i + 1) (i :: st) h where
  len := M.len
  hi := by omega
  dec := .cons (fun s hs => (M.rng s hs).2.1) M.dec
  rng := fun s hs => by
    rcases List.mem_cons.mp hs with e | e
    · subst e
      exact ⟨i1, by omega, z⟩
    · have := M.rng s e
      exact ⟨this.1, by omega, this.2.2⟩
  num := M.num
  cls := fun w h1 h2 h3 => by
    have h4 : w ≠ i := fun e => h3 (by rw [e]; exact List.mem_cons_self ..)
    exact M.cls w h1 (by omega) (fun x => h3 (List.mem_cons_of_mem _ x))
  near := fun j h1 h2 => by
    by_cases e : j = i
    · subst e
      refine ⟨j, List.mem_cons_self .., .refl h1 (by rw [M.len]; exact hi), ?_⟩
      intro t _ b
      unfold Betw at b
      omega
    · obtain ⟨s, hs, u, q⟩ := M.near j h1 (by omega)
      refine ⟨s, List.mem_cons_of_mem _ hs, u, ?_⟩
      intro t ht b
      rcases List.mem_cons.mp ht with e' | e'
      · subst e'
        have := (M.rng s hs).2.1
        unfold Betw at b
        omega
      · exact q t e' b
  below := fun w j h1 h2 h3 b => by
    have : w ≠ i := fun e => h3 (by rw [e]; exact z)
    exact M.below w j h1 (by omega) h3 b

/-- The one of the upper two words gets a head `g` that is under the other one, `r`, or is it. -/
theorem VInv.arc {n i s t : Nat} {rest : List Nat} {h : List Int} (M : VInv n i (s :: t :: rest) h) {a g r : Nat} (c : (a = t ∧ r = s) ∨ (a = s ∧ r = t)) (g1 : 1 ≤ g) (gi : g < i) (u : Und h g r)
    (b : ∀ j, Betw a g j → Und h j g ∨ Und h j a) : VInv n i (r :: rest) (h.set (a - 1) (g : Int)) := by
  have ms : s ∈ s :: t :: rest := List.mem_cons_self ..
  have mt : t ∈ s :: t :: rest := List.mem_cons_of_mem _ (List.mem_cons_self ..)
  have mr : ∀ {x}, x ∈ rest → x ∈ s :: t :: rest := fun x => List.mem_cons_of_mem _ (List.mem_cons_of_mem _ x)
  have d := M.dec
  rw [List.pairwise_cons] at d
  obtain ⟨d1, d⟩ := d
  rw [List.pairwise_cons] at d
  obtain ⟨d2, d3⟩ := d
  have lt : t < s := d1 t (List.mem_cons_self ..)
  have rs := M.rng s ms
  have rt := M.rng t mt
  have hl := M.len
  have hi := M.hi
  have ma : a ∈ s :: t :: rest := by rcases c with ⟨rfl, _⟩ | ⟨rfl, _⟩ <;> assumption
  have mg : r ∈ s :: t :: rest := by rcases c with ⟨_, rfl⟩ | ⟨_, rfl⟩ <;> assumption
  have ra := M.rng a ma
  have rr := M.rng r mg
  have ar : a ≠ r := by rcases c with ⟨rfl, rfl⟩ | ⟨rfl, rfl⟩ <;> omega
  have ha : 1 ≤ a ∧ a ≤ h.length := by omega
  have hset (w : Nat) (w1 : 1 ≤ w) := hd_set ha.1 ha.2 g w w1
  have mono {x y : Nat} (u : Und h x y) : Und (h.set (a - 1) (g : Int)) x y := und_set ha.1 ha.2 ra.2.2 u
  have len' : (h.set (a - 1) (g : Int)).length = n := by simp [hl]
  have uag : Und (h.set (a - 1) (g : Int)) a g := by
    have e : hd (h.set (a - 1) (g : Int)) a = g := by rw [hset a ha.1, if_pos rfl]
    refine .step ha.1 (by omega) (by omega) ?_
    rw [e]
    exact .refl g1 (by omega)
  have uar : Und (h.set (a - 1) (g : Int)) a r := und_trans0 uag (mono u)
  have lower : ∀ x ∈ rest, x < t := d2
  have split : ∀ x, x ∈ s :: t :: rest → x = a ∨ x = r ∨ x ∈ rest := by
    intro x hx
    rcases List.mem_cons.mp hx with e | hx
    · rcases c with ⟨_, q⟩ | ⟨q, _⟩
      · exact .inr (.inl (by omega))
      · exact .inl (by omega)
    · rcases List.mem_cons.mp hx with e | hx
      · rcases c with ⟨q, _⟩ | ⟨_, q⟩
        · exact .inl (by omega)
        · exact .inr (.inl (by omega))
      · exact .inr (.inr hx)
  refine ⟨len', M.hi, ?_, ?_, ?_, ?_, ?_, ?_⟩
  · refine .cons ?_ d3
    intro x hx
    have := lower x hx
    rcases c with ⟨_, rfl⟩ | ⟨_, rfl⟩ <;> show x < _ <;> omega
  · intro x hx
    have hx' : x ∈ s :: t :: rest := by
      rcases List.mem_cons.mp hx with rfl | e
      · exact mg
      · exact mr e
    have k := M.rng x hx'
    refine ⟨k.1, k.2.1, ?_⟩
    have : x ≠ a := by
      rcases List.mem_cons.mp hx with rfl | e
      · exact ar.symm
      · have := lower x e
        rcases c with ⟨rfl, _⟩ | ⟨rfl, _⟩ <;> omega
    rw [hset x k.1, if_neg this]
    exact k.2.2
  · intro x hx
    rcases List.mem_or_eq_of_mem_set hx with e | e
    · exact M.num x e
    · subst e
      omega
  · intro w h1 h2 h3
    rw [hset w h1]
    by_cases wa : w = a
    · rw [if_pos wa]
      omega
    · rw [if_neg wa]
      refine M.cls w h1 h2 ?_
      intro x
      rcases split w x with q | q | q
      · exact wa q
      · exact h3 (by rw [q]; exact List.mem_cons_self ..)
      · exact h3 (List.mem_cons_of_mem _ q)
  · intro j h1 h2
    obtain ⟨x, hx, ux, q⟩ := M.near j h1 h2
    rcases split x hx with e | e | e
    · subst e
      refine ⟨r, List.mem_cons_self .., und_trans0 (mono ux) uar, ?_⟩
      intro y hy b
      rcases List.mem_cons.mp hy with e | e
      · subst e
        unfold Betw at b
        omega
      · have l := lower y e
        refine q y (mr e) ?_
        unfold Betw at b ⊢
        rcases c with ⟨rfl, rfl⟩ | ⟨rfl, rfl⟩ <;> omega
    · subst e
      refine ⟨x, List.mem_cons_self .., mono ux, ?_⟩
      intro y hy
      rcases List.mem_cons.mp hy with e | e
      · rw [e]
        exact q x mg
      · exact q y (mr e)
    · refine ⟨x, List.mem_cons_of_mem _ e, mono ux, ?_⟩
      intro y hy
      rcases List.mem_cons.mp hy with e' | e'
      · rw [e']
        exact q r mg
      · exact q y (mr e')
  · intro w j h1 h2 h3 k
    rw [hset w h1] at h3 k ⊢
    by_cases wa : w = a
    · subst wa
      simp only [if_pos] at k ⊢
      rcases b j k with v | v
      · exact mono v
      · exact und_trans0 (mono v) uag
    · rw [if_neg wa] at h3 k ⊢
      exact mono (M.below w j h1 h2 h3 k)

theorem VInv.get {n i : Nat} {st : List Nat} {h : List Int} (M : VInv n i st h) {w : Nat} (w1 : 1 ≤ w) (w2 : w ≤ n) : h[w - 1]? = some ((hd h w : Nat) : Int) := by
  have hl := M.len
  have lt : w - 1 < h.length := by omega
  have := M.num _ (List.getElem_mem lt)
  rw [List.getElem?_eq_getElem lt]
  unfold hd
  rw [List.getD_eq_getElem?_getD, List.getElem?_eq_getElem lt, Option.getD_some]
  congr 1
  omega

theorem VInv.tree {n r : Nat} {h : List Int} (M : VInv n (n + 1) [r] h) (n8 : n ≤ 8) : Tree h ∧ FlatP h ∧ top h = r := by
  have hl := M.len
  have rr := M.rng r (List.mem_cons_self ..)
  have hr : inRange h = true := by
    unfold inRange
    rw [List.all_eq_true]
    intro x hx
    have := M.num x hx
    simp only [okHead, Bool.and_eq_true, decide_eq_true_eq]
    omega
  have way : ∀ w x, Und h w x → x = r → ∃ f, (climb h f w).isSome = true := by
    intro w x u
    induction u with
    | refl h1 h2 =>
      intro e
      refine ⟨1, ?_⟩
      unfold climb
      rw [e, M.get rr.1 (by omega), rr.2.2]
      rfl
    | step h1 h2 h3 u ih =>
      rename_i w x
      intro e
      obtain ⟨f, hf⟩ := ih e
      refine ⟨f + 1, ?_⟩
      unfold climb
      rw [M.get h1 (by omega)]
      simp only
      rw [if_neg (by omega), Option.isSome_map]
      exact hf
  have T : Tree h := by
    refine ⟨by omega, by omega, hr, ?_, ?_⟩
    · refine count_one (r := r - 1) ?_ ?_
      · rw [M.get rr.1 (by omega), rr.2.2]
        rfl
      · intro i hi
        have lt : i < h.length := (List.getElem?_eq_some_iff.mp hi).1
        have g := M.get (w := i + 1) (by omega) (by omega)
        rw [show i + 1 - 1 = i by omega, hi] at g
        injection g with g
        refine Classical.byContradiction fun c => ?_
        refine M.cls (i + 1) (by omega) (by omega) ?_ (by omega)
        rw [List.mem_singleton]
        omega
    · intro k hk
      obtain ⟨s, hs, u, _⟩ := M.near (k + 1) (by omega) (by omega)
      obtain ⟨f, hf⟩ := way _ _ u (List.mem_singleton.mp hs)
      exact climb_short hr (by omega) (by omega) hf
  have t : top h = r := ((T.hd_zero rr.1 (by omega)).mp rr.2.2).symm
  refine ⟨T, ?_, t⟩
  rw [flat_below T]
  intro w j w1 w2 w3 b
  exact M.below w j w1 (by omega) w3 b

end Go.Rv
