/-
  Plain mathematics: the eager machine that goes by the rule tells each flat tree. Conditions: none.
-/
import Derived.Test.YtiokdplogigiaaaMgu
set_option linter.unusedVariables false
set_option linter.unusedSimpArgs false
namespace Go.Rv

/-- The move by the rule. -/
def ruleE (H : List Int) (i : Nat) (st : List Nat) : Nat :=
  match st with
  | [] => 83
  | s :: rest => if hd H s = i then 76 else if hd H i = s then 82 else if rest.any (fun k => hd H i == k || hd H k == i) = true then 68 else 83

/-- The moves by the rule, as long as there is a next word. -/
def goE (H : List Int) : Nat → Conf → Option (List Nat × Conf)
  | 0, c => if c.1 ≤ H.length then none else some ([], c)
  | k + 1, c => if c.1 ≤ H.length then (stepE H.length (ruleE H c.1 c.2.1) c).bind fun d => (goE H k d).map fun r => (ruleE H c.1 c.2.1 :: r.1, r.2) else some ([], c)

theorem goE_run {H : List Int} : ∀ {k : Nat} {c c' : Conf} {ms : List Nat}, goE H k c = some (ms, c') → runE H.length ms c = some c'
  | 0, c, c', ms, e => by
    unfold goE at e
    split at e
    · cases e
    · injection e with e
      injection e with e1 e2
      subst e1 e2
      rfl
  | k + 1, c, c', ms, e => by
    unfold goE at e
    split at e
    · obtain ⟨d, e1, e2⟩ := Option.bind_eq_some_iff.mp e
      obtain ⟨r, e3, e4⟩ := Option.map_eq_some_iff.mp e2
      injection e4 with e5 e6
      subst e5 e6
      unfold runE
      rw [e1]
      exact goE_run e3
    · injection e with e
      injection e with e1 e2
      subst e1 e2
      rfl

structure EO (H : List Int) (c : Conf) : Prop where
  e : EInv H.length c
  agree : ∀ w, 1 ≤ w → w ≤ H.length → hd c.2.2 w ≠ 0 → hd c.2.2 w = hd H w
  opn : ∀ w, 1 ≤ w → w < c.1 → hd c.2.2 w = 0 → hd H w = 0 ∨ c.1 ≤ hd H w
  clos : ∀ x, c.1 ≤ x → x ≤ H.length → hd H x = 0 ∨ c.1 ≤ hd H x ∨ hd H x ∈ c.2.1

theorem EO.start {H : List Int} (T : Tree H) : EO H (1, [], List.replicate H.length 0) where
  e := EInv.start T.pos
  agree := fun w _ _ h => absurd (hd_zero_rep _ w) h
  opn := fun w h1 h2 => by simp only at h2; omega
  clos := fun x _ _ => by simp only; omega

theorem EO.free {H : List Int} {i : Nat} {st : List Nat} {h : List Int} (O : EO H (i, st, h)) (hi : i ≤ H.length) {w : Nat} (w1 : 1 ≤ w) (w2 : w < i) (z : hd h w = 0) : w ∈ st := by
  have v := O.e.v1 hi
  simp only at v
  refine Classical.byContradiction fun q => ?_
  refine v.cls w w1 (by omega) ?_ z
  intro m
  rcases List.mem_cons.mp m with m | m
  · omega
  · unfold freeE at m
    exact q (List.mem_filter.mp m).1

theorem EO.push {H : List Int} (T : Tree H) {i : Nat} {st : List Nat} {h : List Int} (O : EO H (i, st, h)) (hi : i ≤ H.length) (p1 : hd H i ∉ st) (p2 : ∀ w ∈ st, hd H w ≠ i) : EO H (i + 1, i :: st, h) := by
  have i1 := O.e.i1
  simp only at i1
  refine ⟨O.e.push hi, O.agree, ?_, ?_⟩
  · intro w w1 w2 z
    simp only at w2 z ⊢
    by_cases e : w = i
    · subst e
      have c := O.clos w (Nat.le_refl _) hi
      have ne := T.hd_other i1 hi
      simp only at c
      rcases c with c | c | c
      · exact .inl c
      · exact .inr (by omega)
      · exact absurd c p1
    · have o := O.opn w w1 (by simp only; omega) z
      have := p2 w (O.free hi w1 (by omega) z)
      simp only at o
      omega
  · intro x x1 x2
    simp only at x1 ⊢
    have c := O.clos x (by simp only; omega) x2
    simp only at c
    rcases c with c | c | c
    · exact .inl c
    · by_cases e : hd H x = i
      · exact .inr (.inr (by rw [e]; exact List.mem_cons_self ..))
      · exact .inr (.inl (by omega))
    · exact .inr (.inr (List.mem_cons_of_mem _ c))

theorem erule_step {H : List Int} (T : Tree H) (F : FlatP H) {c : Conf} (O : EO H c) (hi : c.1 ≤ H.length) : ∃ d, stepE H.length (ruleE H c.1 c.2.1) c = some d ∧ EO H d := by
  obtain ⟨i, st, h⟩ := c
  have B := (flat_below T).mp F
  have i1 := O.e.i1
  have hl := O.e.len
  simp only at hi i1 hl
  match st, O with
  | [], O =>
    exact ⟨(i + 1, [i], h), by simp [ruleE, stepE, hi], O.push T hi (by simp) (by simp)⟩
  | s :: rest, O =>
    have rs := O.e.rng s (List.mem_cons_self ..)
    have d := O.e.dec
    have ch := O.e.chain
    have rg := O.e.rng
    simp only at rs d ch rg
    rw [List.pairwise_cons] at d
    have top0 : hd h s = 0 ∨ hd h s < s := by
      cases rest with
      | nil => exact .inl ch
      | cons x q =>
        have := d.1 x (List.mem_cons_self ..)
        rcases ch.1 with k | k
        · exact .inl k
        · exact .inr (by omega)
    have si : s ≠ i := by omega
    simp only [ruleE]
    by_cases c1 : hd H s = i
    · rw [if_pos c1]
      have z : hd h s = 0 := by
        refine Classical.byContradiction fun q => ?_
        have a := O.agree s rs.1 (by omega) q
        simp only at a
        have := top0.resolve_left q
        omega
      have usi : Und H s i := by
        rw [← c1]
        exact T.und_hd rs.1 (by omega) (by omega)
      refine ⟨(i, rest, h.set (s - 1) (i : Int)), by simp [stepE, hi, z], O.e.left hi z, ?_, ?_, ?_⟩
      · intro w w1 w2 q
        simp only at q ⊢
        rw [hd_set rs.1 (by omega) i w w1] at q ⊢
        by_cases e : w = s
        · rw [if_pos e, e, c1]
        · rw [if_neg e] at q ⊢
          exact O.agree w w1 w2 q
      · intro w w1 w2 q
        simp only at w2 q ⊢
        rw [hd_set rs.1 (by omega) i w w1] at q
        by_cases e : w = s
        · rw [if_pos e] at q
          omega
        · rw [if_neg e] at q
          exact O.opn w w1 w2 q
      · intro x x1 x2
        simp only at x1 ⊢
        have k := O.clos x x1 x2
        simp only at k
        rcases k with k | k | k
        · exact .inl k
        · exact .inr (.inl k)
        · rcases List.mem_cons.mp k with k | k
          · exfalso
            by_cases e : x = i
            · subst e
              have u := T.und_hd (a := x) i1 hi (by omega)
              rw [k] at u
              exact si (T.und_anti usi u)
            · have u := B x i (by omega) x2 (by omega) (.inr ⟨by omega, by omega⟩)
              rw [k] at u
              exact si (T.und_anti usi u)
          · exact .inr (.inr k)
    · rw [if_neg c1]
      by_cases c2 : hd H i = s
      · rw [if_pos c2]
        have uis : Und H i s := by
          rw [← c2]
          exact T.und_hd i1 hi (by omega)
        refine ⟨(i + 1, i :: s :: rest, h.set (i - 1) (s : Int)), by simp [stepE, hi], O.e.right hi, ?_, ?_, ?_⟩
        · intro w w1 w2 q
          simp only at q ⊢
          rw [hd_set i1 (by omega) s w w1] at q ⊢
          by_cases e : w = i
          · rw [if_pos e, e, c2]
          · rw [if_neg e] at q ⊢
            exact O.agree w w1 w2 q
        · intro w w1 w2 q
          simp only at w2 q ⊢
          rw [hd_set i1 (by omega) s w w1] at q
          by_cases e : w = i
          · rw [if_pos e] at q
            omega
          · rw [if_neg e] at q
            have o := O.opn w w1 (by simp only; omega) q
            have m := O.free hi w1 (by omega) q
            simp only at o
            have : hd H w ≠ i := by
              intro k
              rcases List.mem_cons.mp m with m | m
              · rw [m] at k
                exact c1 k
              · have lt := d.1 w m
                have u := B w s w1 (by omega) (by omega) (.inl ⟨by omega, by omega⟩)
                rw [k] at u
                exact si (T.und_anti u uis)
            omega
        · intro x x1 x2
          simp only at x1 ⊢
          have k := O.clos x (by simp only; omega) x2
          simp only at k
          rcases k with k | k | k
          · exact .inl k
          · by_cases e : hd H x = i
            · exact .inr (.inr (by rw [e]; exact List.mem_cons_self ..))
            · exact .inr (.inl (by omega))
          · exact .inr (.inr (List.mem_cons_of_mem _ k))
      · rw [if_neg c2]
        by_cases c3 : rest.any (fun k => hd H i == k || hd H k == i) = true
        · rw [if_pos c3]
          obtain ⟨k, mk, hk⟩ := List.any_eq_true.mp c3
          simp only [Bool.or_eq_true, beq_iff_eq] at hk
          have lk := d.1 k mk
          have rk := rg k (List.mem_cons_of_mem _ mk)
          -- the upper word is under the one of both that is the head
          have us : (hd H i = k ∧ Und H s k) ∨ (hd H k = i ∧ Und H s i) := by
            rcases hk with e | e
            · left
              refine ⟨e, ?_⟩
              have u := B i s i1 hi (by omega) (.inr ⟨by omega, by omega⟩)
              rwa [e] at u
            · right
              refine ⟨e, ?_⟩
              have u := B k s rk.1 (by omega) (by omega) (.inl ⟨by omega, by omega⟩)
              rwa [e] at u
          have z : hd h s ≠ 0 := by
            intro q
            have o := O.opn s rs.1 rs.2 q
            simp only at o
            rcases o with o | o
            · have e := (T.hd_zero rs.1 (by omega)).mp o
              rcases us with ⟨_, u⟩ | ⟨_, u⟩
              · rw [e] at u
                have := T.und_of_top u
                omega
              · rw [e] at u
                have := T.und_of_top u
                omega
            · have hle := T.hd_le rs.1 (by omega : s ≤ H.length)
              have uic := B s i rs.1 (by omega) (by omega) (.inl ⟨by omega, by omega⟩)
              rcases us with ⟨e, u⟩ | ⟨e, u⟩
              · have u1 := ((T.und_iff rs.1 (by omega)).mp u).resolve_left (by omega)
                have u2 := ((T.und_iff i1 hi).mp uic).resolve_left (by omega)
                rw [e] at u2
                have := T.und_anti u1.2 u2.2
                omega
              · have u1 := ((T.und_iff rs.1 (by omega)).mp u).resolve_left (by omega)
                have := T.und_anti u1.2 uic
                omega
          refine ⟨(i, rest, h), by simp [stepE, z], O.e.drop z, O.agree, O.opn, ?_⟩
          intro x x1 x2
          simp only at x1 ⊢
          have q := O.clos x x1 x2
          simp only at q
          rcases q with q | q | q
          · exact .inl q
          · exact .inr (.inl q)
          · rcases List.mem_cons.mp q with q | q
            · exfalso
              by_cases e : x = i
              · rw [e] at q
                exact c2 q
              · have uis := B x i (by omega) x2 (by omega) (.inr ⟨by omega, by omega⟩)
                rw [q] at uis
                rcases us with ⟨e', u⟩ | ⟨e', u⟩
                · have u2 := ((T.und_iff i1 hi).mp uis).resolve_left (by omega)
                  rw [e'] at u2
                  have := T.und_anti u u2.2
                  omega
                · have := T.und_anti u uis
                  omega
            · exact .inr (.inr q)
        · rw [if_neg c3]
          have none : ∀ k ∈ rest, hd H i ≠ k ∧ hd H k ≠ i := by
            intro k mk
            refine ⟨fun e => c3 (List.any_eq_true.mpr ⟨k, mk, by simp [e]⟩), fun e => c3 (List.any_eq_true.mpr ⟨k, mk, by simp [e]⟩)⟩
          refine ⟨(i + 1, i :: s :: rest, h), by simp [stepE, hi], O.push T hi ?_ ?_⟩
          · intro m
            rcases List.mem_cons.mp m with m | m
            · exact c2 m
            · exact (none _ m).1 rfl
          · intro w m
            rcases List.mem_cons.mp m with m | m
            · rw [m]
              exact c1
            · exact (none w m).2

theorem EO.done {H : List Int} (T : Tree H) {st : List Nat} {h : List Int} (O : EO H (H.length + 1, st, h)) : h = H := by
  have hl := O.e.len
  have v := O.e.v2 rfl
  simp only at hl v
  apply List.ext_getElem hl
  intro k h1 h2
  have g1 := v.get (w := k + 1) (by omega) (by omega)
  have g2 := T.get (w := k + 1) (by omega) (by omega)
  rw [show k + 1 - 1 = k by omega, List.getElem?_eq_getElem h1] at g1
  rw [show k + 1 - 1 = k by omega, List.getElem?_eq_getElem h2] at g2
  injection g1 with g1
  injection g2 with g2
  rw [g1, g2]
  congr 1
  by_cases z : hd h (k + 1) = 0
  · have o := O.opn (k + 1) (by omega) (by simp only; omega) z
    have := T.hd_le (w := k + 1) (by omega) (by omega)
    simp only at o
    omega
  · exact O.agree (k + 1) (by omega) (by omega) z

theorem erule_all {H : List Int} (T : Tree H) (F : FlatP H) : ∀ (k : Nat) (c : Conf), EO H c → 2 * (H.length + 1) + c.2.1.length ≤ 2 * c.1 + k → ∃ ms st, goE H k c = some (ms, (H.length + 1, st, H))
  | k, c, O, e => by
    have hi := O.e.hi
    by_cases hc : c.1 ≤ H.length
    · cases k with
      | zero => omega
      | succ k =>
        obtain ⟨d, e1, O'⟩ := erule_step T F O hc
        have s := (estep_ok O.e e1).2.1
        obtain ⟨ms, st, e2⟩ := erule_all T F k d O' (by omega)
        refine ⟨ruleE H c.1 c.2.1 :: ms, st, ?_⟩
        unfold goE
        rw [if_pos hc, e1]
        simp only [Option.bind_some, e2, Option.map_some]
    · obtain ⟨i, st, h⟩ := c
      have : i = H.length + 1 := by simp only at hi hc; omega
      subst this
      have eh := O.done T
      subst eh
      refine ⟨[], st, ?_⟩
      cases k <;> (unfold goE; rw [if_neg hc])

/-- The rule tells each flat tree. -/
theorem erule_flat {H : List Int} (T : Tree H) (F : FlatP H) : ∃ ms st, goE H (2 * H.length) (1, [], List.replicate H.length 0) = some (ms, (H.length + 1, st, H)) :=
  erule_all T F _ _ (EO.start T) (by simp only [List.length_nil]; omega)

end Go.Rv
