/-
  Plain mathematics: flat trees, in three ways; crossings read from the last word. Conditions: none.
-/
import Derived.Test.YtiokdplogigiaaaMcg
import Derived.Test.YtiokdplogigiaaaMch
import Derived.Test.YtiokdplogigiaaaMcb
import Derived.Test.YtiokdplogigiaaaMcc
import Derived.Test.YtiokdplogigiaaaMga
set_option linter.unusedVariables false
set_option linter.unusedSimpArgs false
namespace Go.Rv

/-- All words between a word and its head are under that head. -/
def BelowP (h : List Int) : Prop := ∀ w j, 1 ≤ w → w ≤ h.length → hd h w ≠ 0 → ((w < j ∧ j < hd h w) ∨ (hd h w < j ∧ j < w)) → Und h j (hd h w)

theorem flat_below {h : List Int} (T : Tree h) : FlatP h ↔ BelowP h := by
  constructor
  · intro F w j h1 h2 h3 hj
    have hh := T.hd_le h1 h2
    have u := T.und_hd h1 h2 h3
    have r : Und h (hd h w) (hd h w) := .refl (by omega) hh
    rcases hj with ⟨a, b⟩ | ⟨a, b⟩
    · exact F (hd h w) w j (hd h w) a b u r
    · exact F (hd h w) (hd h w) j w a b r u
  · intro Bl
    have key : ∀ k a, Und h a k → ∀ b, Betw a k b → Und h b k := by
      intro k a u
      induction u with
      | refl h1 h2 => intro b hb; unfold Betw at hb; omega
      | @step a k h1 h2 h3 u ih =>
        intro b hb
        have hh := T.hd_le h1 h2
        by_cases e : b = hd h a
        · rw [e]; exact u
        · by_cases hm : (a < b ∧ b < hd h a) ∨ (hd h a < b ∧ b < a)
          · exact T.und_trans (Bl a b h1 h2 h3 hm) u
          · refine ih b ?_
            unfold Betw at hb ⊢
            omega
    intro k a b c h1 h2 u v
    by_cases e : b = k
    · have r := T.und_rng u
      rw [e]; exact .refl r.2.1 r.2.2
    · rcases Nat.lt_or_ge b k with h | h
      · exact key k a u b (.inl ⟨h1, h⟩)
      · exact key k c v b (.inr ⟨by omega, h2⟩)

/-- The root lies under no arc, and no two arcs cross. -/
def PlanP (h : List Int) : Prop :=
  (∀ w, 1 ≤ w → w ≤ h.length → hd h w ≠ 0 → ¬ Betw w (hd h w) (top h)) ∧ ∀ w v, 1 ≤ w → w ≤ h.length → hd h w ≠ 0 → 1 ≤ v → v ≤ h.length → hd h v ≠ 0 → ¬ CrossW h w v

theorem below_plan {h : List Int} (T : Tree h) : BelowP h ↔ PlanP h := by
  constructor
  · intro Bl
    refine ⟨fun w h1 h2 h3 hb => ?_, fun w v h1 h2 h3 v1 v2 v3 hc => ?_⟩
    · have u := Bl w (top h) h1 h2 h3 hb
      have := T.und_of_top u
      unfold Betw at hb
      omega
    · have hw := T.hd_le h1 h2
      have hv := T.hd_le v1 v2
      -- the arcs' heads are under each other
      have s1 : Und h (hd h v) (hd h w) := by
        rcases hc with ⟨hb, ho⟩ | ⟨hb, ho⟩
        · have u := Bl w v h1 h2 h3 hb
          rcases (T.und_iff v1 v2).1 u with e | ⟨_, u'⟩
          · unfold Betw at hb; omega
          · exact u'
        · exact Bl w (hd h v) h1 h2 h3 hb
      have s2 : Und h (hd h w) (hd h v) := by
        have ht : (Betw v (hd h v) w) ∨ (Betw v (hd h v) (hd h w)) := by
          unfold CrossW Betw Outs at hc
          unfold Betw
          omega
        rcases ht with hb | hb
        · have u := Bl v w v1 v2 v3 hb
          rcases (T.und_iff h1 h2).1 u with e | ⟨_, u'⟩
          · unfold Betw at hb; omega
          · exact u'
        · exact Bl v (hd h w) v1 v2 v3 hb
      have e := T.und_anti s1 s2
      unfold CrossW Betw Outs at hc
      omega
  · rintro ⟨P1, P2⟩ w j h1 h2 h3 hj
    have hw := T.hd_le h1 h2
    have j1 : 1 ≤ j := by omega
    have j2 : j ≤ h.length := by omega
    revert hj
    refine T.climbInd (P := fun j => (w < j ∧ j < hd h w) ∨ (hd h w < j ∧ j < w) → Und h j (hd h w)) (fun hj => absurd hj (P1 w h1 h2 h3)) (fun v v1 v2 v3 ih hj => ?_) j j1 j2
    have hv := T.hd_le v1 v2
    have nc := P2 w v h1 h2 h3 v1 v2 v3
    by_cases e1 : hd h v = hd h w
    · rw [← e1]; exact T.und_hd v1 v2 v3
    · by_cases e2 : hd h v = w
      · refine .step v1 v2 v3 ?_
        rw [e2]; exact T.und_hd h1 h2 h3
      · refine .step v1 v2 v3 (ih ?_)
        unfold CrossW Betw Outs at nc
        omega

/-! Crossings, word by word -/

theorem pairwise_all {α : Type} {R : α → α → Prop} (hs : ∀ x y, R x y → R y x) (hr : ∀ x, R x x) : ∀ l : List α, l.Pairwise R ↔ ∀ x ∈ l, ∀ y ∈ l, R x y
  | [] => by simp
  | a :: r => by
    rw [List.pairwise_cons, pairwise_all hs hr r]
    constructor
    · rintro ⟨h1, h2⟩ x hx y hy
      rcases List.mem_cons.1 hx with ex | hx' <;> rcases List.mem_cons.1 hy with ey | hy'
      · rw [ex, ey]; exact hr _
      · rw [ex]; exact h1 y hy'
      · rw [ey]; exact hs _ _ (h1 x hx')
      · exact h2 x hx' y hy'
    · intro h
      exact ⟨fun y hy => h a List.mem_cons_self y (List.mem_cons_of_mem _ hy), fun x hx y hy => h x (List.mem_cons_of_mem _ hx) y (List.mem_cons_of_mem _ hy)⟩

theorem arcs_pairs {h : List Int} (T : Tree h) : crossN h = 0 ↔ ∀ w v, 1 ≤ w → w ≤ h.length → hd h w ≠ 0 → 1 ≤ v → v ≤ h.length → hd h v ≠ 0 → ¬ CrossW h w v := by
  have one : ∀ w v, hd h w ≠ w → hd h v ≠ v → (crossP (imin (w : Int) ((hd h w : Nat) : Int), imax (w : Int) ((hd h w : Nat) : Int)) (imin (v : Int) ((hd h v : Nat) : Int), imax (v : Int) ((hd h v : Nat) : Int)) = true ↔ CrossW h w v) := by
    intro w v e1 e2
    unfold crossP arcX CrossW Betw Outs
    rw [decide_eq_true_eq]
    have m1 := min_max (a := (w : Int)) (b := ((hd h w : Nat) : Int)) (by omega)
    have m2 := min_max (a := (v : Int)) (b := ((hd h v : Nat) : Int)) (by omega)
    simp only
    unfold imin imax at m1 m2 ⊢
    split <;> split <;> split <;> split <;> omega
  unfold crossN
  rw [pairsN_zero, pairwise_all (fun x y e => by rw [crossP_comm]; exact e) (fun x => by unfold crossP arcX; rw [decide_eq_false_iff_not]; omega)]
  constructor
  · intro H w v h1 h2 h3 v1 v2 v3 hc
    have := H _ ((mem_arcs T).2 ⟨w, h1, h2, h3, rfl⟩) _ ((mem_arcs T).2 ⟨v, v1, v2, v3, rfl⟩)
    rw [(one w v (T.hd_other h1 h2) (T.hd_other v1 v2)).2 hc] at this
    cases this
  · intro H p hp q hq
    obtain ⟨w, h1, h2, h3, rfl⟩ := (mem_arcs T).1 hp
    obtain ⟨v, v1, v2, v3, rfl⟩ := (mem_arcs T).1 hq
    cases hc : crossP (imin (w : Int) ((hd h w : Nat) : Int), imax (w : Int) ((hd h w : Nat) : Int)) (imin (v : Int) ((hd h v : Nat) : Int), imax (v : Int) ((hd h v : Nat) : Int)) with
    | false => rfl
    | true => exact absurd ((one w v (T.hd_other h1 h2) (T.hd_other v1 v2)).1 hc) (H w v h1 h2 h3 v1 v2 v3)

theorem plan_iff {h : List Int} (T : Tree h) : FlatP h ↔ crossN h = 0 ∧ covB h ((top h : Nat) : Int) = false := by
  rw [flat_below T, below_plan T, arcs_pairs T]
  unfold PlanP
  constructor
  · rintro ⟨h1, h2⟩
    refine ⟨h2, ?_⟩
    cases hc : covB h ((top h : Nat) : Int) with
    | false => rfl
    | true =>
      obtain ⟨w, w1, w2, w3, hw⟩ := (covB_iff T).1 hc
      exact absurd (by unfold Betw; omega) (h1 w w1 w2 w3)
  · rintro ⟨h2, hc⟩
    refine ⟨fun w w1 w2 w3 hb => ?_, h2⟩
    rw [(covB_iff T).2 ⟨w, w1, w2, w3, by unfold Betw at hb; omega⟩] at hc
    cases hc

/-- Four different words are needed to cross. -/
theorem cross_four {h : List Int} (T : Tree h) (h4 : h.length < 4) : crossN h = 0 := by
  rw [arcs_pairs T]
  intro w v h1 h2 h3 v1 v2 v3 hc
  have hw := T.hd_le h1 h2
  have hv := T.hd_le v1 v2
  unfold CrossW Betw Outs at hc
  omega

/-! Read from the last word -/

def mirror (n : Nat) (p : Int × Int) : Int × Int := ((n : Int) + 1 - p.2, (n : Int) + 1 - p.1)

theorem range_reverse (n : Nat) : (List.range n).reverse = (List.range n).map fun i => n - 1 - i := by
  apply List.ext_getElem?
  intro i
  by_cases hi : i < n
  · rw [List.getElem?_reverse (by simpa using hi), List.length_range, List.getElem?_range (by omega), List.getElem?_map, List.getElem?_range hi]
    rfl
  · rw [List.getElem?_eq_none (by simp; omega), List.getElem?_eq_none (by simp; omega)]

theorem back_arcs {h : List Int} (T : Tree h) : arcsP (backL h) = ((arcsP h).map (mirror h.length)).reverse := by
  have hlen := backL_length h
  have T' := back_tree T
  have hdb : ∀ i, i < h.length → (backL h).getD i 0 = if hd h (h.length - i) = 0 then 0 else ((h.length + 1 - hd h (h.length - i) : Nat) : Int) := fun i hi => by
    rw [List.getD_eq_getElem?_getD, back_get T hi]; rfl
  unfold arcsP arcsK
  rw [← List.map_reverse, ← List.map_reverse, ← List.filter_reverse, range_reverse, List.filter_map, List.map_map, List.map_map, hlen]
  have hf : (List.range h.length).filter (fun i => decide ((backL h).getD i 0 > 0)) = (List.range h.length).filter ((fun i => decide (h.getD i 0 > 0)) ∘ fun i => h.length - 1 - i) := by
    apply List.filter_congr
    intro i hi
    rw [List.mem_range] at hi
    have hle := T.hd_le (w := h.length - i) (by omega) (by omega)
    simp only [Function.comp]
    rw [hdb i hi, T.getD_hd (show h.length - 1 - i < h.length by omega), show h.length - 1 - i + 1 = h.length - i by omega]
    apply Bool.eq_iff_iff.2
    simp only [decide_eq_true_eq]
    split <;> omega
  rw [hf]
  apply List.map_congr_left
  intro i hi
  rw [List.mem_filter, List.mem_range] at hi
  obtain ⟨hi, hp⟩ := hi
  have hle := T.hd_le (w := h.length - i) (by omega) (by omega)
  simp only [Function.comp, decide_eq_true_eq] at hp ⊢
  rw [T.getD_hd (show h.length - 1 - i < h.length by omega), show h.length - 1 - i + 1 = h.length - i by omega] at hp ⊢
  rw [hdb i hi, if_neg (by omega)]
  unfold mirror imin imax
  simp only [Prod.mk.injEq]
  refine ⟨?_, ?_⟩
  · split <;> split <;> omega
  · split <;> split <;> omega

theorem back_cross {h : List Int} (T : Tree h) : crossN (backL h) = crossN h := by
  unfold crossN
  rw [back_arcs T, pairsN_reverse crossP_comm, pairsN_map]
  intro p q
  unfold crossP arcX mirror
  apply Bool.eq_iff_iff.2
  simp only [decide_eq_true_eq]
  omega

end Go.Rv
