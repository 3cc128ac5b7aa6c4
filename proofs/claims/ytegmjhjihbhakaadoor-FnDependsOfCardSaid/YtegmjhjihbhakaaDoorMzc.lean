/-
  Plain mathematics: what depends on a word; sums over all words. Conditions: none.
-/
import Derived.Test.YtegmjhjihbhakaaDoorMzb
import Derived.Test.YtegmjhjihbhakaaDoorMy
set_option linter.unusedVariables false
set_option linter.unusedSimpArgs false
namespace Go.Rv

/-- Who depends on a word, as the program answers. -/
def deps2I (h : List Int) (v : Int) : List Int := if treeB h && (decide (0 ≤ v) && decide (v ≤ (h.length : Nat))) then wordsL (maskN (headB h v) h.length) else []

theorem implDeps2_eq (h : List Int) (v : Int) : impl_DependsOf h v = some (deps2I h v) := by
  have e : impl_DependsOf h v = impl_DependsOf_n1 h v := by unfold impl_DependsOf; rfl
  rw [e]
  unfold impl_DependsOf_n1 deps2I
  rw [implTree_eq]
  cases hT : treeB h with
  | false => rfl
  | true =>
    have T := (tree_iff h).1 hT
    have hle := T.le
    simp only [Option.bind_some, Bool.not_true, cond_false, Bool.true_and]
    by_cases h1 : v < 0
    · rw [decide_eq_true h1, decide_eq_false (show ¬ 0 ≤ v by omega)]; rfl
    · by_cases h2 : v > ((h.length : Nat) : Int)
      · rw [decide_eq_false h1, decide_eq_true h2, decide_eq_false (show ¬ v ≤ ((h.length : Nat) : Int) by omega), Bool.and_false]; rfl
      · rw [decide_eq_false h1, decide_eq_false h2, decide_eq_true (show 0 ≤ v by omega), decide_eq_true (show v ≤ ((h.length : Nat) : Int) by omega), dependents_eq h v hle]
        simp only [cond_false, Option.bind_some, list_eq (lt256 hle (maskN_lt _ _)), Bool.and_self, if_true]

theorem deps_same (h : List Int) (v : Int) : depsI h v = deps2I h v := by
  have h1 := implDeps_eq h v
  rw [implDeps2_eq] at h1
  exact (Option.some.inj h1).symm

theorem deps_kids {h : List Int} (T : Tree h) {w : Nat} (h2 : w ≤ h.length) : depsI h (w : Int) = kidsL h w := by
  rw [deps_same, deps2I, (tree_iff h).2 T, decide_eq_true (show (0 : Int) ≤ (w : Int) by omega), decide_eq_true (show (w : Int) ≤ ((h.length : Nat) : Int) by omega)]
  rfl

theorem kids_asc (h : List Int) (w : Nat) : (kidsL h w).Pairwise (· < ·) := wordsL_asc _

theorem kids_count {h : List Int} (T : Tree h) (w : Nat) : (kidsL h w).length = (List.range h.length).countP (headB h (w : Int)) := by
  unfold kidsL
  rw [wordsL_count _ T.le]

/-- On 0 just the root depends. -/
theorem kids_zero {h : List Int} (T : Tree h) : kidsL h 0 = [(top h : Int)] := by
  have hm : ∀ x, x ∈ kidsL h 0 ↔ x = (top h : Int) := fun x => by
    rw [mem_kids T]
    constructor
    · rintro ⟨c, c1, c2, c3, rfl⟩
      rw [(T.hd_zero c1 c2).1 c3]
    · rintro rfl
      exact ⟨top h, top_pos h, T.top_le, (T.hd_zero (top_pos h) T.top_le).2 rfl, rfl⟩
  have ha := kids_asc h 0
  cases hk : kidsL h 0 with
  | nil =>
    have := (hm (top h : Int)).2 rfl
    rw [hk] at this
    cases this
  | cons a r =>
    rw [hk] at hm ha
    have ea := (hm a).1 List.mem_cons_self
    cases r with
    | nil => rw [ea]
    | cons b r =>
      have eb := (hm b).1 (List.mem_cons_of_mem _ List.mem_cons_self)
      have := (List.pairwise_cons.1 ha).1 b List.mem_cons_self
      omega

/-- Words of the first ones of the yields, and the word itself. -/
noncomputable def partN (h : List Int) (w : Nat) (cs : List Int) : Nat := (List.range h.length).countP (partB h w cs)

theorem partN_nil {h : List Int} {w : Nat} (h1 : 1 ≤ w) (h2 : w ≤ h.length) : partN h w [] = 1 := by
  have : ∀ (n : Nat), (List.range n).countP (fun i => i + 1 == w) = if w ≤ n then 1 else 0 := by
    intro n
    induction n with
    | zero => simp; omega
    | succ n ih =>
      rw [List.range_succ, List.countP_append, ih, List.countP_cons, List.countP_nil]
      by_cases e : w = n + 1
      · subst e; simp
      · have e1 : (n + 1 == w) = false := beq_eq_false_iff_ne.2 (by omega)
        rw [e1]
        simp only [Bool.false_eq_true, if_false]
        split <;> split <;> omega
  have e := this h.length
  rw [if_pos h2] at e
  unfold partN partB
  refine Eq.trans ?_ e
  apply List.countP_congr
  intro i _
  simp

theorem partN_step {h : List Int} (T : Tree h) {w : Nat} (h1 : 1 ≤ w) (h2 : w ≤ h.length) {j : Nat} (hj : j < (kidsL h w).length) :
    partN h w ((kidsL h w).take (j + 1)) = partN h w ((kidsL h w).take j) + (yieldI h (kidsL h w)[j]).length := by
  obtain ⟨c, c1, c2, c3, hc⟩ := (mem_kids T).1 (List.getElem_mem hj)
  rw [hc, yield_length T c1 c2]
  unfold partN underN
  rw [← countP_or]
  · apply List.countP_congr
    intro i _
    rw [List.take_add_one, List.getElem?_eq_getElem hj, hc]
    simp only [partB, Option.toList_some, List.any_append, List.any_cons, List.any_nil, Bool.or_false, Bool.or_assoc, Int.toNat_natCast]
  · intro i hi ⟨x, y⟩
    rw [List.mem_range] at hi
    rw [undB_iff] at y
    simp only [partB, Bool.or_eq_true, beq_iff_eq, List.any_eq_true, undB_iff] at x
    rcases x with e | ⟨z, hz, u⟩
    · rw [e] at y
      have h3 := T.und_dep y
      have h4 := T.dep_step c1 c2 (by omega)
      rw [c3] at h4
      omega
    · obtain ⟨k, hk, ek⟩ := List.getElem_of_mem hz
      rw [List.length_take] at hk
      rw [List.getElem_take] at ek
      obtain ⟨d, d1, d2, d3, hd'⟩ := (mem_kids T).1 (List.getElem_mem (show k < (kidsL h w).length by omega))
      have hlt := (List.pairwise_iff_getElem.1 (kids_asc h w)) k j (by omega) hj (by omega)
      rw [← ek, hd', Int.toNat_natCast] at u
      have := T.und_child_unique (by omega) d3 c3 u y
      rw [hc, hd'] at hlt
      omega

theorem partN_all {h : List Int} (T : Tree h) {w : Nat} (h1 : 1 ≤ w) (h2 : w ≤ h.length) : partN h w (kidsL h w) = (yieldI h (w : Int)).length := by
  rw [yield_length T h1 h2]
  unfold partN underN
  apply List.countP_congr
  intro i hi
  rw [List.mem_range] at hi
  rw [part_all T h1 h2 hi]

/-! Sums -/

def sumN (f : Nat → Nat) : Nat → Nat
  | 0 => 0
  | n + 1 => sumN f n + f n

theorem sumN_add (f g : Nat → Nat) : ∀ n, sumN (fun k => f k + g k) n = sumN f n + sumN g n
  | 0 => rfl
  | n + 1 => by simp only [sumN]; rw [sumN_add f g n]; omega

theorem sumN_congr {f g : Nat → Nat} : ∀ {n : Nat}, (∀ k, k < n → f k = g k) → sumN f n = sumN g n
  | 0, _ => rfl
  | n + 1, h => by simp only [sumN]; rw [sumN_congr (fun k hk => h k (by omega)), h n (by omega)]

theorem sumN_zero : ∀ n, sumN (fun _ => 0) n = 0
  | 0 => rfl
  | n + 1 => by simp only [sumN]; rw [sumN_zero n]

theorem sumN_one (g n : Nat) : sumN (fun k => if g = k + 1 then 1 else 0) n = if 1 ≤ g ∧ g ≤ n then 1 else 0 := by
  induction n with
  | zero => simp only [sumN]; rw [if_neg (by omega)]
  | succ n ih =>
    simp only [sumN]
    rw [ih]
    by_cases e : g = n + 1
    · rw [if_neg (by omega), if_pos e, if_pos (by omega)]
    · rw [if_neg e]
      by_cases e2 : 1 ≤ g ∧ g ≤ n
      · rw [if_pos e2, if_pos (by omega)]
      · rw [if_neg e2, if_neg (by omega)]

/-- Each word but the root depends on just one word. -/
theorem heads_sum {h : List Int} (T : Tree h) : sumN (fun k => (List.range h.length).countP (headB h ((k + 1 : Nat) : Int))) h.length = h.length - 1 := by
  have key : ∀ l : List Nat, (∀ i ∈ l, i < h.length) → sumN (fun k => l.countP (headB h ((k + 1 : Nat) : Int))) h.length = l.countP (fun i => !(hd h (i + 1) == 0)) := by
    intro l
    induction l with
    | nil => intro _; simp only [List.countP_nil]; exact sumN_zero _
    | cons a r ih =>
      intro hl
      simp only [List.countP_cons]
      rw [sumN_add, ih (fun i hi => hl i (List.mem_cons_of_mem _ hi))]
      congr 1
      have ha := hl a List.mem_cons_self
      have hle := T.hd_le (w := a + 1) (by omega) (by omega)
      have e : sumN (fun k => if headB h ((k + 1 : Nat) : Int) a = true then 1 else 0) h.length = sumN (fun k => if hd h (a + 1) = k + 1 then 1 else 0) h.length := by
        apply sumN_congr
        intro k hk
        have := T.headB_iff (w := k + 1) ha
        by_cases e : hd h (a + 1) = k + 1
        · rw [if_pos e, if_pos (this.2 e)]
        · rw [if_neg e, if_neg (fun x => e (this.1 x))]
      rw [e, sumN_one]
      by_cases e0 : hd h (a + 1) = 0
      · rw [if_neg (by omega)]; simp [e0]
      · rw [if_pos (by omega)]; simp [e0]
  rw [key _ (fun i hi => List.mem_range.1 hi)]
  have h1 : (List.range h.length).countP (fun i => !(hd h (i + 1) == 0)) + (List.range h.length).countP (fun i => hd h (i + 1) == 0) = h.length := by
    have hall : ∀ l : List Nat, l.countP (fun i => !(hd h (i + 1) == 0)) + l.countP (fun i => hd h (i + 1) == 0) = l.length := by
      intro l
      induction l with
      | nil => rfl
      | cons a r ih =>
        rw [List.countP_cons, List.countP_cons, List.length_cons, ← ih]
        cases (hd h (a + 1) == 0) <;> simp <;> omega
    rw [hall, List.length_range]
  have h2 : (List.range h.length).countP (fun i => hd h (i + 1) == 0) = 1 := by
    have := kids_count T 0
    rw [kids_zero T] at this
    simp only [List.length_cons, List.length_nil] at this
    refine Eq.trans ?_ this.symm
    apply List.countP_congr
    intro i hi
    rw [List.mem_range] at hi
    rw [beq_iff_eq]
    exact (T.headB_iff (w := 0) hi).symm
  omega

theorem sides_all {h : List Int} (T : Tree h) : sumN (fun k => leftN h (k + 1) + rightN h (k + 1)) h.length = h.length - 1 := by
  rw [← heads_sum T]
  exact sumN_congr fun k _ => sides_sum h (k + 1)

end Go.Rv
