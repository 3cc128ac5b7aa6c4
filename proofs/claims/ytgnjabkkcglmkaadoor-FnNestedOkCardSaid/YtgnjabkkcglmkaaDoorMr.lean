/-
  Plain mathematics: sets of words as bits; who depends on a word. Conditions: none.
-/
import Derived.Test.YtgnjabkkcglmkaaDoorMd
import Derived.Test.YtgnjabkkcglmkaaDoorMe
set_option linter.unusedVariables false
set_option linter.unusedSimpArgs false
namespace Go.Rv

/-- All rows of truth values of a length. -/
def allB : Nat → List (List Bool)
  | 0 => [[]]
  | n + 1 => (allB n).flatMap fun l => [true :: l, false :: l]

theorem mem_allB : ∀ (l : List Bool), l ∈ allB l.length
  | [] => by simp [allB]
  | b :: l => by
    simp only [List.length_cons, allB, List.mem_flatMap]
    refine ⟨l, mem_allB l, ?_⟩
    cases b <;> simp

/-- The places of what is true, the first k looked at; counted from 1 on. -/
def depsK (bl : List Bool) (k : Nat) : List Int := ((List.range k).filter fun i => bl.getD i false).map fun i => ((i + 1 : Nat) : Int)
def rowB (bl : List Bool) : List Int := bl.map fun b => if b then 1 else 0

theorem depsK_succ (bl : List Bool) (k : Nat) : depsK bl (k + 1) = if bl.getD k false then depsK bl k ++ [((k + 1 : Nat) : Int)] else depsK bl k := by
  unfold depsK
  have hf : List.filter (fun i => bl.getD i false) [k] = if bl.getD k false then [k] else [] := by simp only [List.filter_cons, List.filter_nil]
  rw [List.range_succ, List.filter_append, hf]
  split
  · simp only [List.map_append, List.map_cons, List.map_nil]
  · rw [List.append_nil]

theorem depsK_length (bl : List Bool) (k : Nat) : (depsK bl k).length ≤ k := by
  unfold depsK
  rw [List.length_map]
  exact Nat.le_trans (List.length_filter_le _ _) (by simp)

def depsB (bl : List Bool) : Bool := ((impl_dependents (rowB bl) 1).bind impl_wordSet_list) == some (depsK bl bl.length)

theorem deps8 : ((List.range 9).all fun n => (allB n).all depsB) = true := by decide +kernel

theorem deps_row (bl : List Bool) (h : bl.length ≤ 8) : ((impl_dependents (rowB bl) 1).bind impl_wordSet_list) = some (depsK bl bl.length) := by
  have h1 := deps8
  rw [List.all_eq_true] at h1
  have h2 := h1 bl.length (List.mem_range.2 (by omega))
  rw [List.all_eq_true] at h2
  simpa [depsB] using h2 bl (mem_allB bl)

theorem idx_map {α β : Type} (f : α → β) (xs : List α) (i : Int) : idx (xs.map f) i = (idx xs i).map f := by
  unfold idx
  split
  · simp
  · rfl

/-- Who depends on a word hangs on nothing but which heads name it. -/
theorem dependents_row (h : List Int) (v : Int) : impl_dependents h v = impl_dependents (rowB (h.map (· == v))) 1 := by
  have e : ∀ (g : List Int) (u : Int), impl_dependents g u = impl_dependents_n9 g u := fun g u => by unfold impl_dependents; rfl
  rw [e, e]
  unfold impl_dependents_n9 impl_dependents_n8 impl_dependents_n6 impl_dependents_n2 impl_dependents_n5 impl_dependents_n4
  have hlen : (rowB (h.map (· == v))).length = h.length := by simp [rowB]
  have hb : ∀ (m n i : Int), impl_dependents_n3 (rowB (h.map (· == v))) 1 m n i = impl_dependents_n3 h v m n i := fun m n i => by
    unfold impl_dependents_n3 rowB
    rw [List.map_map, idx_map]
    cases idx h i with
    | none => rfl
    | some x =>
      have hx : ((if (x == v) = true then (1 : Int) else 0) == 1) = (x == v) := by cases (x == v) <;> rfl
      simp only [Option.map_some, Option.bind_some, Function.comp, hx]
  simp only [hlen, hb]

def depsI (h : List Int) (v : Int) : List Int := if treeB h then depsK (h.map (· == v)) h.length else []

theorem depsI_length (h : List Int) (v : Int) : (depsI h v).length ≤ h.length := by
  unfold depsI
  split
  · exact depsK_length _ _
  · simp

theorem depsK_none {h : List Int} {v : Int} (hv : v ∉ h) : ∀ k, depsK (h.map (· == v)) k = []
  | 0 => rfl
  | k + 1 => by
    rw [depsK_succ, depsK_none hv k, if_neg]
    rw [List.getD_eq_getElem?_getD, List.getElem?_map]
    cases hk : h[k]? with
    | none => simp
    | some x =>
      have : x ∈ h := List.mem_of_getElem? hk
      have hne : x ≠ v := fun e => hv (e ▸ this)
      simpa using hne

theorem implDeps_eq (h : List Int) (v : Int) : impl_DependsOf h v = some (depsI h v) := by
  have e : impl_DependsOf h v = impl_DependsOf_n1 h v := by unfold impl_DependsOf; rfl
  rw [e]
  unfold impl_DependsOf_n1 depsI
  rw [implTree_eq]
  cases hT : treeB h with
  | false => rfl
  | true =>
    have T := (tree_iff h).1 hT
    simp only [Option.bind_some, Bool.not_true, cond_false, if_true]
    have out : (v < 0 ∨ v > h.length) → v ∉ h := fun hv hm => by
      obtain ⟨k, hk, e⟩ := List.getElem_of_mem hm
      have := inRange_get T.rng hk
      omega
    by_cases h1 : v < 0
    · rw [decide_eq_true h1, depsK_none (out (.inl h1))]; rfl
    · by_cases h2 : v > ((h.length : Nat) : Int)
      · rw [decide_eq_false h1, decide_eq_true h2, depsK_none (out (.inr h2))]; rfl
      · rw [decide_eq_false h1, decide_eq_false h2]
        have hr := deps_row (h.map (· == v)) (by have := T.le; simpa using this)
        rw [← dependents_row, List.length_map] at hr
        simp only [cond_false]
        cases hd : impl_dependents h v with
        | none => rw [hd] at hr; cases hr
        | some m =>
          rw [hd] at hr
          simp only [Option.bind_some] at hr
          simp only [Option.bind_some, hr]

end Go.Rv
