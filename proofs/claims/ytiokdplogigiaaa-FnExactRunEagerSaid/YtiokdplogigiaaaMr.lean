/-
  Plain mathematics: sets of words as bits; who depends on a word. Conditions: none.
-/
import Derived.Test.YtiokdplogigiaaaMd
import Derived.Test.YtiokdplogigiaaaMe
set_option linter.unusedVariables false
set_option linter.unusedSimpArgs false
namespace Go.Rv

/-- All rows of truth values of a length. -/
def allB : Nat → List (List Bool)
  | 0 => [[]]
  | n + 1 => (allB n).flatMap fun l => [true :: l, false :: l]

theorem mem_allB : ∀ (l : List Bool), l ∈ allB l.length
  | [] => by simp [allB]
  | b :: l => by
    simp only [List.length_cons, allB, List.mem_flatMap]
    refine ⟨l, mem_allB l, ?_⟩
    cases b <;> simp

/-- The places of what is true, the first k looked at; counted from 1 on. -/
def depsK (bl : List Bool) (k : Nat) : List Int := ((List.range k).filter fun i => bl.getD i false).map fun i => ((i + 1 : Nat) : Int)
def rowB (bl : List Bool) : List Int := bl.map fun b => if b then 1 else 0

theorem depsK_succ (bl : List Bool) (k : Nat) : depsK bl (k + 1) = if bl.getD k false then depsK bl k ++ [((k + 1 : Nat) : Int)] else depsK bl k := by
  unfold depsK
  have hf : List.filter (fun i => bl.getD i false) [k] = if bl.getD k false then [k] else [] := by simp only [List.filter_cons, List.filter_nil]
  rw [List.range_succ, List.filter_append, hf]
  split
  · simp only [List.map_append, List.map_cons, List.map_nil]
  · rw [List.append_nil]

theorem depsK_length (bl : List Bool) (k : Nat) : (depsK bl k).length ≤ k := by
  unfold depsK
  rw [List.length_map]
  exact Nat.le_trans (List.length_filter_le _ _) (by simp)

theorem idx_map {α β : Type} (f : α → β) (xs : List α) (i : Int) : idx (xs.map f) i = (idx xs i).map f := by
  unfold idx
  split
  · simp
  · rfl

def depsI (h : List Int) (v : Int) : List Int := if treeB h then depsK (h.map (· == v)) h.length else []

theorem depsI_length (h : List Int) (v : Int) : (depsI h v).length ≤ h.length := by
  unfold depsI
  split
  · exact depsK_length _ _
  · simp

theorem depsK_none {h : List Int} {v : Int} (hv : v ∉ h) : ∀ k, depsK (h.map (· == v)) k = []
  | 0 => rfl
  | k + 1 => by
    rw [depsK_succ, depsK_none hv k, if_neg]
    rw [List.getD_eq_getElem?_getD, List.getElem?_map]
    cases hk : h[k]? with
    | none => simp
    | some x =>
      have : x ∈ h := List.mem_of_getElem? hk
      have hne : x ≠ v := fun e => hv (e ▸ this)
      simpa using hne

end Go.Rv
