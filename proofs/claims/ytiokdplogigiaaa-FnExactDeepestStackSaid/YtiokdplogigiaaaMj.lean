/-
  Trees put in an order. Conditions: none.
-/
import Derived.Test.YtiokdplogigiaaaMi
set_option linter.unusedVariables false
set_option linter.unusedSimpArgs false
namespace Go.Rv

/-- The places behind the first k numbers of an order. -/
def placesK (o : List Int) (k : Nat) : List Int := (List.range (o.length + 1)).map fun (v : Nat) => if (v : Int) ∈ o.take k then (o.idxOf (v : Int) : Int) + 1 else 0
def placesL (o : List Int) : List Int := placesK o o.length

theorem placesK_length (o : List Int) (k : Nat) : (placesK o k).length = o.length + 1 := by simp [placesK]
theorem placesK_get (o : List Int) (k v : Nat) (hv : v < o.length + 1) : (placesK o k)[v]? = some (if (v : Int) ∈ o.take k then (o.idxOf (v : Int) : Int) + 1 else 0) := by
  simp [placesK, hv]

theorem idxOf_get {o : List Int} {m : Int} (hP : OrderP o m) {k : Nat} (hk : k < o.length) : o.idxOf o[k] = k := by
  have hm : o[k] ∈ o := List.getElem_mem hk
  have hlt : o.idxOf o[k] < o.length := List.idxOf_lt_length_iff.2 hm
  have he : o[o.idxOf o[k]] = o[k] := by simp
  rcases Nat.lt_trichotomy (o.idxOf o[k]) k with h | h | h
  · exact absurd he (hP.2 _ _ h hk)
  · exact h
  · exact absurd he.symm (hP.2 _ _ h hlt)

theorem placesK_step {o : List Int} (hP : OrderP o (o.length : Nat)) {k v : Nat} (hk : k < o.length) (hv : o[k] = (v : Int)) : (placesK o k).set v ((k + 1 : Nat) : Int) = placesK o (k + 1) := by
  have hr := hP.1 k hk
  apply List.ext_getElem?
  intro u
  by_cases hu : u < o.length + 1
  · rw [placesK_get o (k + 1) u hu]
    rw [List.take_add_one, List.getElem?_eq_getElem hk, hv]
    simp only [Option.toList_some, List.mem_append, List.mem_singleton]
    by_cases e : v = u
    · subst e
      rw [List.getElem?_set_self (by rw [placesK_length]; omega)]
      have hidx : o.idxOf (v : Int) = k := by rw [← hv]; exact idxOf_get hP hk
      simp [hidx]
    · rw [List.getElem?_set_ne e, placesK_get o k u hu]
      have : ¬ (u : Int) = (v : Int) := by omega
      simp [this]
  · rw [List.getElem?_eq_none (by rw [List.length_set, placesK_length]; omega), List.getElem?_eq_none (by rw [placesK_length]; omega)]

theorem placesK_zero (o : List Int) : placesK o 0 = List.replicate (o.length + 1) 0 := by
  apply List.ext_getElem?
  intro u
  by_cases hu : u < o.length + 1
  · rw [placesK_get o 0 u hu, List.getElem?_replicate, if_pos hu]; simp
  · rw [List.getElem?_eq_none (by rw [placesK_length]; omega), List.getElem?_eq_none (by simp; omega)]

/-- The new head at place k, from 0 on. -/
def newHd (h o : List Int) (k : Nat) : Int := (placesL o).getD (h.getD (o.getD k 0 - 1).toNat 0).toNat 0
def putRow (h o : List Int) : List Int := (List.range o.length).map (newHd h o)
theorem putRow_length (h o : List Int) : (putRow h o).length = o.length := by simp [putRow]
theorem putRow_drop (h o : List Int) {k : Nat} (hk : k < o.length) : (putRow h o).drop k = newHd h o k :: (putRow h o).drop (k + 1) := by
  rw [List.drop_eq_getElem_cons (by rw [putRow_length]; exact hk)]
  simp [putRow]

/-- What is read on the way to a new head. -/
theorem put_reads {h o : List Int} (T : Tree h) (hl : o.length = h.length) (hP : OrderP o (o.length : Nat)) {k : Nat} (hk : k < o.length) :
    ∃ w x : Nat, o[k] = ((w + 1 : Nat) : Int) ∧ w < h.length ∧ h[w]? = some (x : Int) ∧ x < o.length + 1 ∧ (placesL o)[x]? = some (newHd h o k) := by
  have hr := hP.1 k hk
  refine ⟨o[k].toNat - 1, (h[o[k].toNat - 1]'(by omega)).toNat, by omega, by omega, ?_, ?_, ?_⟩
  · have := inRange_get T.rng (k := o[k].toNat - 1) (by omega)
    rw [List.getElem?_eq_getElem (by omega)]
    simp only [Option.some.injEq]
    omega
  · have := inRange_get T.rng (k := o[k].toNat - 1) (by omega); omega
  · have h1 := inRange_get T.rng (k := o[k].toNat - 1) (by omega)
    have hx : (h[o[k].toNat - 1]'(by omega)).toNat < (placesL o).length := by rw [placesL, placesK_length]; omega
    rw [List.getElem?_eq_getElem hx]
    have e1 : o.getD k 0 = o[k] := by simp [List.getD, hk]
    have e2 : h.getD (o[k] - 1).toNat 0 = h[o[k].toNat - 1]'(by omega) := by
      rw [show (o[k] - 1).toNat = o[k].toNat - 1 by omega]
      simp [List.getD, show o[k].toNat - 1 < h.length by omega]
    simp only [newHd, e1, e2]
    simp [List.getD, hx]

end Go.Rv
