/-
  Plain mathematics: the arcs of a tree. Conditions: none.
-/
import Derived.Test.YtgnjabkkcglmkaaDoorMca
import Derived.Test.YtgnjabkkcglmkaaDoorMe
import Derived.Test.YtgnjabkkcglmkaaDoorMt
set_option linter.unusedVariables false
set_option linter.unusedSimpArgs false
namespace Go.Rv

/-- The arcs of the first k words, the lesser end first. -/
def arcsK (h : List Int) (k : Nat) : List (Int × Int) := ((List.range k).filter fun i => decide (h.getD i 0 > 0)).map fun (i : Nat) => (imin ((i : Int) + 1) (h.getD i 0), imax ((i : Int) + 1) (h.getD i 0))
def arcsP (h : List Int) : List (Int × Int) := arcsK h h.length

theorem arcsK_length (h : List Int) (k : Nat) : (arcsK h k).length ≤ k := by
  unfold arcsK
  rw [List.length_map]
  exact Nat.le_trans (List.length_filter_le _ _) (by simp)

theorem arcsK_succ (h : List Int) (k : Nat) : arcsK h (k + 1) = if h.getD k 0 > 0 then arcsK h k ++ [(imin ((k : Int) + 1) (h.getD k 0), imax ((k : Int) + 1) (h.getD k 0))] else arcsK h k := by
  unfold arcsK
  have hf : List.filter (fun i => decide (h.getD i 0 > 0)) [k] = if decide (h.getD k 0 > 0) = true then [k] else [] := by simp only [List.filter_cons, List.filter_nil]
  rw [List.range_succ, List.filter_append, List.map_append, hf]
  by_cases e : h.getD k 0 > 0
  · rw [if_pos e, if_pos (decide_eq_true e)]; rfl
  · rw [if_neg e, if_neg (fun x => e (of_decide_eq_true x))]
    exact List.append_nil _

def asRow (p : Int × Int) : List Int := [p.1, p.2]
def asArc (p : Int × Int) : Int × Int × Unit := (p.1, p.2, ())

theorem Tree.getD_hd {h : List Int} (T : Tree h) {k : Nat} (hk : k < h.length) : h.getD k 0 = ((hd h (k + 1) : Nat) : Int) := by
  have hg := T.get (w := k + 1) (by omega) (by omega)
  rw [Nat.add_sub_cancel] at hg
  rw [List.getD_eq_getElem?_getD, hg]; rfl

/-- No word is its own head. -/
theorem Tree.hd_other {h : List Int} (T : Tree h) {w : Nat} (h1 : 1 ≤ w) (h2 : w ≤ h.length) : hd h w ≠ w := by
  intro e
  have := T.dep_step h1 h2 (by omega)
  rw [e] at this
  omega

theorem implArcs_eq {h : List Int} (T : Tree h) : impl_arcsOf h = some ((arcsP h).map asArc) := by
  have e : impl_arcsOf h = impl_arcsOf_n9 h := by unfold impl_arcsOf; rfl
  have hle := T.le
  rw [e]
  unfold impl_arcsOf_n9 impl_arcsOf_n1 impl_arcsOf_n8 impl_arcsOf_n6 impl_arcsOf_n2 impl_arcsOf_n5 impl_arcsOf_n4 impl_arcsOf_n7
  have hmk : mk 0 ((h.length : Nat) : Int) = some 0 := by
    simp only [mk]
    rw [if_pos (by omega)]
    rfl
  have hloop := nloop_to (body := fun (s : Int × (List (Int × Int × Unit))) => ((impl_arcsOf_n3 h h.length s.1 s.2).map (Sum.elim (fun (t : Int × (List (Int × Int × Unit))) => Sum.inl (t.1, t.2)) (fun (t : (List (Int × Int × Unit))) => Sum.inr t)) : Option ((Int × (List (Int × Int × Unit))) ⊕ (((List (Int × Int × Unit)))))))
    (fun k => ((k : Int), (arcsK h k).map asArc)) h.length ((arcsP h).map asArc)
    (by
      intro k hk
      have hlen := arcsK_length h k
      have hg := T.getD_hd hk
      have hi : idx h (k : Int) = some ((hd h (k + 1) : Nat) : Int) := by
        rw [idx_lt hk, ← hg]; simp [List.getD, hk]
      have hne := T.hd_other (w := k + 1) (by omega) (by omega)
      have hh := T.hd_le (w := k + 1) (by omega) (by omega)
      simp only [impl_arcsOf_n3]
      rw [show decide ((k : Int) < ((h.length : Nat) : Int)) = true from decide_eq_true (by omega), hi, wrap64 (x := (k : Int) + 1) (by omega) (by omega), arcsK_succ, hg]
      simp only [cond_true, Option.bind_some, arcBetween_eq]
      by_cases e : hd h (k + 1) = 0
      · have hp : pairB ((k : Int) + 1) ((hd h (k + 1) : Nat) : Int) = false := decide_eq_false (by omega)
        rw [hp, if_neg (show ¬ ((hd h (k + 1) : Nat) : Int) > 0 by omega)]
        rfl
      · have hp : pairB ((k : Int) + 1) ((hd h (k + 1) : Nat) : Int) = true := decide_eq_true (by omega)
        rw [hp, if_pos (show ((hd h (k + 1) : Nat) : Int) > 0 by omega), if_pos rfl]
        simp only [cond_true]
        rw [room_le (by simp; omega)]
        simp [asArc])
    (by
      simp only [impl_arcsOf_n3]
      rw [show decide (((h.length : Nat) : Int) < ((h.length : Nat) : Int)) = false from decide_eq_false (by omega)]
      rfl)
  have hl2 := hloop LL (by simp only [LL]; omega)
  rw [hmk]
  simp only [Option.bind_some]
  rw [show ((0 : Int), (List.replicate 0 ((0 : Int), ((0 : Int), ())))) = (((0 : Nat) : Int), (arcsK h 0).map asArc) from rfl, hl2]
  rfl

/-- The arc of a word that has a head. -/
theorem mem_arcs {h : List Int} (T : Tree h) {p : Int × Int} : p ∈ arcsP h ↔ ∃ w, 1 ≤ w ∧ w ≤ h.length ∧ hd h w ≠ 0 ∧ p = (imin (w : Int) ((hd h w : Nat) : Int), imax (w : Int) ((hd h w : Nat) : Int)) := by
  unfold arcsP arcsK
  rw [List.mem_map]
  constructor
  · rintro ⟨i, hi, rfl⟩
    rw [List.mem_filter, List.mem_range, decide_eq_true_eq] at hi
    rw [T.getD_hd hi.1] at hi ⊢
    refine ⟨i + 1, by omega, by omega, by omega, ?_⟩
    rw [show ((i + 1 : Nat) : Int) = (i : Int) + 1 by omega]
  · rintro ⟨w, h1, h2, h3, rfl⟩
    refine ⟨w - 1, ?_, ?_⟩
    · rw [List.mem_filter, List.mem_range, decide_eq_true_eq, T.getD_hd (by omega), show w - 1 + 1 = w by omega]
      omega
    · rw [T.getD_hd (show w - 1 < h.length by omega), show w - 1 + 1 = w by omega, show ((w - 1 : Nat) : Int) + 1 = (w : Int) by omega]

theorem arc_ends {h : List Int} (T : Tree h) {p : Int × Int} (hp : p ∈ arcsP h) : 1 ≤ p.1 ∧ p.1 < p.2 ∧ p.2 ≤ (h.length : Nat) := by
  obtain ⟨w, h1, h2, h3, rfl⟩ := (mem_arcs T).1 hp
  have hh := T.hd_le h1 h2
  have hne := T.hd_other h1 h2
  unfold imin imax
  simp only
  split <;> split <;> omega

/-! Words under arcs -/

def covB (h : List Int) (v : Int) : Bool := (arcsP h).any fun p => decide (p.1 < v ∧ v < p.2)

end Go.Rv
