/-
  The law FnFlatOrder, in plain words: it is true of every argument. Conditions: none.
-/
import Derived.Test.YtgjhjbankpdcgaaDoorHFnFlatOrder
set_option linter.unusedVariables false
set_option linter.unusedSimpArgs false
namespace Go.Rv

def sameB (o : List Int) (k : Nat) : Bool := (List.range k).all fun j => o.getD j 0 == ((j + 1 : Nat) : Int)

theorem same_order (o : List Int) (hl : o.length ≤ 100) : laws_FnFlatOrder_n6 o = some (sameB o o.length) := by
  unfold laws_FnFlatOrder_n6 laws_FnFlatOrder_n2 laws_FnFlatOrder_n5 laws_FnFlatOrder_n4
  have q := nloop_to (body := fun (s : Bool × Int) => ((laws_FnFlatOrder_n3 s.1 s.2 o).map (Sum.elim (fun (t : Bool × Int) => Sum.inl (t.1, t.2)) (fun (t : Bool) => Sum.inr t)) : Option ((Bool × Int) ⊕ (Bool))))
    (fun k => (sameB o k, (k : Int))) o.length (sameB o o.length)
    (by
      intro k hk
      have i1 : inb (k : Int) o.length = some k := by unfold inb; rw [if_pos (by omega)]; simp
      have e : sameB o (k + 1) = (sameB o k && (o.getD k 0 == ((k + 1 : Nat) : Int))) := by
        unfold sameB
        rw [List.range_succ, List.all_append]
        simp
      have g : o[k]? = some (o.getD k 0) := by rw [List.getD_eq_getElem?_getD, List.getElem?_eq_getElem hk]; rfl
      simp only [laws_FnFlatOrder_n3]
      rw [decide_eq_true (show (k : Int) < ((o.length : Nat) : Int) by omega), wrap64 (by omega) (by omega), i1]
      simp only [cond_true, Option.bind_some, g, e]
      cases sameB o k <;> rfl)
    (by
      simp only [laws_FnFlatOrder_n3]
      rw [decide_eq_false (show ¬ ((o.length : Nat) : Int) < ((o.length : Nat) : Int) by omega)]
      rfl) LL (by simp only [LL]; omega)
  simp only [Option.bind_some]
  have q' := q
  rw [show sameB o 0 = true from rfl, show ((0 : Nat) : Int) = 0 from rfl] at q'
  rw [q']
  rfl

theorem same_flat {h : List Int} (T : Tree h) : sameB (flatOI h) (flatOI h).length = flatI h := by
  have fl := flatO_length T
  have fI := flatOI_length T
  rw [Bool.eq_iff_iff]
  have : flatI h = true ↔ FlatP h := by
    unfold flatI
    rw [Bool.and_eq_true, tree_iff, flatB_iff]
    exact ⟨fun z => z.2, fun z => ⟨T, z⟩⟩
  rw [this, ← flatO_id T]
  unfold sameB
  rw [List.all_eq_true]
  constructor
  · intro a
    apply List.ext_getElem
    · rw [fl]
      simp
    · intro k h1 h2
      simp only [List.getElem_map, List.getElem_range]
      have := a k (by rw [List.mem_range]; omega)
      rw [beq_iff_eq, List.getD_eq_getElem?_getD, flatOI_get T (by omega), Option.getD_some] at this
      omega
  · intro e k hk
    rw [List.mem_range] at hk
    rw [beq_iff_eq, List.getD_eq_getElem?_getD]
    unfold flatOI
    rw [e]
    simp [show k < h.length by omega]

theorem core_FnFlatOrder (hF : ∀ h, h.length ≤ 1048576 → impl_FlatOrder h = some (if treeB h = true then flatOI h else [])) (x : List Int) (w : ∀ n ∈ x, (Lit.int .u8 n).wf = true) (l : x.length ≤ maxLen) : laws_FnFlatOrder x = some true := by
  unfold laws_FnFlatOrder laws_FnFlatOrder_n9 laws_FnFlatOrder_n1
  by_cases hx : x.length ≤ 1048576
  · rw [show decide (((x.length : Nat) : Int) > 1048576) = false from decide_eq_false (by omega)]
    obtain ⟨h, h8, hdr⟩ := drawn_wild x w l 9 (by omega)
    have hd' : spec_DrawFlatOrder x = some h := by unfold spec_DrawFlatOrder spec_DrawFlatOrder_n1; exact hdr
    simp only [hd', cond_false, Option.bind_some, hF h (by omega), specFlatOrder_eq h (by omega)]
    cases t : treeB h with
    | false =>
      simp only [Bool.false_eq_true, if_false, sameInts_eq [] [] (by simp), implTree_eq, t, alive_eq]
      rfl
    | true =>
      have T := (tree_iff h).mp t
      have hp := T.pos
      have fl := flatOI_length T
      have s : (flatOI h == flatOI h) = true := beq_self_eq_true _
      have m : flatI (putRow h (flatOI h)) = true := by
        unfold flatI
        rw [Bool.and_eq_true, tree_iff, flatB_iff]
        exact ⟨put_tree T fl (flatOI_order T), made_flat T⟩
      simp only [if_true, sameInts_eq (flatOI h) (flatOI h) (by omega), Option.bind_some, s, Bool.not_true, cond_false, implPut_eq, t, flatOI_orderB T, Bool.and_self]
      rw [show ((((flatOI h).length : Nat) : Int) == 0) = false from beq_eq_false_iff_ne.2 (by omega)]
      simp only [cond_false, Option.bind_some, Sum.elim_inl]
      unfold laws_FnFlatOrder_n8
      rw [same_order _ (by omega)]
      simp only [Option.bind_some]
      unfold laws_FnFlatOrder_n7
      simp only [implOrder_eq, flatOI_orderB T, Option.bind_some, cond_true, implFlat_eq, m, same_flat T, beq_self_eq_true]
  · rw [show decide (((x.length : Nat) : Int) > 1048576) = true from decide_eq_true (by omega)]
    rfl

theorem same_FnFlatOrder (x : List Int) (w : ∀ n ∈ x, (Lit.int .u8 n).wf = true) (l : x.length ≤ maxLen) : laws_FnFlatOrder x = some true :=
  core_FnFlatOrder (fun h _ => implFlatOrder_eq h) x w l

end Go.Rv
