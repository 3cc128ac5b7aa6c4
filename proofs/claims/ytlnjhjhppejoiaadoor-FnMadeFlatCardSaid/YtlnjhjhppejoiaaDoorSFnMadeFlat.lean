/-
  The law FnMadeFlat, in plain words: it is true of every argument. Conditions: none.
-/
import Derived.Test.YtlnjhjhppejoiaaDoorHFnMadeFlat
set_option linter.unusedVariables false
set_option linter.unusedSimpArgs false
namespace Go.Rv

theorem core_FnMadeFlat (hM : ∀ h, h.length ≤ 1048576 → impl_MadeFlat h = some (if treeB h = true then putRow h (flatOI h) else [])) (hR : ∀ x mv, mv.size ≤ 1099511627776 → impl_RunStack x mv = some (runI x mv)) (hV : ∀ h, h.length ≤ 1048576 → impl_MovesFor h = spec_MovesFor h)
    (x : List Int) (w : ∀ n ∈ x, (Lit.int .u8 n).wf = true) (l : x.length ≤ maxLen) : laws_FnMadeFlat x = some true := by
  unfold laws_FnMadeFlat laws_FnMadeFlat_n1
  by_cases hx : x.length ≤ 1048576
  · rw [show decide (((x.length : Nat) : Int) > 1048576) = false from decide_eq_false (by omega)]
    obtain ⟨h, h8, hdr⟩ := drawn_wild x w l 9 (by omega)
    have hd' : spec_DrawMadeFlat x = some h := by unfold spec_DrawMadeFlat spec_DrawMadeFlat_n1; exact hdr
    simp only [hd', cond_false, Option.bind_some, hM h (by omega), specMade_eq h (by omega), implTree_eq, alive_eq]
    cases t : treeB h with
    | false =>
      simp only [Bool.false_eq_true, if_false, sameInts_eq [] [] (by simp)]
      rfl
    | true =>
      have T := (tree_iff h).mp t
      have hp := T.pos
      have fl := flatOI_length T
      have T' := put_tree T fl (flatOI_order T)
      have F' := made_flat T
      have len := putRow_length h (flatOI h)
      have t' := (tree_iff _).mpr T'
      have again := put_id T' F'
      have s : (putRow h (flatOI h) == putRow h (flatOI h)) = true := beq_self_eq_true _
      have f' : flatI (putRow h (flatOI h)) = true := by unfold flatI; rw [t', flatB_iff.mpr F']; rfl
      obtain ⟨mv, ms, g1, g2, g3⟩ := specMoves_flat T' F'
      have rr := runI_rule T' g2 g3
      have sz : mv.size ≤ 1099511627776 := by
        have := (go_run g2).2
        rw [← bytesN_length, g3]
        omega
      simp only [if_true, sameInts_eq (putRow h (flatOI h)) (putRow h (flatOI h)) (by omega), Option.bind_some, s, Bool.not_true, cond_false]
      rw [show ((((putRow h (flatOI h)).length : Nat) : Int) == 0) = false from beq_eq_false_iff_ne.2 (by omega)]
      simp only [cond_false, hV _ (show (putRow h (flatOI h)).length ≤ 1048576 by omega), g1, Option.bind_some, hR _ mv sz, rr, implFlat_eq, f', cond_true, sameInts_eq (putRow h (flatOI h)) (putRow h (flatOI h)) (by omega), s, hM _ (show (putRow h (flatOI h)).length ≤ 1048576 by omega), t', if_true, again]
      cases f : flatI h with
      | false => rfl
      | true =>
        have F : FlatP h := by
          unfold flatI at f
          rw [Bool.and_eq_true, flatB_iff] at f
          exact f.2
        have e := put_id T F
        simp only [Bool.not_true, cond_false, e, sameInts_eq h h (by omega), Option.bind_some, beq_self_eq_true]
  · rw [show decide (((x.length : Nat) : Int) > 1048576) = true from decide_eq_true (by omega)]
    rfl

theorem same_FnMadeFlat (x : List Int) (w : ∀ n ∈ x, (Lit.int .u8 n).wf = true) (l : x.length ≤ maxLen) : laws_FnMadeFlat x = some true :=
  core_FnMadeFlat (fun h _ => implMade_eq h) implRun_eq implMoves_eq x w l

end Go.Rv
