/-
  The law FnRunStack, in plain words: it is true of every argument. Conditions: none.
-/
import Derived.Test.YtiokdplogigiaaaDoorHFnRunStack
set_option linter.unusedVariables false
set_option linter.unusedSimpArgs false
namespace Go.Rv

theorem runI_length {x : Int} {mv : ByteArray} : (runI x mv).1 = false → (runI x mv).2 = [] := by
  unfold runI
  split
  · split
    · split
      · intro h
        cases h
      · intro _
        rfl
    · intro _
      rfl
  · intro _
    rfl

theorem core_FnRunStack (hR : ∀ x mv, mv.size ≤ 1099511627776 → impl_RunStack x mv = some (runI x mv)) (hM : ∀ h, h.length ≤ 1048576 → impl_MovesFor h = spec_MovesFor h)
    (x : List Int) (w : ∀ n ∈ x, (Lit.int .u8 n).wf = true) (l : x.length ≤ maxLen) (dr : ∃ n mv, spec_DrawRunStack x = some (n, mv) ∧ mv.size ≤ 1000) : laws_FnRunStack x = some true := by
  unfold laws_FnRunStack laws_FnRunStack_n1
  by_cases hx : x.length ≤ 1048576
  · rw [show decide (((x.length : Nat) : Int) > 1048576) = false from decide_eq_false (by omega)]
    obtain ⟨n, mv, hd, hs⟩ := dr
    simp only [hd, cond_false, Option.bind_some, hR n mv (by omega), specRun_eq n mv (by omega)]
    cases e : runI n mv with
    | mk ok h =>
      cases ok with
      | false =>
        have := runI_length (x := n) (mv := mv) (by rw [e])
        rw [e] at this
        simp only at this
        subst this
        simp only [sameInts_eq [] [] (by simp), alive_eq]
        rfl
      | true =>
        obtain ⟨m, rfl⟩ : ∃ m : Nat, n = (m : Int) := by
          unfold runI at e
          by_cases b : 1 ≤ n ∧ n ≤ 8
          · exact ⟨n.toNat, by omega⟩
          · rw [if_neg b] at e
            cases e
        obtain ⟨T, F, hl, sz, n1, n8⟩ := runI_flat e
        obtain ⟨mv', ms, g1, g2, g3⟩ := specMoves_flat T F
        have rr := runI_rule T g2 g3
        rw [hl] at rr
        have sz' : mv'.size ≤ 1099511627776 := by
          have := (go_run g2).2
          rw [← bytesN_length, g3]
          omega
        have f : flatI h = true := by unfold flatI; rw [(tree_iff h).mpr T, flatB_iff.mpr F]; rfl
        have s : (h == h) = true := beq_self_eq_true h
        have z : IntKind.wrap .i64 (IntKind.wrap .i64 (2 * (m : Int)) - 1) = 2 * (m : Int) - 1 := by rw [wrap64 (x := 2 * (m : Int)) (by omega) (by omega), wrap64 (by omega) (by omega)]
        simp only [sameInts_eq h h (by omega), Option.bind_some, s, Bool.not_true, cond_false, bne_self_eq_false, hM h (by omega), g1, hR (m : Int) mv' sz', rr, implFlat_eq, f, cond_true, z]
        rw [show (((mv.size : Nat) : Int) == 2 * (m : Int) - 1) = true from beq_iff_eq.mpr (by omega)]
        rfl
  · rw [show decide (((x.length : Nat) : Int) > 1048576) = true from decide_eq_true (by omega)]
    rfl

theorem same_FnRunStack (x : List Int) (w : ∀ n ∈ x, (Lit.int .u8 n).wf = true) (l : x.length ≤ maxLen) : laws_FnRunStack x = some true :=
  core_FnRunStack implRun_eq implMoves_eq x w l (drawn_run x w l)

end Go.Rv
