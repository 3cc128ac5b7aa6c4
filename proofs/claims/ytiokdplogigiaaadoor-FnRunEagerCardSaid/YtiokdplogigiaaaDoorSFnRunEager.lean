/-
  The law FnRunEager, in plain words: it is true of every argument. Conditions: none.
-/
import Derived.Test.YtiokdplogigiaaaDoorHFnRunEager
set_option linter.unusedVariables false
set_option linter.unusedSimpArgs false
namespace Go.Rv

theorem eagI_none {x : Int} {mv : ByteArray} : (eagI x mv).1 = false → (eagI x mv).2 = [] := by
  unfold eagI
  split
  · split
    · split
      · intro h
        cases h
      · intro _
        rfl
    · intro _
      rfl
  · intro _
    rfl

theorem core_FnRunEager (hE : ∀ x mv, mv.size ≤ 1099511627776 → impl_RunEager x mv = some (eagI x mv)) (hF : ∀ h, h.length ≤ 1048576 → impl_EagerFor h = spec_EagerFor h)
    (hR : ∀ x mv, mv.size ≤ 1099511627776 → impl_RunStack x mv = some (runI x mv)) (hM : ∀ h, h.length ≤ 1048576 → impl_MovesFor h = spec_MovesFor h)
    (x : List Int) (w : ∀ n ∈ x, (Lit.int .u8 n).wf = true) (l : x.length ≤ maxLen) : laws_FnRunEager x = some true := by
  unfold laws_FnRunEager laws_FnRunEager_n1
  by_cases hx : x.length ≤ 1048576
  · rw [show decide (((x.length : Nat) : Int) > 1048576) = false from decide_eq_false (by omega)]
    obtain ⟨n, mv, hd, hs⟩ := drawn_eager x w l
    simp only [hd, cond_false, Option.bind_some, hE n mv (by omega), specEager_eq n mv (by omega)]
    cases e : eagI n mv with
    | mk ok h =>
      cases ok with
      | false =>
        have := eagI_none (x := n) (mv := mv) (by rw [e])
        rw [e] at this
        simp only at this
        subst this
        simp only [sameInts_eq [] [] (by simp), alive_eq]
        rfl
      | true =>
        obtain ⟨m, rfl⟩ : ∃ m : Nat, n = (m : Int) := by
          unfold eagI at e
          by_cases b : 1 ≤ n ∧ n ≤ 8
          · exact ⟨n.toNat, by omega⟩
          · rw [if_neg b] at e
            cases e
        obtain ⟨T, F, hl, _, _, _, n1, n8⟩ := eagI_flat e
        obtain ⟨mv1, ms1, st1, e1, e2, e3⟩ := specEagerFor_flat T F
        obtain ⟨mv2, ms2, g1, g2, g3⟩ := specMoves_flat T F
        have r1 := eagI_rule T e2 e3
        have r2 := runI_rule T g2 g3
        rw [hl] at r1 r2
        have z1 : mv1.size ≤ 1099511627776 := by
          have := (goE_few T e2).1
          rw [← bytesN_length, e3]
          omega
        have z2 : mv2.size ≤ 1099511627776 := by
          have := (go_run g2).2
          rw [← bytesN_length, g3]
          omega
        have f : flatI h = true := by unfold flatI; rw [(tree_iff h).mpr T, flatB_iff.mpr F]; rfl
        have s : (h == h) = true := beq_self_eq_true h
        simp only [sameInts_eq h h (by omega), Option.bind_some, s, Bool.not_true, cond_false, bne_self_eq_false, hF h (by omega), hM h (by omega), e1, g1, hE (m : Int) mv1 z1, hR (m : Int) mv2 z2, r1, r2, implFlat_eq, f, cond_true]
  · rw [show decide (((x.length : Nat) : Int) > 1048576) = true from decide_eq_true (by omega)]
    rfl

theorem same_FnRunEager (x : List Int) (w : ∀ n ∈ x, (Lit.int .u8 n).wf = true) (l : x.length ≤ maxLen) : laws_FnRunEager x = some true :=
  core_FnRunEager implEager_eq implEagerFor_eq implRun_eq implMoves_eq x w l

end Go.Rv
