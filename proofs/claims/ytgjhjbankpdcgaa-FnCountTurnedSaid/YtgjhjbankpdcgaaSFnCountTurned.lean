/-
  The law FnCountTurned, in plain words: it is true of every argument. Conditions: none.
-/
import Derived.Test.YtgjhjbankpdcgaaHFnCountTurned
set_option linter.unusedVariables false
set_option linter.unusedSimpArgs false
namespace Go.Rv

theorem quo_half {n : Nat} : quo .i64 ((n : Nat) : Int) 2 = some (IntKind.wrap .i64 ((n / 2 : Nat) : Int)) := by
  unfold quo
  rw [if_neg (by omega)]
  congr 2

theorem back_loop (o : List Int) (hl : o.length ≤ 100) : laws_FnCountTurned_n6 o = some o.reverse := by
  unfold laws_FnCountTurned_n6 laws_FnCountTurned_n2 laws_FnCountTurned_n5 laws_FnCountTurned_n4
  have q := nloop_to (body := fun (s : Int × (List Int)) => ((laws_FnCountTurned_n3 s.1 o s.2).map (Sum.elim (fun (t : Int × (List Int)) => Sum.inl (t.1, t.2)) (fun (t : (List Int)) => Sum.inr t)) : Option ((Int × (List Int)) ⊕ (((List Int))))))
    (fun k => ((o.length : Int) - 1 - (k : Int), o.reverse.take k)) o.length o.reverse
    (by
      intro k hk
      have i1 : inb ((o.length : Int) - 1 - (k : Int)) o.length = some (o.length - 1 - k) := by
        unfold inb
        rw [if_pos (by omega), show ((o.length : Int) - 1 - (k : Int)).toNat = o.length - 1 - k by omega]
      have g : o[o.length - 1 - k]? = some (o.reverse[k]'(by simp; omega)) := by
        rw [List.getElem?_eq_getElem (by omega), List.getElem_reverse]
      simp only [laws_FnCountTurned_n3]
      rw [decide_eq_true (show (o.length : Int) - 1 - (k : Int) ≥ 0 by omega), i1, wrap64 (by omega) (by omega)]
      simp only [cond_true, Option.bind_some, g]
      rw [room8 (by simp; omega), List.take_succ_eq_append_getElem (by simp; omega)]
      simp only [Option.bind_some, Option.map_some, Sum.elim_inl]
      rw [show (o.length : Int) - 1 - (k : Int) - 1 = (o.length : Int) - 1 - ((k + 1 : Nat) : Int) by omega])
    (by
      simp only [laws_FnCountTurned_n3]
      rw [decide_eq_false (show ¬ (o.length : Int) - 1 - (o.length : Int) ≥ 0 by omega), List.take_of_length_le (by simp)]
      rfl) LL (by simp only [LL]; omega)
  rw [wrap64 (by omega) (by omega)]
  simp only [Option.bind_some]
  have q' := q
  rw [List.take_zero, show (o.length : Int) - 1 - ((0 : Nat) : Int) = (o.length : Int) - 1 by omega] at q'
  rw [q']
  rfl

theorem core_FnCountTurned (hT : ∀ o, o.length ≤ 1048576 → impl_CountTurned o = some (turnI o)) (x : List Int) (w : ∀ n ∈ x, (Lit.int .u8 n).wf = true) (l : x.length ≤ maxLen) : laws_FnCountTurned x = some true := by
  unfold laws_FnCountTurned laws_FnCountTurned_n9 laws_FnCountTurned_n1
  by_cases hx : x.length ≤ 1048576
  · rw [show decide (((x.length : Nat) : Int) > 1048576) = false from decide_eq_false (by omega)]
    obtain ⟨o, hd', o1, o8⟩ := drawn_turned x w l
    simp only [hd', cond_false, Option.bind_some, hT o (by omega), specTurned_eq o (by omega), bne_self_eq_false, alive_eq]
    cases t : orderB o o.length with
    | false =>
      have : turnI o = -1 := by unfold turnI; rw [t]; rfl
      rw [this]
      rfl
    | true =>
      have e : turnI o = (turnN o : Int) := by unfold turnI; rw [t]; rfl
      have hP := ((orderB_iff o _).mp t).2.2.2
      have nd := ((orderP_iff o _).mp hP).2
      have tr : orderB o.reverse o.reverse.length = true := by rw [List.length_reverse, orderB_reverse]; exact t
      have e2 : turnI o.reverse = (turnN o.reverse : Int) := by unfold turnI; rw [tr]; rfl
      have sum := turn_reverse nd
      have le : o.length * (o.length - 1) ≤ 56 := Nat.mul_le_mul o8 (show o.length - 1 ≤ 7 by omega)
      have half : o.length * (o.length - 1) / 2 ≤ 28 := by omega
      have z1 : IntKind.wrap .i64 ((((o.length : Nat) : Int)) * (IntKind.wrap .i64 ((((o.length : Nat) : Int)) - 1))) = ((o.length * (o.length - 1) : Nat) : Int) := by
        rw [wrap64 (x := ((o.length : Nat) : Int) - 1) (by omega) (by omega), show ((o.length : Nat) : Int) - 1 = ((o.length - 1 : Nat) : Int) by omega, ← Int.natCast_mul, wrap64 (by omega) (by omega)]
      rw [e, decide_eq_false (show ¬ (turnN o : Int) < 0 by omega)]
      simp only [cond_false, Option.bind_some, Sum.elim_inl]
      unfold laws_FnCountTurned_n8
      rw [back_loop o (by omega)]
      simp only [Option.bind_some]
      unfold laws_FnCountTurned_n7
      rw [hT _ (by rw [List.length_reverse]; omega), e2, z1, quo_half, ascend_eq o (by omega)]
      simp only [Option.bind_some, alive_eq]
      rw [wrap64 (x := (turnN o : Int) + (turnN o.reverse : Int)) (by omega) (by omega), wrap64 (by omega) (by omega), show (((turnN o : Int) + (turnN o.reverse : Int)) == ((o.length * (o.length - 1) / 2 : Nat) : Int)) = true from beq_iff_eq.mpr (by omega)]
      simp only [cond_true, Option.bind_some]
      have za : ((turnN o : Int) == 0) = ascB o := by
        rw [Bool.eq_iff_iff, beq_iff_eq, ascB_iff, ← order_zero hP]
        omega
      rw [za, beq_self_eq_true]
      rfl
  · rw [show decide (((x.length : Nat) : Int) > 1048576) = true from decide_eq_true (by omega)]
    rfl

theorem same_FnCountTurned (x : List Int) (w : ∀ n ∈ x, (Lit.int .u8 n).wf = true) (l : x.length ≤ maxLen) : laws_FnCountTurned x = some true :=
  core_FnCountTurned (fun o _ => implTurned_eq o) x w l

end Go.Rv
