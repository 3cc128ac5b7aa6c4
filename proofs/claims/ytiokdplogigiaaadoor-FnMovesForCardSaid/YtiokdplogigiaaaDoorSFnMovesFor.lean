/-
  The law FnMovesFor, in plain words: it is true of every argument. Conditions: none.
-/
import Derived.Test.YtiokdplogigiaaaDoorHFnMovesFor
set_option linter.unusedVariables false
set_option linter.unusedSimpArgs false
namespace Go.Rv

theorem seqs_self (a : ByteArray) : seqs a a = true := by unfold seqs; exact beq_self_eq_true _

theorem count_take {l : List Nat} {x k : Nat} (hk : k < l.length) : (l.take (k + 1)).count x = (l.take k).count x + (if l[k] = x then 1 else 0) := by
  rw [List.take_succ_eq_append_getElem hk, List.count_append, List.count_singleton]
  by_cases e : l[k] = x <;> simp [e]

theorem moves_counts {mv : ByteArray} (hs : mv.size ≤ 1000) : laws_FnMovesFor_n6 mv = some (((bytesN mv).count 83 : Int), ((bytesN mv).count 76 : Int)) := by
  unfold laws_FnMovesFor_n6 laws_FnMovesFor_n2 laws_FnMovesFor_n5 laws_FnMovesFor_n4
  have bl := bytesN_length mv
  have q := nloop_to (body := fun (s : Int × Int × Int) => ((laws_FnMovesFor_n3 mv s.1 s.2.1 s.2.2).map (Sum.elim (fun (t : Int × Int × Int) => Sum.inl (t.1, t.2.1, t.2.2)) (fun (t : Int × Int) => Sum.inr t)) : Option ((Int × Int × Int) ⊕ ((Int × Int)))))
    (fun k => ((((bytesN mv).take k).count 83 : Int), (((bytesN mv).take k).count 76 : Int), (k : Int))) mv.size (((bytesN mv).count 83 : Int), ((bytesN mv).count 76 : Int))
    (by
      intro k hk
      have hk' : k < (bytesN mv).length := by omega
      have c1 := List.count_le_length (a := 83) (l := (bytesN mv).take k)
      have c2 := List.count_le_length (a := 76) (l := (bytesN mv).take k)
      rw [List.length_take] at c1 c2
      simp only [laws_FnMovesFor_n3]
      rw [decide_eq_true (show (k : Int) < ((mv.size : Nat) : Int) by omega), bidx_ok hk, count_take hk', count_take hk']
      simp only [cond_true, Option.bind_some]
      rw [wrap64 (x := (((bytesN mv).take k).count 83 : Int) + 1) (by omega) (by omega), wrap64 (x := (((bytesN mv).take k).count 76 : Int) + 1) (by omega) (by omega), wrap64 (x := (k : Int) + 1) (by omega) (by omega)]
      by_cases a : (bytesN mv)[k] = 83
      · rw [a]
        rfl
      · rw [show (((((bytesN mv)[k] : Nat)) : Int) == 83) = false from beq_eq_false_iff_ne.2 (by omega), if_neg a]
        by_cases b : (bytesN mv)[k] = 76
        · rw [b]
          rfl
        · rw [show (((((bytesN mv)[k] : Nat)) : Int) == 76) = false from beq_eq_false_iff_ne.2 (by omega), if_neg b]
          rfl)
    (by
      simp only [laws_FnMovesFor_n3]
      rw [decide_eq_false (show ¬ ((mv.size : Nat) : Int) < ((mv.size : Nat) : Int) by omega), List.take_of_length_le (by omega)]
      rfl) LL (by simp only [LL]; omega)
  simp only [Option.bind_some]
  have q' := q
  simp only [List.take_zero, List.count_nil] at q'
  rw [show ((0 : Nat) : Int) = 0 from rfl] at q'
  rw [q']
  rfl

theorem left_counts {h : List Int} (T : Tree h) : laws_FnMovesFor_n12 h = some (leftN h h.length : Int) := by
  unfold laws_FnMovesFor_n12 laws_FnMovesFor_n8 laws_FnMovesFor_n11 laws_FnMovesFor_n10
  have hle := T.le
  have q := nloop_to (body := fun (s : Int × Int) => ((laws_FnMovesFor_n9 s.1 s.2 h).map (Sum.elim (fun (t : Int × Int) => Sum.inl (t.1, t.2)) (fun (t : Int) => Sum.inr t)) : Option ((Int × Int) ⊕ (Int))))
    (fun k => ((leftN h k : Int), (k : Int))) h.length (leftN h h.length : Int)
    (by
      intro k hk
      have g := T.get (w := k + 1) (by omega) (by omega)
      rw [show k + 1 - 1 = k by omega] at g
      have c : leftN h (k + 1) = leftN h k + (if k + 1 < hd h (k + 1) then 1 else 0) := by
        unfold leftN
        rw [List.range_succ, List.countP_append]
        by_cases e : k + 1 < hd h (k + 1) <;> simp [e]
      have cl : leftN h k ≤ k := by
        unfold leftN
        have := List.countP_le_length (p := fun k => decide (k + 1 < hd h (k + 1))) (l := List.range k)
        rwa [List.length_range] at this
      simp only [laws_FnMovesFor_n9]
      rw [decide_eq_true (show (k : Int) < ((h.length : Nat) : Int) by omega), inb_nat hk]
      simp only [cond_true, Option.bind_some, g]
      rw [wrap64 (x := (k : Int) + 1) (by omega) (by omega), wrap64 (x := (leftN h k : Int) + 1) (by omega) (by omega), c]
      by_cases e : k + 1 < hd h (k + 1)
      · rw [decide_eq_true (by omega), if_pos e]
        rfl
      · rw [decide_eq_false (by omega), if_neg e]
        rfl)
    (by
      simp only [laws_FnMovesFor_n9]
      rw [decide_eq_false (show ¬ ((h.length : Nat) : Int) < ((h.length : Nat) : Int) by omega)]
      rfl) LL (by simp only [LL]; omega)
  simp only [Option.bind_some]
  have q' := q
  rw [show leftN h 0 = 0 from rfl, show ((0 : Nat) : Int) = 0 from rfl] at q'
  rw [q']
  rfl

theorem core_FnMovesFor (hR : ∀ x mv, mv.size ≤ 1099511627776 → impl_RunStack x mv = some (runI x mv)) (hM : ∀ h, h.length ≤ 1048576 → impl_MovesFor h = spec_MovesFor h)
    (x : List Int) (w : ∀ n ∈ x, (Lit.int .u8 n).wf = true) (l : x.length ≤ maxLen) : laws_FnMovesFor x = some true := by
  unfold laws_FnMovesFor laws_FnMovesFor_n17 laws_FnMovesFor_n1
  by_cases hx : x.length ≤ 1048576
  · rw [show decide (((x.length : Nat) : Int) > 1048576) = false from decide_eq_false (by omega)]
    obtain ⟨h, h8, hdr⟩ := drawn_flat x w l 9 (by omega)
    have hd' : spec_DrawMovesFor x = some h := by unfold spec_DrawMovesFor spec_DrawMovesFor_n1; exact hdr
    simp only [hd', cond_false, Option.bind_some, hM h (by omega), implFlat_eq, alive_eq]
    cases f : flatI h with
    | false =>
      rw [specMoves_none (by omega) f]
      simp only [Option.bind_some, seqs_self]
      rfl
    | true =>
      have TF : Tree h ∧ FlatP h := by
        unfold flatI at f
        rw [Bool.and_eq_true, tree_iff, flatB_iff] at f
        exact f
      obtain ⟨T, F⟩ := TF
      obtain ⟨mv, ms, g1, g2, g3⟩ := specMoves_flat T F
      have hp := T.pos
      have rr := runI_rule T g2 g3
      have gr := go_run g2
      have sz : mv.size + 1 = 2 * h.length := by
        rw [← bytesN_length, g3]
        omega
      have ct := rule_count gr.1
      rw [← g3] at ct
      have s : (h == h) = true := beq_self_eq_true h
      have z : IntKind.wrap .i64 (IntKind.wrap .i64 (2 * ((h.length : Nat) : Int)) - 1) = 2 * ((h.length : Nat) : Int) - 1 := by rw [wrap64 (x := 2 * ((h.length : Nat) : Int)) (by omega) (by omega), wrap64 (by omega) (by omega)]
      simp only [g1, Option.bind_some, seqs_self, Bool.not_true, cond_false, bne_self_eq_false, Sum.elim_inl]
      unfold laws_FnMovesFor_n16
      rw [moves_counts (by omega)]
      simp only [Option.bind_some]
      unfold laws_FnMovesFor_n15 laws_FnMovesFor_n7 laws_FnMovesFor_n14
      simp only [Option.bind_some, left_counts T]
      unfold laws_FnMovesFor_n13
      rw [hR _ mv (by omega), rr]
      simp only [Option.bind_some, cond_true, sameInts_eq h h (by omega), s, ct.1, ct.2, beq_self_eq_true, z]
      rw [show (((mv.size : Nat) : Int) == 2 * ((h.length : Nat) : Int) - 1) = true from beq_iff_eq.mpr (by omega)]
  · rw [show decide (((x.length : Nat) : Int) > 1048576) = true from decide_eq_true (by omega)]
    rfl

theorem same_FnMovesFor (x : List Int) (w : ∀ n ∈ x, (Lit.int .u8 n).wf = true) (l : x.length ≤ maxLen) : laws_FnMovesFor x = some true :=
  core_FnMovesFor implRun_eq implMoves_eq x w l

end Go.Rv
