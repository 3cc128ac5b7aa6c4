/-
  The law FnEagerFor, in plain words: it is true of every argument. Conditions: none.
-/
import Derived.Test.YtiokdplogigiaaaDoorHFnEagerFor
set_option linter.unusedVariables false
set_option linter.unusedSimpArgs false
namespace Go.Rv

theorem seqs_selfE (a : ByteArray) : seqs a a = true := by unfold seqs; exact beq_self_eq_true _

theorem arcs_take {l : List Nat} {k : Nat} (hk : k < l.length) : arcsE (l.take (k + 1)) = arcsE (l.take k) + (if l[k] = 76 ∨ l[k] = 82 then 1 else 0) := by
  unfold arcsE
  rw [List.take_succ_eq_append_getElem hk, List.countP_append]
  by_cases a : l[k] = 76 <;> by_cases b : l[k] = 82 <;> simp [a, b]

theorem puts_take {l : List Nat} {k : Nat} (hk : k < l.length) : putsE (l.take (k + 1)) = putsE (l.take k) + (if l[k] = 83 ∨ l[k] = 82 then 1 else 0) := by
  unfold putsE
  rw [List.take_succ_eq_append_getElem hk, List.countP_append]
  by_cases a : l[k] = 83 <;> by_cases b : l[k] = 82 <;> simp [a, b]

theorem eager_counts {mv : ByteArray} (hs : mv.size ≤ 1000) : laws_FnEagerFor_n6 mv = some ((arcsE (bytesN mv) : Int), (putsE (bytesN mv) : Int)) := by
  unfold laws_FnEagerFor_n6 laws_FnEagerFor_n2 laws_FnEagerFor_n5 laws_FnEagerFor_n4
  have bl := bytesN_length mv
  have q := nloop_to (body := fun (s : Int × Int × Int) => ((laws_FnEagerFor_n3 mv s.1 s.2.1 s.2.2).map (Sum.elim (fun (t : Int × Int × Int) => Sum.inl (t.1, t.2.1, t.2.2)) (fun (t : Int × Int) => Sum.inr t)) : Option ((Int × Int × Int) ⊕ ((Int × Int)))))
    (fun k => ((arcsE ((bytesN mv).take k) : Int), (putsE ((bytesN mv).take k) : Int), (k : Int))) mv.size ((arcsE (bytesN mv) : Int), (putsE (bytesN mv) : Int))
    (by
      intro k hk
      have hk' : k < (bytesN mv).length := by omega
      have c1 : arcsE ((bytesN mv).take k) ≤ k := Nat.le_trans List.countP_le_length (by simp; omega)
      have c2 : putsE ((bytesN mv).take k) ≤ k := Nat.le_trans List.countP_le_length (by simp; omega)
      simp only [laws_FnEagerFor_n3]
      rw [decide_eq_true (show (k : Int) < ((mv.size : Nat) : Int) by omega), bidx_ok hk, arcs_take hk', puts_take hk']
      simp only [cond_true, Option.bind_some]
      rw [wrap64 (x := (arcsE ((bytesN mv).take k) : Int) + 1) (by omega) (by omega), wrap64 (x := (putsE ((bytesN mv).take k) : Int) + 1) (by omega) (by omega), wrap64 (x := (k : Int) + 1) (by omega) (by omega)]
      have ne (c : Nat) (h : ¬ (bytesN mv)[k] = c) : (((((bytesN mv)[k] : Nat)) : Int) == (c : Int)) = false := beq_eq_false_iff_ne.2 (by omega)
      by_cases a : (bytesN mv)[k] = 76
      · rw [a]
        rfl
      · by_cases b : (bytesN mv)[k] = 82
        · rw [b]
          rfl
        · by_cases c : (bytesN mv)[k] = 83
          · rw [c]
            rfl
          · rw [show (((((bytesN mv)[k] : Nat)) : Int) == 76) = false from ne 76 a, show (((((bytesN mv)[k] : Nat)) : Int) == 82) = false from ne 82 b, show (((((bytesN mv)[k] : Nat)) : Int) == 83) = false from ne 83 c, if_neg (fun z => z.elim a b), if_neg (fun z => z.elim c b)]
            rfl)
    (by
      simp only [laws_FnEagerFor_n3]
      rw [decide_eq_false (show ¬ ((mv.size : Nat) : Int) < ((mv.size : Nat) : Int) by omega), List.take_of_length_le (by omega)]
      rfl) LL (by simp only [LL]; omega)
  simp only [Option.bind_some]
  have q' := q
  rw [List.take_zero, show ((arcsE [] : Nat) : Int) = 0 from rfl, show ((putsE [] : Nat) : Int) = 0 from rfl, show ((0 : Nat) : Int) = 0 from rfl] at q'
  rw [q']
  rfl

theorem core_FnEagerFor (hE : ∀ x mv, mv.size ≤ 1099511627776 → impl_RunEager x mv = some (eagI x mv)) (hF : ∀ h, h.length ≤ 1048576 → impl_EagerFor h = spec_EagerFor h)
    (x : List Int) (w : ∀ n ∈ x, (Lit.int .u8 n).wf = true) (l : x.length ≤ maxLen) : laws_FnEagerFor x = some true := by
  unfold laws_FnEagerFor laws_FnEagerFor_n9 laws_FnEagerFor_n1
  by_cases hx : x.length ≤ 1048576
  · rw [show decide (((x.length : Nat) : Int) > 1048576) = false from decide_eq_false (by omega)]
    obtain ⟨h, h8, hdr⟩ := drawn_flat x w l 9 (by omega)
    have hd' : spec_DrawEagerFor x = some h := by unfold spec_DrawEagerFor spec_DrawEagerFor_n1; exact hdr
    simp only [hd', cond_false, Option.bind_some, hF h (by omega), implFlat_eq, alive_eq]
    cases f : flatI h with
    | false =>
      rw [specEagerFor_none (by omega) f]
      simp only [Option.bind_some, seqs_selfE]
      rfl
    | true =>
      have TF : Tree h ∧ FlatP h := by
        unfold flatI at f
        rw [Bool.and_eq_true, tree_iff, flatB_iff] at f
        exact f
      obtain ⟨T, F⟩ := TF
      obtain ⟨mv, ms, st, g1, g2, g3⟩ := specEagerFor_flat T F
      have hp := T.pos
      have rr := eagI_rule T g2 g3
      have few := goE_few T g2
      rw [← g3] at few
      have sz := bytesN_length mv
      have s : (h == h) = true := beq_self_eq_true h
      have z1 : IntKind.wrap .i64 (((h.length : Nat) : Int) - 1) = ((h.length - 1 : Nat) : Int) := by rw [wrap64 (by omega) (by omega)]; omega
      have z : IntKind.wrap .i64 (IntKind.wrap .i64 (2 * ((h.length : Nat) : Int)) - 1) = 2 * ((h.length : Nat) : Int) - 1 := by rw [wrap64 (x := 2 * ((h.length : Nat) : Int)) (by omega) (by omega), wrap64 (by omega) (by omega)]
      simp only [g1, Option.bind_some, seqs_selfE, Bool.not_true, cond_false, bne_self_eq_false, Sum.elim_inl]
      unfold laws_FnEagerFor_n8
      rw [eager_counts (by omega)]
      simp only [Option.bind_some]
      unfold laws_FnEagerFor_n7
      rw [hE _ mv (by omega), rr]
      simp only [Option.bind_some, cond_true, sameInts_eq h h (by omega), s, few.2.1, few.2.2, beq_self_eq_true, z, z1]
      rw [decide_eq_true (by omega)]
  · rw [show decide (((x.length : Nat) : Int) > 1048576) = true from decide_eq_true (by omega)]
    rfl

theorem same_FnEagerFor (x : List Int) (w : ∀ n ∈ x, (Lit.int .u8 n).wf = true) (l : x.length ≤ maxLen) : laws_FnEagerFor x = some true :=
  core_FnEagerFor implEager_eq implEagerFor_eq x w l

end Go.Rv
