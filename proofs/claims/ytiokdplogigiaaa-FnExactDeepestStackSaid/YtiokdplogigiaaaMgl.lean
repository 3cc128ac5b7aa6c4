/-
  Plain mathematics: the model's machine with a stack is the machine. Conditions: none.
-/
import Derived.Test.YtiokdplogigiaaaMgk
import Derived.Test.YtiokdplogigiaaaMm
set_option linter.unusedVariables false
set_option linter.unusedSimpArgs false
namespace Go.Rv

/-- A stack as the model has it: from its lowest word. -/
def convS (st : List Nat) : List Int := (st.map fun (x : Nat) => (x : Int)).reverse
theorem convS_length (st : List Nat) : (convS st).length = st.length := by simp [convS]
theorem convS_cons (s : Nat) (st : List Nat) : convS (s :: st) = convS st ++ [(s : Int)] := by simp [convS]

theorem room_ok {n : Nat} (h : n ≤ 1099511627776) : room n = some () := by unfold room; rw [if_pos h]

theorem l6_step {n i k : Nat} {mv : ByteArray} {st : List Nat} {h : List Int} {m : Nat} (hm : bidx mv (k : Int) = some (m : Int)) (R : RInv n (i, st, h)) (n8 : n ≤ 8) :
    spec_l6Run_n10 (n : Int) mv (i : Int) (k : Int) h (convS st) = some (match stepM n m (i, st, h) with
      | some d => Sum.inl ((d.1 : Int), d.2.2, convS d.2.1)
      | none => Sum.inr (false, ([] : List Int))) := by
  have M := R.base
  have hl : h.length = n := M.len
  have hi : i ≤ n + 1 := M.hi
  obtain ⟨c, ρ, ec, _⟩ := M.rank
  simp only at ec
  have ls := convS_length st
  unfold spec_l6Run_n10 spec_l6Run_n9 spec_l6Run_n4 spec_l6Run_n8 spec_l6Run_n7 spec_l6Run_n5 spec_l6Run_n6
  simp only [hm, Option.bind_some]
  rw [wrap64 (x := (((convS st).length : Nat) : Int) - 1) (by omega) (by omega)]
  by_cases m1 : m = 83
  · subst m1
    by_cases le : i ≤ n
    · have e : stepM n 83 (i, st, h) = some (i + 1, i :: st, h) := by simp [stepM, le]
      rw [e, show (((83 : Nat) : Int) == 83) = true from rfl, decide_eq_true (show (i : Int) ≤ (n : Int) by omega)]
      simp only [cond_true, Option.bind_some]
      rw [room_ok (by simp only [List.length_cons, List.length_nil]; omega), wrap64 (by omega) (by omega), convS_cons]
      rfl
    · have e : stepM n 83 (i, st, h) = none := by simp [stepM, le]
      rw [e, show (((83 : Nat) : Int) == 83) = true from rfl, decide_eq_false (show ¬ (i : Int) ≤ (n : Int) by omega)]
      rfl
  · rw [show ((m : Int) == 83) = false from beq_eq_false_iff_ne.2 (by omega)]
    simp only [cond_false, Option.bind_some]
    match st, R, M, ls, ec with
    | [], R, M, ls, ec =>
      have e : stepM n m (i, [], h) = none := by simp [stepM, m1]
      rw [e]
      cases (m : Int) == 76 <;> cases (m : Int) == 82 <;> rfl
    | [s], R, M, ls, ec =>
      have e : stepM n m (i, [s], h) = none := by simp [stepM, m1]
      rw [e]
      cases (m : Int) == 76 <;> cases (m : Int) == 82 <;> rfl
    | s :: t :: rest, R, M, ls, ec =>
      have rs := M.rng s (List.mem_cons_self ..)
      have rt := M.rng t (List.mem_cons_of_mem _ (List.mem_cons_self ..))
      simp only at rs rt
      have lr := convS_length rest
      have ec2 : convS (s :: t :: rest) = convS rest ++ [(t : Int), (s : Int)] := by rw [convS_cons, convS_cons]; simp
      have len : (convS (s :: t :: rest)).length = rest.length + 2 := by rw [ls]; rfl
      have g1 : (convS (s :: t :: rest))[rest.length]? = some (t : Int) := by rw [ec2, ← lr]; simp
      have g2 : (convS (s :: t :: rest))[rest.length + 1]? = some (s : Int) := by rw [ec2, ← lr]; simp
      have lrest : rest.length ≤ 20 := by simp only [List.length_cons] at ec; omega
      have i1 : inb (rest.length : Int) (rest.length + 2) = some rest.length := by unfold inb; rw [if_pos (by omega)]; simp
      have i2 : inb ((rest.length : Int) + 1) (rest.length + 2) = some (rest.length + 1) := by
        unfold inb
        rw [if_pos (by omega), show ((rest.length : Int) + 1).toNat = rest.length + 1 by omega]
      have i3 : inc (rest.length : Int) (rest.length + 2) = some rest.length := by unfold inc; rw [if_pos (by omega)]; simp
      have i4 : inc ((rest.length : Int) + 1) (rest.length + 2) = some (rest.length + 1) := by
        unfold inc
        rw [if_pos (by omega), show ((rest.length : Int) + 1).toNat = rest.length + 1 by omega]
      have i5 : inb ((t : Int) - 1) h.length = some (t - 1) := by
        unfold inb
        rw [if_pos (by omega), show ((t : Int) - 1).toNat = t - 1 by omega]
      have i6 : inb ((s : Int) - 1) h.length = some (s - 1) := by
        unfold inb
        rw [if_pos (by omega), show ((s : Int) - 1).toNat = s - 1 by omega]
      have t1 : ((convS (s :: t :: rest)).drop 0).take (rest.length - 0) = convS rest := by rw [ec2, ← lr]; simp
      have t2 : ((convS (s :: t :: rest)).drop 0).take (rest.length + 1 - 0) = convS (t :: rest) := by
        rw [ec2, convS_cons, ← lr, List.drop_zero, Nat.sub_zero, List.take_length_add_append]
        rfl
      have w1 : ((rest.length + 2 : Nat) : Int) - 1 = (rest.length : Int) + 1 := by omega
      have w2 : IntKind.wrap .i64 ((rest.length : Int) + 1 - 1) = (rest.length : Int) := by rw [wrap64 (by omega) (by omega)]; omega
      have w3 : IntKind.wrap .i64 ((t : Int) - 1) = (t : Int) - 1 := wrap64 (by omega) (by omega)
      have w4 : IntKind.wrap .i64 ((s : Int) - 1) = (s : Int) - 1 := wrap64 (by omega) (by omega)
      have ge : decide ((rest.length : Int) + 1 ≥ 1) = true := decide_eq_true (by omega)
      by_cases m2 : m = 76
      · subst m2
        have e : stepM n 76 (i, s :: t :: rest, h) = some (i, s :: rest, h.set (t - 1) (s : Int)) := by simp [stepM]
        rw [e, show (((76 : Nat) : Int) == 76) = true from rfl]
        simp only [cond_true, len, w1, ge, w2, i1, i2, Option.bind_some, g1, g2, w3, i5, i3, t1]
        rw [room_ok (by omega), room_ok (by simp only [List.length_cons, List.length_nil]; omega), convS_cons]
        rfl
      · rw [show ((m : Int) == 76) = false from beq_eq_false_iff_ne.2 (by omega)]
        by_cases m3 : m = 82
        · subst m3
          have e : stepM n 82 (i, s :: t :: rest, h) = some (i, t :: rest, h.set (s - 1) (t : Int)) := by simp [stepM]
          rw [e, show (((82 : Nat) : Int) == 82) = true from rfl]
          simp only [cond_true, cond_false, len, w1, ge, w2, i1, i2, Option.bind_some, g1, g2, w4, i6, i4, t2]
          rw [room_ok (by simp only [convS_length, List.length_cons, List.length_nil]; omega)]
          rfl
        · rw [show ((m : Int) == 82) = false from beq_eq_false_iff_ne.2 (by omega)]
          have e : stepM n m (i, s :: t :: rest, h) = none := by simp [stepM, m1, m2, m3]
          rw [e]
          rfl

end Go.Rv
