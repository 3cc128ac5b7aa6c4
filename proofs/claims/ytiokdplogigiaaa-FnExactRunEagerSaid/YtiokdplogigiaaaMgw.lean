/-
  Plain mathematics: one move of the model's eager machine. Conditions: none.
-/
import Derived.Test.YtiokdplogigiaaaMgv
import Derived.Test.YtiokdplogigiaaaMgm
set_option linter.unusedVariables false
set_option linter.unusedSimpArgs false
namespace Go.Rv

/-- Heads as the eager machine has them: -1 for none. -/
def negH (h : List Int) : List Int := h.map fun x => if x = 0 then -1 else x
theorem negH_length (h : List Int) : (negH h).length = h.length := by simp [negH]
theorem negH_set (h : List Int) (k : Nat) {g : Nat} (g1 : 1 ≤ g) : (negH h).set k (g : Int) = negH (h.set k (g : Int)) := by
  unfold negH
  rw [List.map_set, if_neg (by omega)]
theorem negH_get {h : List Int} (p : ∀ x ∈ h, 0 ≤ x) {w : Nat} (w1 : 1 ≤ w) (w2 : w ≤ h.length) : (negH h)[w - 1]? = some (if hd h w = 0 then -1 else ((hd h w : Nat) : Int)) := by
  have lt : w - 1 < h.length := by omega
  have := p _ (List.getElem_mem lt)
  unfold negH hd
  rw [List.getElem?_map, List.getElem?_eq_getElem lt, List.getD_eq_getElem?_getD, List.getElem?_eq_getElem lt, Option.getD_some, Option.map_some]
  congr 1
  by_cases z : h[w - 1] = 0
  · rw [if_pos z, if_pos (by omega)]
  · rw [if_neg z, if_neg (by omega)]
    omega

theorem dec_short : ∀ {st : List Nat} {i : Nat}, st.Pairwise (· > ·) → (∀ s ∈ st, 1 ≤ s ∧ s < i) → 1 ≤ i → st.length < i
  | [], i, _, _, h => h
  | s :: rest, i, d, r, _ => by
    rw [List.pairwise_cons] at d
    have rs := r s (List.mem_cons_self ..)
    have := dec_short d.2 (fun x hx => ⟨(r x (List.mem_cons_of_mem _ hx)).1, d.1 x hx⟩) rs.1
    simp only [List.length_cons]
    omega

theorem e7_step {n i m : Nat} {st : List Nat} {h : List Int} (E : EInv n (i, st, h)) (n8 : n ≤ 8) : spec_l7Step (convS st) (i : Int) (m : Int) (negH h) =
    some (match stepE n m (i, st, h) with
      | some d => (convS d.2.1, (d.1 : Int), true, negH d.2.2)
      | none => (convS st, (i : Int), false, negH h)) := by
  have hl : h.length = n := E.len
  have hi : i ≤ n + 1 := E.hi
  have i1 : 1 ≤ i := E.i1
  have nm : ∀ x ∈ h, 0 ≤ x ∧ x ≤ (n : Int) := E.num
  have sh := dec_short E.dec E.rng E.i1
  have ls := convS_length st
  have lh := negH_length h
  simp only at sh
  unfold spec_l7Step spec_l7Step_n12 spec_l7Step_n1 spec_l7Step_n11 spec_l7Step_n9 spec_l7Step_n8 spec_l7Step_n2 spec_l7Step_n7 spec_l7Step_n6 spec_l7Step_n4 spec_l7Step_n5 spec_l7Step_n3 spec_l7Step_n10
  rw [wrap64 (x := (((convS st).length : Nat) : Int) - 1) (by omega) (by omega)]
  have w1 : IntKind.wrap .i64 ((i : Int) + 1) = (i : Int) + 1 := wrap64 (by omega) (by omega)
  by_cases m1 : m = 83
  · subst m1
    by_cases le : i ≤ n
    · have e : stepE n 83 (i, st, h) = some (i + 1, i :: st, h) := by simp [stepE, le]
      rw [e, show (((83 : Nat) : Int) == 83) = true from rfl, decide_eq_true (show (i : Int) ≤ (((negH h).length : Nat) : Int) by omega)]
      simp only [cond_true, Option.bind_some]
      rw [room_ok (by simp only [List.length_nil]; omega), room_ok (by simp only [List.nil_append, List.length_cons, List.length_nil]; omega), w1, convS_cons]
      rfl
    · have e : stepE n 83 (i, st, h) = none := by simp [stepE, le]
      rw [e, show (((83 : Nat) : Int) == 83) = true from rfl, decide_eq_false (show ¬ (i : Int) ≤ (((negH h).length : Nat) : Int) by omega)]
      rfl
  · rw [show ((m : Int) == 83) = false from beq_eq_false_iff_ne.2 (by omega)]
    match st, E, ls, sh with
    | [], E, ls, sh =>
      have e : stepE n m (i, [], h) = none := by simp [stepE, m1]
      rw [e]
      have lz : (((convS []).length : Nat) : Int) - 1 = -1 := rfl
      rw [lz]
      cases (m : Int) == 76 <;> cases (m : Int) == 82 <;> cases (m : Int) == 68 <;> cases decide ((i : Int) ≤ (((negH h).length : Nat) : Int)) <;> rfl
    | s :: rest, E, ls, sh =>
      have rs := E.rng s (List.mem_cons_self ..)
      simp only at rs
      have lr := convS_length rest
      have len : (convS (s :: rest)).length = rest.length + 1 := by rw [ls]; rfl
      have lt : (((convS (s :: rest)).length : Nat) : Int) - 1 = (rest.length : Int) := by omega
      have g1 : (convS (s :: rest))[rest.length]? = some (s : Int) := by rw [convS_cons, ← lr]; simp
      have x1 : idx (convS (s :: rest)) (rest.length : Int) = some (s : Int) := by
        unfold idx
        rw [if_pos (by omega), Int.toNat_natCast, g1]
      have i5 : inb ((s : Int) - 1) h.length = some (s - 1) := by
        unfold inb
        rw [if_pos (by omega), show ((s : Int) - 1).toNat = s - 1 by omega]
      have i3 : inc (rest.length : Int) (rest.length + 1) = some rest.length := by unfold inc; rw [if_pos (by omega)]; simp
      have t1 : ((convS (s :: rest)).take rest.length).drop 0 = convS rest := by rw [convS_cons, ← lr]; simp
      have w3 : IntKind.wrap .i64 ((s : Int) - 1) = (s : Int) - 1 := wrap64 (by omega) (by omega)
      have w4 : IntKind.wrap .i64 ((i : Int) - 1) = (i : Int) - 1 := wrap64 (by omega) (by omega)
      have ge : decide ((rest.length : Int) ≥ 0) = true := decide_eq_true (by omega)
      have gh := negH_get (fun x hx => (nm x hx).1) rs.1 (show s ≤ h.length by omega)
      simp only [List.length_cons] at sh
      rw [lt]
      by_cases m2 : m = 76
      · subst m2
        rw [show (((76 : Nat) : Int) == 76) = true from rfl, show (((76 : Nat) : Int) == 82) = false from rfl, show (((76 : Nat) : Int) == 68) = false from rfl]
        by_cases k : i ≤ n ∧ hd h s = 0
        · have e : stepE n 76 (i, s :: rest, h) = some (i, rest, h.set (s - 1) (i : Int)) := by simp [stepE, k.1, k.2]
          rw [e, decide_eq_true (show (i : Int) ≤ (((negH h).length : Nat) : Int) by omega)]
          simp only [cond_true, cond_false, ge, x1, Option.bind_some, w3, lh, i5, gh, k.2, if_true]
          rw [show decide ((-1 : Int) < 0) = true from rfl]
          simp only [cond_true, len, i3, Option.bind_some, t1]
          rw [room_ok (by simp only [List.length_nil]; omega), negH_set _ _ i1]
          rfl
        · have e : stepE n 76 (i, s :: rest, h) = none := by unfold stepE; rw [if_neg (by decide)]; simp only; rw [if_pos trivial, if_neg k]
          rw [e]
          by_cases le : i ≤ n
          · rw [decide_eq_true (show (i : Int) ≤ (((negH h).length : Nat) : Int) by omega)]
            have z : ¬ hd h s = 0 := fun z => k ⟨le, z⟩
            simp only [cond_true, cond_false, ge, x1, Option.bind_some, w3, lh, i5, gh]
            rw [if_neg z, decide_eq_false (show ¬ ((hd h s : Nat) : Int) < 0 by omega)]
            rfl
          · rw [decide_eq_false (show ¬ (i : Int) ≤ (((negH h).length : Nat) : Int) by omega)]
            rfl
      · rw [show ((m : Int) == 76) = false from beq_eq_false_iff_ne.2 (by omega)]
        by_cases m3 : m = 82
        · subst m3
          rw [show (((82 : Nat) : Int) == 82) = true from rfl, show (((82 : Nat) : Int) == 68) = false from rfl]
          by_cases k : i ≤ n
          · have e : stepE n 82 (i, s :: rest, h) = some (i + 1, i :: s :: rest, h.set (i - 1) (s : Int)) := by simp [stepE, k]
            have i6 : inb ((i : Int) - 1) h.length = some (i - 1) := by
              unfold inb
              rw [if_pos (by omega), show ((i : Int) - 1).toNat = i - 1 by omega]
            rw [e, decide_eq_true (show (i : Int) ≤ (((negH h).length : Nat) : Int) by omega)]
            simp only [cond_true, cond_false, ge, x1, Option.bind_some, w4, lh, i6, len]
            rw [room_ok (by simp only [List.length_nil]; omega), room_ok (by simp only [List.nil_append, List.length_cons, List.length_nil]; omega), negH_set _ _ rs.1, w1, convS_cons i]
            rfl
          · have e : stepE n 82 (i, s :: rest, h) = none := by simp [stepE, k]
            rw [e, decide_eq_false (show ¬ (i : Int) ≤ (((negH h).length : Nat) : Int) by omega)]
            rfl
        · rw [show ((m : Int) == 82) = false from beq_eq_false_iff_ne.2 (by omega)]
          by_cases m4 : m = 68
          · subst m4
            rw [show (((68 : Nat) : Int) == 68) = true from rfl]
            by_cases k : hd h s = 0
            · have e : stepE n 68 (i, s :: rest, h) = none := by simp [stepE, k]
              rw [e]
              simp only [cond_true, cond_false, ge, x1, Option.bind_some, w3, lh, i5, gh, k, if_true]
              rfl
            · have e : stepE n 68 (i, s :: rest, h) = some (i, rest, h) := by simp [stepE, k]
              rw [e]
              simp only [cond_true, cond_false, ge, x1, Option.bind_some, w3, lh, i5, gh]
              rw [if_neg k, decide_eq_true (show ((hd h s : Nat) : Int) > 0 by omega)]
              simp only [cond_true, len, i3, Option.bind_some, t1]
              rw [room_ok (by simp only [List.length_nil]; omega)]
              rfl
          · rw [show ((m : Int) == 68) = false from beq_eq_false_iff_ne.2 (by omega)]
            have e : stepE n m (i, s :: rest, h) = none := by simp [stepE, m1, m2, m3, m4]
            rw [e]
            rfl

end Go.Rv
