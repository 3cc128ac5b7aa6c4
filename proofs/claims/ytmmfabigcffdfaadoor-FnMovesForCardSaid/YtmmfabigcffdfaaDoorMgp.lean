/-
  Plain mathematics: what the model's MovesFor says. Conditions: none.
-/
import Derived.Test.YtmmfabigcffdfaaDoorMgo
set_option linter.unusedVariables false
set_option linter.unusedSimpArgs false
namespace Go.Rv

theorem rule_three (H : List Int) (i : Nat) (st : List Nat) : ruleM H i st = 83 ∨ ruleM H i st = 76 ∨ ruleM H i st = 82 := by
  unfold ruleM
  split
  · split
    · exact .inr (.inl rfl)
    · split
      · exact .inr (.inr rfl)
      · exact .inl rfl
  · exact .inl rfl

theorem mvB_bytes {m : Nat} (h : m = 83 ∨ m = 76 ∨ m = 82) : bytesN (mvB m) = [m] ∧ (mvB m).size = 1 := by
  rcases h with rfl | rfl | rfl <;> exact ⟨rfl, rfl⟩

theorem moves_loop {H : List Int} (T : Tree H) (F : FlatP H) : ∀ (k : Nat) (c : Conf) (bs : ByteArray) (N : Nat), ORInv H c → 2 * c.1 + k = 2 * H.length + 1 + c.2.1.length → bs.size + k ≤ 100 → k < N →
    ∃ mv ms, nloop (fun (s : ByteArray × Int × (List Bool) × (List Int)) => ((spec_MovesFor_n4 H s.1 s.2.1 s.2.2.1 s.2.2.2).map (Sum.elim (fun (t : ByteArray × Int × (List Bool) × (List Int)) => Sum.inl (t.1, t.2.1, t.2.2.1, t.2.2.2)) (fun (t : ByteArray) => Sum.inr t)) : Option ((ByteArray × Int × (List Bool) × (List Int)) ⊕ (ByteArray)))) N (bs, (c.1 : Int), goneL H.length c.1 c.2.1, convS c.2.1) = some mv ∧
      goM H k c = some (ms, (H.length + 1, [top H], H)) ∧ bytesN mv = bytesN bs ++ ms
  | 0, c, bs, N, O, e, hb, hN => by
    obtain ⟨N, rfl⟩ : ∃ N', N = N' + 1 := ⟨N - 1, by omega⟩
    obtain ⟨ms, hms⟩ := rule_all T F 0 c O e
    have hms' := hms
    unfold goM at hms'
    injection hms' with hms'
    injection hms' with h1 h2
    subst h1 h2
    refine ⟨bs, [], ?_, hms, by simp⟩
    unfold nloop spec_MovesFor_n4 spec_MovesFor_n2
    simp only
    rw [decide_eq_false (show ¬ ((H.length + 1 : Nat) : Int) ≤ ((H.length : Nat) : Int) by omega), decide_eq_false (show ¬ (((convS [top H]).length : Nat) : Int) > 1 by rw [convS_length]; simp)]
    rfl
  | k + 1, c, bs, N, O, e, hb, hN => by
    obtain ⟨N, rfl⟩ : ∃ N', N = N' + 1 := ⟨N - 1, by omega⟩
    have nf : ¬ (c.1 = H.length + 1 ∧ c.2.1.length = 1) := by
      rintro ⟨a, b⟩
      omega
    obtain ⟨d, e1, O', e2⟩ := rule_step T F O nf
    obtain ⟨i, st, h⟩ := c
    have hi : i ≤ H.length + 1 := O.o.base.hi
    have ms1 := move_step T O bs (by omega) e1
    have three := mvB_bytes (rule_three H i st)
    have size : (bs ++ mvB (ruleM H i st)).size = bs.size + 1 := by
      have a := bytesN_length (bs ++ mvB (ruleM H i st))
      rw [bytesN_append, List.length_append, bytesN_length, bytesN_length, three.2] at a
      omega
    simp only at e e1 e2
    obtain ⟨mv, ms, l1, l2, l3⟩ := moves_loop T F k d (bs ++ mvB (ruleM H i st)) N O' (by omega) (by omega) (by omega)
    refine ⟨mv, ruleM H i st :: ms, ?_, ?_, ?_⟩
    · unfold nloop spec_MovesFor_n4
      have go : spec_MovesFor_n2 H bs (i : Int) (convS st) = some (Sum.inl ()) := by
        unfold spec_MovesFor_n2
        by_cases le : i ≤ H.length
        · rw [decide_eq_true (show (i : Int) ≤ ((H.length : Nat) : Int) by omega)]
          rfl
        · have ne : st ≠ [] := fun z => by
            have := O.o.base.ne z
            have hp := T.pos
            simp only at this
            omega
          have lp : 1 ≤ st.length := List.length_pos_iff.mpr ne
          have : ¬ st.length = 1 := fun z => nf ⟨by simp only; omega, z⟩
          rw [decide_eq_false (show ¬ (i : Int) ≤ ((H.length : Nat) : Int) by omega), decide_eq_true (show (((convS st).length : Nat) : Int) > 1 by rw [convS_length]; omega)]
          rfl
      simp only
      rw [go]
      simp only [Option.bind_some, Sum.elim_inl, ms1, Option.map_some]
      exact l1
    · unfold goM
      simp only
      rw [e1]
      simp only [Option.bind_some, l2, Option.map_some]
    · rw [l3, bytesN_append, three.1, List.append_assoc, List.singleton_append]

theorem gone_start (n : Nat) : goneL n 1 [] = List.replicate n false := by
  apply List.ext_getElem?
  intro k
  by_cases hk : k < n
  · rw [goneL_get hk]
    simp [List.getElem?_replicate, hk]
  · rw [List.getElem?_eq_none (by rw [goneL_length]; omega), List.getElem?_eq_none (by simp; omega)]

/-- The moves for a flat tree tell it, by the rule; there are none for others. -/
theorem specMoves_flat {H : List Int} (T : Tree H) (F : FlatP H) : ∃ mv ms, spec_MovesFor H = some (mv, true) ∧ goM H (2 * H.length - 1) (1, [], List.replicate H.length 0) = some (ms, (H.length + 1, [top H], H)) ∧ bytesN mv = ms := by
  have hp := T.pos
  have hle := T.le
  obtain ⟨mv, ms, h1, h2, h3⟩ := moves_loop T F (2 * H.length - 1) (1, [], List.replicate H.length 0) ByteArray.empty LL ⟨OInv.start H T, (RInv.start H.length).unread⟩
    (by simp only [List.length_nil]; omega) (by show 0 + (2 * H.length - 1) ≤ 100; omega) (by simp only [LL]; omega)
  refine ⟨mv, ms, ?_, h2, h3⟩
  have e : spec_MovesFor H = spec_MovesFor_n9 H := by unfold spec_MovesFor; rfl
  have f : flatI H = true := by unfold flatI; rw [(tree_iff H).mpr T, flatB_iff.mpr F]; rfl
  have hm : mk ((H.length : Nat) : Int) ((H.length : Nat) : Int) = some H.length := mk_nat (by omega)
  rw [e]
  unfold spec_MovesFor_n9 spec_MovesFor_n1
  rw [specFlat_eq H (by omega), f]
  simp only [Option.bind_some, Bool.not_true, cond_false, hm, Sum.elim_inl]
  unfold spec_MovesFor_n8 spec_MovesFor_n6 spec_MovesFor_n5 spec_MovesFor_n7
  have h1' := h1
  simp only [gone_start] at h1'
  rw [show ((1 : Nat) : Int) = 1 from rfl, show convS [] = ([] : List Int) from rfl] at h1'
  rw [h1']
  rfl

theorem specMoves_none {H : List Int} (hl : H.length ≤ 1048576) (f : flatI H = false) : spec_MovesFor H = some (ByteArray.empty, false) := by
  have e : spec_MovesFor H = spec_MovesFor_n9 H := by unfold spec_MovesFor; rfl
  rw [e]
  unfold spec_MovesFor_n9 spec_MovesFor_n1
  rw [specFlat_eq H hl, f]
  rfl

end Go.Rv
