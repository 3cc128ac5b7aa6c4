/-
  The law FnScoreOf, in plain words: it is true of every argument. Conditions: what the program's ScoreOf, BestScore and BestFlat say.
-/
import Derived.Test.YteefjoepogdgpaaDoorHFnScoreOf
set_option linter.unusedVariables false
set_option linter.unusedSimpArgs false
namespace Go.Rv

theorem drawn_scoreOf (x : List Int) (w : ∀ n ∈ x, (Lit.int .u8 n).wf = true) (l : x.length ≤ maxLen) : ∃ S h, spec_DrawScoreOf x = some (S, h) ∧ SmS S ∧ h.length ≤ 8 := by
  obtain ⟨b, hb, hB⟩ := open_ok x w l
  obtain ⟨S, q, hS, sm, q0, q1⟩ := drawn_scores hB 12 (by omega)
  have s5 := sm.1
  have im : imax ((S.length : Nat) : Int) 1 = ((max S.length 1 : Nat) : Int) := by
    unfold imax
    split <;> omega
  obtain ⟨many, hm, m1, m5⟩ : ∃ m : Nat, max S.length 1 = m ∧ 1 ≤ m ∧ m ≤ 5 := ⟨_, rfl, by omega, by omega⟩
  rw [hm] at im
  obtain ⟨q2, o, ho, r0, r1, ol, ob⟩ := order_ok hB many (by omega) (p := q) (by omega) (by omega)
  have e : spec_DrawScoreOf x = spec_DrawScoreOf_n9 x := by unfold spec_DrawScoreOf; rfl
  rw [e]
  unfold spec_DrawScoreOf_n9 spec_DrawScoreOf_n1
  rw [hb]
  simp only [Option.bind_some, hS, im, ho]
  rw [mk_nat (by omega)]
  have ex := nloop_ex (body := fun (s : Int × Int × (List Int)) => ((spec_DrawScoreOf_n3 (many : Int) o s.1 b s.2.1 s.2.2).map (Sum.elim (fun (t : Int × Int × (List Int)) => Sum.inl (t.1, t.2.1, t.2.2)) (fun (t : Int × (List Int)) => Sum.inr t)) : Option ((Int × Int × (List Int)) ⊕ ((Int × (List Int))))))
    (I := fun t => ∃ k : Nat, t.1 = ((k + 1 : Nat) : Int) ∧ k + 1 ≤ many ∧ t.2.1 = q2 + (k : Int) ∧ t.2.2.length = many)
    (μ := fun t => many - t.1.toNat) (Q := fun r => q2 ≤ r.1 ∧ r.1 ≤ q2 + 10 ∧ r.2.length = many)
    (by
      rintro ⟨kk, p, h⟩ ⟨k, ek, hk, ep, hl⟩
      simp only at ek ep hl
      subst ek ep
      simp only [spec_DrawScoreOf_n3]
      by_cases lt : k + 1 < many
      · left
        obtain ⟨v, hv, va, vb, _⟩ := pick_ok hB ((k + 1 : Nat) : Int) (by omega) (p := q2 + (k : Int)) (by omega) (by omega)
        have vb' := vb (by omega)
        obtain ⟨y, hy, my⟩ := idx_ok (b := o) (i := v) va (by omega)
        have hok : k + 1 < o.length := by omega
        have gb := ob _ (List.getElem_mem hok)
        have w1 : IntKind.wrap .i64 (((k + 1 : Nat) : Int) + 1) = ((k + 1 + 1 : Nat) : Int) := by rw [wrap64 (by omega) (by omega)]; omega
        have i1 : inb (IntKind.wrap .i64 (o[k + 1] - 1)) (List.length h) = some (o[k + 1] - 1).toNat := by
          rw [wrap64 (by omega) (by omega), show o[k + 1] - 1 = (((o[k + 1] - 1).toNat : Nat) : Int) by omega, Int.toNat_natCast]
          exact inb_nat (by omega)
        rw [decide_eq_true (show ((k + 1 : Nat) : Int) < (many : Int) by omega), idx_lt hok, hv, w1]
        simp only [cond_true, Option.bind_some, hy, i1]
        exact ⟨(((k + 1 + 1 : Nat) : Int), q2 + (k : Int) + 1, h.set (o[k + 1] - 1).toNat y), rfl, ⟨k + 1, rfl, by omega, by simp only; omega, by simp [hl]⟩, by simp only [Int.toNat_natCast]; omega⟩
      · right
        rw [decide_eq_false (show ¬ ((k + 1 : Nat) : Int) < (many : Int) by omega)]
        exact ⟨(q2 + (k : Int), h), rfl, by simp only; omega, by simp only; omega, hl⟩) LL (1, q2, List.replicate many 0) ⟨0, rfl, by omega, by simp, by simp⟩ (by simp only [LL]; omega)
  obtain ⟨⟨q3, h⟩, hh, a1, a2, a3⟩ := ex
  simp only [Option.bind_some, spec_DrawScoreOf_n8, spec_DrawScoreOf_n6, spec_DrawScoreOf_n2, spec_DrawScoreOf_n5, spec_DrawScoreOf_n4]
  rw [hh]
  simp only [Option.map_some, Option.bind_some, spec_DrawScoreOf_n7]
  simp only at a1 a2 a3
  obtain ⟨od, q4, hod, c1, c2⟩ := odd_ok hB 12 (by omega) (p := q3) (by omega) (by omega)
  rw [hod]
  simp only [Option.bind_some]
  cases od with
  | false => exact ⟨S, h, rfl, sm, by omega⟩
  | true =>
    obtain ⟨q5, t, ht, _, _, tl⟩ := tree_ok hB 3 (by omega) (p := q4) (by omega) (by omega)
    rw [ht]
    exact ⟨S, t, rfl, sm, tl⟩

theorem core_FnScoreOf (hS : ∀ S h, szT S ≤ 1048576 → h.length ≤ 1048576 → impl_ScoreOf S h = some (scoreI S h)) (hB : ∀ S, szT S ≤ 1048576 → impl_BestScore S = some (bestI S)) (hF : ∀ S, szT S ≤ 1048576 → impl_BestFlat S = some (bflatI S))
    (x : List Int) (w : ∀ n ∈ x, (Lit.int .u8 n).wf = true) (l : x.length ≤ maxLen) : laws_FnScoreOf x = some true := by
  unfold laws_FnScoreOf laws_FnScoreOf_n1
  by_cases hx : x.length ≤ 1048576
  · rw [show decide (((x.length : Nat) : Int) > 1048576) = false from decide_eq_false (by omega)]
    obtain ⟨S, h, hd', sm, h8⟩ := drawn_scoreOf x w l
    have s1 : S.length ≤ 1048576 := by have := sm.1; omega
    simp only [hd', cond_false, Option.bind_some, hS S h sm.sz (by omega), specScoreOf_eq S h s1, bne_self_eq_false, alive_eq, hB S sm.sz, hF S sm.sz, implFlat_eq]
    by_cases c : (okB S && treeB h && (h.length == S.length)) = true
    · have si : scoreI S h = ((scoreN S h : Nat) : Int) := by unfold scoreI; rw [if_pos c]
      simp only [Bool.and_eq_true, beq_iff_eq] at c
      obtain ⟨⟨o, t⟩, hl⟩ := c
      have T := (tree_iff h).mp t
      have up := best_up o T hl
      have le : scoreN S h ≤ 20 * h.length := scoreN_le o T hl h.length (Nat.le_refl _)
      rw [si, decide_eq_false (show ¬ ((scoreN S h : Nat) : Int) < 0 by omega), decide_eq_true (show ((scoreN S h : Nat) : Int) ≤ bestI S from up), wrap64 (by omega) (by omega), decide_eq_true (show ((scoreN S h : Nat) : Int) ≤ 20 * ((h.length : Nat) : Int) by omega)]
      simp only [cond_false, cond_true]
      cases f : flatI h with
      | false => rfl
      | true =>
        have F : FlatP h := by
          unfold flatI at f
          rw [t, Bool.true_and] at f
          exact flatB_iff.mp f
        rw [decide_eq_true (show ((scoreN S h : Nat) : Int) ≤ bflatI S from flat_up o T F hl)]
        rfl
    · have si : scoreI S h = -1 := by unfold scoreI; rw [if_neg c]
      rw [si]
      rfl
  · rw [show decide (((x.length : Nat) : Int) > 1048576) = true from decide_eq_true (by omega)]
    rfl

theorem same_FnScoreOf (x : List Int) (w : ∀ n ∈ x, (Lit.int .u8 n).wf = true) (l : x.length ≤ maxLen) : laws_FnScoreOf x = some true :=
  core_FnScoreOf implScoreOf_eq implBest_eq implBestFlat_eq x w l

end Go.Rv
