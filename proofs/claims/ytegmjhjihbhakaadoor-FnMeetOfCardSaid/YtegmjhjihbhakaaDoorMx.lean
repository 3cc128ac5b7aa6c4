/-
  Plain mathematics: where two words meet. Conditions: none.
-/
import Derived.Test.YtegmjhjihbhakaaDoorMw
import Derived.Test.YtegmjhjihbhakaaDoorMf
set_option linter.unusedVariables false
set_option linter.unusedSimpArgs false
namespace Go.Rv

/-- Where two words meet: a word over both, under each word over both. -/
structure Meet (h : List Int) (a b m : Nat) : Prop where
  ua : Und h a m
  ub : Und h b m
  low : ∀ k, Und h a k → Und h b k → Und h m k

theorem Tree.meet_ex {h : List Int} (T : Tree h) {b : Nat} (b1 : 1 ≤ b) (b2 : b ≤ h.length) : ∀ a, 1 ≤ a → a ≤ h.length → ∃ m, Meet h a b m := by
  refine T.climbInd (P := fun a => ∃ m, Meet h a b m) ⟨top h, .refl (top_pos h) T.top_le, T.und_top b1 b2, fun k u _ => by rw [T.und_of_top u]; exact .refl (top_pos h) T.top_le⟩ ?_
  rintro a a1 a2 a3 ⟨m, hm⟩
  by_cases u : Und h b a
  · exact ⟨a, .refl a1 a2, u, fun k x _ => x⟩
  · refine ⟨m, .step a1 a2 a3 hm.ua, hm.ub, fun k x y => ?_⟩
    rcases (T.und_iff a1 a2).1 x with e | ⟨_, x'⟩
    · rw [← e] at y; exact absurd y u
    · exact hm.low k x' y

theorem has_two (m i j : Nat) : (m &&& (2 ^ i ||| 2 ^ j) = 2 ^ i ||| 2 ^ j) ↔ (m.testBit i = true ∧ m.testBit j = true) := by
  constructor
  · intro e
    have h1 := congrArg (fun x => x.testBit i) e
    have h2 := congrArg (fun x => x.testBit j) e
    simp only [Nat.testBit_and, Nat.testBit_or, Nat.testBit_two_pow_self, Bool.true_or, Bool.or_true, Bool.and_true] at h1 h2
    exact ⟨h1, h2⟩
  · rintro ⟨h1, h2⟩
    apply Nat.eq_of_testBit_eq
    intro k
    simp only [Nat.testBit_and, Nat.testBit_or, Nat.testBit_two_pow]
    by_cases e : i = k
    · subst e; simp [h1]
    · by_cases e2 : j = k
      · subst e2; simp [h2]
      · simp [e, e2]

theorem or_lt256 {x y : Nat} (h1 : x < 256) (h2 : y < 256) : x ||| y < 256 := Nat.or_lt_two_pow (n := 8) h1 h2

theorem implMeet_eq {h : List Int} (T : Tree h) {a b m : Nat} (a1 : 1 ≤ a) (a2 : a ≤ h.length) (b1 : 1 ≤ b) (b2 : b ≤ h.length) (M : Meet h a b m) : impl_MeetOf h (a : Int) (b : Int) = some (m : Int) := by
  have e : impl_MeetOf h (a : Int) (b : Int) = impl_MeetOf_n9 h (a : Int) (b : Int) := by unfold impl_MeetOf; rfl
  have hle := T.le
  have hT : treeB h = true := (tree_iff h).2 T
  have wa : wordB h (a : Int) = true := wordB_iff.2 ⟨a, rfl, T, a1, a2⟩
  have wb : wordB h (b : Int) = true := wordB_iff.2 ⟨b, rfl, T, b1, b2⟩
  rw [e]
  unfold impl_MeetOf_n9 impl_MeetOf_n1 impl_MeetOf_n8 impl_MeetOf_n6 impl_MeetOf_n2 impl_MeetOf_n5 impl_MeetOf_n4 impl_MeetOf_n7
  rw [wordOk_eq, wordOk_eq, wa, wb, implRoot_eq, implDepth_eq, yields_eq T]
  simp only [Option.bind_some, Bool.not_true, cond_false, Sum.elim_inl, rootI, depthsI, hT, if_true, yieldL_length]
  have hloop := nloop_run (body := fun (s : Int × Int) => ((impl_MeetOf_n3 a b s.1 h.length s.2 (depRow h) (yieldL h)).map (Sum.elim (fun (t : Int × Int) => Sum.inl (t.1, t.2)) (fun (t : Int) => Sum.inr t)) : Option ((Int × Int) ⊕ (Int))))
    (I := fun s => ∃ k p : Nat, s = ((p : Int), (k : Int)) ∧ k ≤ h.length ∧ Und h a p ∧ Und h b p ∧ ∀ j, 1 ≤ j → j ≤ k → Und h a j → Und h b j → dep h j ≤ dep h p) (μ := fun s => h.length - s.2.toNat) (f := fun _ => (m : Int))
    (by
      rintro _ ⟨k, p, rfl, hk, up, vp, low⟩
      have hp := T.und_rng up
      simp only [impl_MeetOf_n3]
      by_cases hlt : k < h.length
      · left
        rw [show decide ((k : Int) < ((h.length : Nat) : Int)) = true from decide_eq_true (by omega), inb_nat (by rw [yieldL_length]; exact hlt), inb_nat (by rw [depRow_length]; exact hlt)]
        simp only [cond_true, Option.bind_some, yieldL_get h hlt, only_eq a1 (show a ≤ 8 by omega), only_eq b1 (show b ≤ 8 by omega)]
        have p1 := pow_lt256 (show a ≤ 8 by omega) a1
        have p2 := pow_lt256 (show b ≤ 8 by omega) b1
        rw [ioru (by omega) (by omega), hasAll_eq (ymask_lt hle _) (or_lt256 p1 p2)]
        simp only [Option.bind_some]
        have hiff : (ymask h (k + 1) &&& (2 ^ (a - 1) ||| 2 ^ (b - 1)) = 2 ^ (a - 1) ||| 2 ^ (b - 1)) ↔ (Und h a (k + 1) ∧ Und h b (k + 1)) := by
          rw [has_two, ymask_bit T, ymask_bit T, undB_iff, undB_iff, show a - 1 + 1 = a by omega, show b - 1 + 1 = b by omega]
        rw [wrap64 (x := (p : Int) - 1) (by omega) (by omega), wrap64 (x := (k : Int) + 1) (by omega) (by omega), show (p : Int) - 1 = ((p - 1 : Nat) : Int) by omega, inb_nat (by rw [depRow_length]; omega)]
        have g1 : (depRow h)[k]? = some ((dep h (k + 1) : Nat) : Int) := by rw [List.getElem?_eq_getElem (by rw [depRow_length]; exact hlt), depRow_get h hlt]
        have g2 : (depRow h)[p - 1]? = some ((dep h p : Nat) : Int) := by
          rw [List.getElem?_eq_getElem (by rw [depRow_length]; omega), depRow_get h (by omega), show p - 1 + 1 = p by omega]
        by_cases hb : Und h a (k + 1) ∧ Und h b (k + 1)
        · rw [decide_eq_true (hiff.2 hb)]
          simp only [cond_true, Option.bind_some, g1, g2]
          by_cases hd2 : dep h (k + 1) > dep h p
          · rw [show decide (((dep h (k + 1) : Nat) : Int) > ((dep h p : Nat) : Int)) = true from decide_eq_true (by omega)]
            refine ⟨(((k + 1 : Nat) : Int), ((k + 1 : Nat) : Int)), rfl, ⟨k + 1, k + 1, rfl, hlt, hb.1, hb.2, fun j j1 j2 u v => ?_⟩, by simp; omega, trivial⟩
            by_cases e : j = k + 1
            · rw [e]; exact Nat.le_refl _
            · have := low j j1 (by omega) u v; omega
          · rw [show decide (((dep h (k + 1) : Nat) : Int) > ((dep h p : Nat) : Int)) = false from decide_eq_false (by omega)]
            refine ⟨((p : Int), ((k + 1 : Nat) : Int)), rfl, ⟨k + 1, p, rfl, hlt, up, vp, fun j j1 j2 u v => ?_⟩, by simp; omega, trivial⟩
            by_cases e : j = k + 1
            · rw [e]; omega
            · exact low j j1 (by omega) u v
        · rw [decide_eq_false (fun x => hb (hiff.1 x))]
          refine ⟨((p : Int), ((k + 1 : Nat) : Int)), rfl, ⟨k + 1, p, rfl, hlt, up, vp, fun j j1 j2 u v => ?_⟩, by simp; omega, trivial⟩
          by_cases e : j = k + 1
          · rw [e] at u v; exact absurd ⟨u, v⟩ hb
          · exact low j j1 (by omega) u v
      · right
        have e : k = h.length := by omega
        subst e
        rw [show decide (((h.length : Nat) : Int) < ((h.length : Nat) : Int)) = false from decide_eq_false (by omega)]
        have hm := T.und_rng M.ua
        have h1 := low m hm.2.1 hm.2.2 M.ua M.ub
        have h2 := T.und_dep (M.low p up vp)
        have : m = p := h2.2 (by omega)
        subst this
        rfl)
  rw [hloop LL ((top h : Int), 0) ⟨0, top h, rfl, by omega, T.und_top a1 a2, T.und_top b1 b2, fun j j1 j2 => by omega⟩ (by simp only [LL]; simp; omega)]
  rfl

theorem specMeet_eq {h : List Int} (T : Tree h) {a b m : Nat} (a1 : 1 ≤ a) (a2 : a ≤ h.length) (b1 : 1 ≤ b) (b2 : b ≤ h.length) (M : Meet h a b m) : spec_MeetOf h (a : Int) (b : Int) = some (m : Int) := by
  have e : spec_MeetOf h (a : Int) (b : Int) = spec_MeetOf_n5 h (a : Int) (b : Int) := by unfold spec_MeetOf; rfl
  have hle := T.le
  have hT : treeB h = true := (tree_iff h).2 T
  rw [e]
  unfold spec_MeetOf_n5 spec_MeetOf_n1 spec_MeetOf_n4 spec_MeetOf_n3
  rw [specTree_eq, hT, l1In_eq, l1In_eq, show (decide ((1 : Int) ≤ (a : Int)) && decide ((a : Int) ≤ ((h.length : Nat) : Int))) = true by simp; omega, show (decide ((1 : Int) ≤ (b : Int)) && decide ((b : Int) ≤ ((h.length : Nat) : Int))) = true by simp; omega]
  simp only [Option.bind_some, Bool.not_true, cond_false, Sum.elim_inl]
  have hloop := nloop_run (body := fun (s : Int) => ((spec_MeetOf_n2 h b s).map (Sum.elim (fun (t : Int) => Sum.inl t) (fun (t : Int) => Sum.inr t)) : Option ((Int) ⊕ (Int))))
    (I := fun s => ∃ p : Nat, s = (p : Int) ∧ Und h a p ∧ Und h p m) (μ := fun s => dep h s.toNat) (f := fun _ => (m : Int))
    (by
      rintro _ ⟨p, rfl, up, pm⟩
      have hp := T.und_rng up
      simp only [spec_MeetOf_n2]
      rw [l2Yield_eq T hp.2.1 hp.2.2, wrap64 (x := (b : Int) - 1) (by omega) (by omega), wrap64 (x := (p : Int) - 1) (by omega) (by omega), show (b : Int) - 1 = ((b - 1 : Nat) : Int) by omega]
      simp only [Option.bind_some]
      have hb := bit_eq (ymask_lt hle p) (show b - 1 < 8 by omega)
      rw [ymask_bit T, show b - 1 + 1 = b by omega] at hb
      cases hs : shr .i64 ((ymask h p : Nat) : Int) ((b - 1 : Nat) : Int) with
      | none => rw [hs] at hb; cases hb
      | some v =>
        rw [hs] at hb
        simp only [Option.bind_some] at hb ⊢
        rw [hb]
        simp only [Option.bind_some]
        by_cases u : Und h b p
        · right
          rw [undB_iff.2 u]
          have : m = p := T.und_anti (M.low p up u) pm
          subst this
          rfl
        · left
          rw [undB_false.2 u]
          rcases (T.und_iff hp.2.1 hp.2.2).1 pm with e | ⟨h0, pm'⟩
          · exact absurd (e ▸ M.ub) u
          · have hg := T.get hp.2.1 hp.2.2
            have hs := T.dep_step hp.2.1 hp.2.2 h0
            rw [show (p : Int) - 1 = ((p - 1 : Nat) : Int) by omega, idx_nat, hg]
            exact ⟨((hd h p : Nat) : Int), rfl, ⟨hd h p, rfl, T.und_trans up (T.und_hd hp.2.1 hp.2.2 h0), pm'⟩, by simp only [Int.toNat_natCast]; omega, trivial⟩)
  have hdl := T.dep_lt a1 a2
  rw [hloop LL (a : Int) ⟨a, rfl, .refl a1 a2, M.ua⟩ (by simp only [LL, Int.toNat_natCast]; omega)]
  rfl

theorem implMeet_out {h : List Int} {a b : Int} (hw : ¬ (wordB h a = true ∧ wordB h b = true)) : impl_MeetOf h a b = some (-1) := by
  have e : impl_MeetOf h a b = impl_MeetOf_n9 h a b := by unfold impl_MeetOf; rfl
  rw [e]
  unfold impl_MeetOf_n9 impl_MeetOf_n1
  rw [wordOk_eq, wordOk_eq]
  cases ha : wordB h a with
  | false => rfl
  | true =>
    cases hb : wordB h b with
    | false => rfl
    | true => exact absurd ⟨ha, hb⟩ hw

theorem specMeet_out {h : List Int} {a b : Int} (hw : ¬ (wordB h a = true ∧ wordB h b = true)) : spec_MeetOf h a b = some (-1) := by
  have e : spec_MeetOf h a b = spec_MeetOf_n5 h a b := by unfold spec_MeetOf; rfl
  rw [e]
  unfold spec_MeetOf_n5 spec_MeetOf_n1
  rw [specTree_eq, l1In_eq, l1In_eq]
  unfold wordB at hw
  cases hT : treeB h with
  | false => rfl
  | true =>
    rw [hT] at hw
    cases ha : (decide ((1 : Int) ≤ a) && decide (a ≤ ((h.length : Nat) : Int))) with
    | false => rfl
    | true =>
      cases hb : (decide ((1 : Int) ≤ b) && decide (b ≤ ((h.length : Nat) : Int))) with
      | false => rfl
      | true => exact absurd ⟨by rw [ha]; rfl, by rw [hb]; rfl⟩ hw

end Go.Rv
