/-
  The law FnMeetOf, in plain words: it is true of every argument. Conditions: none.
-/
import Derived.Test.YtegmjhjihbhakaaDoorMx
import Derived.Test.YtegmjhjihbhakaaDoorMza
import Derived.Test.YtegmjhjihbhakaaDoorMo
set_option linter.unusedVariables false
set_option linter.unusedSimpArgs false
namespace Go.Rv

theorem same_FnMeetOf (x : List Int) (w : ∀ n ∈ x, (Lit.int .u8 n).wf = true) (l : x.length ≤ maxLen) : laws_FnMeetOf x = some true := by
  unfold laws_FnMeetOf laws_FnMeetOf_n9 laws_FnMeetOf_n1
  by_cases hx : x.length ≤ 1048576
  · rw [show decide (((x.length : Nat) : Int) > 1048576) = false from decide_eq_false (by omega)]
    obtain ⟨a, b, h, hdr, h8, a1, a2, b1, b2⟩ := drawn_under x w l
    have hdr' : spec_DrawMeetOf x = some (a, b, h) := by
      unfold spec_DrawMeetOf spec_DrawMeetOf_n1
      rw [hdr]; rfl
    simp only [cond_false, hdr', Option.bind_some]
    by_cases hw : wordB h a = true ∧ wordB h b = true
    · obtain ⟨u, rfl, T, u1, u2⟩ := wordB_iff.1 hw.1
      obtain ⟨v, rfl, _, v1, v2⟩ := wordB_iff.1 hw.2
      obtain ⟨m, M⟩ := T.meet_ex v1 v2 u u1 u2
      have hm := T.und_rng M.ua
      have M' : Meet h v u m := ⟨M.ub, M.ua, fun k x y => M.low k y x⟩
      simp only [implMeet_eq T u1 u2 v1 v2 M, specMeet_eq T u1 u2 v1 v2 M, Option.bind_some, bne_self_eq_false, cond_false]
      rw [show decide ((m : Int) < 0) = false from decide_eq_false (by omega)]
      simp only [cond_false, Option.bind_some, Sum.elim_inl]
      have wu : ∀ {k : Nat}, 1 ≤ k → k ≤ h.length → wordB h (k : Int) = true := fun k1 k2 => wordB_iff.2 ⟨_, rfl, T, k1, k2⟩
      have un : ∀ {j k : Nat}, 1 ≤ j → j ≤ h.length → 1 ≤ k → k ≤ h.length → underI h (j : Int) (k : Int) = undB h j k := fun j1 j2 k1 k2 => by
        simp only [underI, wu j1 j2, wu k1 k2, Bool.true_and, Int.toNat_natCast]
      unfold laws_FnMeetOf_n8 laws_FnMeetOf_n6 laws_FnMeetOf_n2 laws_FnMeetOf_n5 laws_FnMeetOf_n4 laws_FnMeetOf_n7
      have hloop := nloop_to (body := fun (s : Int) => ((laws_FnMeetOf_n3 u v m s h).map (Sum.elim (fun (t : Int) => Sum.inl t) (Sum.elim (fun (t : Bool) => Sum.inr (Sum.inl t)) (fun (t : Unit) => Sum.inr (Sum.inr t)))) : Option ((Int) ⊕ (Bool ⊕ Unit))))
        (fun k => ((k + 1 : Nat) : Int)) h.length (.inr ())
        (by
          intro k hk
          simp only [laws_FnMeetOf_n3, implUnder_eq]
          rw [show decide (((k + 1 : Nat) : Int) ≤ ((h.length : Nat) : Int)) = true from decide_eq_true (by omega), un u1 u2 (by omega) (by omega), un v1 v2 (by omega) (by omega), un hm.2.1 hm.2.2 (by omega) (by omega), wrap64 (by omega) (by omega)]
          simp only [cond_true, Option.bind_some]
          cases x1 : undB h u (k + 1) with
          | false => rfl
          | true =>
            cases x2 : undB h v (k + 1) with
            | false => rfl
            | true =>
              rw [undB_iff.2 (M.low (k + 1) (undB_iff.1 x1) (undB_iff.1 x2))]
              rfl)
        (by
          simp only [laws_FnMeetOf_n3]
          rw [show decide (((h.length + 1 : Nat) : Int) ≤ ((h.length : Nat) : Int)) = false from decide_eq_false (by omega)]
          rfl)
      simp only [Option.bind_some, implUnder_eq, implMeet_eq T v1 v2 u1 u2 M']
      rw [show (1 : Int) = ((0 + 1 : Nat) : Int) from rfl, hloop LL (by simp only [LL]; omega), un u1 u2 hm.2.1 hm.2.2, un v1 v2 hm.2.1 hm.2.2, undB_iff.2 M.ua, undB_iff.2 M.ub]
      simp
    · simp only [implMeet_out hw, specMeet_out hw, Option.bind_some, alive_eq]
      rfl
  · rw [show decide (((x.length : Nat) : Int) > 1048576) = true from decide_eq_true (by omega)]
    rfl

end Go.Rv
