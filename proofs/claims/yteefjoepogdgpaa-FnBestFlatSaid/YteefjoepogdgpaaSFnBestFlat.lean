/-
  The law FnBestFlat, in plain words: it is true of every argument. Conditions: what the program's ScoresOk, ScoreOf and BestFlat say.
-/
import Derived.Test.YteefjoepogdgpaaHFnBestFlat
set_option linter.unusedVariables false
set_option linter.unusedSimpArgs false
namespace Go.Rv

theorem num_ok {n k : Nat} (n1 : 1 ≤ n) (n5 : n ≤ 5) (hk : k < cntF n) : ∃ h, impl_FlatAt (n : Int) (k : Int) = some (true, h) ∧ Tree h ∧ FlatP h ∧ h.length = n := by
  have b : numB n k = true := by
    by_cases e : n = 5
    · subst e
      exact all_lt num_tab5 hk
    · have := all_lt num_tab4 (i := n - 1) (by omega)
      rw [show n - 1 + 1 = n by omega] at this
      exact all_lt this hk
  unfold numB at b
  split at b
  · rename_i h e
    simp only [Bool.and_eq_true] at b
    have f := flatC_ok b.1.1
    exact ⟨h, e, f.1, f.2, Nat.eq_of_beq_eq_true b.1.2⟩
  · cases b

theorem sur_ok {n : Nat} (n1 : 1 ≤ n) (n5 : n ≤ 5) {g : List (Nat × Nat)} (hg : g ∈ (gen (2 * n)).1 1 n 0) : ∃ k, k < cntF n ∧ ∃ h, impl_FlatAt (n : Int) (k : Int) = some (true, h) ∧ g.Perm (pairsOf h) := by
  have b : surB n g = true := by
    by_cases e : n = 5
    · subst e
      exact List.all_eq_true.mp sur_tab5 g hg
    · have := all_lt sur_tab4 (i := n - 1) (by omega)
      rw [show n - 1 + 1 = n by omega] at this
      exact List.all_eq_true.mp this g hg
  unfold surB at b
  rw [List.any_eq_true] at b
  obtain ⟨k, hk, p⟩ := b
  rw [List.mem_range] at hk
  split at p
  · rename_i h e
    exact ⟨k, hk, h, e, List.isPerm_iff.mp p⟩
  · cases p

theorem cnt_tab : ((List.range 5).all fun n => impl_CountFlat ((n + 1 : Nat) : Int) == some ((cntF (n + 1) : Nat) : Int)) = true := by decide +kernel
theorem cnt_ok {n : Nat} (n1 : 1 ≤ n) (n5 : n ≤ 5) : impl_CountFlat (n : Int) = some ((cntF n : Nat) : Int) := by
  have := all_lt cnt_tab (i := n - 1) (by omega)
  rw [beq_iff_eq, show n - 1 + 1 = n by omega] at this
  exact this
theorem cntF_le (n : Nat) : cntF n ≤ 143 := by unfold cntF; split <;> omega

theorem bflat_loop (hS : ∀ S h, szT S ≤ 1048576 → h.length ≤ 1048576 → impl_ScoreOf S h = some (scoreI S h)) {S : List (List Int)} (o : okB S = true) (sz : szT S ≤ 1048576) : laws_FnBestFlat_n4 S = some (Sum.inr (bflatI S)) := by
  have l5 := okB_len o
  have cl := cntF_le S.length
  have cc := cnt_ok l5.1 l5.2
  have ex := nloop_ex (body := fun (s : Int × Int) => ((laws_FnBestFlat_n3 s.1 s.2 S).map (Sum.elim (fun (t : Int × Int) => Sum.inl (t.1, t.2)) (Sum.elim (fun (t : Bool) => Sum.inr (Sum.inl t)) (fun (t : Int) => Sum.inr (Sum.inr t)))) : Option ((Int × Int) ⊕ (Bool ⊕ Int))))
    (I := fun t => ∃ k : Nat, t.2 = (k : Int) ∧ k ≤ cntF S.length ∧ t.1 ≤ bflatI S ∧ ∀ j, j < k → ∀ h, impl_FlatAt ((S.length : Nat) : Int) (j : Int) = some (true, h) → ((scoreN S h : Nat) : Int) ≤ t.1)
    (μ := fun t => cntF S.length - t.2.toNat) (Q := fun r => r = Sum.inr (bflatI S))
    (by
      rintro ⟨b, kk⟩ ⟨k, ek, hk, hb, up⟩
      simp only at ek hb up
      subst ek
      simp only [laws_FnBestFlat_n3, cc, Option.bind_some]
      by_cases lt : k < cntF S.length
      · left
        obtain ⟨h, e, T, F, hl⟩ := num_ok l5.1 l5.2 lt
        have w : IntKind.wrap .i64 ((k : Int) + 1) = ((k + 1 : Nat) : Int) := by rw [wrap64 (by omega) (by omega)]; omega
        have si : scoreI S h = ((scoreN S h : Nat) : Int) := by
          unfold scoreI
          rw [o, (tree_iff h).mpr T, beq_iff_eq.mpr hl]
          rfl
        have fu := flat_up o T F hl
        rw [decide_eq_true (show (k : Int) < ((cntF S.length : Nat) : Int) by omega), decide_eq_true (show (k : Int) < 200 by omega), e, w]
        simp only [cond_true, Option.bind_some, Bool.not_true, cond_false, hS S h sz (by omega), si]
        have im := imax_le (a := b) (b := ((scoreN S h : Nat) : Int))
        refine ⟨(imax b ((scoreN S h : Nat) : Int), ((k + 1 : Nat) : Int)), rfl, ⟨k + 1, rfl, lt, by simp only; rcases im.2.2 with q | q <;> rw [q] <;> omega, fun j hj g hg => ?_⟩, by simp only [Int.toNat_natCast]; omega⟩
        by_cases q : j = k
        · subst q
          rw [e] at hg
          cases hg
          exact im.2.1
        · exact Int.le_trans (up j (by omega) g hg) im.1
      · right
        have : k = cntF S.length := by omega
        subst this
        rw [decide_eq_false (show ¬ ((cntF S.length : Nat) : Int) < ((cntF S.length : Nat) : Int) by omega)]
        refine ⟨Sum.inr b, rfl, ?_⟩
        obtain ⟨v, ev, ⟨g, hg, s⟩, _⟩ := flat_val o
        obtain ⟨j, hj, h, e, p⟩ := sur_ok l5.1 l5.2 hg
        have := up j hj h e
        have e0 : bflatI S = (v : Int) := by unfold bflatI; rw [if_pos o, ev, Option.getD_some]
        rw [sumP_perm S p, pairs_sum] at s
        rw [e0] at hb ⊢
        congr 1
        omega) LL (-1, 0) ⟨0, rfl, by omega, by
          obtain ⟨h, _, _, _, e⟩ := flat_is o
          simp only [e]
          omega, fun j hj => by omega⟩ (by simp only [LL]; omega)
  obtain ⟨r, hr, rfl⟩ := ex
  unfold laws_FnBestFlat_n4
  exact hr

theorem core_FnBestFlat (hO : ∀ S, szT S ≤ 1048576 → impl_ScoresOk S = some (okB S)) (hS : ∀ S h, szT S ≤ 1048576 → h.length ≤ 1048576 → impl_ScoreOf S h = some (scoreI S h)) (hF : ∀ S, szT S ≤ 1048576 → impl_BestFlat S = some (bflatI S))
    (x : List Int) (w : ∀ n ∈ x, (Lit.int .u8 n).wf = true) (l : x.length ≤ maxLen) : laws_FnBestFlat x = some true := by
  unfold laws_FnBestFlat laws_FnBestFlat_n9 laws_FnBestFlat_n1
  by_cases hx : x.length ≤ 1048576
  · rw [show decide (((x.length : Nat) : Int) > 1048576) = false from decide_eq_false (by omega)]
    obtain ⟨b, hb, hB2⟩ := open_ok x w l
    obtain ⟨S, q, hdS, sm, _, _⟩ := drawn_scores hB2 9 (by omega)
    have hd' : spec_DrawBestFlat x = some S := by
      unfold spec_DrawBestFlat spec_DrawBestFlat_n1
      rw [hb]
      simp only [Option.bind_some, hdS]
    have s1 : S.length ≤ 1048576 := by have := sm.1; omega
    simp only [hd', cond_false, Option.bind_some, hF S sm.sz, specBestFlat_eq S s1, bne_self_eq_false, alive_eq, hO S sm.sz]
    cases o : okB S with
    | false =>
      have e0 : bflatI S = -1 := by unfold bflatI; rw [o]; rfl
      rw [e0]
      rfl
    | true =>
      obtain ⟨h, _, _, _, e⟩ := flat_is o
      rw [decide_eq_false (show ¬ bflatI S < 0 by omega)]
      simp only [cond_false, Option.bind_some, Sum.elim_inl, laws_FnBestFlat_n8, laws_FnBestFlat_n6, laws_FnBestFlat_n2, laws_FnBestFlat_n5, bflat_loop hS o sm.sz, Option.map_some, Sum.elim_inr, laws_FnBestFlat_n7, beq_self_eq_true]
  · rw [show decide (((x.length : Nat) : Int) > 1048576) = true from decide_eq_true (by omega)]
    rfl

theorem same_FnBestFlat (x : List Int) (w : ∀ n ∈ x, (Lit.int .u8 n).wf = true) (l : x.length ≤ maxLen) : laws_FnBestFlat x = some true :=
  core_FnBestFlat implScores_eq implScoreOf_eq implBestFlat_eq x w l

end Go.Rv
