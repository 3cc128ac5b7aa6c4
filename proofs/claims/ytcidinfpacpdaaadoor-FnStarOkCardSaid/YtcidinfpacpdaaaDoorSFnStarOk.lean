/-
  The law FnStarOk, in plain words: it is true of every argument. Conditions: none.
-/
import Derived.Test.YtcidinfpacpdaaaDoorHFnStarOk
set_option linter.unusedVariables false
set_option linter.unusedSimpArgs false
namespace Go.Rv

theorem inbI_ok {i : Int} {n : Nat} (h0 : 0 ≤ i) (h1 : i < (n : Int)) : inb i n = some i.toNat := by
  unfold inb
  rw [if_pos ⟨h0, h1⟩]

theorem star_arms {n at_ : Int} (n1 : 1 ≤ n) (n7 : n ≤ 8) (a1 : 1 ≤ at_) (a2 : at_ ≤ n) {l : List Int} (hl : (l.length : Int) = n) : ∃ r, spec_DrawStarOk_n8 n at_ l = some r ∧ (r.length : Int) = n := by
  unfold spec_DrawStarOk_n8 spec_DrawStarOk_n4 spec_DrawStarOk_n7 spec_DrawStarOk_n6
  obtain ⟨o, ho, q⟩ := nloop_ex (body := fun (s : Int × (List Int)) => ((spec_DrawStarOk_n5 n at_ s.1 s.2).map (Sum.elim (fun (t : Int × (List Int)) => Sum.inl (t.1, t.2)) (fun (t : (List Int)) => Sum.inr t)) : Option ((Int × (List Int)) ⊕ (((List Int))))))
    (fun s => 0 ≤ s.1 ∧ s.1 ≤ n ∧ (s.2.length : Int) = n) (fun s => (n - s.1).toNat) (fun o => (o.length : Int) = n)
    (by
      rintro ⟨k, m⟩ ⟨k0, kn, ml⟩
      simp only at k0 kn ml ⊢
      have w : IntKind.wrap .i64 (k + 1) = k + 1 := wrap64 (by omega) (by omega)
      simp only [spec_DrawStarOk_n5, w]
      by_cases lt : k < n
      · left
        rw [decide_eq_true lt, inbI_ok k0 (by omega)]
        simp only [cond_true, Option.bind_some]
        cases (k + 1 != at_) with
        | true =>
          refine ⟨_, rfl, ⟨?_, ?_, ?_⟩, ?_⟩
          · simp only; omega
          · simp only; omega
          · simp only [List.length_set]; exact ml
          · simp only; omega
        | false =>
          refine ⟨_, rfl, ⟨?_, ?_, ?_⟩, ?_⟩
          · simp only; omega
          · simp only; omega
          · exact ml
          · simp only; omega
      · right
        rw [decide_eq_false lt]
        exact ⟨m, rfl, ml⟩) LL (0, l) ⟨by simp only; omega, by simp only; omega, hl⟩ (by simp only [LL]; omega)
  refine ⟨o, ?_, q⟩
  simp only [Option.bind_some]
  rw [ho]
  rfl

theorem drawn_star (x : List Int) (w : ∀ n ∈ x, (Lit.int .u8 n).wf = true) (l : x.length ≤ maxLen) : ∃ h : List Int, spec_DrawStarOk x = some h ∧ h.length ≤ 8 := by
  obtain ⟨b, hb, hB⟩ := open_ok x w l
  obtain ⟨v0, p0, a0, b0, _⟩ := pick_ok hB 2 (by omega) (p := 0) (by omega) (by omega)
  have u : spec_DrawStarOk x = spec_DrawStarOk_n17 x := by unfold spec_DrawStarOk; rfl
  rw [u]
  unfold spec_DrawStarOk_n17 spec_DrawStarOk_n1 spec_DrawStarOk_n16 spec_DrawStarOk_n14 spec_DrawStarOk_n2
  simp only [hb, Option.bind_some, p0]
  cases e : (v0 == 0) with
  | false =>
    obtain ⟨q, h, hq, _, _, h8⟩ := wild_ok hB 9 (by omega) (p := 0 + 1) (by omega) (by omega)
    refine ⟨h, ?_, h8⟩
    simp only [spec_DrawStarOk_n13, spec_DrawStarOk_n12, cond_false, Option.map_some, Option.bind_some, Sum.elim_inl, spec_DrawStarOk_n15, hq]
  | true =>
    obtain ⟨v1, p1, a1, b1, _⟩ := pick_ok hB 7 (by omega) (p := 0 + 1) (by omega) (by omega)
    have b1 := b1 (by omega)
    have w1 : IntKind.wrap .i64 (1 + v1) = 1 + v1 := wrap64 (by omega) (by omega)
    obtain ⟨v2, p2, a2, b2, _⟩ := pick_ok hB (1 + v1) (by omega) (p := 0 + 1 + 1) (by omega) (by omega)
    have b2 := b2 (by omega)
    have w2 : IntKind.wrap .i64 (1 + v2) = 1 + v2 := wrap64 (by omega) (by omega)
    have hm : mk (1 + v1) (1 + v1) = some (1 + v1).toNat := by
      unfold mk
      rw [if_pos (by omega)]
    obtain ⟨r, hr, rl⟩ := star_arms (n := 1 + v1) (at_ := 1 + v2) (by omega) (by omega) (by omega) (by omega) (l := List.replicate (1 + v1).toNat (0 : Int)) (by rw [List.length_replicate]; omega)
    have fin : ∃ h : List Int, spec_DrawStarOk_n9 (1 + v1) (1 + v2) b (0 + 1 + 1 + 1) r = some h ∧ h.length ≤ 8 := by
      unfold spec_DrawStarOk_n9
      by_cases g : 1 + v1 > 1
      · obtain ⟨v3, p3, a3, b3, _⟩ := pick_ok hB 2 (by omega) (p := 0 + 1 + 1 + 1) (by omega) (by omega)
        rw [decide_eq_true g]
        simp only [cond_true, p3, Option.bind_some]
        cases (v3 == 0) with
        | false => exact ⟨r, rfl, by omega⟩
        | true =>
          have w3 : IntKind.wrap .i64 (1 + v1 - 1) = v1 := by rw [wrap64 (by omega) (by omega)]; omega
          obtain ⟨v4, p4, a4, b4, _⟩ := pick_ok hB v1 (by omega) (p := 0 + 1 + 1 + 1 + 1) (by omega) (by omega)
          have b4 := b4 (by omega)
          have w4 : IntKind.wrap .i64 (1 + v2 + v4) = 1 + v2 + v4 := wrap64 (by omega) (by omega)
          have rm : ∃ k, rem (1 + v2 + v4) (1 + v1) = some k ∧ 0 ≤ k ∧ k < 1 + v1 := by
            unfold rem
            rw [if_neg (by omega)]
            exact ⟨_, rfl, Int.tmod_nonneg _ (by omega), Int.tmod_lt_of_pos _ (by omega)⟩
          obtain ⟨k, hk, k0, k1⟩ := rm
          have w5 : IntKind.wrap .i64 (1 + v2 - 1) = v2 := by rw [wrap64 (by omega) (by omega)]; omega
          simp only [cond_true, w3, p4, Option.bind_some, w4, hk, w5]
          rw [inbI_ok a2 (by omega)]
          simp only [Option.bind_some]
          rw [inbI_ok k0 (by rw [List.length_set]; omega)]
          exact ⟨_, rfl, by simp only [List.length_set]; omega⟩
      · rw [decide_eq_false g]
        exact ⟨r, rfl, by omega⟩
    obtain ⟨h, hh, h8⟩ := fin
    refine ⟨h, ?_, h8⟩
    simp only [spec_DrawStarOk_n13, cond_true, spec_DrawStarOk_n11, spec_DrawStarOk_n3, p1, Option.bind_some, w1, hm, p2, w2, spec_DrawStarOk_n10, hr, hh, Option.map_some, Sum.elim_inr]

theorem core_FnStarOk (hS : ∀ h, h.length ≤ 1048576 → impl_StarOk h = some (starB h)) (hM : ∀ h, h.length ≤ 1048576 → impl_MadeFlat h = some (if treeB h = true then putRow h (flatOI h) else []))
    (x : List Int) (w : ∀ n ∈ x, (Lit.int .u8 n).wf = true) (l : x.length ≤ maxLen) : laws_FnStarOk x = some true := by
  unfold laws_FnStarOk laws_FnStarOk_n1
  by_cases hx : x.length ≤ 1048576
  · rw [show decide (((x.length : Nat) : Int) > 1048576) = false from decide_eq_false (by omega)]
    obtain ⟨h, hd', h8⟩ := drawn_star x w l
    simp only [hd', cond_false, Option.bind_some, hS h (by omega), hM h (by omega), specStar_eq, specTree_eq, bne_self_eq_false, alive_eq, implCrossings_eq]
    cases t : treeB h with
    | false =>
      have e0 : starB h = false := by unfold starB; rw [t]; rfl
      rw [e0]
      rfl
    | true =>
      have T := (tree_iff h).mp t
      have hp := T.pos
      have fl := flatOI_length T
      have T' := put_tree T fl (flatOI_order T)
      have len := putRow_length h (flatOI h)
      have same : starB (putRow h (flatOI h)) = starB h := by
        rw [Bool.eq_iff_iff, starB_iff T', starB_iff T, put_star T fl (flatOI_order T)]
      have asu := apart_sum T
      have ca := cross_apart T
      have sa := star_apart T
      have sb := starB_iff T
      simp only [if_true, hS (putRow h (flatOI h)) (by omega), same, Bool.not_true, cond_false, Option.bind_some, beq_self_eq_true]
      cases s : starB h with
      | true =>
        have a0 := sa.mpr (sb.mp s)
        have c0 : crossingsI h = 0 := by unfold crossingsI; rw [t, if_pos rfl]; omega
        rw [c0]
        cases decide (((h.length : Nat) : Int) > 3) <;> rfl
      | false =>
        have n3 : 3 < h.length := by
          refine Nat.lt_of_not_le fun le => ?_
          have z : (h.length - 1) * (h.length - 2) / 2 ≤ 1 := by
            have : h.length = 1 ∨ h.length = 2 ∨ h.length = 3 := by omega
            rcases this with e | e | e <;> rw [e] <;> decide
          have three : apartN h = 0 := by
            by_cases e3 : h.length = 3
            · refine sa.mpr ?_
              have tot := ends_total T
              have tot2 : endsW h 1 + endsW h 2 + endsW h 3 = 4 := by
                rw [e3] at tot
                simpa [sumR] using tot
              unfold starP
              rw [e3]
              have p1 := endsW_pos T (by omega) (show 1 ≤ 1 by omega) (show 1 ≤ h.length by omega)
              have p2 := endsW_pos T (by omega) (show 1 ≤ 2 by omega) (show 2 ≤ h.length by omega)
              have p3 := endsW_pos T (by omega) (show 1 ≤ 3 by omega) (show 3 ≤ h.length by omega)
              by_cases q1 : endsW h 1 = 2
              · exact ⟨1, by omega, by omega, q1⟩
              · by_cases q2 : endsW h 2 = 2
                · exact ⟨2, by omega, by omega, q2⟩
                · exact ⟨3, by omega, by omega, by omega⟩
            · have : (h.length - 1) * (h.length - 2) / 2 = 0 := by
                have : h.length = 1 ∨ h.length = 2 := by omega
                rcases this with e | e <;> rw [e]
              omega
          have := sb.mpr (sa.mp three)
          rw [s] at this
          cases this
        rw [decide_eq_true (show ((h.length : Nat) : Int) > 3 by omega)]
        rfl
  · rw [show decide (((x.length : Nat) : Int) > 1048576) = true from decide_eq_true (by omega)]
    rfl

theorem same_FnStarOk (x : List Int) (w : ∀ n ∈ x, (Lit.int .u8 n).wf = true) (l : x.length ≤ maxLen) : laws_FnStarOk x = some true :=
  core_FnStarOk (fun h hl => implStar_eq h hl) (fun h _ => implMade_eq h) x w l

end Go.Rv
