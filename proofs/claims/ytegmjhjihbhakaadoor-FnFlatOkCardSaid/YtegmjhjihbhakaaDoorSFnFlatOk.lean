/-
  The law FnFlatOk, in plain words: it is true of every argument. Conditions: none.
-/
import Derived.Test.YtegmjhjihbhakaaDoorMci
import Derived.Test.YtegmjhjihbhakaaDoorMcd
import Derived.Test.YtegmjhjihbhakaaDoorMoa
import Derived.Test.YtegmjhjihbhakaaDoorMw
set_option linter.unusedVariables false
set_option linter.unusedSimpArgs false
namespace Go.Rv

theorem same_FnFlatOk (x : List Int) (w : ∀ n ∈ x, (Lit.int .u8 n).wf = true) (l : x.length ≤ maxLen) : laws_FnFlatOk x = some true := by
  unfold laws_FnFlatOk laws_FnFlatOk_n18 laws_FnFlatOk_n1
  by_cases hx : x.length ≤ 1048576
  · rw [show decide (((x.length : Nat) : Int) > 1048576) = false from decide_eq_false (by omega)]
    obtain ⟨h, h8, hdr⟩ := drawn_flat x w l 9 (by omega)
    have hd' : spec_DrawFlatOk x = some h := by unfold spec_DrawFlatOk spec_DrawFlatOk_n1; exact hdr
    simp only [cond_false, hd', Option.bind_some, implFlat_eq, specFlat_eq h (by omega), bne_self_eq_false, specTree_eq, alive_eq]
    cases hT : treeB h with
    | false => simp [flatI, hT]
    | true =>
      have T := (tree_iff h).1 hT
      simp only [Bool.not_true, cond_false, Option.bind_some, Sum.elim_inl]
      unfold laws_FnFlatOk_n17 laws_FnFlatOk_n15 laws_FnFlatOk_n2 laws_FnFlatOk_n14 laws_FnFlatOk_n13
      have wu : ∀ {k : Nat}, 1 ≤ k → k ≤ h.length → wordB h (k : Int) = true := fun k1 k2 => wordB_iff.2 ⟨_, rfl, T, k1, k2⟩
      have un : ∀ {j k : Nat}, 1 ≤ j → j ≤ h.length → 1 ≤ k → k ≤ h.length → underI h (j : Int) (k : Int) = undB h j k := fun j1 j2 k1 k2 => by
        simp only [underI, wu j1 j2, wu k1 k2, Bool.true_and, Int.toNat_natCast]
      -- the words between one word and its head
      have hinner : ∀ k, k < h.length → ∀ b : Bool, ∃ c : Bool, laws_FnFlatOk_n8 b ((k + 1 : Nat) : Int) h = some c ∧
          (c = true ↔ b = true ∧ (hd h (k + 1) ≠ 0 → ∀ j, (k + 1 < j ∧ j < hd h (k + 1)) ∨ (hd h (k + 1) < j ∧ j < k + 1) → Und h j (hd h (k + 1)))) := fun k hk b => by
        have hg := T.get (w := k + 1) (by omega) (by omega)
        rw [Nat.add_sub_cancel] at hg
        have hle := T.hd_le (w := k + 1) (by omega) (by omega)
        unfold laws_FnFlatOk_n8 laws_FnFlatOk_n4 laws_FnFlatOk_n7 laws_FnFlatOk_n6
        rw [wrap64 (x := ((k + 1 : Nat) : Int) - 1) (by omega) (by omega), show ((k + 1 : Nat) : Int) - 1 = (k : Int) by omega, inb_nat hk]
        simp only [Option.bind_some, hg]
        by_cases h0 : hd h (k + 1) = 0
        · rw [h0]
          refine ⟨b, ?_, ⟨fun e => ⟨e, fun x => absurd rfl x⟩, fun e => e.1⟩⟩
          have hone : ∀ s : Int, nloop (fun (s : Bool × Int) => ((laws_FnFlatOk_n5 s.1 ((k + 1 : Nat) : Int) ((0 : Nat) : Int) s.2 h).map (Sum.elim (fun (t : Bool × Int) => Sum.inl (t.1, t.2)) (fun (t : Bool) => Sum.inr t)) : Option ((Bool × Int) ⊕ (Bool)))) LL (b, s) = some b := fun s => by
            exact nloop_to (fun _ => (b, s)) 0 b (fun k hk => by omega) rfl LL (by simp only [LL]; omega)
          rw [hone]
          rfl
        · obtain ⟨lo, hlo⟩ : ∃ lo : Nat, imin ((k + 1 : Nat) : Int) ((hd h (k + 1) : Nat) : Int) = (lo : Int) := ⟨(imin ((k + 1 : Nat) : Int) ((hd h (k + 1) : Nat) : Int)).toNat, by unfold imin; split <;> omega⟩
          obtain ⟨hi, hhi⟩ : ∃ hi : Nat, imax ((k + 1 : Nat) : Int) ((hd h (k + 1) : Nat) : Int) = (hi : Int) := ⟨(imax ((k + 1 : Nat) : Int) ((hd h (k + 1) : Nat) : Int)).toNat, by unfold imax; split <;> omega⟩
          have hne := T.hd_other (w := k + 1) (by omega) (by omega)
          have hb : 1 ≤ lo ∧ lo < hi ∧ hi ≤ h.length ∧ ∀ j, ((k + 1 < j ∧ j < hd h (k + 1)) ∨ (hd h (k + 1) < j ∧ j < k + 1)) ↔ (lo < j ∧ j < hi) := by
            unfold imin at hlo
            unfold imax at hhi
            split at hlo <;> split at hhi <;> exact ⟨by omega, by omega, by omega, fun j => by omega⟩
          obtain ⟨b1, b2, b3, b4⟩ := hb
          rw [hlo, wrap64 (x := (lo : Int) + 1) (by omega) (by omega)]
          have hloop := nloop_to (body := fun (s : Bool × Int) => ((laws_FnFlatOk_n5 s.1 ((k + 1 : Nat) : Int) ((hd h (k + 1) : Nat) : Int) s.2 h).map (Sum.elim (fun (t : Bool × Int) => Sum.inl (t.1, t.2)) (fun (t : Bool) => Sum.inr t)) : Option ((Bool × Int) ⊕ (Bool))))
            (fun i => (b && (List.range i).all fun t => undB h (lo + 1 + t) (hd h (k + 1)), ((lo + 1 + i : Nat) : Int))) (hi - lo - 1) (b && (List.range (hi - lo - 1)).all fun t => undB h (lo + 1 + t) (hd h (k + 1)))
            (by
              intro i hi'
              simp only [laws_FnFlatOk_n5, hhi, implUnder_eq]
              rw [show decide (((hd h (k + 1) : Nat) : Int) > 0) = true from decide_eq_true (by omega), show decide (((lo + 1 + i : Nat) : Int) < (hi : Int)) = true from decide_eq_true (by omega), wrap64 (by omega) (by omega), un (by omega) (by omega) (by omega) hle]
              simp only [cond_true, Option.bind_some]
              rw [List.range_succ, List.all_append, List.all_cons, List.all_nil, Bool.and_true, ← Bool.and_assoc]
              cases (b && (List.range i).all fun t => undB h (lo + 1 + t) (hd h (k + 1))) <;> rfl)
            (by
              simp only [laws_FnFlatOk_n5, hhi]
              rw [show decide (((hd h (k + 1) : Nat) : Int) > 0) = true from decide_eq_true (by omega), show decide (((lo + 1 + (hi - lo - 1) : Nat) : Int) < (hi : Int)) = false from decide_eq_false (by omega)]
              rfl)
          have hl := hloop LL (by simp only [LL]; omega)
          simp only [List.range_zero, List.all_nil, Bool.and_true] at hl
          rw [show ((lo : Int) + 1) = ((lo + 1 + 0 : Nat) : Int) by omega, hl]
          refine ⟨_, rfl, ?_⟩
          rw [Bool.and_eq_true, List.all_eq_true]
          constructor
          · rintro ⟨e1, e2⟩
            refine ⟨e1, fun _ j hj => ?_⟩
            have hj' := (b4 j).1 hj
            have := e2 (j - lo - 1) (by rw [List.mem_range]; omega)
            rw [undB_iff, show lo + 1 + (j - lo - 1) = j by omega] at this
            exact this
          · rintro ⟨e1, e2⟩
            refine ⟨e1, fun t ht => ?_⟩
            rw [List.mem_range] at ht
            rw [undB_iff]
            exact e2 h0 _ ((b4 _).2 (by omega))
      have hout : ∀ (m k : Nat) (b : Bool) (N : Nat), k + m = h.length → m < N → ∃ c : Bool, nloop (fun (s : Bool × Int) => ((laws_FnFlatOk_n12 s.1 s.2 h).map (Sum.elim (fun (t : Bool × Int) => Sum.inl (t.1, t.2)) (fun (t : Bool) => Sum.inr t)) : Option ((Bool × Int) ⊕ (Bool)))) N (b, ((k + 1 : Nat) : Int)) = some c ∧
          (c = true ↔ b = true ∧ ∀ w, k + 1 ≤ w → w ≤ h.length → hd h w ≠ 0 → ∀ j, (w < j ∧ j < hd h w) ∨ (hd h w < j ∧ j < w) → Und h j (hd h w)) := by
        intro m
        induction m with
        | zero =>
          intro k b N hk hN
          obtain ⟨N', rfl⟩ : ∃ N', N = N' + 1 := ⟨N - 1, by omega⟩
          refine ⟨b, ?_, ⟨fun e => ⟨e, fun w w1 w2 => by omega⟩, fun e => e.1⟩⟩
          simp only [nloop, laws_FnFlatOk_n12, laws_FnFlatOk_n3]
          rw [show decide (((k + 1 : Nat) : Int) ≤ ((h.length : Nat) : Int)) = false from decide_eq_false (by omega)]
          rfl
        | succ m ih =>
          intro k b N hk hN
          obtain ⟨N', rfl⟩ : ∃ N', N = N' + 1 := ⟨N - 1, by omega⟩
          obtain ⟨c1, e1, f1⟩ := hinner k (by omega) b
          obtain ⟨c, e, f⟩ := ih (k + 1) c1 N' (by omega) (by omega)
          refine ⟨c, ?_, ?_⟩
          · have hbody : (laws_FnFlatOk_n12 b ((k + 1 : Nat) : Int) h) = some (.inl (c1, ((k + 1 + 1 : Nat) : Int))) := by
              unfold laws_FnFlatOk_n12 laws_FnFlatOk_n3 laws_FnFlatOk_n11 laws_FnFlatOk_n9 laws_FnFlatOk_n10
              rw [show decide (((k + 1 : Nat) : Int) ≤ ((h.length : Nat) : Int)) = true from decide_eq_true (by omega), e1, wrap64 (by omega) (by omega)]
              rfl
            simp only [nloop, hbody, Option.map_some, Sum.elim_inl, Option.bind_some]
            exact e
          · rw [f, f1]
            constructor
            · rintro ⟨⟨x1, x2⟩, x3⟩
              refine ⟨x1, fun w w1 w2 => ?_⟩
              by_cases ew : w = k + 1
              · rw [ew]; exact x2
              · exact x3 w (by omega) w2
            · rintro ⟨x1, x2⟩
              exact ⟨⟨x1, x2 (k + 1) (by omega) (by omega)⟩, fun w w1 w2 => x2 w (by omega) w2⟩
      obtain ⟨c, e, f⟩ := hout h.length 0 true LL (by omega) (by simp only [LL]; omega)
      have hc : c = flatI h := by
        unfold flatI
        rw [hT, Bool.true_and, Bool.eq_iff_iff, f, flatB_iff, flat_below T]
        constructor
        · rintro ⟨_, x⟩ w j w1 w2 w3 hj
          exact x w (by omega) w2 w3 j hj
        · intro x
          exact ⟨rfl, fun w w1 w2 w3 j hj => x w j (by omega) w2 w3 hj⟩
      simp only [Option.bind_some]
      rw [show (1 : Int) = ((0 + 1 : Nat) : Int) from rfl, e]
      simp only [Option.map_some, Option.bind_some]
      unfold laws_FnFlatOk_n16
      have c1 : crossingsI h = (crossN h : Int) := by unfold crossingsI; rw [hT]; rfl
      simp only [implCrossings_eq, implRoot_eq, rootI, hT, if_true, Option.bind_some, implCovered_eq, c1]
      have hcv : coveredI h ((top h : Nat) : Int) = covB h ((top h : Nat) : Int) := by unfold coveredI; rw [wu (top_pos h) T.top_le]; rfl
      rw [hcv, hc]
      have hfl : flatI h = flatB h := by unfold flatI; rw [hT]; rfl
      rw [hfl]
      have hp := plan_iff T
      cases hb : flatB h with
      | true =>
        obtain ⟨p1, p2⟩ := hp.1 (flatB_iff.1 hb)
        rw [p1, p2]; rfl
      | false =>
        by_cases z : crossN h = 0
        · have : covB h ((top h : Nat) : Int) = true := by
            cases hcb : covB h ((top h : Nat) : Int) with
            | true => rfl
            | false => rw [flatB_iff.2 (hp.2 ⟨z, hcb⟩)] at hb; cases hb
          rw [z, this]; rfl
        · rw [show ((((crossN h : Nat) : Int)) == 0) = false from beq_eq_false_iff_ne.2 (by omega)]
          rfl
  · rw [show decide (((x.length : Nat) : Int) > 1048576) = true from decide_eq_true (by omega)]
    rfl

end Go.Rv
