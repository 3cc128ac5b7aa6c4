/-
  Plain mathematics: DeepestStack of the landed program and of the model. Conditions: none.
-/
import Derived.Test.YtiokdplogigiaaaMsa
set_option linter.unusedVariables false
set_option linter.unusedSimpArgs false
namespace Go.Rv

theorem runI_run {x : Int} {mv : ByteArray} {h : List Int} (e : runI x mv = (true, h)) : ∃ n r : Nat, x = (n : Int) ∧ 1 ≤ n ∧ n ≤ 8 ∧ runM n (bytesN mv) (1, [], List.replicate n 0) = some (n + 1, [r], h) := by
  unfold runI at e
  by_cases b : 1 ≤ x ∧ x ≤ 8
  · obtain ⟨n, rfl⟩ : ∃ n : Nat, x = (n : Int) := ⟨x.toNat, by omega⟩
    rw [if_pos b] at e
    simp only [Int.toNat_natCast] at e
    cases q : runM n (bytesN mv) (1, [], List.replicate n 0) with
    | none =>
      rw [q] at e
      cases e
    | some d =>
      obtain ⟨i, st, g⟩ := d
      rw [q] at e
      simp only at e
      by_cases c : st.length = 1 ∧ n < i
      · rw [if_pos c] at e
        injection e with _ e
        subst e
        obtain ⟨r, rfl⟩ := List.length_eq_one_iff.mp c.1
        have R := (run_inv (RInv.start n) q).1
        have hi : i ≤ n + 1 := R.base.hi
        have ei : i = n + 1 := by omega
        subst ei
        exact ⟨n, r, rfl, by omega, by omega, q⟩
      · rw [if_neg c] at e
        cases e
  · rw [if_neg b] at e
    cases e

theorem specDeep_none {x : Int} {mv : ByteArray} (hs : mv.size ≤ 1000) (e : (runI x mv).1 = false) : spec_DeepestStack x mv = some (-1) := by
  have u : spec_DeepestStack x mv = spec_DeepestStack_n9 x mv := by unfold spec_DeepestStack; rfl
  rw [u]
  unfold spec_DeepestStack_n9 spec_DeepestStack_n1
  rw [specRun_eq x mv (by omega)]
  simp only [Option.bind_some, e]
  rfl

theorem specDeep_some {n r : Nat} {mv : ByteArray} {h : List Int} (n8 : n ≤ 8) (e : runI (n : Int) mv = (true, h)) (q : runM n (bytesN mv) (1, [], List.replicate n 0) = some (n + 1, [r], h)) :
    spec_DeepestStack (n : Int) mv = some (deepN (bytesN mv) mv.size : Int) := by
  have u : spec_DeepestStack (n : Int) mv = spec_DeepestStack_n9 (n : Int) mv := by unfold spec_DeepestStack; rfl
  have bl := bytesN_length mv
  have sz := (run_flat n8 q).2.2.2.2
  rw [bl] at sz
  rw [u]
  unfold spec_DeepestStack_n9 spec_DeepestStack_n1
  rw [specRun_eq _ mv (by omega), e]
  simp only [Option.bind_some, Bool.not_true, cond_false, Sum.elim_inl]
  unfold spec_DeepestStack_n8 spec_DeepestStack_n6 spec_DeepestStack_n2 spec_DeepestStack_n5 spec_DeepestStack_n4 spec_DeepestStack_n7
  have dl : ∀ k, k ≤ mv.size → deepN (bytesN mv) k ≤ 8 := fun k hk => (deepN_le _ 8 k).mpr (fun j j1 j2 => by
    have := lev_ok q (k := j) (by omega)
    have cl := List.count_le_length (a := 83) (l := (bytesN mv).take j)
    rw [List.length_take] at cl
    unfold levN
    omega)
  have lp := nloop_to (body := fun (s : Int × Int × Int) => ((spec_DeepestStack_n3 mv s.1 s.2.1 s.2.2).map (Sum.elim (fun (t : Int × Int × Int) => Sum.inl (t.1, t.2.1, t.2.2)) (fun (t : Int) => Sum.inr t)) : Option ((Int × Int × Int) ⊕ (Int))))
    (fun k => ((deepN (bytesN mv) k : Int), (levN (bytesN mv) k : Int), (k : Int))) mv.size (deepN (bytesN mv) mv.size : Int)
    (by
      intro k hk
      have hk' : k < (bytesN mv).length := by omega
      have a := lev_ok q (k := k) (by omega)
      have b := lev_ok q (k := k + 1) (by omega)
      have t1 := take_one q hk'
      have d1 := dl k (by omega)
      simp only [spec_DeepestStack_n3]
      rw [decide_eq_true (show (k : Int) < ((mv.size : Nat) : Int) by omega), bidx_ok hk]
      simp only [cond_true, Option.bind_some]
      have l8 : levN (bytesN mv) k ≤ 16 := by unfold levN; omega
      rw [wrap64 (x := (levN (bytesN mv) k : Int) + 1) (by omega) (by omega), wrap64 (x := (levN (bytesN mv) k : Int) - 1) (by omega) (by omega), wrap64 (x := (k : Int) + 1) (by omega) (by omega)]
      have im (y z : Nat) : imax (y : Int) (z : Int) = ((max y z : Nat) : Int) := by unfold imax; split <;> omega
      by_cases c : (bytesN mv)[k] = 83
      · rw [if_pos c] at t1
        have l1 : (levN (bytesN mv) k : Int) + 1 = (levN (bytesN mv) (k + 1) : Int) := by unfold levN; omega
        rw [show (((((bytesN mv)[k] : Nat)) : Int) == 83) = true from beq_iff_eq.mpr (by omega), l1, im]
        rfl
      · rw [if_neg c] at t1
        have l1 : (levN (bytesN mv) k : Int) - 1 = (levN (bytesN mv) (k + 1) : Int) := by
          have := b.2.2 (by omega)
          unfold levN at this ⊢
          omega
        rw [show (((((bytesN mv)[k] : Nat)) : Int) == 83) = false from beq_eq_false_iff_ne.2 (by omega), l1, im]
        rfl)
    (by
      simp only [spec_DeepestStack_n3]
      rw [decide_eq_false (show ¬ ((mv.size : Nat) : Int) < ((mv.size : Nat) : Int) by omega)]
      rfl) LL (by simp only [LL]; omega)
  simp only [Option.bind_some]
  have lp' := lp
  rw [show deepN (bytesN mv) 0 = 0 from rfl, show levN (bytesN mv) 0 = 0 from rfl, show ((0 : Nat) : Int) = 0 from rfl] at lp'
  rw [lp']
  rfl

theorem specDeep_far {x : Int} {mv : ByteArray} (hs : mv.size ≤ 1099511627776) (e : (runI x mv).1 = false) : spec_DeepestStack x mv = some (-1) := by
  have u : spec_DeepestStack x mv = spec_DeepestStack_n9 x mv := by unfold spec_DeepestStack; rfl
  rw [u]
  unfold spec_DeepestStack_n9 spec_DeepestStack_n1
  rw [specRun_eq x mv hs]
  simp only [Option.bind_some, e]
  rfl

theorem deep_same (x : Int) (mv : ByteArray) (hs : mv.size ≤ 1099511627776) : impl_DeepestStack x mv = spec_DeepestStack x mv := by
  cases e : (runI x mv).1 with
  | false => rw [implDeep_none hs e, specDeep_far hs e]
  | true =>
    obtain ⟨h, e'⟩ : ∃ h, runI x mv = (true, h) := ⟨(runI x mv).2, Prod.ext e rfl⟩
    obtain ⟨n, r, rfl, n1, n8, q⟩ := runI_run e'
    rw [implDeep_some n1 n8 q, specDeep_some n8 e' q]

theorem deep_val (x : Int) (mv : ByteArray) (hs : mv.size ≤ 1099511627776) : ∃ v : Int, spec_DeepestStack x mv = some v := by
  cases e : (runI x mv).1 with
  | false => exact ⟨_, specDeep_far hs e⟩
  | true =>
    obtain ⟨h, e'⟩ : ∃ h, runI x mv = (true, h) := ⟨(runI x mv).2, Prod.ext e rfl⟩
    obtain ⟨n, r, rfl, n1, n8, q⟩ := runI_run e'
    exact ⟨_, specDeep_some n8 e' q⟩

end Go.Rv
