/-
  Plain mathematics: what the model's machine with a stack says. Conditions: none.
-/
import Derived.Test.YtiokdplogigiaaaMgl
set_option linter.unusedVariables false
set_option linter.unusedSimpArgs false
namespace Go.Rv

def bytesN (mv : ByteArray) : List Nat := mv.data.toList.map fun b => b.toNat
theorem bytesN_length (mv : ByteArray) : (bytesN mv).length = mv.size := by rw [bytesN, List.length_map, Array.length_toList]; rfl

theorem bidx_ok {mv : ByteArray} {k : Nat} (hk : k < mv.size) : bidx mv (k : Int) = some ((((bytesN mv)[k]'(by rw [bytesN_length]; exact hk) : Nat)) : Int) := by
  unfold bidx
  rw [if_pos (by omega)]
  simp only [Int.toNat_natCast]
  rw [getElem?_pos mv k hk]
  simp only [Option.map_some, bytesN, List.getElem_map]
  rfl

/-- What the machine says. -/
def runI (x : Int) (mv : ByteArray) : Bool × List Int :=
  if 1 ≤ x ∧ x ≤ 8 then
    match runM x.toNat (bytesN mv) (1, [], List.replicate x.toNat 0) with
    | some d => if d.2.1.length = 1 ∧ x.toNat < d.1 then (true, d.2.2) else (false, [])
    | none => (false, [])
  else (false, [])

theorem l6_loop {n : Nat} {mv : ByteArray} (n8 : n ≤ 8) (hs : mv.size ≤ 1099511627776) : ∀ (r k i : Nat) (st : List Nat) (h : List Int) (N : Nat), k + r = mv.size → RInv n (i, st, h) → r < N →
    nloop (fun (s : Int × Int × (List Int) × (List Int)) => ((spec_l6Run_n13 (n : Int) mv s.1 s.2.1 s.2.2.1 s.2.2.2).map (Sum.elim (fun (t : Int × Int × (List Int) × (List Int)) => Sum.inl (t.1, t.2.1, t.2.2.1, t.2.2.2)) (Sum.elim (fun (t : Bool × (List Int)) => Sum.inr (Sum.inl t)) (fun (t : Int × (List Int) × (List Int)) => Sum.inr (Sum.inr t)))) : Option ((Int × Int × (List Int) × (List Int)) ⊕ ((Bool × (List Int)) ⊕ (Int × (List Int) × (List Int)))))) N ((i : Int), (k : Int), h, convS st)
      = some (match runM n ((bytesN mv).drop k) (i, st, h) with
        | some d => Sum.inr ((d.1 : Int), d.2.2, convS d.2.1)
        | none => Sum.inl (false, ([] : List Int)))
  | 0, k, i, st, h, N, e, R, hN => by
    obtain ⟨N, rfl⟩ : ∃ N', N = N' + 1 := ⟨N - 1, by omega⟩
    rw [List.drop_eq_nil_of_le (by rw [bytesN_length]; omega)]
    unfold nloop spec_l6Run_n13 spec_l6Run_n3
    simp only
    rw [decide_eq_false (show ¬ (k : Int) < ((mv.size : Nat) : Int) by omega)]
    rfl
  | r + 1, k, i, st, h, N, e, R, hN => by
    obtain ⟨N, rfl⟩ : ∃ N', N = N' + 1 := ⟨N - 1, by omega⟩
    have hk : k < mv.size := by omega
    have hk' : k < (bytesN mv).length := by rw [bytesN_length]; exact hk
    have st1 := l6_step (bidx_ok hk) R n8
    have w : IntKind.wrap .i64 ((k : Int) + 1) = ((k + 1 : Nat) : Int) := by rw [wrap64 (by omega) (by omega)]; omega
    rw [List.drop_eq_getElem_cons hk']
    unfold nloop spec_l6Run_n13 spec_l6Run_n3 spec_l6Run_n12 spec_l6Run_n11 runM
    simp only
    rw [decide_eq_true (show (k : Int) < ((mv.size : Nat) : Int) by omega), st1, w]
    cases q : stepM n (bytesN mv)[k] (i, st, h) with
    | none => rfl
    | some d =>
      obtain ⟨i', st', h'⟩ := d
      have R' := (step_ok R q).1
      exact l6_loop n8 hs r (k + 1) i' st' h' N (by omega) R' (by omega)

theorem specRun_eq (x : Int) (mv : ByteArray) (hs : mv.size ≤ 1099511627776) : spec_RunStack x mv = some (runI x mv) := by
  unfold spec_RunStack spec_RunStack_n1 runI spec_l1In spec_l1In_n1
  by_cases h1 : 1 ≤ x
  · rw [decide_eq_true (show x ≥ 1 from h1)]
    by_cases h8 : x ≤ 8
    · rw [decide_eq_true h8, if_pos ⟨h1, h8⟩]
      obtain ⟨n, rfl⟩ : ∃ n : Nat, x = (n : Int) := ⟨x.toNat, by omega⟩
      have n8 : n ≤ 8 := by omega
      have e : spec_l6Run (n : Int) mv = spec_l6Run_n19 (n : Int) mv := by unfold spec_l6Run; rfl
      have hm : mk (n : Int) (n : Int) = some n := mk_nat (by omega)
      have l := l6_loop n8 hs mv.size 0 1 [] (List.replicate n 0) LL (by omega) (RInv.start n) (by simp only [LL]; omega)
      simp only [cond_true, Option.bind_some, Bool.not_true, cond_false, Int.toNat_natCast]
      rw [e]
      unfold spec_l6Run_n19 spec_l6Run_n1 spec_l6Run_n18 spec_l6Run_n16 spec_l6Run_n2 spec_l6Run_n15 spec_l6Run_n14
      rw [hm]
      simp only [Option.bind_some]
      have l' := l
      rw [List.drop_zero, show ((1 : Nat) : Int) = 1 from rfl, show ((0 : Nat) : Int) = 0 from rfl, show convS [] = ([] : List Int) from rfl] at l'
      rw [l']
      cases q : runM n (bytesN mv) (1, [], List.replicate n 0) with
      | none => rfl
      | some d =>
        obtain ⟨i, st, h⟩ := d
        have ls := convS_length st
        simp only [Option.map_some, Option.bind_some, Sum.elim_inr, Sum.elim_inl, spec_l6Run_n17]
        by_cases c : st.length = 1
        · rw [show ((((convS st).length : Nat) : Int) == 1) = true from beq_iff_eq.mpr (by omega)]
          by_cases g : n < i
          · rw [decide_eq_true (show (i : Int) > (n : Int) by omega), if_pos ⟨c, g⟩]
            rfl
          · rw [decide_eq_false (show ¬ (i : Int) > (n : Int) by omega), if_neg (fun z => g z.2)]
            rfl
        · rw [show ((((convS st).length : Nat) : Int) == 1) = false from beq_eq_false_iff_ne.2 (by omega), if_neg (fun z => c z.1)]
          rfl
    · rw [decide_eq_false h8, if_neg (fun z => h8 z.2)]
      rfl
  · rw [decide_eq_false (show ¬ x ≥ 1 from h1), if_neg (fun z => h1 z.1)]
    rfl

/-- Each way that the machine takes tells a flat tree. -/
theorem runI_flat {n : Nat} {mv : ByteArray} {h : List Int} (e : runI (n : Int) mv = (true, h)) : Tree h ∧ FlatP h ∧ h.length = n ∧ mv.size + 1 = 2 * n ∧ 1 ≤ n ∧ n ≤ 8 := by
  unfold runI at e
  by_cases b : 1 ≤ (n : Int) ∧ (n : Int) ≤ 8
  · rw [if_pos b] at e
    simp only [Int.toNat_natCast] at e
    cases q : runM n (bytesN mv) (1, [], List.replicate n 0) with
    | none =>
      rw [q] at e
      cases e
    | some d =>
      obtain ⟨i, st, g⟩ := d
      rw [q] at e
      simp only at e
      by_cases c : st.length = 1 ∧ n < i
      · rw [if_pos c] at e
        injection e with _ e
        subst e
        obtain ⟨r, rfl⟩ := List.length_eq_one_iff.mp c.1
        have R := (run_inv (RInv.start n) q).1
        have hi : i ≤ n + 1 := R.base.hi
        have ei : i = n + 1 := by omega
        subst ei
        have f := run_flat (by omega) q
        rw [bytesN_length] at f
        exact ⟨f.1, f.2.1, f.2.2.2.1, f.2.2.2.2, by omega, by omega⟩
      · rw [if_neg c] at e
        cases e
  · rw [if_neg b] at e
    cases e

/-- The moves by the rule tell the tree. -/
theorem runI_rule {H : List Int} (T : Tree H) {ms : List Nat} {mv : ByteArray} (e : goM H (2 * H.length - 1) (1, [], List.replicate H.length 0) = some (ms, (H.length + 1, [top H], H))) (hb : bytesN mv = ms) :
    runI (H.length : Int) mv = (true, H) := by
  have g := (go_run e).1
  have hp := T.pos
  have hle := T.le
  unfold runI
  rw [if_pos (by omega), Int.toNat_natCast, hb, g]
  simp

end Go.Rv
