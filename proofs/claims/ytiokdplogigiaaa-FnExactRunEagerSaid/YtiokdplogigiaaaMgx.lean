/-
  Plain mathematics: what the model's eager machine says. Conditions: none.
-/
import Derived.Test.YtiokdplogigiaaaMgw
set_option linter.unusedVariables false
set_option linter.unusedSimpArgs false
namespace Go.Rv

/-- What the eager machine says. -/
def eagI (x : Int) (mv : ByteArray) : Bool × List Int :=
  if 1 ≤ x ∧ x ≤ 8 then
    match runE x.toNat (bytesN mv) (1, [], List.replicate x.toNat 0) with
    | some d => if d.2.2.count 0 = 1 ∧ x.toNat < d.1 then (true, d.2.2) else (false, [])
    | none => (false, [])
  else (false, [])

theorem negH_rep (n : Nat) : negH (List.replicate n 0) = List.replicate n (-1) := by simp [negH]

theorem e7_fill {n : Nat} (n8 : n ≤ 8) : ∀ (r k N : Nat), k + r = n → r < N →
    nloop (fun (s : Int × (List Int)) => ((spec_RunEager_n3 (n : Int) s.1 s.2).map (Sum.elim (fun (t : Int × (List Int)) => Sum.inl (t.1, t.2)) (fun (t : (List Int)) => Sum.inr t)) : Option ((Int × (List Int)) ⊕ (((List Int)))))) N ((k : Int), List.replicate k (-1))
      = some (List.replicate n (-1))
  | 0, k, N, e, hN => by
    obtain ⟨N, rfl⟩ : ∃ N', N = N' + 1 := ⟨N - 1, by omega⟩
    unfold nloop spec_RunEager_n3
    simp only
    rw [decide_eq_false (show ¬ (k : Int) < (n : Int) by omega)]
    rw [show k = n by omega]
    rfl
  | r + 1, k, N, e, hN => by
    obtain ⟨N, rfl⟩ : ∃ N', N = N' + 1 := ⟨N - 1, by omega⟩
    have w : IntKind.wrap .i64 ((k : Int) + 1) = ((k + 1 : Nat) : Int) := by rw [wrap64 (by omega) (by omega)]; omega
    have ih := e7_fill n8 r (k + 1) N (by omega) (by omega)
    unfold nloop spec_RunEager_n3
    simp only
    rw [decide_eq_true (show (k : Int) < (n : Int) by omega), room_ok (by simp; omega), w]
    simp only [cond_true, Option.bind_some, Option.map_some, Sum.elim_inl]
    rw [show List.replicate k (-1 : Int) ++ [-1] = List.replicate (k + 1) (-1) from (List.replicate_succ').symm]
    exact ih

theorem e7_loop {n : Nat} {mv : ByteArray} (n8 : n ≤ 8) (hs : mv.size ≤ 1099511627776) : ∀ (r k i : Nat) (st : List Nat) (h : List Int) (N : Nat), k + r = mv.size → EInv n (i, st, h) → r < N →
    nloop (fun (s : (List Int) × Int × Int × (List Int)) => ((spec_RunEager_n9 mv s.1 s.2.1 s.2.2.1 s.2.2.2).map (Sum.elim (fun (t : (List Int) × Int × Int × (List Int)) => Sum.inl (t.1, t.2.1, t.2.2.1, t.2.2.2)) (Sum.elim (fun (t : Bool × (List Int)) => Sum.inr (Sum.inl t)) (fun (t : Int × (List Int)) => Sum.inr (Sum.inr t)))) : Option (((List Int) × Int × Int × (List Int)) ⊕ ((Bool × (List Int)) ⊕ (Int × (List Int)))))) N (convS st, (i : Int), (k : Int), negH h)
      = some (match runE n ((bytesN mv).drop k) (i, st, h) with
        | some d => Sum.inr ((d.1 : Int), negH d.2.2)
        | none => Sum.inl (false, ([] : List Int)))
  | 0, k, i, st, h, N, e, R, hN => by
    obtain ⟨N, rfl⟩ : ∃ N', N = N' + 1 := ⟨N - 1, by omega⟩
    rw [List.drop_eq_nil_of_le (by rw [bytesN_length]; omega)]
    unfold nloop spec_RunEager_n9
    simp only
    rw [decide_eq_false (show ¬ (k : Int) < ((mv.size : Nat) : Int) by omega)]
    rfl
  | r + 1, k, i, st, h, N, e, R, hN => by
    obtain ⟨N, rfl⟩ : ∃ N', N = N' + 1 := ⟨N - 1, by omega⟩
    have hk : k < mv.size := by omega
    have hk' : k < (bytesN mv).length := by rw [bytesN_length]; exact hk
    have st1 := e7_step (m := (bytesN mv)[k]) R n8
    have w : IntKind.wrap .i64 ((k : Int) + 1) = ((k + 1 : Nat) : Int) := by rw [wrap64 (by omega) (by omega)]; omega
    rw [List.drop_eq_getElem_cons hk']
    unfold nloop spec_RunEager_n9 runE
    simp only
    rw [decide_eq_true (show (k : Int) < ((mv.size : Nat) : Int) by omega), bidx_ok hk]
    simp only [cond_true, Option.bind_some, st1, w]
    cases q : stepE n (bytesN mv)[k] (i, st, h) with
    | none => rfl
    | some d =>
      obtain ⟨i', st', h'⟩ := d
      have R' := (estep_ok R q).1
      exact e7_loop n8 hs r (k + 1) i' st' h' N (by omega) R' (by omega)

/-- The heads with 0 where there is none, one after another. -/
theorem e7_roots {n : Nat} (n8 : n ≤ 8) {h : List Int} (hl : h.length = n) (p : ∀ x ∈ h, 0 ≤ x) : ∀ (r k N : Nat), k + r = n → r < N →
    nloop (fun (s : Int × Int × (List Int)) => ((spec_RunEager_n15 (n : Int) s.1 s.2.1 s.2.2).map (Sum.elim (fun (t : Int × Int × (List Int)) => Sum.inl (t.1, t.2.1, t.2.2)) (fun (t : Int × (List Int)) => Sum.inr t)) : Option ((Int × Int × (List Int)) ⊕ ((Int × (List Int)))))) N ((((h.take k).count 0 : Nat) : Int), (k : Int), h.take k ++ negH (h.drop k))
      = some (((h.count 0 : Nat) : Int), h)
  | 0, k, N, e, hN => by
    obtain ⟨N, rfl⟩ : ∃ N', N = N' + 1 := ⟨N - 1, by omega⟩
    unfold nloop spec_RunEager_n15
    simp only
    rw [decide_eq_false (show ¬ (k : Int) < (n : Int) by omega), List.take_of_length_le (by omega), List.drop_eq_nil_of_le (by omega)]
    simp [negH]
  | r + 1, k, N, e, hN => by
    obtain ⟨N, rfl⟩ : ∃ N', N = N' + 1 := ⟨N - 1, by omega⟩
    have hk : k < h.length := by omega
    have ih := e7_roots n8 hl p r (k + 1) N (by omega) (by omega)
    have w : IntKind.wrap .i64 ((k : Int) + 1) = ((k + 1 : Nat) : Int) := by rw [wrap64 (by omega) (by omega)]; omega
    have cle : (h.take k).count 0 ≤ k := Nat.le_trans List.count_le_length (by simp; omega)
    have len : (h.take k ++ negH (h.drop k)).length = n := by
      rw [List.length_append, negH_length, List.length_take, List.length_drop]
      omega
    have ib : inb (k : Int) n = some k := by unfold inb; rw [if_pos (by omega)]; simp
    have dk : h.drop k = h[k] :: h.drop (k + 1) := List.drop_eq_getElem_cons hk
    have nk : negH (h.drop k) = (if h[k] = 0 then -1 else h[k]) :: negH (h.drop (k + 1)) := by rw [dk]; unfold negH; rw [List.map_cons]
    have lk : (h.take k).length = k := by simp; omega
    have g : (h.take k ++ negH (h.drop k))[k]? = some (if h[k] = 0 then -1 else h[k]) := by
      rw [List.getElem?_append_right (by omega), lk, Nat.sub_self, nk]
      rfl
    have pk := p _ (List.getElem_mem hk)
    have tk : h.take (k + 1) = h.take k ++ [h[k]] := List.take_succ_eq_append_getElem hk
    unfold nloop spec_RunEager_n15
    simp only
    rw [decide_eq_true (show (k : Int) < (n : Int) by omega), len, ib, w]
    simp only [cond_true, Option.bind_some, g]
    by_cases z : h[k] = 0
    · rw [if_pos z, decide_eq_true (show (-1 : Int) < 0 by omega), wrap64 (by omega) (by omega)]
      simp only [cond_true, Option.map_some, Sum.elim_inl]
      have e1 : (h.take k ++ negH (h.drop k)).set k 0 = h.take (k + 1) ++ negH (h.drop (k + 1)) := by
        rw [List.set_append_right _ _ (by omega), lk, Nat.sub_self, nk, List.set_cons_zero, tk, z, List.append_assoc, List.singleton_append]
      have e2 : (((h.take k).count 0 : Nat) : Int) + 1 = (((h.take (k + 1)).count 0 : Nat) : Int) := by
        rw [tk, z, List.count_append]
        simp
      rw [e1, e2]
      exact ih
    · rw [if_neg z, decide_eq_false (show ¬ h[k] < 0 by omega)]
      simp only [cond_false, Option.map_some, Sum.elim_inl]
      have e1 : h.take k ++ negH (h.drop k) = h.take (k + 1) ++ negH (h.drop (k + 1)) := by
        rw [nk, if_neg z, tk, List.append_assoc, List.singleton_append]
      have e2 : (((h.take k).count 0 : Nat) : Int) = (((h.take (k + 1)).count 0 : Nat) : Int) := by
        rw [tk, List.count_append]
        simp [List.count_cons, z]
      rw [e1, e2]
      exact ih

theorem specEager_eq (x : Int) (mv : ByteArray) (hs : mv.size ≤ 1099511627776) : spec_RunEager x mv = some (eagI x mv) := by
  have e : spec_RunEager x mv = spec_RunEager_n25 x mv := by unfold spec_RunEager; rfl
  rw [e]
  unfold spec_RunEager_n25 spec_RunEager_n1 eagI spec_l1In spec_l1In_n1
  by_cases h1 : 1 ≤ x
  · rw [decide_eq_true (show x ≥ 1 from h1)]
    by_cases h8 : x ≤ 8
    · rw [decide_eq_true h8, if_pos ⟨h1, h8⟩]
      obtain ⟨n, rfl⟩ : ∃ n : Nat, x = (n : Int) := ⟨x.toNat, by omega⟩
      have n8 : n ≤ 8 := by omega
      have f := e7_fill n8 n 0 LL (by omega) (by simp only [LL]; omega)
      have l := e7_loop n8 hs mv.size 0 1 [] (List.replicate n 0) LL (by omega) (EInv.start (by omega)) (by simp only [LL]; omega)
      rw [show ((0 : Nat) : Int) = 0 from rfl, show List.replicate 0 (-1 : Int) = [] from rfl] at f
      rw [List.drop_zero, show ((1 : Nat) : Int) = 1 from rfl, show ((0 : Nat) : Int) = 0 from rfl, show convS [] = ([] : List Int) from rfl, negH_rep] at l
      simp only [cond_true, Option.bind_some, Bool.not_true, cond_false, Int.toNat_natCast, Sum.elim_inl]
      unfold spec_RunEager_n24 spec_RunEager_n6 spec_RunEager_n2 spec_RunEager_n5 spec_RunEager_n4
      rw [f]
      simp only [Option.bind_some, Option.map_some]
      unfold spec_RunEager_n23 spec_RunEager_n7 spec_RunEager_n22 spec_RunEager_n12 spec_RunEager_n8 spec_RunEager_n11 spec_RunEager_n10
      rw [l]
      cases q : runE n (bytesN mv) (1, [], List.replicate n 0) with
      | none => rfl
      | some d =>
        obtain ⟨i, st, h⟩ := d
        have E := (erun_inv (EInv.start (show 1 ≤ n by omega)) q).1
        have hl : h.length = n := E.len
        have nm := E.num
        have k := e7_roots n8 hl (fun y hy => (nm y hy).1) n 0 LL (by omega) (by simp only [LL]; omega)
        rw [show ((0 : Nat) : Int) = 0 from rfl, List.take_zero, List.drop_zero, List.nil_append, show (((([] : List Int)).count 0 : Nat) : Int) = 0 from rfl] at k
        simp only [Option.bind_some, Option.map_some, Sum.elim_inr, Sum.elim_inl]
        unfold spec_RunEager_n21 spec_RunEager_n13 spec_RunEager_n20 spec_RunEager_n18 spec_RunEager_n14 spec_RunEager_n17 spec_RunEager_n16
        rw [k]
        simp only [Option.bind_some, Option.map_some]
        unfold spec_RunEager_n19
        by_cases c : h.count 0 = 1
        · rw [show (((h.count 0 : Nat) : Int) != 1) = false from bne_eq_false_iff_eq.mpr (by omega)]
          by_cases g : n < i
          · rw [decide_eq_false (show ¬ (i : Int) ≤ (n : Int) by omega), if_pos ⟨c, g⟩]
            rfl
          · rw [decide_eq_true (show (i : Int) ≤ (n : Int) by omega), if_neg (fun z => g z.2)]
            rfl
        · rw [show (((h.count 0 : Nat) : Int) != 1) = true from bne_iff_ne.2 (by omega), if_neg (fun z => c z.1)]
          rfl
    · rw [decide_eq_false h8, if_neg (fun z => h8 z.2)]
      rfl
  · rw [decide_eq_false (show ¬ x ≥ 1 from h1), if_neg (fun z => h1 z.1)]
    rfl

/-- Each way that the eager machine takes tells a flat tree. -/
theorem eagI_flat {n : Nat} {mv : ByteArray} {h : List Int} (e : eagI (n : Int) mv = (true, h)) : Tree h ∧ FlatP h ∧ h.length = n ∧ mv.size + 1 ≤ 2 * n ∧ arcsE (bytesN mv) = n - 1 ∧ putsE (bytesN mv) = n ∧ 1 ≤ n ∧ n ≤ 8 := by
  unfold eagI at e
  by_cases b : 1 ≤ (n : Int) ∧ (n : Int) ≤ 8
  · rw [if_pos b] at e
    simp only [Int.toNat_natCast] at e
    cases q : runE n (bytesN mv) (1, [], List.replicate n 0) with
    | none =>
      rw [q] at e
      cases e
    | some d =>
      obtain ⟨i, st, g⟩ := d
      rw [q] at e
      simp only at e
      by_cases c : g.count 0 = 1 ∧ n < i
      · rw [if_pos c] at e
        injection e with _ e
        subst e
        have R := (erun_inv (EInv.start (show 1 ≤ n by omega)) q).1
        have hi : i ≤ n + 1 := R.hi
        have ei : i = n + 1 := by omega
        subst ei
        have f := erun_flat (by omega) (by omega) q c.1
        rw [bytesN_length] at f
        exact ⟨f.1, f.2.1, f.2.2.1, f.2.2.2.2.2, f.2.2.2.1, f.2.2.2.2.1, by omega, by omega⟩
      · rw [if_neg c] at e
        cases e
  · rw [if_neg b] at e
    cases e

/-- The moves by the rule tell the tree. -/
theorem eagI_rule {H : List Int} (T : Tree H) {ms st : List Nat} {mv : ByteArray} {k : Nat} (e : goE H k (1, [], List.replicate H.length 0) = some (ms, (H.length + 1, st, H))) (hb : bytesN mv = ms) :
    eagI (H.length : Int) mv = (true, H) := by
  have g := goE_run e
  have hp := T.pos
  have hle := T.le
  unfold eagI
  rw [if_pos (by omega), Int.toNat_natCast, hb, g]
  simp [T.one]

end Go.Rv
