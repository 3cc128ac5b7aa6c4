/-
  Plain mathematics: what the landed eager machine says of moves, and its moves by the rule. Conditions: none.
-/
import Derived.Test.YtiokdplogigiaaaMsd
import Derived.Test.YtiokdplogigiaaaMgz
set_option linter.unusedVariables false
set_option linter.unusedSimpArgs false
namespace Go.Rv

theorem stepE_other {n m : Nat} {c : Conf} (h1 : m ≠ 83) (h2 : m ≠ 76) (h3 : m ≠ 82) (h4 : m ≠ 68) : stepE n m c = none := by
  unfold stepE
  rw [if_neg h1]
  split
  · rw [if_neg h2, if_neg h3, if_neg h4]
  · rfl

theorem eall_step {n k z o l p m : Nat} {mv : ByteArray} {d b : Int} {st : List Nat} {h ar : List Int} (hk : k < z) (hm : bidx mv (k : Int) = some (m : Int)) (S : NS (p + 1, st, h) o l b ar) (E : EInv n (p + 1, st, h)) (n8 : n ≤ 8) (z8 : z ≤ 1099511627776) :
    match stepE n m (p + 1, st, h) with
    | some c => ∃ o' l' d' b' ar', impl_allDone_impl_eagerMachine_n3 mv (z : Int) (k : Int) o l (p : Int) d b h ar = some (Sum.inl (((k + 1 : Nat) : Int), o', l', ((c.1 - 1 : Nat) : Int), d', b', c.2.2, ar')) ∧ NS c o' l' b' ar'
    | none => ∃ q, impl_allDone_impl_eagerMachine_n3 mv (z : Int) (k : Int) o l (p : Int) d b h ar = some (Sum.inr (Sum.inl (false, q))) := by
  have hl : h.length = n := E.len
  have hi : p + 1 ≤ n + 1 := E.hi
  have sh := dec_short E.dec E.rng E.i1
  simp only at sh
  have hl1 : l = st.length := S.len
  have hw : (ar.drop o).take l = convS st := S.win
  have hb : b = ((bitsB (hdB h) : Nat) : Int) := S.bits
  have w : IntKind.wrap .i64 ((k : Int) + 1) = ((k + 1 : Nat) : Int) := by rw [wrap64 (by omega) (by omega)]; omega
  unfold impl_allDone_impl_eagerMachine_n3
  rw [decide_eq_true (show (k : Int) < (z : Int) by omega), hm, w]
  simp only [cond_true, Option.bind_some]
  by_cases m1 : m = 83
  · subst m1
    rw [show (((83 : Nat) : Int) == 83) = true from rfl]
    by_cases le : p + 1 ≤ n
    · have e : stepE n 83 (p + 1, st, h) = some (p + 1 + 1, (p + 1) :: st, h) := by simp [stepE, le]
      obtain ⟨d', q⟩ := eput_ok (p := p) (d := d) (b := b) (h := h) hw hl1 (by omega) (by omega) (by omega)
      rw [e, q]
      exact ⟨_, _, _, _, _, rfl, NS.full hb⟩
    · have e : stepE n 83 (p + 1, st, h) = none := by simp [stepE, le]
      rw [e, eput_no hw hl1 (by omega) (by omega) (by omega)]
      exact ⟨_, rfl⟩
  · rw [show ((m : Int) == 83) = false from beq_eq_false_iff_ne.2 (by omega)]
    by_cases m2 : m = 76
    · subst m2
      rw [show (((76 : Nat) : Int) == 76) = true from rfl]
      have u := eunder (d := d) S E n8
      cases e : stepE n 76 (p + 1, st, h) with
      | none =>
        rw [e] at u
        simp only at u
        rw [u]
        exact ⟨_, rfl⟩
      | some c =>
        rw [e] at u
        obtain ⟨b', u1, u2, u3⟩ := u
        rw [u1]
        refine ⟨o, l - 1, d, b', ar, ?_, u2⟩
        rw [u3]
        rfl
    · rw [show ((m : Int) == 76) = false from beq_eq_false_iff_ne.2 (by omega)]
      by_cases m3 : m = 82
      · subst m3
        rw [show (((82 : Nat) : Int) == 82) = true from rfl]
        have u := eupper (d := d) S E n8
        cases e : stepE n 82 (p + 1, st, h) with
        | none =>
          rw [e] at u
          simp only at u
          rw [u]
          exact ⟨_, rfl⟩
        | some c =>
          rw [e] at u
          obtain ⟨o', l', d', b', ar', u1, u2⟩ := u
          rw [u1]
          exact ⟨o', l', d', b', ar', rfl, u2⟩
      · rw [show ((m : Int) == 82) = false from beq_eq_false_iff_ne.2 (by omega)]
        by_cases m4 : m = 68
        · subst m4
          rw [show (((68 : Nat) : Int) == 68) = true from rfl]
          have u := eheaded (d := d) S E n8
          cases e : stepE n 68 (p + 1, st, h) with
          | none =>
            rw [e] at u
            simp only at u
            rw [u]
            exact ⟨_, rfl⟩
          | some c =>
            rw [e] at u
            obtain ⟨u1, u2, u3, u4⟩ := u
            rw [u1]
            refine ⟨o, l - 1, d, b, ar, ?_, u2⟩
            rw [u3, u4]
            rfl
        · rw [show ((m : Int) == 68) = false from beq_eq_false_iff_ne.2 (by omega), stepE_other m1 m2 m3 m4]
          exact ⟨_, rfl⟩

theorem eall_loop {n : Nat} {mv : ByteArray} (n8 : n ≤ 8) (hs : mv.size ≤ 1099511627776) : ∀ (r k o l p : Nat) (d b : Int) (st : List Nat) (h ar : List Int) (N : Nat), k + r = mv.size → NS (p + 1, st, h) o l b ar → EInv n (p + 1, st, h) → r < N →
    ∃ out, nloop (fun (s : Int × Nat × Nat × Int × Int × Int × (List Int) × (List Int)) => ((impl_allDone_impl_eagerMachine_n3 mv ((mv.size : Nat) : Int) s.1 s.2.1 s.2.2.1 s.2.2.2.1 s.2.2.2.2.1 s.2.2.2.2.2.1 s.2.2.2.2.2.2.1 s.2.2.2.2.2.2.2).map (Sum.elim (fun (t : Int × Nat × Nat × Int × Int × Int × (List Int) × (List Int)) => Sum.inl (t.1, t.2.1, t.2.2.1, t.2.2.2.1, t.2.2.2.2.1, t.2.2.2.2.2.1, t.2.2.2.2.2.2.1, t.2.2.2.2.2.2.2)) (Sum.elim (fun (t : Bool × Nat × Nat × Int × Int × Int × (List Int) × (List Int)) => Sum.inr (Sum.inl t)) (fun (t : Nat × Nat × Int × Int × Int × (List Int) × (List Int)) => Sum.inr (Sum.inr t)))) : Option ((Int × Nat × Nat × Int × Int × Int × (List Int) × (List Int)) ⊕ ((Bool × Nat × Nat × Int × Int × Int × (List Int) × (List Int)) ⊕ (Nat × Nat × Int × Int × Int × (List Int) × (List Int)))))) N ((k : Int), o, l, (p : Int), d, b, h, ar) = some out ∧
      match runE n ((bytesN mv).drop k) (p + 1, st, h) with
      | some c => ∃ o' l' d' b' ar', out = Sum.inr (o', l', ((c.1 - 1 : Nat) : Int), d', b', c.2.2, ar') ∧ NS c o' l' b' ar'
      | none => ∃ q, out = Sum.inl (false, q)
  | 0, k, o, l, p, d, b, st, h, ar, N, e, S, E, hN => by
    obtain ⟨N, rfl⟩ : ∃ N', N = N' + 1 := ⟨N - 1, by omega⟩
    rw [List.drop_eq_nil_of_le (by rw [bytesN_length]; omega)]
    unfold nloop impl_allDone_impl_eagerMachine_n3
    simp only
    rw [decide_eq_false (show ¬ (k : Int) < ((mv.size : Nat) : Int) by omega)]
    exact ⟨_, rfl, o, l, d, b, ar, rfl, S⟩
  | r + 1, k, o, l, p, d, b, st, h, ar, N, e, S, E, hN => by
    obtain ⟨N, rfl⟩ : ∃ N', N = N' + 1 := ⟨N - 1, by omega⟩
    have hk : k < mv.size := by omega
    have hk' : k < (bytesN mv).length := by rw [bytesN_length]; exact hk
    have st1 := eall_step (d := d) hk (bidx_ok hk) S E n8 hs
    rw [List.drop_eq_getElem_cons hk']
    unfold nloop runE
    simp only
    cases q : stepE n (bytesN mv)[k] (p + 1, st, h) with
    | none =>
      rw [q] at st1
      obtain ⟨q1, g⟩ := st1
      rw [g]
      exact ⟨_, rfl, q1, rfl⟩
    | some c =>
      rw [q] at st1
      obtain ⟨o', l', d', b', ar', g, S'⟩ := st1
      obtain ⟨i', st', h'⟩ := c
      have E' := (estep_ok E q).1
      have i1 : 1 ≤ i' := E'.i1
      obtain ⟨p', rfl⟩ : ∃ p', i' = p' + 1 := ⟨i' - 1, by omega⟩
      rw [g]
      simp only [Option.map_some, Sum.elim_inl, Option.bind_some, Nat.add_sub_cancel]
      exact eall_loop n8 hs r (k + 1) o' l' p' d' b' st' h' ar' N (by omega) S' E' (by omega)

theorem bits_zero : ∀ n, bitsB (hdB (List.replicate n 0)) = 0 := fun n => by
  induction n with
  | zero => rfl
  | succ n ih =>
    unfold hdB at ih ⊢
    rw [List.replicate_succ, List.map_cons]
    unfold bitsB
    rw [ih]
    rfl

theorem eall_eq {n : Nat} {mv : ByteArray} (n1 : 1 ≤ n) (n8 : n ≤ 8) (hs : mv.size ≤ 1099511627776) : ∃ out, impl_allDone_impl_eagerMachine mv 0 0 0 (List.replicate n 0) = some out ∧
      match runE n (bytesN mv) (1, [], List.replicate n 0) with
      | some c => ∃ o' l' d' b' ar', out = (true, o', l', ((c.1 - 1 : Nat) : Int), d', b', c.2.2, ar') ∧ NS c o' l' b' ar'
      | none => ∃ q, out = (false, q) := by
  have z : ((bitsB (hdB (List.replicate n 0)) : Nat) : Int) = 0 := by
    rw [bits_zero]
    rfl
  obtain ⟨out, l1, l2⟩ := eall_loop n8 hs mv.size 0 0 0 0 0 0 [] (List.replicate n 0) [] LL (by omega) ⟨rfl, Nat.le_refl _, rfl, z.symm⟩ (EInv.start n1) (by simp only [LL]; omega)
  rw [List.drop_zero] at l2
  rw [show ((0 : Nat) : Int) = 0 from rfl] at l1
  have e : impl_allDone_impl_eagerMachine mv 0 0 0 (List.replicate n 0) = impl_allDone_impl_eagerMachine_n9 mv 0 0 0 (List.replicate n 0) := by unfold impl_allDone_impl_eagerMachine; rfl
  rw [e]
  unfold impl_allDone_impl_eagerMachine_n9 impl_allDone_impl_eagerMachine_n1 impl_allDone_impl_eagerMachine_n8 impl_allDone_impl_eagerMachine_n6 impl_allDone_impl_eagerMachine_n2 impl_allDone_impl_eagerMachine_n5 impl_allDone_impl_eagerMachine_n4
  simp only [Option.bind_some, List.length_nil]
  rw [l1]
  cases q : runE n (bytesN mv) (1, [], List.replicate n 0) with
  | none =>
    rw [q] at l2
    obtain ⟨q1, rfl⟩ := l2
    exact ⟨_, rfl, q1, rfl⟩
  | some c =>
    rw [q] at l2
    obtain ⟨o', l', d', b', ar', rfl, S⟩ := l2
    exact ⟨_, rfl, o', l', d', b', ar', rfl, S⟩

theorem newEager {n : Nat} (n8 : n ≤ 8) : impl_newEagerMachine (n : Int) = some (List.replicate n 0) := by
  have hnew : impl_newStackMachine (n : Int) = some (List.replicate n 0) := by
    unfold impl_newStackMachine impl_newStackMachine_n1
    rw [mk_nat (by omega)]
    rfl
  unfold impl_newEagerMachine impl_newEagerMachine_n1
  rw [hnew]
  rfl

theorem eagerMoves_eq : impl_eagerMoves = some () := by unfold impl_eagerMoves; rfl

theorem implEager_eq (x : Int) (mv : ByteArray) (hs : mv.size ≤ 1099511627776) : impl_RunEager x mv = some (eagI x mv) := by
  have e : impl_RunEager x mv = impl_RunEager_n1 x mv := by unfold impl_RunEager; rfl
  rw [e]
  unfold impl_RunEager_n1 eagI
  by_cases h1 : 1 ≤ x
  · rw [decide_eq_false (show ¬ x < 1 by omega)]
    by_cases h8 : x ≤ 8
    · rw [decide_eq_false (show ¬ x > 8 by omega), if_pos ⟨h1, h8⟩]
      obtain ⟨n, rfl⟩ : ∃ n : Nat, x = (n : Int) := ⟨x.toNat, by omega⟩
      have n8 : n ≤ 8 := by omega
      obtain ⟨out, l1, l2⟩ := eall_eq (mv := mv) (show 1 ≤ n by omega) n8 hs
      simp only [cond_false, newEager n8, eagerMoves_eq, Option.bind_some, Int.toNat_natCast]
      rw [l1]
      cases q : runE n (bytesN mv) (1, [], List.replicate n 0) with
      | none =>
        rw [q] at l2
        obtain ⟨q1, rfl⟩ := l2
        rfl
      | some c =>
        rw [q] at l2
        obtain ⟨o', l', d', b', ar', rfl, S⟩ := l2
        obtain ⟨i, st, h⟩ := c
        have E := (erun_inv (EInv.start (show 1 ≤ n by omega)) q).1
        have hl : h.length = n := E.len
        have hi : i ≤ n + 1 := E.hi
        have i1 : 1 ≤ i := E.i1
        have hb : b' = ((bitsB (hdB h) : Nat) : Int) := S.bits
        have lh := hdB_length h
        have hc := hdB_count h
        have en : impl_eagerMachine_ended o' l' ((i - 1 : Nat) : Int) d' b' h ar' = impl_eagerMachine_ended_n1 ((i - 1 : Nat) : Int) b' h := by unfold impl_eagerMachine_ended; rfl
        simp only [Option.bind_some, Bool.not_true, cond_false]
        rw [en]
        unfold impl_eagerMachine_ended_n1
        rw [hb, count_ok (hdB h) (by omega), wrap64 (x := ((h.length : Nat) : Int) - 1) (by omega) (by omega)]
        by_cases g : n < i
        · rw [show (((i - 1 : Nat) : Int) == ((h.length : Nat) : Int)) = true from beq_iff_eq.mpr (by omega)]
          by_cases c : h.count 0 = 1
          · simp only [cond_true, Option.bind_some]
            rw [show ((((hdB h).count true : Nat) : Int) == ((h.length : Nat) : Int) - 1) = true from beq_iff_eq.mpr (by omega), if_pos ⟨c, g⟩]
            rfl
          · simp only [cond_true, Option.bind_some]
            rw [show ((((hdB h).count true : Nat) : Int) == ((h.length : Nat) : Int) - 1) = false from beq_eq_false_iff_ne.2 (by omega), if_neg (fun z => c z.1)]
            rfl
        · rw [show (((i - 1 : Nat) : Int) == ((h.length : Nat) : Int)) = false from beq_eq_false_iff_ne.2 (by omega), if_neg (fun z => g z.2)]
          rfl
    · rw [decide_eq_true (show x > 8 by omega), if_neg (fun z => h8 z.2)]
      rfl
  · rw [decide_eq_true (show x < 1 by omega), if_neg (fun z => h1 z.1)]
    rfl

end Go.Rv
