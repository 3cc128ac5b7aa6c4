/-
  Plain mathematics: what the landed machine with a stack does. Conditions: none.
-/
import Derived.Test.YtiokdplogigiaaaMgr
set_option linter.unusedVariables false
set_option linter.unusedSimpArgs false
namespace Go.Rv

theorem upper_short {a b : Int} {h : List Int} {st : List Nat} (hl : st.length < 2) : impl_stackMachine_upperTwo a b h (convS st) = some (0, 0, false) := by
  have e : impl_stackMachine_upperTwo a b h (convS st) = impl_stackMachine_upperTwo_n1 (convS st) := by unfold impl_stackMachine_upperTwo; rfl
  rw [e]
  unfold impl_stackMachine_upperTwo_n1
  rw [decide_eq_true (show (((convS st).length : Nat) : Int) < 2 by rw [convS_length]; omega)]
  rfl

theorem upper_two {a b : Int} {h : List Int} {s t : Nat} {rest : List Nat} (lrest : rest.length ≤ 20) : impl_stackMachine_upperTwo a b h (convS (s :: t :: rest)) = some ((t : Int), (s : Int), true) := by
  have e : impl_stackMachine_upperTwo a b h (convS (s :: t :: rest)) = impl_stackMachine_upperTwo_n1 (convS (s :: t :: rest)) := by unfold impl_stackMachine_upperTwo; rfl
  have lr := convS_length rest
  have ec2 : convS (s :: t :: rest) = convS rest ++ [(t : Int), (s : Int)] := by rw [convS_cons, convS_cons]; simp
  have len : (convS (s :: t :: rest)).length = rest.length + 2 := by rw [convS_length]; rfl
  have g1 : (convS (s :: t :: rest))[rest.length]? = some (t : Int) := by rw [ec2, ← lr]; simp
  have g2 : (convS (s :: t :: rest))[rest.length + 1]? = some (s : Int) := by rw [ec2, ← lr]; simp
  have i1 : inb (IntKind.wrap .i64 (((rest.length + 2 : Nat) : Int) - 2)) (rest.length + 2) = some rest.length := by
    rw [wrap64 (by omega) (by omega)]
    unfold inb
    rw [if_pos (by omega), show (((rest.length + 2 : Nat) : Int) - 2).toNat = rest.length by omega]
  have i2 : inb (IntKind.wrap .i64 (((rest.length + 2 : Nat) : Int) - 1)) (rest.length + 2) = some (rest.length + 1) := by
    rw [wrap64 (by omega) (by omega)]
    unfold inb
    rw [if_pos (by omega), show (((rest.length + 2 : Nat) : Int) - 1).toNat = rest.length + 1 by omega]
  rw [e]
  unfold impl_stackMachine_upperTwo_n1
  rw [len, decide_eq_false (show ¬ ((rest.length + 2 : Nat) : Int) < 2 by omega), i1, i2]
  simp only [cond_false, Option.bind_some, g1, g2]

theorem join_ok {a g : Nat} {r d : Int} {h : List Int} {s t : Nat} {rest : List Nat} (ha : 1 ≤ a) (ha' : a ≤ h.length) (hl : h.length ≤ 100) (lrest : rest.length ≤ 20) :
    impl_stackMachine_join (a : Int) (g : Int) r d h (convS (s :: t :: rest)) = some (h.set (a - 1) (g : Int), convS (g :: rest)) := by
  have lr := convS_length rest
  have ec2 : convS (s :: t :: rest) = convS rest ++ [(t : Int), (s : Int)] := by rw [convS_cons, convS_cons]; simp
  have len : (convS (s :: t :: rest)).length = rest.length + 2 := by rw [convS_length]; rfl
  have i5 : inb (IntKind.wrap .i64 ((a : Int) - 1)) h.length = some (a - 1) := by
    rw [wrap64 (by omega) (by omega)]
    unfold inb
    rw [if_pos (by omega), show ((a : Int) - 1).toNat = a - 1 by omega]
  have i3 : inc (IntKind.wrap .i64 (((rest.length + 2 : Nat) : Int) - 2)) (rest.length + 2) = some rest.length := by
    rw [wrap64 (by omega) (by omega)]
    unfold inc
    rw [if_pos (by omega), show (((rest.length + 2 : Nat) : Int) - 2).toNat = rest.length by omega]
  have t1 : ((convS (s :: t :: rest)).drop 0).take (rest.length - 0) = convS rest := by rw [ec2, ← lr]; simp
  unfold impl_stackMachine_join impl_stackMachine_join_n1
  rw [len, i5, i3]
  simp only [Option.bind_some]
  rw [room_ok (by simp only [List.length_cons, List.length_nil]; omega), t1, convS_cons]
  rfl

theorem below_short {r d : Int} {h : List Int} {st : List Nat} (hl : st.length < 2) : impl_stackMachine_takeBelow r d h (convS st) = some (false, h, convS st) := by
  unfold impl_stackMachine_takeBelow impl_stackMachine_takeBelow_n1
  rw [upper_short hl]
  rfl

theorem above_short {r d : Int} {h : List Int} {st : List Nat} (hl : st.length < 2) : impl_stackMachine_takeUpper r d h (convS st) = some (false, h, convS st) := by
  unfold impl_stackMachine_takeUpper impl_stackMachine_takeUpper_n1
  rw [upper_short hl]
  rfl

theorem below_two {r d : Int} {h : List Int} {s t : Nat} {rest : List Nat} (ht : 1 ≤ t) (ht' : t ≤ h.length) (hl : h.length ≤ 100) (lrest : rest.length ≤ 20) :
    impl_stackMachine_takeBelow r d h (convS (s :: t :: rest)) = some (true, h.set (t - 1) (s : Int), convS (s :: rest)) := by
  unfold impl_stackMachine_takeBelow impl_stackMachine_takeBelow_n1
  rw [upper_two lrest]
  simp only [Option.bind_some, cond_true]
  rw [join_ok ht ht' hl lrest]
  rfl

theorem above_two {r d : Int} {h : List Int} {s t : Nat} {rest : List Nat} (ht : 1 ≤ s) (ht' : s ≤ h.length) (hl : h.length ≤ 100) (lrest : rest.length ≤ 20) :
    impl_stackMachine_takeUpper r d h (convS (s :: t :: rest)) = some (true, h.set (s - 1) (t : Int), convS (t :: rest)) := by
  unfold impl_stackMachine_takeUpper impl_stackMachine_takeUpper_n1
  rw [upper_two lrest]
  simp only [Option.bind_some, cond_true]
  rw [join_ok ht ht' hl lrest]
  rfl

theorem imax_nat (y z : Nat) : imax (y : Int) (z : Int) = ((max y z : Nat) : Int) := by unfold imax; split <;> omega

theorem put_more {p d : Nat} {h : List Int} {st : List Nat} (hp : p < h.length) (hl : h.length ≤ 100) (ls : st.length ≤ 100) :
    impl_stackMachine_putNext (p : Int) (d : Int) h (convS st) = some (true, ((p + 1 : Nat) : Int), ((max d (st.length + 1) : Nat) : Int), convS ((p + 1) :: st)) := by
  have w : IntKind.wrap .i64 ((p : Int) + 1) = ((p + 1 : Nat) : Int) := by rw [wrap64 (by omega) (by omega)]; omega
  have lc := convS_length st
  unfold impl_stackMachine_putNext impl_stackMachine_putNext_n1
  rw [show ((p : Int) == ((h.length : Nat) : Int)) = false from beq_eq_false_iff_ne.2 (by omega), w, ← convS_cons, room_ok (by simp only [List.length_cons, List.length_nil]; omega), convS_length, imax_nat]
  rfl

theorem put_none {p d : Int} {h : List Int} {st : List Int} (hp : p = ((h.length : Nat) : Int)) : impl_stackMachine_putNext p d h st = some (false, p, d, st) := by
  unfold impl_stackMachine_putNext impl_stackMachine_putNext_n1
  rw [show (p == ((h.length : Nat) : Int)) = true from beq_iff_eq.mpr hp]
  rfl

/-- How deep the stack is after a move, if it was so deep at most before. -/
def dstepN (m : Nat) (c : Conf) (d : Nat) : Nat := if m = 83 then max d c.2.1.length else d

theorem after_step {n k z : Nat} {mv : ByteArray} {p d : Nat} {st : List Nat} {h : List Int} {m : Nat} (hk : k < z) (hm : bidx mv (k : Int) = some (m : Int)) (R : RInv n (p + 1, st, h)) (n8 : n ≤ 8) (z8 : z ≤ 1099511627776) :
    impl_allDone_impl_stackMachine_n3 mv (z : Int) (k : Int) (p : Int) (d : Int) h (convS st) = some (match stepM n m (p + 1, st, h) with
      | some c => Sum.inl (((k + 1 : Nat) : Int), ((c.1 - 1 : Nat) : Int), ((dstepN m c d : Nat) : Int), c.2.2, convS c.2.1)
      | none => Sum.inr (Sum.inl (false, (p : Int), (d : Int), h, convS st))) := by
  have M := R.base
  have hl : h.length = n := M.len
  have hi : p + 1 ≤ n + 1 := M.hi
  obtain ⟨c0, ρ, ec, _⟩ := M.rank
  simp only at ec
  have w : IntKind.wrap .i64 ((k : Int) + 1) = ((k + 1 : Nat) : Int) := by rw [wrap64 (by omega) (by omega)]; omega
  unfold impl_allDone_impl_stackMachine_n3
  rw [decide_eq_true (show (k : Int) < (z : Int) by omega), hm, w]
  simp only [cond_true, Option.bind_some]
  by_cases m1 : m = 83
  · subst m1
    rw [show (((83 : Nat) : Int) == 83) = true from rfl]
    by_cases le : p + 1 ≤ n
    · have e : stepM n 83 (p + 1, st, h) = some (p + 1 + 1, (p + 1) :: st, h) := by simp [stepM, le]
      rw [e, put_more (by omega) (by omega) (by omega)]
      simp [dstepN]
    · have e : stepM n 83 (p + 1, st, h) = none := by simp [stepM, le]
      rw [e, put_none (by omega)]
      rfl
  · rw [show ((m : Int) == 83) = false from beq_eq_false_iff_ne.2 (by omega)]
    have dn : ∀ c : Conf, dstepN m c d = d := fun c => by unfold dstepN; rw [if_neg m1]
    match st, R, M, ec with
    | [], R, M, ec =>
      have e : stepM n m (p + 1, [], h) = none := by simp [stepM, m1]
      rw [e, below_short (by simp), above_short (by simp)]
      cases (m : Int) == 76 <;> cases (m : Int) == 82 <;> rfl
    | [s], R, M, ec =>
      have e : stepM n m (p + 1, [s], h) = none := by simp [stepM, m1]
      rw [e, below_short (by simp), above_short (by simp)]
      cases (m : Int) == 76 <;> cases (m : Int) == 82 <;> rfl
    | s :: t :: rest, R, M, ec =>
      have rs := M.rng s (List.mem_cons_self ..)
      have rt := M.rng t (List.mem_cons_of_mem _ (List.mem_cons_self ..))
      simp only at rs rt
      have lrest : rest.length ≤ 20 := by simp only [List.length_cons] at ec; omega
      by_cases m2 : m = 76
      · subst m2
        have e : stepM n 76 (p + 1, s :: t :: rest, h) = some (p + 1, s :: rest, h.set (t - 1) (s : Int)) := by simp [stepM]
        rw [e, show (((76 : Nat) : Int) == 76) = true from rfl, below_two rt.1 (by omega) (by omega) lrest]
        simp [dn]
      · rw [show ((m : Int) == 76) = false from beq_eq_false_iff_ne.2 (by omega)]
        by_cases m3 : m = 82
        · subst m3
          have e : stepM n 82 (p + 1, s :: t :: rest, h) = some (p + 1, t :: rest, h.set (s - 1) (t : Int)) := by simp [stepM]
          rw [e, show (((82 : Nat) : Int) == 82) = true from rfl, above_two rs.1 (by omega) (by omega) lrest]
          simp [dn]
        · rw [show ((m : Int) == 82) = false from beq_eq_false_iff_ne.2 (by omega)]
          have e : stepM n m (p + 1, s :: t :: rest, h) = none := by simp [stepM, m1, m2, m3]
          rw [e]
          rfl

/-- How deep the stack is at most. -/
def depM (n : Nat) : List Nat → Conf → Nat → Nat
  | [], _, d => d
  | m :: ms, c, d => match stepM n m c with
    | some c' => depM n ms c' (dstepN m c' d)
    | none => d

theorem step_pos {n m : Nat} {c c' : Conf} (hc : 1 ≤ c.1) (e : stepM n m c = some c') : 1 ≤ c'.1 := by
  obtain ⟨i, st, h⟩ := c
  unfold stepM at e
  simp only at e hc
  split at e
  · split at e
    · cases e; simp only; omega
    · cases e
  · split at e
    · split at e
      · cases e; exact hc
      · split at e
        · cases e; exact hc
        · cases e
    · cases e

theorem run_pos {n : Nat} : ∀ {ms : List Nat} {c c' : Conf}, 1 ≤ c.1 → runM n ms c = some c' → 1 ≤ c'.1
  | [], c, c', hc, e => by
    unfold runM at e
    cases e
    exact hc
  | m :: ms, c, c', hc, e => by
    unfold runM at e
    obtain ⟨d, e1, e2⟩ := Option.bind_eq_some_iff.mp e
    exact run_pos (step_pos hc e1) e2

theorem step_pos0 {n : Nat} {ms : List Nat} {c' : Conf} (e : runM n ms (1, [], List.replicate n 0) = some c') : 1 ≤ c'.1 := run_pos (Nat.le_refl _) e

/-- What the moves, one after another, lead to; a state if one of them cannot be done. -/
def doneS (n : Nat) : List Nat → Conf → Nat → (Int × Int × List Int × List Int) ⊕ (Int × Int × List Int × List Int)
  | [], c, d => Sum.inl (((c.1 - 1 : Nat) : Int), (d : Int), c.2.2, convS c.2.1)
  | m :: ms, c, d => match stepM n m c with
    | some c' => doneS n ms c' (dstepN m c' d)
    | none => Sum.inr (((c.1 - 1 : Nat) : Int), (d : Int), c.2.2, convS c.2.1)

theorem doneS_some {n : Nat} : ∀ {ms : List Nat} {c e : Conf} {d : Nat}, runM n ms c = some e → doneS n ms c d = Sum.inl (((e.1 - 1 : Nat) : Int), ((depM n ms c d : Nat) : Int), e.2.2, convS e.2.1)
  | [], c, e, d, h => by
    unfold runM at h
    cases h
    rfl
  | m :: ms, c, e, d, h => by
    unfold runM at h
    obtain ⟨c', e1, e2⟩ := Option.bind_eq_some_iff.mp h
    unfold doneS depM
    rw [e1]
    exact doneS_some e2

theorem doneS_none {n : Nat} : ∀ {ms : List Nat} {c : Conf} {d : Nat}, runM n ms c = none → ∃ q, doneS n ms c d = Sum.inr q
  | [], c, d, h => by
    unfold runM at h
    cases h
  | m :: ms, c, d, h => by
    unfold doneS
    cases e : stepM n m c with
    | none => exact ⟨_, rfl⟩
    | some c' =>
      unfold runM at h
      rw [e] at h
      exact doneS_none h

theorem done_loop {n : Nat} {mv : ByteArray} (n8 : n ≤ 8) (hs : mv.size ≤ 1099511627776) : ∀ (r k p d : Nat) (st : List Nat) (h : List Int) (N : Nat), k + r = mv.size → RInv n (p + 1, st, h) → r < N →
    nloop (fun (s : Int × Int × Int × (List Int) × (List Int)) => ((impl_allDone_impl_stackMachine_n3 mv ((mv.size : Nat) : Int) s.1 s.2.1 s.2.2.1 s.2.2.2.1 s.2.2.2.2).map (Sum.elim (fun (t : Int × Int × Int × (List Int) × (List Int)) => Sum.inl (t.1, t.2.1, t.2.2.1, t.2.2.2.1, t.2.2.2.2)) (Sum.elim (fun (t : Bool × Int × Int × (List Int) × (List Int)) => Sum.inr (Sum.inl t)) (fun (t : Int × Int × (List Int) × (List Int)) => Sum.inr (Sum.inr t)))) : Option ((Int × Int × Int × (List Int) × (List Int)) ⊕ ((Bool × Int × Int × (List Int) × (List Int)) ⊕ (Int × Int × (List Int) × (List Int)))))) N ((k : Int), (p : Int), (d : Int), h, convS st)
      = some (match doneS n ((bytesN mv).drop k) (p + 1, st, h) d with
        | .inl q => Sum.inr q
        | .inr q => Sum.inl (false, q))
  | 0, k, p, d, st, h, N, e, R, hN => by
    obtain ⟨N, rfl⟩ : ∃ N', N = N' + 1 := ⟨N - 1, by omega⟩
    rw [List.drop_eq_nil_of_le (by rw [bytesN_length]; omega)]
    unfold nloop impl_allDone_impl_stackMachine_n3
    simp only
    rw [decide_eq_false (show ¬ (k : Int) < ((mv.size : Nat) : Int) by omega)]
    rfl
  | r + 1, k, p, d, st, h, N, e, R, hN => by
    obtain ⟨N, rfl⟩ : ∃ N', N = N' + 1 := ⟨N - 1, by omega⟩
    have hk : k < mv.size := by omega
    have hk' : k < (bytesN mv).length := by rw [bytesN_length]; exact hk
    have st1 := after_step (d := d) hk (bidx_ok hk) R n8 hs
    rw [List.drop_eq_getElem_cons hk']
    unfold nloop doneS
    simp only
    rw [st1]
    cases q : stepM n (bytesN mv)[k] (p + 1, st, h) with
    | none => rfl
    | some c =>
      obtain ⟨i', st', h'⟩ := c
      have hp := step_pos (by simp only; omega) q
      simp only at hp
      obtain ⟨p', rfl⟩ : ∃ p', i' = p' + 1 := ⟨i' - 1, by omega⟩
      have R' := (step_ok R q).1
      exact done_loop n8 hs r (k + 1) p' _ st' h' N (by omega) R' (by omega)

theorem done_eq {n : Nat} {mv : ByteArray} (n8 : n ≤ 8) (hs : mv.size ≤ 1099511627776) : impl_allDone_impl_stackMachine mv 0 0 (List.replicate n 0) = some (match doneS n (bytesN mv) (1, [], List.replicate n 0) 0 with
      | .inl q => (true, q)
      | .inr q => (false, q)) := by
  have l := done_loop n8 hs mv.size 0 0 0 [] (List.replicate n 0) LL (by omega) (RInv.start n) (by simp only [LL]; omega)
  rw [List.drop_zero, show ((0 : Nat) : Int) = 0 from rfl, show convS [] = ([] : List Int) from rfl, show (0 + 1 : Nat) = 1 from rfl] at l
  unfold impl_allDone_impl_stackMachine impl_allDone_impl_stackMachine_n9 impl_allDone_impl_stackMachine_n1 impl_allDone_impl_stackMachine_n8 impl_allDone_impl_stackMachine_n6 impl_allDone_impl_stackMachine_n2 impl_allDone_impl_stackMachine_n5 impl_allDone_impl_stackMachine_n4
  simp only [Option.bind_some]
  rw [l]
  cases doneS n (bytesN mv) (1, [], List.replicate n 0) 0 with
  | inl q => rfl
  | inr q => rfl

/-- What the landed machine says. -/
def afterI (x : Int) (mv : ByteArray) : Bool × Int × Int × List Int × List Int :=
  if 1 ≤ x ∧ x ≤ 8 then
    match runM x.toNat (bytesN mv) (1, [], List.replicate x.toNat 0) with
    | some c => if c.2.1.length = 1 ∧ x.toNat < c.1 then (true, ((c.1 - 1 : Nat) : Int), ((depM x.toNat (bytesN mv) (1, [], List.replicate x.toNat 0) 0 : Nat) : Int), c.2.2, convS c.2.1) else (false, 0, 0, [], [])
    | none => (false, 0, 0, [], [])
  else (false, 0, 0, [], [])

theorem after_eq (x : Int) (mv : ByteArray) (hs : mv.size ≤ 1099511627776) : impl_afterMoves x mv = some (afterI x mv) := by
  unfold impl_afterMoves impl_afterMoves_n1 afterI
  by_cases h1 : 1 ≤ x
  · rw [decide_eq_false (show ¬ x < 1 by omega)]
    by_cases h8 : x ≤ 8
    · rw [decide_eq_false (show ¬ x > 8 by omega), if_pos ⟨h1, h8⟩]
      obtain ⟨n, rfl⟩ : ∃ n : Nat, x = (n : Int) := ⟨x.toNat, by omega⟩
      have n8 : n ≤ 8 := by omega
      have hm : mk (n : Int) (n : Int) = some n := mk_nat (by omega)
      have hnew : impl_newStackMachine (n : Int) = some (List.replicate n 0) := by
        unfold impl_newStackMachine impl_newStackMachine_n1
        rw [hm]
        rfl
      have hmo : impl_stackMoves = some () := by unfold impl_stackMoves; rfl
      simp only [cond_false, hnew, hmo, Option.bind_some, Int.toNat_natCast]
      rw [done_eq n8 hs]
      cases q : runM n (bytesN mv) (1, [], List.replicate n 0) with
      | none =>
        obtain ⟨z, hz⟩ := doneS_none (d := 0) q
        rw [hz]
        rfl
      | some c =>
        rw [doneS_some q]
        obtain ⟨i, st, h⟩ := c
        have R := (run_inv (RInv.start n) q).1
        have hi : i ≤ n + 1 := R.base.hi
        have hl : h.length = n := R.base.len
        have ls := convS_length st
        simp only [Option.bind_some, Bool.not_true, cond_false]
        have e : ∀ a b, impl_stackMachine_ended a b h (convS st) = impl_stackMachine_ended_n1 a h (convS st) := fun a b => by unfold impl_stackMachine_ended; rfl
        rw [e]
        unfold impl_stackMachine_ended_n1
        by_cases g : n < i
        · rw [show (((i - 1 : Nat) : Int) == ((h.length : Nat) : Int)) = true from beq_iff_eq.mpr (by omega)]
          by_cases c : st.length = 1
          · rw [show ((((convS st).length : Nat) : Int) == 1) = true from beq_iff_eq.mpr (by omega), if_pos ⟨c, g⟩]
            rfl
          · rw [show ((((convS st).length : Nat) : Int) == 1) = false from beq_eq_false_iff_ne.2 (by omega), if_neg (fun z => c z.1)]
            rfl
        · rw [if_neg (fun z => g z.2)]
          by_cases z : i = 0
          · subst z
            have := step_pos0 q
            omega
          · rw [show (((i - 1 : Nat) : Int) == ((h.length : Nat) : Int)) = false from beq_eq_false_iff_ne.2 (by omega)]
            rfl
    · rw [decide_eq_true (show x > 8 by omega), if_neg (fun z => h8 z.2)]
      rfl
  · rw [decide_eq_true (show x < 1 by omega), if_neg (fun z => h1 z.1)]
    rfl

theorem implRun_eq (x : Int) (mv : ByteArray) (hs : mv.size ≤ 1099511627776) : impl_RunStack x mv = some (runI x mv) := by
  unfold impl_RunStack impl_RunStack_n1
  rw [after_eq x mv hs]
  unfold afterI runI
  by_cases b : 1 ≤ x ∧ x ≤ 8
  · rw [if_pos b, if_pos b]
    cases q : runM x.toNat (bytesN mv) (1, [], List.replicate x.toNat 0) with
    | none => rfl
    | some c =>
      simp only
      by_cases e : c.2.1.length = 1 ∧ x.toNat < c.1
      · rw [if_pos e, if_pos e]
        rfl
      · rw [if_neg e, if_neg e]
        rfl
  · rw [if_neg b, if_neg b]
    rfl

/-! How deep the stack is -/

theorem dep_deep {n : Nat} : ∀ (post pre : List Nat) (c c' : Conf), runM n pre (1, [], List.replicate n 0) = some c → runM n post c = some c' → depM n post c (deepN (pre ++ post) pre.length) = deepN (pre ++ post) (pre ++ post).length
  | [], pre, c, c', _, _ => by simp [depM]
  | m :: post, pre, c, c', e, e' => by
    unfold runM at e'
    obtain ⟨d, e1, e2⟩ := Option.bind_eq_some_iff.mp e'
    have e3 : runM n (pre ++ [m]) (1, [], List.replicate n 0) = some d := by
      have key : ∀ (l : List Nat) (a b : Conf), runM n l a = some b → runM n (l ++ [m]) a = stepM n m b := by
        intro l
        induction l with
        | nil =>
          intro a b h
          unfold runM at h
          cases h
          simp only [List.nil_append]
          unfold runM
          cases stepM n m a with
          | none => rfl
          | some z => rfl
        | cons y l ih =>
          intro a b h
          unfold runM at h
          obtain ⟨z, z1, z2⟩ := Option.bind_eq_some_iff.mp h
          simp only [List.cons_append]
          unfold runM
          rw [z1]
          exact ih z b z2
      rw [key pre _ _ e, e1]
    have ih := dep_deep post (pre ++ [m]) d c' e3 e2
    have ea : pre ++ m :: post = (pre ++ [m]) ++ post := by simp
    unfold depM
    rw [e1]
    simp only
    rw [ea, ← ih]
    congr 1
    have lp : (pre ++ [m]).length = pre.length + 1 := by simp
    rw [lp]
    simp only [deepN]
    have a := run_inv (RInv.start n) e3
    have b := run_count (RInv.start n) e3
    have a2 := a.2
    simp only [List.length_nil] at a2 b
    rw [lp] at a2
    have tk : ((pre ++ [m]) ++ post).take (pre.length + 1) = pre ++ [m] := by
      rw [← lp, List.take_left]
    have lev : levN ((pre ++ [m]) ++ post) (pre.length + 1) = d.2.1.length := by
      unfold levN
      rw [tk]
      have := b.1
      omega
    rw [lev]
    unfold dstepN
    by_cases hm : m = 83
    · rw [if_pos hm]
    · rw [if_neg hm]
      have s1 := (step_ok (run_inv (RInv.start n) e).1 e1).2
      have s2 := step_count (run_inv (RInv.start n) e).1 e1
      have c1 := run_count (RInv.start n) e
      have c2 := (run_inv (RInv.start n) e).2
      simp only [List.length_nil] at c1 c2
      have cm : (pre ++ [m]).count 83 = pre.count 83 := by simp [List.count_append, List.count_singleton, hm]
      rw [cm] at b
      have lv : c.2.1.length ≤ deepN ((pre ++ [m]) ++ post) pre.length := by
        by_cases z : pre.length = 0
        · have pz := List.length_eq_zero_iff.mp z
          subst pz
          unfold runM at e
          cases e
          exact Nat.zero_le _
        · have := (deepN_le ((pre ++ [m]) ++ post) _ pre.length).mp (Nat.le_refl _) pre.length (by omega) (Nat.le_refl _)
          have tk2 : ((pre ++ [m]) ++ post).take pre.length = pre := by simp
          unfold levN at this
          rw [tk2] at this
          have := c1.1
          omega
      have := b.1
      have := c1.1
      omega

theorem implDeep_none {x : Int} {mv : ByteArray} (hs : mv.size ≤ 1099511627776) (e : (runI x mv).1 = false) : impl_DeepestStack x mv = some (-1) := by
  unfold impl_DeepestStack impl_DeepestStack_n1
  rw [after_eq x mv hs]
  have e2 : (afterI x mv).1 = false := by
    unfold runI at e
    unfold afterI
    by_cases b : 1 ≤ x ∧ x ≤ 8
    · rw [if_pos b] at e ⊢
      cases q : runM x.toNat (bytesN mv) (1, [], List.replicate x.toNat 0) with
      | none => rfl
      | some c =>
        rw [q] at e
        simp only at e ⊢
        by_cases g : c.2.1.length = 1 ∧ x.toNat < c.1
        · rw [if_pos g] at e; cases e
        · rw [if_neg g]
    · rw [if_neg b]
  simp only [Option.bind_some, e2, cond_false]

theorem implDeep_some {n r : Nat} {mv : ByteArray} {h : List Int} (n1 : 1 ≤ n) (n8 : n ≤ 8) (q : runM n (bytesN mv) (1, [], List.replicate n 0) = some (n + 1, [r], h)) :
    impl_DeepestStack (n : Int) mv = some (deepN (bytesN mv) mv.size : Int) := by
  have sz := (run_flat n8 q).2.2.2.2
  have bl := bytesN_length mv
  have dd := dep_deep (bytesN mv) [] (1, [], List.replicate n 0) _ rfl q
  rw [List.nil_append, bl] at dd
  unfold impl_DeepestStack impl_DeepestStack_n1
  rw [after_eq _ mv (by omega)]
  unfold afterI
  rw [if_pos (show 1 ≤ (n : Int) ∧ (n : Int) ≤ 8 by omega), Int.toNat_natCast, q]
  simp only
  rw [if_pos (show [r].length = 1 ∧ n < n + 1 from ⟨rfl, by omega⟩)]
  simp only [Option.bind_some, cond_true]
  rw [← dd]
  rfl

end Go.Rv
