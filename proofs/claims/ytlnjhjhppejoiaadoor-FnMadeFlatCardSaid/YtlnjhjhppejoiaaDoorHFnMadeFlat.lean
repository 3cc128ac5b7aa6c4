/-
  Plain mathematics of what the law reaches. Conditions: none.
-/
import Derived.Test.YtlnjhjhppejoiaaDoorHFnMadeFlata
set_option linter.unusedVariables false
set_option linter.unusedSimpArgs false
namespace Go.Rv
theorem upper_short {a b : Int} {h : List Int} {st : List Nat} (hl : st.length < 2) : impl_stackMachine_upperTwo a b h (convS st) = some (0, 0, false) := by
  have e : impl_stackMachine_upperTwo a b h (convS st) = impl_stackMachine_upperTwo_n1 (convS st) := by unfold impl_stackMachine_upperTwo; rfl
  rw [e]
  unfold impl_stackMachine_upperTwo_n1
  rw [decide_eq_true (show (((convS st).length : Nat) : Int) < 2 by rw [convS_length]; omega)]
  rfl

theorem upper_two {a b : Int} {h : List Int} {s t : Nat} {rest : List Nat} (lrest : rest.length ≤ 20) : impl_stackMachine_upperTwo a b h (convS (s :: t :: rest)) = some ((t : Int), (s : Int), true) := by
  have e : impl_stackMachine_upperTwo a b h (convS (s :: t :: rest)) = impl_stackMachine_upperTwo_n1 (convS (s :: t :: rest)) := by unfold impl_stackMachine_upperTwo; rfl
  have lr := convS_length rest
  have ec2 : convS (s :: t :: rest) = convS rest ++ [(t : Int), (s : Int)] := by rw [convS_cons, convS_cons]; simp
  have len : (convS (s :: t :: rest)).length = rest.length + 2 := by rw [convS_length]; rfl
  have g1 : (convS (s :: t :: rest))[rest.length]? = some (t : Int) := by rw [ec2, ← lr]; simp
  have g2 : (convS (s :: t :: rest))[rest.length + 1]? = some (s : Int) := by rw [ec2, ← lr]; simp
  have i1 : inb (IntKind.wrap .i64 (((rest.length + 2 : Nat) : Int) - 2)) (rest.length + 2) = some rest.length := by
    rw [wrap64 (by omega) (by omega)]
    unfold inb
    rw [if_pos (by omega), show (((rest.length + 2 : Nat) : Int) - 2).toNat = rest.length by omega]
  have i2 : inb (IntKind.wrap .i64 (((rest.length + 2 : Nat) : Int) - 1)) (rest.length + 2) = some (rest.length + 1) := by
    rw [wrap64 (by omega) (by omega)]
    unfold inb
    rw [if_pos (by omega), show (((rest.length + 2 : Nat) : Int) - 1).toNat = rest.length + 1 by omega]
  rw [e]
  unfold impl_stackMachine_upperTwo_n1
  rw [len, decide_eq_false (show ¬ ((rest.length + 2 : Nat) : Int) < 2 by omega), i1, i2]
  simp only [cond_false, Option.bind_some, g1, g2]

theorem join_ok {a g : Nat} {r d : Int} {h : List Int} {s t : Nat} {rest : List Nat} (ha : 1 ≤ a) (ha' : a ≤ h.length) (hl : h.length ≤ 100) (lrest : rest.length ≤ 20) :
    impl_stackMachine_join (a : Int) (g : Int) r d h (convS (s :: t :: rest)) = some (h.set (a - 1) (g : Int), convS (g :: rest)) := by
  have lr := convS_length rest
  have ec2 : convS (s :: t :: rest) = convS rest ++ [(t : Int), (s : Int)] := by rw [convS_cons, convS_cons]; simp
  have len : (convS (s :: t :: rest)).length = rest.length + 2 := by rw [convS_length]; rfl
  have i5 : inb (IntKind.wrap .i64 ((a : Int) - 1)) h.length = some (a - 1) := by
    rw [wrap64 (by omega) (by omega)]
    unfold inb
    rw [if_pos (by omega), show ((a : Int) - 1).toNat = a - 1 by omega]
  have i3 : inc (IntKind.wrap .i64 (((rest.length + 2 : Nat) : Int) - 2)) (rest.length + 2) = some rest.length := by
    rw [wrap64 (by omega) (by omega)]
    unfold inc
    rw [if_pos (by omega), show (((rest.length + 2 : Nat) : Int) - 2).toNat = rest.length by omega]
  have t1 : ((convS (s :: t :: rest)).drop 0).take (rest.length - 0) = convS rest := by rw [ec2, ← lr]; simp
  unfold impl_stackMachine_join impl_stackMachine_join_n1
  rw [len, i5, i3]
  simp only [Option.bind_some]
  rw [room_ok (by simp only [List.length_cons, List.length_nil]; omega), t1, convS_cons]
  rfl

theorem below_short {r d : Int} {h : List Int} {st : List Nat} (hl : st.length < 2) : impl_stackMachine_takeBelow r d h (convS st) = some (false, h, convS st) := by
  unfold impl_stackMachine_takeBelow impl_stackMachine_takeBelow_n1
  rw [upper_short hl]
  rfl

theorem above_short {r d : Int} {h : List Int} {st : List Nat} (hl : st.length < 2) : impl_stackMachine_takeUpper r d h (convS st) = some (false, h, convS st) := by
  unfold impl_stackMachine_takeUpper impl_stackMachine_takeUpper_n1
  rw [upper_short hl]
  rfl

theorem below_two {r d : Int} {h : List Int} {s t : Nat} {rest : List Nat} (ht : 1 ≤ t) (ht' : t ≤ h.length) (hl : h.length ≤ 100) (lrest : rest.length ≤ 20) :
    impl_stackMachine_takeBelow r d h (convS (s :: t :: rest)) = some (true, h.set (t - 1) (s : Int), convS (s :: rest)) := by
  unfold impl_stackMachine_takeBelow impl_stackMachine_takeBelow_n1
  rw [upper_two lrest]
  simp only [Option.bind_some, cond_true]
  rw [join_ok ht ht' hl lrest]
  rfl

theorem above_two {r d : Int} {h : List Int} {s t : Nat} {rest : List Nat} (ht : 1 ≤ s) (ht' : s ≤ h.length) (hl : h.length ≤ 100) (lrest : rest.length ≤ 20) :
    impl_stackMachine_takeUpper r d h (convS (s :: t :: rest)) = some (true, h.set (s - 1) (t : Int), convS (t :: rest)) := by
  unfold impl_stackMachine_takeUpper impl_stackMachine_takeUpper_n1
  rw [upper_two lrest]
  simp only [Option.bind_some, cond_true]
  rw [join_ok ht ht' hl lrest]
  rfl

theorem imax_nat (y z : Nat) : imax (y : Int) (z : Int) = ((max y z : Nat) : Int) := by unfold imax; split <;> omega

theorem put_more {p d : Nat} {h : List Int} {st : List Nat} (hp : p < h.length) (hl : h.length ≤ 100) (ls : st.length ≤ 100) :
    impl_stackMachine_putNext (p : Int) (d : Int) h (convS st) = some (true, ((p + 1 : Nat) : Int), ((max d (st.length + 1) : Nat) : Int), convS ((p + 1) :: st)) := by
  have w : IntKind.wrap .i64 ((p : Int) + 1) = ((p + 1 : Nat) : Int) := by rw [wrap64 (by omega) (by omega)]; omega
  have lc := convS_length st
  unfold impl_stackMachine_putNext impl_stackMachine_putNext_n1
  rw [show ((p : Int) == ((h.length : Nat) : Int)) = false from beq_eq_false_iff_ne.2 (by omega), w, ← convS_cons, room_ok (by simp only [List.length_cons, List.length_nil]; omega), convS_length, imax_nat]
  rfl

theorem put_none {p d : Int} {h : List Int} {st : List Int} (hp : p = ((h.length : Nat) : Int)) : impl_stackMachine_putNext p d h st = some (false, p, d, st) := by
  unfold impl_stackMachine_putNext impl_stackMachine_putNext_n1
  rw [show (p == ((h.length : Nat) : Int)) = true from beq_iff_eq.mpr hp]
  rfl

/-- How deep the stack is after a move, if it was so deep at most before. -/
def dstepN (m : Nat) (c : Conf) (d : Nat) : Nat := if m = 83 then max d c.2.1.length else d

theorem after_step {n k z : Nat} {mv : ByteArray} {p d : Nat} {st : List Nat} {h : List Int} {m : Nat} (hk : k < z) (hm : bidx mv (k : Int) = some (m : Int)) (R : RInv n (p + 1, st, h)) (n8 : n ≤ 8) (z8 : z ≤ 1099511627776) :
    impl_allDone_impl_stackMachine_n3 mv (z : Int) (k : Int) (p : Int) (d : Int) h (convS st) = some (match stepM n m (p + 1, st, h) with
      | some c => Sum.inl (((k + 1 : Nat) : Int), ((c.1 - 1 : Nat) : Int), ((dstepN m c d : Nat) : Int), c.2.2, convS c.2.1)
      | none => Sum.inr (Sum.inl (false, (p : Int), (d : Int), h, convS st))) := by
  have M := R.base
  have hl : h.length = n := M.len
  have hi : p + 1 ≤ n + 1 := M.hi
  obtain ⟨c0, ρ, ec, _⟩ := M.rank
  simp only at ec
  have w : IntKind.wrap .i64 ((k : Int) + 1) = ((k + 1 : Nat) : Int) := by rw [wrap64 (by omega) (by omega)]; omega
  unfold impl_allDone_impl_stackMachine_n3
  rw [decide_eq_true (show (k : Int) < (z : Int) by omega), hm, w]
  simp only [cond_true, Option.bind_some]
  by_cases m1 : m = 83
  · subst m1
    rw [show (((83 : Nat) : Int) == 83) = true from rfl]
    by_cases le : p + 1 ≤ n
    · have e : stepM n 83 (p + 1, st, h) = some (p + 1 + 1, (p + 1) :: st, h) := by simp [stepM, le]
      rw [e, put_more (by omega) (by omega) (by omega)]
      simp [dstepN]
    · have e : stepM n 83 (p + 1, st, h) = none := by simp [stepM, le]
      rw [e, put_none (by omega)]
      rfl
  · rw [show ((m : Int) == 83) = false from beq_eq_false_iff_ne.2 (by omega)]
    have dn : ∀ c : Conf, dstepN m c d = d := fun c => by unfold dstepN; rw [if_neg m1]
    match st, R, M, ec with
    | [], R, M, ec =>
      have e : stepM n m (p + 1, [], h) = none := by simp [stepM, m1]
      rw [e, below_short (by simp), above_short (by simp)]
      cases (m : Int) == 76 <;> cases (m : Int) == 82 <;> rfl
    | [s], R, M, ec =>
      have e : stepM n m (p + 1, [s], h) = none := by simp [stepM, m1]
      rw [e, below_short (by simp), above_short (by simp)]
      cases (m : Int) == 76 <;> cases (m : Int) == 82 <;> rfl
    | s :: t :: rest, R, M, ec =>
      have rs := M.rng s (List.mem_cons_self ..)
      have rt := M.rng t (List.mem_cons_of_mem _ (List.mem_cons_self ..))
      simp only at rs rt
      have lrest : rest.length ≤ 20 := by simp only [List.length_cons] at ec; omega
      by_cases m2 : m = 76
      · subst m2
        have e : stepM n 76 (p + 1, s :: t :: rest, h) = some (p + 1, s :: rest, h.set (t - 1) (s : Int)) := by simp [stepM]
        rw [e, show (((76 : Nat) : Int) == 76) = true from rfl, below_two rt.1 (by omega) (by omega) lrest]
        simp [dn]
      · rw [show ((m : Int) == 76) = false from beq_eq_false_iff_ne.2 (by omega)]
        by_cases m3 : m = 82
        · subst m3
          have e : stepM n 82 (p + 1, s :: t :: rest, h) = some (p + 1, t :: rest, h.set (s - 1) (t : Int)) := by simp [stepM]
          rw [e, show (((82 : Nat) : Int) == 82) = true from rfl, above_two rs.1 (by omega) (by omega) lrest]
          simp [dn]
        · rw [show ((m : Int) == 82) = false from beq_eq_false_iff_ne.2 (by omega)]
          have e : stepM n m (p + 1, s :: t :: rest, h) = none := by simp [stepM, m1, m2, m3]
          rw [e]
          rfl

/-- How deep the stack is at most. -/
def depM (n : Nat) : List Nat → Conf → Nat → Nat
  | [], _, d => d
  | m :: ms, c, d => match stepM n m c with
    | some c' => depM n ms c' (dstepN m c' d)
    | none => d

theorem step_pos {n m : Nat} {c c' : Conf} (hc : 1 ≤ c.1) (e : stepM n m c = some c') : 1 ≤ c'.1 := by
  obtain ⟨i, st, h⟩ := c
  unfold stepM at e
  simp only at e hc
  split at e
  · split at e
    · cases e; simp only; omega
    · cases e
  · split at e
    · split at e
      · cases e; exact hc
      · split at e
        · cases e; exact hc
        · cases e
    · cases e

theorem run_pos {n : Nat} : ∀ {ms : List Nat} {c c' : Conf}, 1 ≤ c.1 → runM n ms c = some c' → 1 ≤ c'.1
  | [], c, c', hc, e => by
    unfold runM at e
    cases e
    exact hc
  | m :: ms, c, c', hc, e => by
    unfold runM at e
    obtain ⟨d, e1, e2⟩ := Option.bind_eq_some_iff.mp e
    exact run_pos (step_pos hc e1) e2

theorem step_pos0 {n : Nat} {ms : List Nat} {c' : Conf} (e : runM n ms (1, [], List.replicate n 0) = some c') : 1 ≤ c'.1 := run_pos (Nat.le_refl _) e

/-- What the moves, one after another, lead to; a state if one of them cannot be done. -/
def doneS (n : Nat) : List Nat → Conf → Nat → (Int × Int × List Int × List Int) ⊕ (Int × Int × List Int × List Int)
  | [], c, d => Sum.inl (((c.1 - 1 : Nat) : Int), (d : Int), c.2.2, convS c.2.1)
  | m :: ms, c, d => match stepM n m c with
    | some c' => doneS n ms c' (dstepN m c' d)
    | none => Sum.inr (((c.1 - 1 : Nat) : Int), (d : Int), c.2.2, convS c.2.1)

theorem doneS_some {n : Nat} : ∀ {ms : List Nat} {c e : Conf} {d : Nat}, runM n ms c = some e → doneS n ms c d = Sum.inl (((e.1 - 1 : Nat) : Int), ((depM n ms c d : Nat) : Int), e.2.2, convS e.2.1)
  | [], c, e, d, h => by
    unfold runM at h
    cases h
    rfl
  | m :: ms, c, e, d, h => by
    unfold runM at h
    obtain ⟨c', e1, e2⟩ := Option.bind_eq_some_iff.mp h
    unfold doneS depM
    rw [e1]
    exact doneS_some e2

theorem doneS_none {n : Nat} : ∀ {ms : List Nat} {c : Conf} {d : Nat}, runM n ms c = none → ∃ q, doneS n ms c d = Sum.inr q
  | [], c, d, h => by
    unfold runM at h
    cases h
  | m :: ms, c, d, h => by
    unfold doneS
    cases e : stepM n m c with
    | none => exact ⟨_, rfl⟩
    | some c' =>
      unfold runM at h
      rw [e] at h
      exact doneS_none h

theorem done_loop {n : Nat} {mv : ByteArray} (n8 : n ≤ 8) (hs : mv.size ≤ 1099511627776) : ∀ (r k p d : Nat) (st : List Nat) (h : List Int) (N : Nat), k + r = mv.size → RInv n (p + 1, st, h) → r < N →
    nloop (fun (s : Int × Int × Int × (List Int) × (List Int)) => ((impl_allDone_impl_stackMachine_n3 mv ((mv.size : Nat) : Int) s.1 s.2.1 s.2.2.1 s.2.2.2.1 s.2.2.2.2).map (Sum.elim (fun (t : Int × Int × Int × (List Int) × (List Int)) => Sum.inl (t.1, t.2.1, t.2.2.1, t.2.2.2.1, t.2.2.2.2)) (Sum.elim (fun (t : Bool × Int × Int × (List Int) × (List Int)) => Sum.inr (Sum.inl t)) (fun (t : Int × Int × (List Int) × (List Int)) => Sum.inr (Sum.inr t)))) : Option ((Int × Int × Int × (List Int) × (List Int)) ⊕ ((Bool × Int × Int × (List Int) × (List Int)) ⊕ (Int × Int × (List Int) × (List Int)))))) N ((k : Int), (p : Int), (d : Int), h, convS st)
      = some (match doneS n ((bytesN mv).drop k) (p + 1, st, h) d with
        | .inl q => Sum.inr q
        | .inr q => Sum.inl (false, q))
  | 0, k, p, d, st, h, N, e, R, hN => by
    obtain ⟨N, rfl⟩ : ∃ N', N = N' + 1 := ⟨N - 1, by omega⟩
    rw [List.drop_eq_nil_of_le (by rw [bytesN_length]; omega)]
    unfold nloop impl_allDone_impl_stackMachine_n3
    simp only
    rw [decide_eq_false (show ¬ (k : Int) < ((mv.size : Nat) : Int) by omega)]
    rfl
  | r + 1, k, p, d, st, h, N, e, R, hN => by
    obtain ⟨N, rfl⟩ : ∃ N', N = N' + 1 := ⟨N - 1, by omega⟩
    have hk : k < mv.size := by omega
    have hk' : k < (bytesN mv).length := by rw [bytesN_length]; exact hk
    have st1 := after_step (d := d) hk (bidx_ok hk) R n8 hs
    rw [List.drop_eq_getElem_cons hk']
    unfold nloop doneS
    simp only
    rw [st1]
    cases q : stepM n (bytesN mv)[k] (p + 1, st, h) with
    | none => rfl
    | some c =>
      obtain ⟨i', st', h'⟩ := c
      have hp := step_pos (by simp only; omega) q
      simp only at hp
      obtain ⟨p', rfl⟩ : ∃ p', i' = p' + 1 := ⟨i' - 1, by omega⟩
      have R' := (step_ok R q).1
      exact done_loop n8 hs r (k + 1) p' _ st' h' N (by omega) R' (by omega)

theorem done_eq {n : Nat} {mv : ByteArray} (n8 : n ≤ 8) (hs : mv.size ≤ 1099511627776) : impl_allDone_impl_stackMachine mv 0 0 (List.replicate n 0) = some (match doneS n (bytesN mv) (1, [], List.replicate n 0) 0 with
      | .inl q => (true, q)
      | .inr q => (false, q)) := by
  have l := done_loop n8 hs mv.size 0 0 0 [] (List.replicate n 0) LL (by omega) (RInv.start n) (by simp only [LL]; omega)
  rw [List.drop_zero, show ((0 : Nat) : Int) = 0 from rfl, show convS [] = ([] : List Int) from rfl, show (0 + 1 : Nat) = 1 from rfl] at l
  unfold impl_allDone_impl_stackMachine impl_allDone_impl_stackMachine_n9 impl_allDone_impl_stackMachine_n1 impl_allDone_impl_stackMachine_n8 impl_allDone_impl_stackMachine_n6 impl_allDone_impl_stackMachine_n2 impl_allDone_impl_stackMachine_n5 impl_allDone_impl_stackMachine_n4
  simp only [Option.bind_some]
  rw [l]
  cases doneS n (bytesN mv) (1, [], List.replicate n 0) 0 with
  | inl q => rfl
  | inr q => rfl

/-- What the landed machine says. -/
def afterI (x : Int) (mv : ByteArray) : Bool × Int × Int × List Int × List Int :=
  if 1 ≤ x ∧ x ≤ 8 then
    match runM x.toNat (bytesN mv) (1, [], List.replicate x.toNat 0) with
    | some c => if c.2.1.length = 1 ∧ x.toNat < c.1 then (true, ((c.1 - 1 : Nat) : Int), ((depM x.toNat (bytesN mv) (1, [], List.replicate x.toNat 0) 0 : Nat) : Int), c.2.2, convS c.2.1) else (false, 0, 0, [], [])
    | none => (false, 0, 0, [], [])
  else (false, 0, 0, [], [])

theorem after_eq (x : Int) (mv : ByteArray) (hs : mv.size ≤ 1099511627776) : impl_afterMoves x mv = some (afterI x mv) := by
  unfold impl_afterMoves impl_afterMoves_n1 afterI
  by_cases h1 : 1 ≤ x
  · rw [decide_eq_false (show ¬ x < 1 by omega)]
    by_cases h8 : x ≤ 8
    · rw [decide_eq_false (show ¬ x > 8 by omega), if_pos ⟨h1, h8⟩]
      obtain ⟨n, rfl⟩ : ∃ n : Nat, x = (n : Int) := ⟨x.toNat, by omega⟩
      have n8 : n ≤ 8 := by omega
      have hm : mk (n : Int) (n : Int) = some n := mk_nat (by omega)
      have hnew : impl_newStackMachine (n : Int) = some (List.replicate n 0) := by
        unfold impl_newStackMachine impl_newStackMachine_n1
        rw [hm]
        rfl
      have hmo : impl_stackMoves = some () := by unfold impl_stackMoves; rfl
      simp only [cond_false, hnew, hmo, Option.bind_some, Int.toNat_natCast]
      rw [done_eq n8 hs]
      cases q : runM n (bytesN mv) (1, [], List.replicate n 0) with
      | none =>
        obtain ⟨z, hz⟩ := doneS_none (d := 0) q
        rw [hz]
        rfl
      | some c =>
        rw [doneS_some q]
        obtain ⟨i, st, h⟩ := c
        have R := (run_inv (RInv.start n) q).1
        have hi : i ≤ n + 1 := R.base.hi
        have hl : h.length = n := R.base.len
        have ls := convS_length st
        simp only [Option.bind_some, Bool.not_true, cond_false]
        have e : ∀ a b, impl_stackMachine_ended a b h (convS st) = impl_stackMachine_ended_n1 a h (convS st) := fun a b => by unfold impl_stackMachine_ended; rfl
        rw [e]
        unfold impl_stackMachine_ended_n1
        by_cases g : n < i
        · rw [show (((i - 1 : Nat) : Int) == ((h.length : Nat) : Int)) = true from beq_iff_eq.mpr (by omega)]
          by_cases c : st.length = 1
          · rw [show ((((convS st).length : Nat) : Int) == 1) = true from beq_iff_eq.mpr (by omega), if_pos ⟨c, g⟩]
            rfl
          · rw [show ((((convS st).length : Nat) : Int) == 1) = false from beq_eq_false_iff_ne.2 (by omega), if_neg (fun z => c z.1)]
            rfl
        · rw [if_neg (fun z => g z.2)]
          by_cases z : i = 0
          · subst z
            have := step_pos0 q
            omega
          · rw [show (((i - 1 : Nat) : Int) == ((h.length : Nat) : Int)) = false from beq_eq_false_iff_ne.2 (by omega)]
            rfl
    · rw [decide_eq_true (show x > 8 by omega), if_neg (fun z => h8 z.2)]
      rfl
  · rw [decide_eq_true (show x < 1 by omega), if_neg (fun z => h1 z.1)]
    rfl

theorem implRun_eq (x : Int) (mv : ByteArray) (hs : mv.size ≤ 1099511627776) : impl_RunStack x mv = some (runI x mv) := by
  unfold impl_RunStack impl_RunStack_n1
  rw [after_eq x mv hs]
  unfold afterI runI
  by_cases b : 1 ≤ x ∧ x ≤ 8
  · rw [if_pos b, if_pos b]
    cases q : runM x.toNat (bytesN mv) (1, [], List.replicate x.toNat 0) with
    | none => rfl
    | some c =>
      simp only
      by_cases e : c.2.1.length = 1 ∧ x.toNat < c.1
      · rw [if_pos e, if_pos e]
        rfl
      · rw [if_neg e, if_neg e]
        rfl
  · rw [if_neg b, if_neg b]
    rfl

theorem ba_ext {a b : ByteArray} (h : a.data.toList = b.data.toList) : a = b := by
  cases a with
  | mk x =>
    cases b with
    | mk y =>
      congr 1
      exact Array.ext' h

theorem bytes_fold (l : List Int) : ∀ (r : ByteArray), (l.foldl (fun r n => r.push (UInt8.ofNat n.toNat)) r).data.toList = r.data.toList ++ l.map (fun n => UInt8.ofNat n.toNat) := by
  induction l with
  | nil => intro r; simp
  | cons n l ih =>
    intro r
    rw [List.foldl_cons, ih]
    simp [ByteArray.push]

theorem bytesOf_data (l : List Int) : (bytesOf l).data.toList = l.map (fun n => UInt8.ofNat n.toNat) := by
  unfold bytesOf
  rw [bytes_fold]
  have e : ByteArray.empty.data.toList = [] := rfl
  rw [e, List.nil_append]

theorem bytesOf_bytesN (mv : ByteArray) : bytesOf ((bytesN mv).map fun (m : Nat) => (m : Int)) = mv := by
  refine ba_ext ?_
  rw [bytesOf_data]
  unfold bytesN
  rw [List.map_map, List.map_map]
  refine (List.map_congr_left (fun b _ => ?_)).trans (List.map_id _)
  simp

theorem maskN_inj {p q : Nat → Bool} {n : Nat} (h : maskN p n = maskN q n) {i : Nat} (hi : i < n) : p i = q i := by
  have a := maskN_bit p n i
  have b := maskN_bit q n i
  rw [h] at a
  rw [a] at b
  simpa [hi] using b

theorem headB_at {h : List Int} {w c : Nat} (c1 : 1 ≤ c) (hg : h[c - 1]? = some ((hd h c : Nat) : Int)) : headB h (w : Int) (c - 1) = decide (hd h c = w) := by
  unfold headB
  rw [List.getD_eq_getElem?_getD, hg, Option.getD_some]
  by_cases e : hd h c = w
  · rw [e]
    simp
  · rw [decide_eq_false e]
    exact beq_eq_false_iff_ne.2 (by omega)

theorem free_iff {H : List Int} (T : Tree H) {i : Nat} {st : List Nat} {h : List Int} (O : ORInv H (i, st, h)) {w : Nat} (w1 : 1 ≤ w) : maskN (headB H (w : Int)) H.length = maskN (headB h (w : Int)) H.length ↔ LeafU H i st w := by
  have M := O.o.base
  have hl : h.length = H.length := M.len
  have zero : ∀ c, 1 ≤ c → c ≤ H.length → InU i st c → hd h c = 0 := fun c c1 c2 u => by
    rcases u with u | u
    · exact (M.rng c u).2.2
    · exact O.unread c u c2
  constructor
  · intro e c c1 c2 u hc
    have a := maskN_inj e (i := c - 1) (by omega)
    rw [headB_at c1 (T.get c1 c2), headB_at c1 (M.get c1 (by omega))] at a
    rw [zero c c1 c2 u, decide_eq_true hc] at a
    have := of_decide_eq_true a.symm
    omega
  · intro L
    refine maskN_congr fun k hk => ?_
    have a := headB_at (h := H) (w := w) (c := k + 1) (by omega) (T.get (by omega) (by omega))
    have b := headB_at (h := h) (w := w) (c := k + 1) (by omega) (M.get (by omega) (by omega))
    rw [Nat.add_sub_cancel] at a b
    rw [a, b]
    by_cases u : InU i st (k + 1)
    · rw [decide_eq_false (L (k + 1) (by omega) (by omega) u), zero (k + 1) (by omega) (by omega) u, decide_eq_false (by omega)]
    · have u1 : k + 1 ∉ st := fun z => u (.inl z)
      have u2 : k + 1 < i := Nat.lt_of_not_le fun z => u (.inr z)
      rw [O.o.agree (k + 1) (by omega) u2 u1]

open Classical in
theorem may_ok {H : List Int} (T : Tree H) {i : Nat} {st : List Nat} {h : List Int} (O : ORInv H (i, st, h)) {w g : Nat} {r d : Int} {ss : List Int} (w1 : 1 ≤ w) (w2 : w ≤ H.length) :
    impl_stackMachine_ruleFor_1 (w : Int) (g : Int) H r d h ss = some (decide (hd H w = g ∧ LeafU H i st w)) := by
  have M := O.o.base
  have hl : h.length = H.length := M.len
  have le := T.le
  have ix : idx H (IntKind.wrap .i64 ((w : Int) - 1)) = some ((hd H w : Nat) : Int) := by
    rw [wrap64 (by omega) (by omega)]
    have := T.get w1 w2
    unfold idx
    rw [if_pos (by omega), show ((w : Int) - 1).toNat = w - 1 by omega]
    exact this
  have d1 := dependents_eq H (w : Int) le
  have d2 := dependents_eq h (w : Int) (by omega)
  rw [hl] at d2
  unfold impl_stackMachine_ruleFor_1 impl_stackMachine_ruleFor_1_n1
  rw [ix, d1, d2]
  simp only [Option.bind_some]
  by_cases e : hd H w = g
  · rw [show (((hd H w : Nat) : Int) == (g : Int)) = true from beq_iff_eq.mpr (by omega)]
    have fi := free_iff T O w1
    by_cases L : LeafU H i st w
    · rw [decide_eq_true ⟨e, L⟩, fi.mpr L]
      simp
    · rw [decide_eq_false (fun z => L z.2)]
      simp only [cond_true]
      congr 1
      refine beq_eq_false_iff_ne.2 fun z => L (fi.mp ?_)
      omega
  · rw [show (((hd H w : Nat) : Int) == (g : Int)) = false from beq_eq_false_iff_ne.2 (by omega), decide_eq_false (fun z => e z.1)]
    rfl

open Classical in
theorem rule_ok {H : List Int} (T : Tree H) {i : Nat} {st : List Nat} {h : List Int} (O : ORInv H (i, st, h)) {r d : Int} :
    impl_stackMachine_ruleFor_2 r d H h (convS st) = some ((ruleM H i st : Nat) : Int) := by
  have M := O.o.base
  have hi : i ≤ H.length + 1 := M.hi
  have le := T.le
  obtain ⟨c0, ρ, ec, _⟩ := M.rank
  simp only at ec
  unfold impl_stackMachine_ruleFor_2 impl_stackMachine_ruleFor_2_n1
  match st, O, M, ec with
  | [], O, M, ec =>
    rw [upper_short (by simp)]
    rfl
  | [s], O, M, ec =>
    rw [upper_short (by simp)]
    rfl
  | s :: t :: rest, O, M, ec =>
    have rs := M.rng s (List.mem_cons_self ..)
    have rt := M.rng t (List.mem_cons_of_mem _ (List.mem_cons_self ..))
    simp only at rs rt
    have lrest : rest.length ≤ 20 := by simp only [List.length_cons] at ec; omega
    rw [upper_two lrest]
    simp only [Option.bind_some, cond_true]
    rw [may_ok T O rt.1 (by omega), may_ok T O rs.1 (by omega)]
    simp only [Option.bind_some]
    unfold ruleM
    simp only
    by_cases a : hd H t = s ∧ LeafU H i (s :: t :: rest) t
    · rw [decide_eq_true a, if_pos a]
      rfl
    · rw [decide_eq_false a, if_neg a]
      by_cases b : hd H s = t ∧ LeafU H i (s :: t :: rest) s
      · rw [decide_eq_true b, if_pos b]
        rfl
      · rw [decide_eq_false b, if_neg b]
        rfl

/-- One move by the rule. -/
theorem move_ok {H : List Int} (T : Tree H) {k z : Nat} {p d : Nat} {st : List Nat} {h : List Int} {c : Conf} (O : ORInv H (p + 1, st, h)) (e : stepM H.length (ruleM H (p + 1) st) (p + 1, st, h) = some c) (hk : k < z) (z8 : z ≤ 100) {ms : List Int} (lm : ms.length ≤ 100) :
    impl_MovesFor_n3 (z : Int) (k : Int) (p : Int) (d : Int) ms h (convS st) H = some (Sum.inl (((k + 1 : Nat) : Int), ((c.1 - 1 : Nat) : Int), ((dstepN (ruleM H (p + 1) st) c d : Nat) : Int), ms ++ [((ruleM H (p + 1) st : Nat) : Int)], c.2.2, convS c.2.1)) := by
  have M := O.o.base
  have hl : h.length = H.length := M.len
  have hi : p + 1 ≤ H.length + 1 := M.hi
  have le := T.le
  obtain ⟨c0, ρ, ec, _⟩ := M.rank
  simp only at ec
  have w : IntKind.wrap .i64 ((k : Int) + 1) = ((k + 1 : Nat) : Int) := by rw [wrap64 (by omega) (by omega)]; omega
  have rm : ∀ v : Int, room (ms.length + [v].length) = some () := fun v => room_ok (by simp only [List.length_cons, List.length_nil]; omega)
  unfold impl_MovesFor_n3
  rw [decide_eq_true (show (k : Int) < (z : Int) by omega), rule_ok T O, w]
  simp only [cond_true, Option.bind_some]
  rcases rule_three H (p + 1) st with m | m | m
  · rw [m] at e ⊢
    by_cases hp : p + 1 ≤ H.length
    · have e' : stepM H.length 83 (p + 1, st, h) = some (p + 1 + 1, (p + 1) :: st, h) := by simp [stepM, hp]
      rw [e'] at e
      cases e
      rw [show (((83 : Nat) : Int) == 83) = true from rfl, put_more (by omega) (by omega) (by omega)]
      simp only [cond_true, Option.bind_some, rm]
      simp [dstepN]
    · have e' : stepM H.length 83 (p + 1, st, h) = none := by simp [stepM, hp]
      rw [e'] at e
      cases e
  · rw [m] at e ⊢
    match st, O, M, ec, e with
    | [], O, M, ec, e => simp [stepM] at e
    | [s], O, M, ec, e => simp [stepM] at e
    | s :: t :: rest, O, M, ec, e =>
      have rs := M.rng s (List.mem_cons_self ..)
      have rt := M.rng t (List.mem_cons_of_mem _ (List.mem_cons_self ..))
      simp only at rs rt
      have lrest : rest.length ≤ 20 := by simp only [List.length_cons] at ec; omega
      have e' : stepM H.length 76 (p + 1, s :: t :: rest, h) = some (p + 1, s :: rest, h.set (t - 1) (s : Int)) := by simp [stepM]
      rw [e'] at e
      cases e
      rw [show (((76 : Nat) : Int) == 83) = false from rfl, show (((76 : Nat) : Int) == 76) = true from rfl, below_two rt.1 (by omega) (by omega) lrest]
      simp only [cond_true, cond_false, Option.bind_some, rm]
      simp [dstepN]
  · rw [m] at e ⊢
    match st, O, M, ec, e with
    | [], O, M, ec, e => simp [stepM] at e
    | [s], O, M, ec, e => simp [stepM] at e
    | s :: t :: rest, O, M, ec, e =>
      have rs := M.rng s (List.mem_cons_self ..)
      have rt := M.rng t (List.mem_cons_of_mem _ (List.mem_cons_self ..))
      simp only at rs rt
      have lrest : rest.length ≤ 20 := by simp only [List.length_cons] at ec; omega
      have e' : stepM H.length 82 (p + 1, s :: t :: rest, h) = some (p + 1, t :: rest, h.set (s - 1) (t : Int)) := by simp [stepM]
      rw [e'] at e
      cases e
      rw [show (((82 : Nat) : Int) == 83) = false from rfl, show (((82 : Nat) : Int) == 76) = false from rfl, show (((82 : Nat) : Int) == 82) = true from rfl, above_two rs.1 (by omega) (by omega) lrest]
      simp only [cond_true, cond_false, Option.bind_some, rm]
      simp [dstepN]

theorem rule_loop {H : List Int} (T : Tree H) (F : FlatP H) {z : Nat} (z8 : z ≤ 100) : ∀ (r k p d : Nat) (st : List Nat) (h : List Int) (ms : List Int) (N : Nat), k + r = z → ms.length = k → ORInv H (p + 1, st, h) → 2 * (p + 1) + r = 2 * H.length + 1 + st.length → r < N → ∀ {ns : List Nat} {c : Conf}, goM H r (p + 1, st, h) = some (ns, c) →
    nloop (fun (s : Int × Int × Int × (List Int) × (List Int) × (List Int)) => ((impl_MovesFor_n3 (z : Int) s.1 s.2.1 s.2.2.1 s.2.2.2.1 s.2.2.2.2.1 s.2.2.2.2.2 H).map (Sum.elim (fun (t : Int × Int × Int × (List Int) × (List Int) × (List Int)) => Sum.inl (t.1, t.2.1, t.2.2.1, t.2.2.2.1, t.2.2.2.2.1, t.2.2.2.2.2)) (fun (t : (List Int)) => Sum.inr t)) : Option ((Int × Int × Int × (List Int) × (List Int) × (List Int)) ⊕ (((List Int)))))) N ((k : Int), (p : Int), (d : Int), ms, h, convS st)
      = some (ms ++ ns.map fun (m : Nat) => (m : Int))
  | 0, k, p, d, st, h, ms, N, e, lm, O, b, hN, ns, c, g => by
    obtain ⟨N, rfl⟩ : ∃ N', N = N' + 1 := ⟨N - 1, by omega⟩
    unfold goM at g
    simp only [Option.some.injEq, Prod.mk.injEq] at g
    obtain ⟨rfl, _⟩ := g
    unfold nloop impl_MovesFor_n3
    simp only
    rw [decide_eq_false (show ¬ (k : Int) < (z : Int) by omega)]
    simp
  | r + 1, k, p, d, st, h, ms, N, e, lm, O, b, hN, ns, c, g => by
    obtain ⟨N, rfl⟩ : ∃ N', N = N' + 1 := ⟨N - 1, by omega⟩
    have nf : ¬ ((p + 1, st, h).1 = H.length + 1 ∧ (p + 1, st, h).2.1.length = 1) := by
      rintro ⟨x, y⟩
      simp only at x y
      omega
    obtain ⟨c1, e1, O', e2⟩ := rule_step T F O nf
    unfold goM at g
    rw [e1, Option.bind_some] at g
    obtain ⟨q, g1, g2⟩ := Option.map_eq_some_iff.mp g
    injection g2 with g3 g4
    subst g3 g4
    simp only at e1 e2
    have hp := step_pos (by simp only; omega) e1
    have mo := move_ok (d := d) (k := k) (z := z) T O e1 (by omega) z8 (ms := ms) (by omega)
    unfold nloop
    simp only
    rw [mo]
    obtain ⟨i', st', h'⟩ := c1
    simp only at hp e2
    obtain ⟨p', rfl⟩ : ∃ p', i' = p' + 1 := ⟨i' - 1, by omega⟩
    have ih := rule_loop T F z8 r (k + 1) p' (dstepN (ruleM H (p + 1) st) (p' + 1, st', h') d) st' h' (ms ++ [((ruleM H (p + 1) st : Nat) : Int)]) N (by omega) (by simp [lm]) O' (by omega) (by omega) g1
    simp only [Option.map_some, Sum.elim_inl, Option.bind_some]
    rw [show p' + 1 - 1 = p' by omega, ih]
    simp

theorem implMoves_eq (h : List Int) (hl : h.length ≤ 1048576) : impl_MovesFor h = spec_MovesFor h := by
  have e : impl_MovesFor h = impl_MovesFor_n9 h := by unfold impl_MovesFor; rfl
  rw [e]
  unfold impl_MovesFor_n9 impl_MovesFor_n1
  rw [implFlat_eq]
  cases f : flatI h with
  | false =>
    rw [specMoves_none hl f]
    rfl
  | true =>
    have TF : Tree h ∧ FlatP h := by
      unfold flatI at f
      rw [Bool.and_eq_true, tree_iff, flatB_iff] at f
      exact f
    obtain ⟨T, F⟩ := TF
    obtain ⟨mv, ms, g1, g2, g3⟩ := specMoves_flat T F
    have hp := T.pos
    have le := T.le
    have hnew : impl_newStackMachine ((h.length : Nat) : Int) = some (List.replicate h.length 0) := by
      unfold impl_newStackMachine impl_newStackMachine_n1
      rw [mk_nat (by omega)]
      rfl
    have hmo : impl_stackMoves = some () := by unfold impl_stackMoves; rfl
    have hru : ∀ a b c d, impl_stackMachine_ruleFor a b c d = some () := fun a b c d => by unfold impl_stackMachine_ruleFor impl_stackMachine_ruleFor_n1; rfl
    have z : IntKind.wrap .i64 (IntKind.wrap .i64 (2 * ((h.length : Nat) : Int)) - 1) = ((2 * h.length - 1 : Nat) : Int) := by rw [wrap64 (x := 2 * ((h.length : Nat) : Int)) (by omega) (by omega), wrap64 (by omega) (by omega)]; omega
    have lp := rule_loop T F (z := 2 * h.length - 1) (by omega) (2 * h.length - 1) 0 0 0 [] (List.replicate h.length 0) [] LL (by omega) rfl ⟨OInv.start h T, (RInv.start h.length).unread⟩ (by simp only [List.length_nil]; omega) (by simp only [LL]; omega) g2
    rw [show ((0 : Nat) : Int) = 0 from rfl, show convS [] = ([] : List Int) from rfl] at lp
    simp only [Option.bind_some, Bool.not_true, cond_false, hnew, hmo, hru, Sum.elim_inl]
    unfold impl_MovesFor_n8 impl_MovesFor_n6 impl_MovesFor_n2 impl_MovesFor_n5 impl_MovesFor_n4
    simp only [Option.bind_some, z]
    rw [lp, g1]
    simp only [Option.map_some, Option.bind_some, List.nil_append, impl_MovesFor_n7, ← g3, bytesOf_bytesN]

theorem set_ok {o hs : List Int} {m : Nat} (hm : m ≤ 1000000) (ho : o.length = m) (hx : ∀ x ∈ o, 1 ≤ x ∧ x ≤ (m : Int)) (hh : hs.length = m) {k at_ : Int} (hk0 : 0 ≤ k) (hk : k < m) (ha0 : 0 ≤ at_) (ha : at_ < m) {α : Type} (f : List Int → α) :
    ∃ l : List Int, l.length = m ∧ ((inb k (List.length o)).bind fun (v638 : Nat) => (o[v638]?).bind fun (v639 : Int) => (inb at_ (List.length o)).bind fun (v641 : Nat) => (o[v641]?).bind fun (v642 : Int) => (inb (IntKind.wrap .i64 (v639 - 1)) (List.length hs)).bind fun (v643 : Nat) => some (f (hs.set v643 v642))) = some (f l) := by
  have h1 : k.toNat < o.length := by omega
  have h2 : at_.toNat < o.length := by omega
  have hr := hx o[k.toNat] (List.getElem_mem h1)
  refine ⟨hs.set (o[k.toNat] - 1).toNat o[at_.toNat], by simpa using hh, ?_⟩
  rw [inb_ok hk0 (by omega), inb_ok ha0 (by omega)]
  simp only [Option.bind_some, List.getElem?_eq_getElem h1, List.getElem?_eq_getElem h2]
  rw [wrap64 (by omega) (by omega), inb_ok (by omega) (by omega)]
  rfl

theorem tree_ok {b : List Int} (hb : Bytes b) (n : Int) (hn : n ≤ 1000) {p : Int} (hp : 0 ≤ p) (hp2 : p ≤ 999990000) :
    ∃ (q : Int) (h : List Int), spec_l20Tree n b p = some (q, h) ∧ p ≤ q ∧ q ≤ p + 300 ∧ h.length ≤ 8 := by
  unfold spec_l20Tree spec_l20Tree_n9 spec_l20Tree_n1
  obtain ⟨v, hv, va, vb, _⟩ := pick_ok hb 7 (by omega) hp (by omega)
  have vb' := vb (by omega)
  obtain ⟨m, hm⟩ : ∃ m : Nat, 1 + v = (m : Int) := ⟨(1 + v).toNat, by omega⟩
  obtain ⟨q1, o, ho, q1a, q1b, hol, hox⟩ := order_ok hb m (by omega) (p := p + 1) (by omega) (by omega)
  obtain ⟨nr, hnr, nra, _⟩ := pick_ok hb 2 (by omega) (p := q1) (by omega) (by omega)
  simp only [hv, Option.bind_some]
  rw [wrap64 (x := 1 + v) (by omega) (by omega), hm]
  simp only [ho, mk_nat (show m ≤ 1099511627776 by omega), hnr, Option.bind_some]
  unfold spec_l20Tree_n8 spec_l20Tree_n6 spec_l20Tree_n2 spec_l20Tree_n5 spec_l20Tree_n4
  obtain ⟨⟨q2, hs⟩, h1, h2, h3, h4⟩ := nloop_ex (body := fun (s : Int × Int × List Int) => ((spec_l20Tree_n3 m nr s.1 b s.2.1 o s.2.2).map (Sum.elim (fun (t : Int × Int × List Int) => Sum.inl (t.1, t.2.1, t.2.2)) (fun (t : Int × List Int) => Sum.inr t)) : Option ((Int × Int × List Int) ⊕ ((Int × List Int)))))
    (I := fun s => ∃ (k : Nat) (q : Int) (hs : List Int), s = ((k : Int), q, hs) ∧ 1 ≤ k ∧ k ≤ m ∧ q1 ≤ q ∧ q ≤ q1 + 1 + 2 * k ∧ hs.length = m) (μ := fun s => m - s.1.toNat)
    (Q := fun t => q1 ≤ t.1 ∧ t.1 ≤ q1 + 20 ∧ t.2.length = m)
    (by
      rintro _ ⟨k, q, hs, rfl, hk1, hk, qa, qb, hhs⟩
      simp only [spec_l20Tree_n3]
      by_cases hlt : k < m
      · left
        rw [show decide ((k : Int) < (m : Int)) = true from decide_eq_true (by omega), wrap64 (x := (k : Int) + 1) (by omega) (by omega), wrap64 (x := (k : Int) - 1) (by omega) (by omega)]
        obtain ⟨a, ha, aa, ab, _⟩ := pick_ok hb (k : Int) (by omega) (p := q) (by omega) (by omega)
        have ab' := ab (by omega)
        obtain ⟨c, hc, _⟩ := pick_ok hb 2 (by omega) (p := q + 1) (by omega) (by omega)
        simp only [cond_true, ha, Option.bind_some]
        have hmu : m - (((k : Int) + 1)).toNat < m - ((k : Int)).toNat := by omega
        cases hnear : (nr == 1) with
        | true =>
          simp only [cond_true, hc, Option.bind_some]
          cases h5 : (c == 0) with
          | true =>
            obtain ⟨l, hl, e⟩ := set_ok (by omega) hol hox hhs (k := (k : Int)) (at_ := (k : Int) - 1) (by omega) (by omega) (by omega) (by omega) (fun l => (Sum.inl ((k : Int) + 1, q + 1 + 1, l) : (Int × Int × List Int) ⊕ (Int × List Int)))
            simp only [cond_true]
            rw [e]
            exact ⟨_, rfl, ⟨k + 1, q + 1 + 1, l, by push_cast; rfl, by omega, by omega, by omega, by push_cast; omega, hl⟩, hmu⟩
          | false =>
            obtain ⟨l, hl, e⟩ := set_ok (by omega) hol hox hhs (k := (k : Int)) (at_ := a) (by omega) (by omega) (by omega) (by omega) (fun l => (Sum.inl ((k : Int) + 1, q + 1 + 1, l) : (Int × Int × List Int) ⊕ (Int × List Int)))
            simp only [cond_false]
            rw [e]
            exact ⟨_, rfl, ⟨k + 1, q + 1 + 1, l, by push_cast; rfl, by omega, by omega, by omega, by push_cast; omega, hl⟩, hmu⟩
        | false =>
          obtain ⟨l, hl, e⟩ := set_ok (by omega) hol hox hhs (k := (k : Int)) (at_ := a) (by omega) (by omega) (by omega) (by omega) (fun l => (Sum.inl ((k : Int) + 1, q + 1, l) : (Int × Int × List Int) ⊕ (Int × List Int)))
          simp only [cond_false]
          rw [e]
          exact ⟨_, rfl, ⟨k + 1, q + 1, l, by push_cast; rfl, by omega, by omega, by omega, by push_cast; omega, hl⟩, hmu⟩
      · right
        have e : k = m := by omega
        subst e
        rw [show decide ((k : Int) < (k : Int)) = false from decide_eq_false (by omega)]
        exact ⟨_, rfl, qa, by show q ≤ q1 + 20; omega, hhs⟩) LL (1, q1 + 1, List.replicate m 0) ⟨1, q1 + 1, _, rfl, by omega, by omega, by omega, by omega, by simp⟩ (by simp only [LL]; omega)
  rw [h1]
  simp only at h2 h3 h4
  simp only [Option.bind_some, Option.map_some]
  unfold spec_l20Tree_n7
  obtain ⟨od, q3, ho3, q3a, q3b⟩ := odd_ok hb n (by omega) (p := q2) (by omega) (by omega)
  obtain ⟨c, hc, ca, cb, _⟩ := pick_ok hb 4 (by omega) (p := q3) (by omega) (by omega)
  obtain ⟨d, hd, da, db, _⟩ := pick_ok hb (m : Int) (by omega) (p := q3 + 1) (by omega) (by omega)
  have db' := db (by omega)
  obtain ⟨e, he, ea, eb, _⟩ := pick_ok hb 3 (by omega) (p := q3 + 1) (by omega) (by omega)
  have eb' := eb (by omega)
  simp only [ho3, Option.bind_some]
  cases od with
  | false => exact ⟨_, _, rfl, by omega, by omega, by omega⟩
  | true =>
    simp only [cond_true, hc, Option.bind_some]
    cases (c == 0) with
    | true => exact ⟨_, _, rfl, by omega, by omega, by simp⟩
    | false =>
      cases (c == 1) with
      | true => exact ⟨_, _, rfl, by omega, by omega, by simp⟩
      | false =>
        cases (c == 2) with
        | true =>
          simp only [cond_true, cond_false, hd, Option.bind_some, inb_ok da (show d < (hs.length : Nat) by omega)]
          rw [room_le (by simp; omega)]
          exact ⟨_, _, rfl, by omega, by omega, by simp; omega⟩
        | false =>
          simp only [cond_true, cond_false, he, Option.bind_some]
          have hin : inb e (List.length ([1, (IntKind.wrap .i64 ((m : Int) + 1)), (-1)])) = some e.toNat := inb_ok ea (by simp; omega)
          have hin0 : inb 0 (List.length hs) = some 0 := inb_ok (by omega) (by omega)
          have hlt : e.toNat < ([1, (IntKind.wrap .i64 ((m : Int) + 1)), (-1)] : List Int).length := by simp; omega
          rw [hin]
          simp only [Option.bind_some, List.getElem?_eq_getElem hlt, hin0]
          exact ⟨_, _, rfl, by omega, by omega, by simp; omega⟩

theorem fill_ok {b : List Int} (hb : Bytes b) (m : Nat) (hm : m ≤ 20) : ∀ (f : Nat) (low high head p : Int) (hs : List Int), (high - low + 1).toNat < f → 1 ≤ low → low ≤ high + 1 → high ≤ m → hs.length = m → 0 ≤ p → p + 2 * (high - low + 1) ≤ 999980000 →
    ∃ (q : Int) (ks : List Int), spec_l20Fill_knot f low high head b p hs = some (q, ks) ∧ p ≤ q ∧ q ≤ p + 2 * (high - low + 1) ∧ (low ≤ high → q + 1 ≤ p + 2 * (high - low + 1)) ∧ ks.length = m := by
  intro f
  induction f with
  | zero => intro low high head p hs h; omega
  | succ f ih =>
    intro low high head p hs hf h1 h2 h3 hl hp hp2
    simp only [spec_l20Fill_knot]
    generalize hR : spec_l20Fill_knot f = R0 at ih
    unfold spec_l20Fill_one spec_l20Fill_n11 spec_l20Fill_n1
    by_cases h0 : low > high
    · rw [decide_eq_true h0]
      exact ⟨p, hs, rfl, by omega, by omega, by omega, hl⟩
    · rw [decide_eq_false h0]
      obtain ⟨v, hv, va, vb, _⟩ := pick_ok hb (high - low + 1) (by omega) (p := p) (by omega) (by omega)
      have vb' := vb (by omega)
      rw [wrap64 (x := high - low) (by omega) (by omega), wrap64 (x := high - low + 1) (by omega) (by omega)]
      simp only [cond_false, hv, Option.bind_some]
      rw [wrap64 (x := low + v) (by omega) (by omega), wrap64 (x := low + v - 1) (by omega) (by omega), inb_ok (by omega) (show low + v - 1 < (hs.length : Nat) by omega)]
      simp only [Option.bind_some, Sum.elim_inl]
      generalize hroot : low + v = root
      unfold spec_l20Fill_n10 spec_l20Fill_n4 spec_l20Fill_n3 spec_l20Fill_n9 spec_l20Fill_n5 spec_l20Fill_n8 spec_l20Fill_n7
      obtain ⟨⟨q1, k1⟩, e1, a1, a2, a3⟩ := nloop_ex (body := fun (s : Int × Int × (List Int)) => ((spec_l20Fill_n2 R0 root s.1 b s.2.1 s.2.2).map (Sum.elim (fun (t : Int × Int × (List Int)) => Sum.inl (t.1, t.2.1, t.2.2)) (fun (t : Int × (List Int)) => Sum.inr t)) : Option ((Int × Int × (List Int)) ⊕ ((Int × (List Int))))))
        (I := fun s => ∃ (fr q : Int) (ks : List Int), s = (fr, q, ks) ∧ low ≤ fr ∧ fr ≤ root ∧ p + 1 ≤ q ∧ q ≤ p + 1 + 2 * (fr - low) ∧ ks.length = m) (μ := fun s => (root - s.1).toNat)
        (Q := fun t => p + 1 ≤ t.1 ∧ t.1 ≤ p + 1 + 2 * (root - low) ∧ t.2.length = m)
        (by
          rintro _ ⟨fr, q, ks, rfl, i1, i2, i3, i4, i6⟩
          simp only [spec_l20Fill_n2]
          by_cases hlt : fr < root
          · left
            rw [decide_eq_true hlt, wrap64 (x := root - fr) (by omega) (by omega)]
            obtain ⟨w, hw, wa, wb, _⟩ := pick_ok hb (root - fr) (by omega) (p := q) (by omega) (by omega)
            have wb' := wb (by omega)
            simp only [cond_true, hw, Option.bind_some]
            rw [wrap64 (x := fr + w) (by omega) (by omega), wrap64 (x := fr + w + 1) (by omega) (by omega)]
            obtain ⟨q2, k2, e2, b1, b2, b4, b3⟩ := ih fr (fr + w) root (q + 1) ks (by omega) (by omega) (by omega) (by omega) i6 (by omega) (by omega)
            have b4' := b4 (by omega)
            rw [e2]
            exact ⟨(fr + w + 1, q2, k2), rfl, ⟨fr + w + 1, q2, k2, rfl, by omega, by omega, by omega, by omega, b3⟩, by simp only; omega⟩
          · right
            rw [decide_eq_false hlt]
            exact ⟨(q, ks), rfl, i3, by show q ≤ _; omega, i6⟩) LL (low, p + 1, hs.set (root - 1).toNat head) ⟨low, p + 1, _, rfl, by omega, by omega, by omega, by omega, by simpa using hl⟩ (by simp only [LL]; omega)
      simp only at a1 a2 a3
      rw [e1]
      simp only [Option.map_some, Option.bind_some]
      rw [wrap64 (x := root + 1) (by omega) (by omega)]
      obtain ⟨⟨q2, k2⟩, e2, c1, c2, c3⟩ := nloop_ex (body := fun (s : Int × Int × (List Int)) => ((spec_l20Fill_n6 R0 high root s.1 b s.2.1 s.2.2).map (Sum.elim (fun (t : Int × Int × (List Int)) => Sum.inl (t.1, t.2.1, t.2.2)) (fun (t : Int × (List Int)) => Sum.inr t)) : Option ((Int × Int × (List Int)) ⊕ ((Int × (List Int))))))
        (I := fun s => ∃ (fr q : Int) (ks : List Int), s = (fr, q, ks) ∧ root + 1 ≤ fr ∧ fr ≤ high + 1 ∧ p + 1 ≤ q ∧ q ≤ p + 1 + 2 * (root - low) + 2 * (fr - root - 1) ∧ ks.length = m) (μ := fun s => (high + 1 - s.1).toNat)
        (Q := fun t => p + 1 ≤ t.1 ∧ t.1 ≤ p + 1 + 2 * (high - low) ∧ t.2.length = m)
        (by
          rintro _ ⟨fr, q, ks, rfl, i1, i2, i3, i4, i6⟩
          simp only [spec_l20Fill_n6]
          by_cases hlt : fr ≤ high
          · left
            rw [decide_eq_true hlt, wrap64 (x := high - fr) (by omega) (by omega), wrap64 (x := high - fr + 1) (by omega) (by omega)]
            obtain ⟨w, hw, wa, wb, _⟩ := pick_ok hb (high - fr + 1) (by omega) (p := q) (by omega) (by omega)
            have wb' := wb (by omega)
            simp only [cond_true, hw, Option.bind_some]
            rw [wrap64 (x := fr + w) (by omega) (by omega), wrap64 (x := fr + w + 1) (by omega) (by omega)]
            obtain ⟨q2, k2, e2, b1, b2, b4, b3⟩ := ih fr (fr + w) root (q + 1) ks (by omega) (by omega) (by omega) (by omega) i6 (by omega) (by omega)
            have b4' := b4 (by omega)
            rw [e2]
            exact ⟨(fr + w + 1, q2, k2), rfl, ⟨fr + w + 1, q2, k2, rfl, by omega, by omega, by omega, by omega, b3⟩, by simp only; omega⟩
          · right
            rw [decide_eq_false hlt]
            exact ⟨(q, ks), rfl, i3, by show q ≤ _; omega, i6⟩) LL (root + 1, q1, k1) ⟨root + 1, q1, k1, rfl, by omega, by omega, by omega, by omega, a3⟩ (by simp only [LL]; omega)
      simp only at c1 c2 c3
      rw [e2]
      exact ⟨q2, k2, rfl, by omega, by omega, by omega, c3⟩

theorem flat_ok {b : List Int} (hb : Bytes b) (n : Int) (hn : n ≤ 1000) {p : Int} (hp : 0 ≤ p) (hp2 : p ≤ 999970000) :
    ∃ (q : Int) (h : List Int), spec_l20Flat n b p = some (q, h) ∧ p ≤ q ∧ q ≤ p + 400 ∧ h.length ≤ 8 := by
  have e : spec_l20Flat n b p = spec_l20Flat_n1 n b p := by unfold spec_l20Flat; rfl
  rw [e]
  unfold spec_l20Flat_n1
  obtain ⟨c, hc, ca, _⟩ := pick_ok hb 3 (by omega) (p := p) (by omega) (by omega)
  simp only [hc, Option.bind_some]
  cases (c == 0) with
  | true =>
    obtain ⟨q, h, hq, qa, qb, h8⟩ := tree_ok hb n hn (p := p + 1) (by omega) (by omega)
    simp only [cond_true, hq, Option.bind_some]
    exact ⟨q, h, rfl, by omega, by omega, h8⟩
  | false =>
    obtain ⟨v, hv, va, vb, _⟩ := pick_ok hb 7 (by omega) (p := p + 1) (by omega) (by omega)
    have vb' := vb (by omega)
    obtain ⟨m, hm⟩ : ∃ m : Nat, 1 + v = (m : Int) := ⟨(1 + v).toNat, by omega⟩
    simp only [cond_false, hv, Option.bind_some]
    rw [wrap64 (x := 1 + v) (by omega) (by omega), hm, mk_nat (by omega)]
    have e2 : spec_l20Fill 1 (m : Int) 0 b (p + 1 + 1) (List.replicate m 0) = spec_l20Fill_knot RR 1 (m : Int) 0 b (p + 1 + 1) (List.replicate m 0) := by unfold spec_l20Fill spec_l20Fill_fuel; rfl
    obtain ⟨q, ks, hq, qa, qb, _, hk⟩ := fill_ok hb m (by omega) RR 1 (m : Int) 0 (p + 1 + 1) (List.replicate m 0) (by simp only [RR]; omega) (by omega) (by omega) (by omega) (by simp) (by omega) (by omega)
    simp only [Option.bind_some, e2, hq]
    exact ⟨q, ks, rfl, by omega, by omega, by omega⟩

theorem wild_ok {b : List Int} (hb : Bytes b) (n : Int) (hn : n ≤ 1000) {p : Int} (hp : 0 ≤ p) (hp2 : p ≤ 999960000) :
    ∃ (q : Int) (h : List Int), spec_l20Wild n b p = some (q, h) ∧ p ≤ q ∧ q ≤ p + 1000 ∧ h.length ≤ 8 := by
  have e : spec_l20Wild n b p = spec_l20Wild_n1 n b p := by unfold spec_l20Wild; rfl
  rw [e]
  unfold spec_l20Wild_n1
  obtain ⟨q, h, hq, qa, qb, h8⟩ := tree_ok hb n hn hp (by omega)
  obtain ⟨c, hc, _⟩ := pick_ok hb 2 (by omega) (p := q) (by omega) (by omega)
  obtain ⟨d, hd, _⟩ := pick_ok hb 3 (by omega) (p := q + 1) (by omega) (by omega)
  obtain ⟨qf, hf, hqf, fa, fb, f8⟩ := flat_ok hb n hn (p := q + 1 + 1) (by omega) (by omega)
  obtain ⟨qo, o, ho, oa, ob, ol, _⟩ := order_ok hb h.length (by omega) (p := q + 1) (by omega) (by omega)
  have tail : ∃ (q' : Int) (h' : List Int), ((spec_l20Rd_pick 3 b (q + 1)).bind fun (v4853 : Int × Int) => cond ((v4853.1) == 0) ((spec_l20Flat n b (v4853.2)).bind fun (v4857 : Int × (List Int)) => some ((v4857.1), (v4857.2))) (some ((v4853.2), h))) = some (q', h') ∧ p ≤ q' ∧ q' ≤ p + 1000 ∧ h'.length ≤ 8 := by
    simp only [hd, Option.bind_some]
    cases (d == 0) with
    | true => simp only [cond_true, hqf, Option.bind_some]; exact ⟨_, _, rfl, by omega, by omega, f8⟩
    | false => exact ⟨_, _, rfl, by omega, by omega, h8⟩
  simp only [hq, hc, Option.bind_some]
  cases (c == 0) with
  | false => exact tail
  | true =>
    simp only [cond_true, specTree_eq, Option.bind_some]
    cases hT : treeB h with
    | false => exact tail
    | true =>
      simp only [cond_true, ho, Option.bind_some, specPut_eq h o (by omega)]
      refine ⟨_, _, rfl, by omega, by omega, ?_⟩
      split
      · rw [putRow_length]; omega
      · simp

/-- Trees that are drawn. -/
theorem drawn_wild (x : List Int) (w : ∀ n ∈ x, (Lit.int .u8 n).wf = true) (l : x.length ≤ maxLen) (n : Int) (hn : n ≤ 1000) :
    ∃ h : List Int, h.length ≤ 8 ∧ ((spec_l20Open x).bind fun (v : List Int) => (spec_l20Wild n v 0).bind fun (t : Int × List Int) => some (t.2)) = some h := by
  obtain ⟨b, hb, hB⟩ := open_ok x w l
  obtain ⟨q, h, hq, _, _, h8⟩ := wild_ok hB n hn (p := 0) (by omega) (by omega)
  exact ⟨h, h8, by simp [hb, hq]⟩

theorem tree0 : treeB [0] = true := by decide
theorem tree1 : treeB [1] = false := by decide
theorem alive_eq : laws_alive = some true := by
  unfold laws_alive laws_alive_n1
  simp [implTree_eq, tree0, tree1]

theorem sameInts_eq (xs ys : List Int) (h : xs.length ≤ 1048576) : laws_sameInts xs ys = some (xs == ys) := by
  have e : laws_sameInts xs ys = laws_sameInts_n9 xs ys := by unfold laws_sameInts; rfl
  rw [e]
  unfold laws_sameInts_n9 laws_sameInts_n1 laws_sameInts_n8 laws_sameInts_n6 laws_sameInts_n5 laws_sameInts_n4 laws_sameInts_n2 laws_sameInts_n7
  by_cases hl : xs.length = ys.length
  · have hloop := nloop_run (body := fun (s : Int) => ((laws_sameInts_n3 xs ys s).map (Sum.elim (fun (t : Int) => Sum.inl t) (Sum.elim (fun (t : Bool) => Sum.inr (Sum.inl t)) (fun (t : Unit) => Sum.inr (Sum.inr t)))) : Option ((Int) ⊕ (Bool ⊕ Unit))))
      (I := fun s => ∃ k : Nat, s = k ∧ k ≤ xs.length) (μ := fun s => xs.length - s.toNat) (f := fun s => cond (xs.drop s.toNat == ys.drop s.toNat) (.inr ()) (.inl false))
      (by
        rintro _ ⟨k, rfl, hk⟩
        by_cases hlt : k < xs.length
        · have hlt' : k < ys.length := by omega
          simp only [laws_sameInts_n3]
          rw [show decide ((k : Int) < ((xs.length : Nat) : Int)) = true from decide_eq_true (by omega)]
          simp only [cond_true, idx_lt hlt, idx_lt hlt', Option.bind_some, Int.toNat_natCast]
          rw [wrap64 (by omega) (by omega), drop_beq hlt hlt']
          by_cases he : xs[k] = ys[k]
          · left
            refine ⟨((k + 1 : Nat) : Int), by simp [he], ⟨k + 1, rfl, hlt⟩, by simp; omega, by simp [he]⟩
          · right
            have e1 : (xs[k] == ys[k]) = false := by simpa using he
            simp [bne, e1]
        · right
          have e : k = xs.length := by omega
          subst e
          simp only [laws_sameInts_n3]
          rw [show decide (((xs.length : Nat) : Int) < ((xs.length : Nat) : Int)) = false from decide_eq_false (by omega)]
          simp [List.drop_of_length_le (Nat.le_of_eq hl.symm)])
    rw [show ((((xs.length : Nat) : Int)) != (((ys.length : Nat) : Int))) = false by simp [hl]]
    simp only [cond_false, Option.bind_some, Sum.elim_inl]
    rw [hloop LL 0 ⟨0, by simp, by omega⟩ (by simp only [LL]; simp; omega)]
    simp only [Int.toNat_zero, List.drop_zero]
    cases xs == ys <;> rfl
  · rw [show ((((xs.length : Nat) : Int)) != (((ys.length : Nat) : Int))) = true by simp; omega]
    have : (xs == ys) = false := by
      rw [beq_eq_false_iff_ne]
      exact fun e => hl (by rw [e])
    rw [this]; rfl

end Go.Rv
