/-
  Plain mathematics: the landed program's moves by the rule. Conditions: none.
-/
import Derived.Test.YtmmfabigcffdfaaDoorMsa
import Derived.Test.YtmmfabigcffdfaaDoorMgp
import Derived.Test.YtmmfabigcffdfaaDoorMu
import Derived.Test.YtmmfabigcffdfaaDoorMcb
set_option linter.unusedVariables false
set_option linter.unusedSimpArgs false
namespace Go.Rv

/-! Texts and their bytes -/

theorem ba_ext {a b : ByteArray} (h : a.data.toList = b.data.toList) : a = b := by
  cases a with
  | mk x =>
    cases b with
    | mk y =>
      congr 1
      exact Array.ext' h

theorem bytes_fold (l : List Int) : ∀ (r : ByteArray), (l.foldl (fun r n => r.push (UInt8.ofNat n.toNat)) r).data.toList = r.data.toList ++ l.map (fun n => UInt8.ofNat n.toNat) := by
  induction l with
  | nil => intro r; simp
  | cons n l ih =>
    intro r
    rw [List.foldl_cons, ih]
    simp [ByteArray.push]

theorem bytesOf_data (l : List Int) : (bytesOf l).data.toList = l.map (fun n => UInt8.ofNat n.toNat) := by
  unfold bytesOf
  rw [bytes_fold]
  have e : ByteArray.empty.data.toList = [] := rfl
  rw [e, List.nil_append]

theorem bytesOf_bytesN (mv : ByteArray) : bytesOf ((bytesN mv).map fun (m : Nat) => (m : Int)) = mv := by
  refine ba_ext ?_
  rw [bytesOf_data]
  unfold bytesN
  rw [List.map_map, List.map_map]
  refine (List.map_congr_left (fun b _ => ?_)).trans (List.map_id _)
  simp

/-! Words of which none is missing -/

theorem maskN_inj {p q : Nat → Bool} {n : Nat} (h : maskN p n = maskN q n) {i : Nat} (hi : i < n) : p i = q i := by
  have a := maskN_bit p n i
  have b := maskN_bit q n i
  rw [h] at a
  rw [a] at b
  simpa [hi] using b

theorem headB_at {h : List Int} {w c : Nat} (c1 : 1 ≤ c) (hg : h[c - 1]? = some ((hd h c : Nat) : Int)) : headB h (w : Int) (c - 1) = decide (hd h c = w) := by
  unfold headB
  rw [List.getD_eq_getElem?_getD, hg, Option.getD_some]
  by_cases e : hd h c = w
  · rw [e]
    simp
  · rw [decide_eq_false e]
    exact beq_eq_false_iff_ne.2 (by omega)

theorem free_iff {H : List Int} (T : Tree H) {i : Nat} {st : List Nat} {h : List Int} (O : ORInv H (i, st, h)) {w : Nat} (w1 : 1 ≤ w) : maskN (headB H (w : Int)) H.length = maskN (headB h (w : Int)) H.length ↔ LeafU H i st w := by
  have M := O.o.base
  have hl : h.length = H.length := M.len
  have zero : ∀ c, 1 ≤ c → c ≤ H.length → InU i st c → hd h c = 0 := fun c c1 c2 u => by
    rcases u with u | u
    · exact (M.rng c u).2.2
    · exact O.unread c u c2
  constructor
  · intro e c c1 c2 u hc
    have a := maskN_inj e (i := c - 1) (by omega)
    rw [headB_at c1 (T.get c1 c2), headB_at c1 (M.get c1 (by omega))] at a
    rw [zero c c1 c2 u, decide_eq_true hc] at a
    have := of_decide_eq_true a.symm
    omega
  · intro L
    refine maskN_congr fun k hk => ?_
    have a := headB_at (h := H) (w := w) (c := k + 1) (by omega) (T.get (by omega) (by omega))
    have b := headB_at (h := h) (w := w) (c := k + 1) (by omega) (M.get (by omega) (by omega))
    rw [Nat.add_sub_cancel] at a b
    rw [a, b]
    by_cases u : InU i st (k + 1)
    · rw [decide_eq_false (L (k + 1) (by omega) (by omega) u), zero (k + 1) (by omega) (by omega) u, decide_eq_false (by omega)]
    · have u1 : k + 1 ∉ st := fun z => u (.inl z)
      have u2 : k + 1 < i := Nat.lt_of_not_le fun z => u (.inr z)
      rw [O.o.agree (k + 1) (by omega) u2 u1]

open Classical in
theorem may_ok {H : List Int} (T : Tree H) {i : Nat} {st : List Nat} {h : List Int} (O : ORInv H (i, st, h)) {w g : Nat} {r d : Int} {ss : List Int} (w1 : 1 ≤ w) (w2 : w ≤ H.length) :
    impl_stackMachine_ruleFor_1 (w : Int) (g : Int) H r d h ss = some (decide (hd H w = g ∧ LeafU H i st w)) := by
  have M := O.o.base
  have hl : h.length = H.length := M.len
  have le := T.le
  have ix : idx H (IntKind.wrap .i64 ((w : Int) - 1)) = some ((hd H w : Nat) : Int) := by
    rw [wrap64 (by omega) (by omega)]
    have := T.get w1 w2
    unfold idx
    rw [if_pos (by omega), show ((w : Int) - 1).toNat = w - 1 by omega]
    exact this
  have d1 := dependents_eq H (w : Int) le
  have d2 := dependents_eq h (w : Int) (by omega)
  rw [hl] at d2
  unfold impl_stackMachine_ruleFor_1 impl_stackMachine_ruleFor_1_n1
  rw [ix, d1, d2]
  simp only [Option.bind_some]
  by_cases e : hd H w = g
  · rw [show (((hd H w : Nat) : Int) == (g : Int)) = true from beq_iff_eq.mpr (by omega)]
    have fi := free_iff T O w1
    by_cases L : LeafU H i st w
    · rw [decide_eq_true ⟨e, L⟩, fi.mpr L]
      simp
    · rw [decide_eq_false (fun z => L z.2)]
      simp only [cond_true]
      congr 1
      refine beq_eq_false_iff_ne.2 fun z => L (fi.mp ?_)
      omega
  · rw [show (((hd H w : Nat) : Int) == (g : Int)) = false from beq_eq_false_iff_ne.2 (by omega), decide_eq_false (fun z => e z.1)]
    rfl

open Classical in
theorem rule_ok {H : List Int} (T : Tree H) {i : Nat} {st : List Nat} {h : List Int} (O : ORInv H (i, st, h)) {r d : Int} :
    impl_stackMachine_ruleFor_2_v2 r d H h (convS st) = some ((ruleM H i st : Nat) : Int) := by
  have M := O.o.base
  have hi : i ≤ H.length + 1 := M.hi
  have le := T.le
  obtain ⟨c0, ρ, ec, _⟩ := M.rank
  simp only at ec
  unfold impl_stackMachine_ruleFor_2_v2 impl_stackMachine_ruleFor_2_v2_n1
  match st, O, M, ec with
  | [], O, M, ec =>
    rw [upper_short (by simp)]
    rfl
  | [s], O, M, ec =>
    rw [upper_short (by simp)]
    rfl
  | s :: t :: rest, O, M, ec =>
    have rs := M.rng s (List.mem_cons_self ..)
    have rt := M.rng t (List.mem_cons_of_mem _ (List.mem_cons_self ..))
    simp only at rs rt
    have lrest : rest.length ≤ 20 := by simp only [List.length_cons] at ec; omega
    rw [upper_two lrest]
    simp only [Option.bind_some, cond_true]
    rw [may_ok T O rt.1 (by omega), may_ok T O rs.1 (by omega)]
    simp only [Option.bind_some]
    unfold ruleM
    simp only
    by_cases a : hd H t = s ∧ LeafU H i (s :: t :: rest) t
    · rw [decide_eq_true a, if_pos a]
      rfl
    · rw [decide_eq_false a, if_neg a]
      by_cases b : hd H s = t ∧ LeafU H i (s :: t :: rest) s
      · rw [decide_eq_true b, if_pos b]
        rfl
      · rw [decide_eq_false b, if_neg b]
        rfl

/-- One move by the rule. -/
theorem move_ok {H : List Int} (T : Tree H) {k z : Nat} {p d : Nat} {st : List Nat} {h : List Int} {c : Conf} (O : ORInv H (p + 1, st, h)) (e : stepM H.length (ruleM H (p + 1) st) (p + 1, st, h) = some c) (hk : k < z) (z8 : z ≤ 100) {ms : List Int} (lm : ms.length ≤ 100) :
    impl_MovesFor_n3 (z : Int) (k : Int) (p : Int) (d : Int) ms h (convS st) H = some (Sum.inl (((k + 1 : Nat) : Int), ((c.1 - 1 : Nat) : Int), ((dstepN (ruleM H (p + 1) st) c d : Nat) : Int), ms ++ [((ruleM H (p + 1) st : Nat) : Int)], c.2.2, convS c.2.1)) := by
  have M := O.o.base
  have hl : h.length = H.length := M.len
  have hi : p + 1 ≤ H.length + 1 := M.hi
  have le := T.le
  obtain ⟨c0, ρ, ec, _⟩ := M.rank
  simp only at ec
  have w : IntKind.wrap .i64 ((k : Int) + 1) = ((k + 1 : Nat) : Int) := by rw [wrap64 (by omega) (by omega)]; omega
  have rm : ∀ v : Int, room (ms.length + [v].length) = some () := fun v => room_ok (by simp only [List.length_cons, List.length_nil]; omega)
  unfold impl_MovesFor_n3
  rw [decide_eq_true (show (k : Int) < (z : Int) by omega), rule_ok T O, w]
  simp only [cond_true, Option.bind_some]
  rcases rule_three H (p + 1) st with m | m | m
  · rw [m] at e ⊢
    by_cases hp : p + 1 ≤ H.length
    · have e' : stepM H.length 83 (p + 1, st, h) = some (p + 1 + 1, (p + 1) :: st, h) := by simp [stepM, hp]
      rw [e'] at e
      cases e
      rw [show (((83 : Nat) : Int) == 83) = true from rfl, put_more (by omega) (by omega) (by omega)]
      simp only [cond_true, Option.bind_some, rm]
      simp [dstepN]
    · have e' : stepM H.length 83 (p + 1, st, h) = none := by simp [stepM, hp]
      rw [e'] at e
      cases e
  · rw [m] at e ⊢
    match st, O, M, ec, e with
    | [], O, M, ec, e => simp [stepM] at e
    | [s], O, M, ec, e => simp [stepM] at e
    | s :: t :: rest, O, M, ec, e =>
      have rs := M.rng s (List.mem_cons_self ..)
      have rt := M.rng t (List.mem_cons_of_mem _ (List.mem_cons_self ..))
      simp only at rs rt
      have lrest : rest.length ≤ 20 := by simp only [List.length_cons] at ec; omega
      have e' : stepM H.length 76 (p + 1, s :: t :: rest, h) = some (p + 1, s :: rest, h.set (t - 1) (s : Int)) := by simp [stepM]
      rw [e'] at e
      cases e
      rw [show (((76 : Nat) : Int) == 83) = false from rfl, show (((76 : Nat) : Int) == 76) = true from rfl, below_two rt.1 (by omega) (by omega) lrest]
      simp only [cond_true, cond_false, Option.bind_some, rm]
      simp [dstepN]
  · rw [m] at e ⊢
    match st, O, M, ec, e with
    | [], O, M, ec, e => simp [stepM] at e
    | [s], O, M, ec, e => simp [stepM] at e
    | s :: t :: rest, O, M, ec, e =>
      have rs := M.rng s (List.mem_cons_self ..)
      have rt := M.rng t (List.mem_cons_of_mem _ (List.mem_cons_self ..))
      simp only at rs rt
      have lrest : rest.length ≤ 20 := by simp only [List.length_cons] at ec; omega
      have e' : stepM H.length 82 (p + 1, s :: t :: rest, h) = some (p + 1, t :: rest, h.set (s - 1) (t : Int)) := by simp [stepM]
      rw [e'] at e
      cases e
      rw [show (((82 : Nat) : Int) == 83) = false from rfl, show (((82 : Nat) : Int) == 76) = false from rfl, show (((82 : Nat) : Int) == 82) = true from rfl, above_two rs.1 (by omega) (by omega) lrest]
      simp only [cond_true, cond_false, Option.bind_some, rm]
      simp [dstepN]

theorem rule_loop {H : List Int} (T : Tree H) (F : FlatP H) {z : Nat} (z8 : z ≤ 100) : ∀ (r k p d : Nat) (st : List Nat) (h : List Int) (ms : List Int) (N : Nat), k + r = z → ms.length = k → ORInv H (p + 1, st, h) → 2 * (p + 1) + r = 2 * H.length + 1 + st.length → r < N → ∀ {ns : List Nat} {c : Conf}, goM H r (p + 1, st, h) = some (ns, c) →
    nloop (fun (s : Int × Int × Int × (List Int) × (List Int) × (List Int)) => ((impl_MovesFor_n3 (z : Int) s.1 s.2.1 s.2.2.1 s.2.2.2.1 s.2.2.2.2.1 s.2.2.2.2.2 H).map (Sum.elim (fun (t : Int × Int × Int × (List Int) × (List Int) × (List Int)) => Sum.inl (t.1, t.2.1, t.2.2.1, t.2.2.2.1, t.2.2.2.2.1, t.2.2.2.2.2)) (fun (t : (List Int)) => Sum.inr t)) : Option ((Int × Int × Int × (List Int) × (List Int) × (List Int)) ⊕ (((List Int)))))) N ((k : Int), (p : Int), (d : Int), ms, h, convS st)
      = some (ms ++ ns.map fun (m : Nat) => (m : Int))
  | 0, k, p, d, st, h, ms, N, e, lm, O, b, hN, ns, c, g => by
    obtain ⟨N, rfl⟩ : ∃ N', N = N' + 1 := ⟨N - 1, by omega⟩
    unfold goM at g
    simp only [Option.some.injEq, Prod.mk.injEq] at g
    obtain ⟨rfl, _⟩ := g
    unfold nloop impl_MovesFor_n3
    simp only
    rw [decide_eq_false (show ¬ (k : Int) < (z : Int) by omega)]
    simp
  | r + 1, k, p, d, st, h, ms, N, e, lm, O, b, hN, ns, c, g => by
    obtain ⟨N, rfl⟩ : ∃ N', N = N' + 1 := ⟨N - 1, by omega⟩
    have nf : ¬ ((p + 1, st, h).1 = H.length + 1 ∧ (p + 1, st, h).2.1.length = 1) := by
      rintro ⟨x, y⟩
      simp only at x y
      omega
    obtain ⟨c1, e1, O', e2⟩ := rule_step T F O nf
    unfold goM at g
    rw [e1, Option.bind_some] at g
    obtain ⟨q, g1, g2⟩ := Option.map_eq_some_iff.mp g
    injection g2 with g3 g4
    subst g3 g4
    simp only at e1 e2
    have hp := step_pos (by simp only; omega) e1
    have mo := move_ok (d := d) (k := k) (z := z) T O e1 (by omega) z8 (ms := ms) (by omega)
    unfold nloop
    simp only
    rw [mo]
    obtain ⟨i', st', h'⟩ := c1
    simp only at hp e2
    obtain ⟨p', rfl⟩ : ∃ p', i' = p' + 1 := ⟨i' - 1, by omega⟩
    have ih := rule_loop T F z8 r (k + 1) p' (dstepN (ruleM H (p + 1) st) (p' + 1, st', h') d) st' h' (ms ++ [((ruleM H (p + 1) st : Nat) : Int)]) N (by omega) (by simp [lm]) O' (by omega) (by omega) g1
    simp only [Option.map_some, Sum.elim_inl, Option.bind_some]
    rw [show p' + 1 - 1 = p' by omega, ih]
    simp

theorem implMoves_eq (h : List Int) (hl : h.length ≤ 1048576) : impl_MovesFor h = spec_MovesFor h := by
  have e : impl_MovesFor h = impl_MovesFor_n9 h := by unfold impl_MovesFor; rfl
  rw [e]
  unfold impl_MovesFor_n9 impl_MovesFor_n1
  rw [implFlat_eq]
  cases f : flatI h with
  | false =>
    rw [specMoves_none hl f]
    rfl
  | true =>
    have TF : Tree h ∧ FlatP h := by
      unfold flatI at f
      rw [Bool.and_eq_true, tree_iff, flatB_iff] at f
      exact f
    obtain ⟨T, F⟩ := TF
    obtain ⟨mv, ms, g1, g2, g3⟩ := specMoves_flat T F
    have hp := T.pos
    have le := T.le
    have hnew : impl_newStackMachine ((h.length : Nat) : Int) = some (List.replicate h.length 0) := by
      unfold impl_newStackMachine impl_newStackMachine_n1
      rw [mk_nat (by omega)]
      rfl
    have hmo : impl_stackMoves = some () := by unfold impl_stackMoves; rfl
    have hru : ∀ a b c d, impl_stackMachine_ruleFor a b c d = some () := fun a b c d => by unfold impl_stackMachine_ruleFor impl_stackMachine_ruleFor_n1; rfl
    have z : IntKind.wrap .i64 (IntKind.wrap .i64 (2 * ((h.length : Nat) : Int)) - 1) = ((2 * h.length - 1 : Nat) : Int) := by rw [wrap64 (x := 2 * ((h.length : Nat) : Int)) (by omega) (by omega), wrap64 (by omega) (by omega)]; omega
    have lp := rule_loop T F (z := 2 * h.length - 1) (by omega) (2 * h.length - 1) 0 0 0 [] (List.replicate h.length 0) [] LL (by omega) rfl ⟨OInv.start h T, (RInv.start h.length).unread⟩ (by simp only [List.length_nil]; omega) (by simp only [LL]; omega) g2
    rw [show ((0 : Nat) : Int) = 0 from rfl, show convS [] = ([] : List Int) from rfl] at lp
    simp only [Option.bind_some, Bool.not_true, cond_false, hnew, hmo, hru, Sum.elim_inl]
    unfold impl_MovesFor_n8 impl_MovesFor_n6 impl_MovesFor_n2 impl_MovesFor_n5 impl_MovesFor_n4
    simp only [Option.bind_some, z]
    rw [lp, g1]
    simp only [Option.map_some, Option.bind_some, List.nil_append, impl_MovesFor_n7, ← g3, bytesOf_bytesN]

end Go.Rv
