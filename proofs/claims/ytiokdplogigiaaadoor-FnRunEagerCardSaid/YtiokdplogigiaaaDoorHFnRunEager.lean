/-
  Plain mathematics of what the law reaches. Conditions: none.
-/
import Derived.Test.YtiokdplogigiaaaDoorHFnRunEagera
set_option linter.unusedVariables false
set_option linter.unusedSimpArgs false
namespace Go.Rv
theorem eager_move {n i m : Nat} {st : List Nat} {h : List Int} (E : EInv n (i, st, h)) (n8 : n ≤ 8) {B bs : ByteArray} (hB : bidx B 0 = some (m : Int)) (hs : B.size = 1) (hb : bs.size ≤ 100) (q : Int) :
    ∃ (i' : Nat) (st' : List Nat) (h' : List Int) (bs' : ByteArray), ((bidx B 0).bind fun (v : Int) => (spec_l7Step (convS st) (i : Int) v (negH h)).bind fun (r : (List Int) × Int × Bool × (List Int)) => cond (r.2.2.1) ((cat bs B).bind fun (t : ByteArray) => some ((r.1), t, (r.2.1), q, (r.2.2.2))) (some (convS st, bs, (i : Int), q, (r.2.2.2)))) = some (convS st', bs', (i' : Int), q, negH h') ∧ EInv n (i', st', h') ∧ bs'.size ≤ bs.size + 1 := by
  rw [hB]
  simp only [Option.bind_some, e7_step E n8]
  cases e : stepE n m (i, st, h) with
  | none => exact ⟨i, st, h, bs, rfl, E, by omega⟩
  | some d =>
    obtain ⟨i', st', h'⟩ := d
    simp only
    rw [cat_ok (by omega)]
    exact ⟨i', st', h', bs ++ B, rfl, (estep_ok E e).1, by rw [size_app, hs]; omega⟩

theorem eager_fillD {n : Nat} (n8 : n ≤ 8) : ∀ (r k N : Nat), k + r = n → r < N →
    nloop (fun (s : Int × (List Int)) => ((spec_l20Eager_n3 (n : Int) s.1 s.2).map (Sum.elim (fun (t : Int × (List Int)) => Sum.inl (t.1, t.2)) (fun (t : (List Int)) => Sum.inr t)) : Option ((Int × (List Int)) ⊕ (((List Int)))))) N ((k : Int), List.replicate k (-1))
      = some (List.replicate n (-1))
  | 0, k, N, e, hN => by
    obtain ⟨N, rfl⟩ : ∃ N', N = N' + 1 := ⟨N - 1, by omega⟩
    unfold nloop spec_l20Eager_n3
    simp only
    rw [decide_eq_false (show ¬ (k : Int) < (n : Int) by omega)]
    rw [show k = n by omega]
    rfl
  | r + 1, k, N, e, hN => by
    obtain ⟨N, rfl⟩ : ∃ N', N = N' + 1 := ⟨N - 1, by omega⟩
    have w : IntKind.wrap .i64 ((k : Int) + 1) = ((k + 1 : Nat) : Int) := by rw [wrap64 (by omega) (by omega)]; omega
    have ih := eager_fillD n8 r (k + 1) N (by omega) (by omega)
    unfold nloop spec_l20Eager_n3
    simp only
    rw [decide_eq_true (show (k : Int) < (n : Int) by omega), room_ok (by simp; omega), w]
    simp only [cond_true, Option.bind_some, Option.map_some, Sum.elim_inl]
    rw [show List.replicate k (-1 : Int) ++ [-1] = List.replicate (k + 1) (-1) from (List.replicate_succ').symm]
    exact ih

/-- Which letter is drawn. -/
def letB (B : ByteArray) : Prop := ∃ m : Nat, bidx B 0 = some (m : Int) ∧ B.size = 1
theorem let83 : letB (ByteArray.mk #[83]) := ⟨83, rfl, rfl⟩
theorem let76 : letB (ByteArray.mk #[76]) := ⟨76, rfl, rfl⟩
theorem let82 : letB (ByteArray.mk #[82]) := ⟨82, rfl, rfl⟩
theorem let68 : letB (ByteArray.mk #[68]) := ⟨68, rfl, rfl⟩

theorem letter_drawn {b : List Int} (hb : Bytes b) (stk : List Int) (k : Int) {p : Int} (hp : 0 ≤ p) (hp2 : p ≤ 1000000) : ∃ B, spec_l20Eager_n10 stk k b p = some (B, p + 1) ∧ letB B := by
  obtain ⟨v, hv, a, c, _⟩ := pick_ok hb 6 (by omega) hp (by omega)
  have c := c (by omega)
  unfold spec_l20Eager_n10
  rw [hv]
  simp only [Option.bind_some]
  have go (B : ByteArray) (hB : letB B) : ∃ C, (cond (decide (k > 20)) (cond ((((List.length stk : Nat) : Int)) == 0) (some ((ByteArray.mk #[83]), p + 1)) (some ((ByteArray.mk #[82]), p + 1))) (cond ((((List.length stk : Nat) : Int)) == 0) (some ((ByteArray.mk #[83]), p + 1)) (some (B, p + 1)))) = some (C, p + 1) ∧ letB C := by
    cases decide (k > 20) <;> cases (((List.length stk : Nat) : Int)) == 0
    · exact ⟨_, rfl, hB⟩
    · exact ⟨_, rfl, let83⟩
    · exact ⟨_, rfl, let82⟩
    · exact ⟨_, rfl, let83⟩
  have six : v = 0 ∨ v = 1 ∨ v = 2 ∨ v = 3 ∨ v = 4 ∨ v = 5 := by omega
  rcases six with rfl | rfl | rfl | rfl | rfl | rfl
  · exact go (ByteArray.mk #[83]) let83
  · exact go (ByteArray.mk #[76]) let76
  · exact go (ByteArray.mk #[82]) let82
  · exact go (ByteArray.mk #[68]) let68
  · exact go (ByteArray.mk #[82]) let82
  · exact go (ByteArray.mk #[76]) let76

theorem turn_drawn {b : List Int} (hb : Bytes b) {n i : Nat} {st : List Nat} {h : List Int} (E : EInv n (i, st, h)) (n8 : n ≤ 8) {B bs : ByteArray} (hB : letB B) (hs : bs.size ≤ 100) {p : Int} (hp : 0 ≤ p) (hp2 : p ≤ 1000000) :
    ∃ (i' : Nat) (st' : List Nat) (h' : List Int) (bs' : ByteArray) (q : Int), spec_l20Eager_n11 (convS st) bs (i : Int) B b p (negH h) = some (convS st', bs', (i' : Int), q, negH h') ∧ EInv n (i', st', h') ∧ bs'.size ≤ bs.size + 1 ∧ p ≤ q ∧ q ≤ p + 1 := by
  obtain ⟨m, h1, h2⟩ := hB
  have h3 := Bool.eq_false_or_eq_true (seqs B (ByteArray.mk #[83]))
  unfold spec_l20Eager_n11
  rcases h3 with h3 | h3
  · rw [h3]
    simp only [cond_true]
    cases decide ((((List.length (convS st) : Nat) : Int)) > 0) with
    | true =>
      obtain ⟨v, hv, a, c, _⟩ := pick_ok hb 2 (by omega) hp (by omega)
      simp only [cond_true, hv, Option.bind_some]
      cases (v == 0) with
      | true =>
        obtain ⟨i', st', h', bs', e1, e2, e3⟩ := eager_move E n8 (m := 82) (B := ByteArray.mk #[82]) rfl rfl hs (p + 1)
        exact ⟨i', st', h', bs', p + 1, e1, e2, e3, by omega, by omega⟩
      | false =>
        obtain ⟨i', st', h', bs', e1, e2, e3⟩ := eager_move E n8 h1 h2 hs (p + 1)
        exact ⟨i', st', h', bs', p + 1, e1, e2, e3, by omega, by omega⟩
    | false =>
      obtain ⟨i', st', h', bs', e1, e2, e3⟩ := eager_move E n8 h1 h2 hs p
      exact ⟨i', st', h', bs', p, e1, e2, e3, by omega, by omega⟩
  · rw [h3]
    obtain ⟨i', st', h', bs', e1, e2, e3⟩ := eager_move E n8 h1 h2 hs p
    exact ⟨i', st', h', bs', p, e1, e2, e3, by omega, by omega⟩

theorem eager_drawn {b : List Int} (hb : Bytes b) {n : Nat} (n1 : 1 ≤ n) (n8 : n ≤ 8) {p : Int} (hp : 0 ≤ p) (hp2 : p ≤ 900000) :
    ∃ (t : ByteArray) (q : Int), spec_l20Eager (n : Int) b p = some (t, q) ∧ t.size ≤ 300 := by
  have e : spec_l20Eager (n : Int) b p = spec_l20Eager_n24 (n : Int) b p := by unfold spec_l20Eager; rfl
  have f := eager_fillD n8 n 0 LL (by omega) (by simp only [LL]; omega)
  rw [show ((0 : Nat) : Int) = 0 from rfl, show List.replicate 0 (-1 : Int) = [] from rfl] at f
  rw [e]
  unfold spec_l20Eager_n24 spec_l20Eager_n1 spec_l20Eager_n23 spec_l20Eager_n6 spec_l20Eager_n2 spec_l20Eager_n5 spec_l20Eager_n4
  simp only [Option.bind_some]
  rw [f]
  simp only [Option.map_some, Option.bind_some]
  unfold spec_l20Eager_n22 spec_l20Eager_n7 spec_l20Eager_n21 spec_l20Eager_n19 spec_l20Eager_n8 spec_l20Eager_n18 spec_l20Eager_n17
  have lp := nloop_ex (body := fun (s : (List Int) × ByteArray × Int × Int × Int × (List Int)) => ((spec_l20Eager_n16 (n : Int) s.1 s.2.1 s.2.2.1 s.2.2.2.1 b s.2.2.2.2.1 s.2.2.2.2.2).map (Sum.elim (fun (t : (List Int) × ByteArray × Int × Int × Int × (List Int)) => Sum.inl (t.1, t.2.1, t.2.2.1, t.2.2.2.1, t.2.2.2.2.1, t.2.2.2.2.2)) (fun (t : ByteArray × Int) => Sum.inr t)) : Option (((List Int) × ByteArray × Int × Int × Int × (List Int)) ⊕ ((ByteArray × Int)))))
    (fun s => ∃ (i : Nat) (st : List Nat) (h : List Int), EInv n (i, st, h) ∧ s.1 = convS st ∧ s.2.2.1 = (i : Int) ∧ s.2.2.2.2.2 = negH h ∧ (s.2.1.size : Int) ≤ s.2.2.2.1 ∧ 0 ≤ s.2.2.2.1 ∧ s.2.2.2.1 ≤ 30 ∧ 0 ≤ s.2.2.2.2.1 ∧ s.2.2.2.2.1 ≤ 900000 + 2 * s.2.2.2.1)
    (fun s => (30 - s.2.2.2.1).toNat) (fun o => o.1.size ≤ 30 ∧ 0 ≤ o.2 ∧ o.2 ≤ 900060)
    (by
      rintro ⟨stk, bs, nx, k, q, hs⟩ ⟨i, st, h, E, e1, e2, e3, i1, i2, i3, i4, i5⟩
      simp only at e1 e2 e3 i1 i2 i3 i4 i5
      subst e1 e2 e3
      simp only [spec_l20Eager_n16, spec_l20Eager_n9]
      by_cases k30 : k < 30
      · rw [decide_eq_true k30]
        by_cases le : (i : Int) ≤ (n : Int)
        · left
          rw [decide_eq_true le]
          obtain ⟨B, g1, g2⟩ := letter_drawn hb (convS st) k (p := q) (by omega) (by omega)
          obtain ⟨i', st', h', bs', q', g3, g4, g5, g6, g7⟩ := turn_drawn hb E n8 g2 (bs := bs) (by omega) (p := q + 1) (by omega) (by omega)
          simp only [cond_true, Option.bind_some, Sum.elim_inl, spec_l20Eager_n15, spec_l20Eager_n13, spec_l20Eager_n12, spec_l20Eager_n14, g1, g3, Option.map_some]
          rw [wrap64 (x := k + 1) (by omega) (by omega)]
          refine ⟨_, rfl, ⟨i', st', h', g4, rfl, rfl, rfl, ?_, ?_, ?_, ?_, ?_⟩, ?_⟩ <;> simp only <;> omega
        · right
          rw [decide_eq_false le]
          exact ⟨_, rfl, by simp only; omega⟩
      · right
        rw [decide_eq_false k30]
        exact ⟨_, rfl, by simp only; omega⟩)
    LL (([] : List Int), ByteArray.empty, 1, 0, p, List.replicate n (-1)) ⟨1, [], List.replicate n 0, EInv.start n1, rfl, rfl, (negH_rep n).symm, by
      have : ByteArray.empty.size = 0 := rfl
      simp only [this]
      omega, by simp only; omega, by simp only; omega, by simp only; omega, by simp only; omega⟩ (by simp only [LL]; omega)
  obtain ⟨⟨t, q⟩, l1, l2, l3, l4⟩ := lp
  simp only at l2 l3 l4
  simp only [Option.bind_some]
  rw [l1]
  simp only [Option.map_some, Option.bind_some]
  unfold spec_l20Eager_n20
  obtain ⟨o, q1, ho, o1, o2⟩ := odd_ok hb 8 (by omega) (p := q) (by omega) (by omega)
  simp only [ho, Option.bind_some]
  cases o with
  | false => exact ⟨t, q1, rfl, by omega⟩
  | true =>
    by_cases ts : ((t.size : Nat) : Int) > 0
    · rw [decide_eq_true ts]
      obtain ⟨v, hv, a, c, _⟩ := pick_ok hb ((t.size : Nat) : Int) (by omega) (p := q1) (by omega) (by omega)
      have c := c (by omega)
      obtain ⟨v2, hv2, a2, c2, _⟩ := pick_ok hb 4 (by omega) (p := q1 + 1) (by omega) (by omega)
      have c2 := c2 (by omega)
      have i1 : inc v t.size = some v.toNat := inc_ok a (by omega)
      have i2 : inc (v + 1) t.size = some (v + 1).toNat := inc_ok (by omega) (by omega)
      have w1 : IntKind.wrap .i64 (v + 1) = v + 1 := wrap64 (by omega) (by omega)
      have x1 : (t.extract 0 v.toNat).size ≤ 100 := by rw [ByteArray.size_extract]; omega
      have x2 : (t.extract (v + 1).toNat t.size).size ≤ 100 := by rw [ByteArray.size_extract]; omega
      have go (m : ByteArray) (hm : m.size ≤ 1) : ∃ (u : ByteArray) (r : Int), ((cat (t.extract 0 v.toNat) m).bind fun (x : ByteArray) => (cat x (t.extract (v + 1).toNat t.size)).bind fun (y : ByteArray) => some (y, q1 + 1 + 1)) = some (u, r) ∧ u.size ≤ 300 := by
        rw [cat_ok (by omega)]
        simp only [Option.bind_some]
        rw [cat_ok (by rw [size_app]; omega)]
        exact ⟨_, _, rfl, by rw [size_app, size_app]; omega⟩
      simp only [cond_true, hv, Option.bind_some, i1, w1, i2, hv2]
      have four : v2 = 0 ∨ v2 = 1 ∨ v2 = 2 ∨ v2 = 3 := by omega
      rcases four with rfl | rfl | rfl | rfl
      · rw [show idx ([ByteArray.empty, (ByteArray.mk #[83]), (ByteArray.mk #[68]), (ByteArray.mk #[120])]) 0 = some ByteArray.empty from rfl]
        simp only [Option.bind_some]
        exact go ByteArray.empty (by show 0 ≤ 1; omega)
      · rw [show idx ([ByteArray.empty, (ByteArray.mk #[83]), (ByteArray.mk #[68]), (ByteArray.mk #[120])]) 1 = some (ByteArray.mk #[83]) from rfl]
        simp only [Option.bind_some]
        exact go (ByteArray.mk #[83]) (by show 1 ≤ 1; omega)
      · rw [show idx ([ByteArray.empty, (ByteArray.mk #[83]), (ByteArray.mk #[68]), (ByteArray.mk #[120])]) 2 = some (ByteArray.mk #[68]) from rfl]
        simp only [Option.bind_some]
        exact go (ByteArray.mk #[68]) (by show 1 ≤ 1; omega)
      · rw [show idx ([ByteArray.empty, (ByteArray.mk #[83]), (ByteArray.mk #[68]), (ByteArray.mk #[120])]) 3 = some (ByteArray.mk #[120]) from rfl]
        simp only [Option.bind_some]
        exact go (ByteArray.mk #[120]) (by show 1 ≤ 1; omega)
    · rw [decide_eq_false ts]
      exact ⟨t, q1, rfl, by omega⟩

/-- The moves for a tree are few. -/
theorem goE_few {H : List Int} (T : Tree H) {ms st : List Nat} {k : Nat} (e : goE H k (1, [], List.replicate H.length 0) = some (ms, (H.length + 1, st, H))) : ms.length + 1 ≤ 2 * H.length ∧ arcsE ms = H.length - 1 ∧ putsE ms = H.length := by
  have f := erun_flat T.pos T.le (goE_run e) T.one
  exact ⟨f.2.2.2.2.2, f.2.2.2.1, f.2.2.2.2.1⟩

theorem drawn_eager (x : List Int) (w : ∀ n ∈ x, (Lit.int .u8 n).wf = true) (l : x.length ≤ maxLen) : ∃ n mv, spec_DrawRunEager x = some (n, mv) ∧ mv.size ≤ 1000 := by
  obtain ⟨b, hb, hB⟩ := open_ok x w l
  obtain ⟨v1, h1, a1, b1, _⟩ := pick_ok hB 8 (by omega) (p := 0) (by omega) (by omega)
  obtain ⟨v2, h2, a2, b2, _⟩ := pick_ok hB 3 (by omega) (p := 0 + 1) (by omega) (by omega)
  have b1 := b1 (by omega)
  have w1 : IntKind.wrap .i64 (1 + v1) = 1 + v1 := wrap64 (by omega) (by omega)
  obtain ⟨n, hn⟩ : ∃ n : Nat, 1 + v1 = (n : Int) := ⟨(1 + v1).toNat, by omega⟩
  have go {p : Int} (hp : 0 ≤ p) (hp2 : p ≤ 1000) : ∃ m mv, ((spec_l20Rd_pick 30 b p).bind fun (v15373 : Int × Int) => (quo .i64 (v15373.1) 29).bind fun (v15376 : Int) => (spec_l20Eager (1 + v1) b (v15373.2)).bind fun (v15378 : ByteArray × Int) => some ((IntKind.wrap .i64 ((1 + v1) + v15376)), (v15378.1))) = some (m, mv) ∧ mv.size ≤ 1000 := by
    obtain ⟨v3, h3, a3, b3, _⟩ := pick_ok hB 30 (by omega) (p := p) (by omega) (by omega)
    obtain ⟨q3, hq3, c3, d3⟩ := quo_ok (a := v3) (b := 29) (by omega) a3 (by omega)
    obtain ⟨t, q, ht, hs⟩ := eager_drawn hB (n := n) (by omega) (by omega) (p := p + 1) (by omega) (by omega)
    simp only [h3, Option.bind_some, hq3, hn, ht]
    exact ⟨_, t, rfl, by omega⟩
  unfold spec_DrawRunEager spec_DrawRunEager_n1
  simp only [hb, Option.bind_some, h1, h2, w1]
  cases (v2 == 0) with
  | false =>
    simp only [cond_false]
    exact go (by omega) (by omega)
  | true =>
    obtain ⟨q, h, hq, q1, q2, h8⟩ := flat_ok hB 0 (by omega) (p := 0 + 1 + 1) (by omega) (by omega)
    simp only [cond_true, hq, Option.bind_some]
    cases f : flatI h with
    | false =>
      rw [specEagerFor_none (by omega) f]
      simp only [Option.bind_some, cond_false]
      exact go (by omega) (by omega)
    | true =>
      have TF : Tree h ∧ FlatP h := by
        unfold flatI at f
        rw [Bool.and_eq_true, tree_iff, flatB_iff] at f
        exact f
      obtain ⟨mv, ms, st, g1, g2, g3⟩ := specEagerFor_flat TF.1 TF.2
      have few := (goE_few TF.1 g2).1
      have sz := bytesN_length mv
      rw [g3] at sz
      rw [g1]
      simp only [Option.bind_some, cond_true]
      exact ⟨_, mv, rfl, by omega⟩

/-- All rows of truth values of a length. -/
def allB : Nat → List (List Bool)
  | 0 => [[]]
  | n + 1 => (allB n).flatMap fun l => [true :: l, false :: l]

theorem mem_allB : ∀ (l : List Bool), l ∈ allB l.length
  | [] => by simp [allB]
  | b :: l => by
    simp only [List.length_cons, allB, List.mem_flatMap]
    refine ⟨l, mem_allB l, ?_⟩
    cases b <;> simp

/-- A set of words as a number. -/
def bitsB : List Bool → Nat
  | [] => 0
  | b :: l => (if b then 1 else 0) + 2 * bitsB l
/-- Which words have a head. -/
def hdB (h : List Int) : List Bool := h.map fun x => x != 0

def chkBit (bl : List Bool) (k : Nat) : Bool :=
  match impl_only ((k + 1 : Nat) : Int) with
  | some v => impl_wordSet_hasAll ((bitsB bl : Nat) : Int) v == some (bl.getD k false) && ior .u64 ((bitsB bl : Nat) : Int) v == ((bitsB (bl.set k true) : Nat) : Int)
  | none => false
def chkCount (bl : List Bool) : Bool := impl_wordSet_count ((bitsB bl : Nat) : Int) == some ((bl.count true : Nat) : Int)

theorem bits8 : ((List.range 9).all fun n => (allB n).all fun bl => (List.range n).all fun k => chkBit bl k) = true := by decide +kernel
theorem count8 : ((List.range 9).all fun n => (allB n).all chkCount) = true := by decide +kernel

theorem bit_ok (bl : List Bool) (h : bl.length ≤ 8) {k : Nat} (hk : k < bl.length) : ∃ v, impl_only ((k + 1 : Nat) : Int) = some v ∧ impl_wordSet_hasAll ((bitsB bl : Nat) : Int) v = some (bl.getD k false) ∧ ior .u64 ((bitsB bl : Nat) : Int) v = ((bitsB (bl.set k true) : Nat) : Int) := by
  have h1 := bits8
  rw [List.all_eq_true] at h1
  have h2 := h1 bl.length (List.mem_range.2 (by omega))
  rw [List.all_eq_true] at h2
  have h3 := h2 bl (mem_allB bl)
  rw [List.all_eq_true] at h3
  have h4 := h3 k (List.mem_range.2 hk)
  unfold chkBit at h4
  split at h4
  · rename_i v hv
    rw [Bool.and_eq_true] at h4
    exact ⟨v, hv, by simpa using h4.1, by simpa using h4.2⟩
  · cases h4

theorem count_ok (bl : List Bool) (h : bl.length ≤ 8) : impl_wordSet_count ((bitsB bl : Nat) : Int) = some ((bl.count true : Nat) : Int) := by
  have h1 := count8
  rw [List.all_eq_true] at h1
  have h2 := h1 bl.length (List.mem_range.2 (by omega))
  rw [List.all_eq_true] at h2
  simpa [chkCount] using h2 bl (mem_allB bl)

theorem hdB_length (h : List Int) : (hdB h).length = h.length := by simp [hdB]
theorem hdB_set (h : List Int) (k : Nat) {g : Nat} (g1 : 1 ≤ g) : hdB (h.set k (g : Int)) = (hdB h).set k true := by
  unfold hdB
  rw [List.map_set, show ((g : Int) != 0) = true from bne_iff_ne.2 (by omega)]
theorem hdB_get {h : List Int} (p : ∀ x ∈ h, 0 ≤ x) {w : Nat} (w1 : 1 ≤ w) (w2 : w ≤ h.length) : (hdB h).getD (w - 1) false = decide (hd h w ≠ 0) := by
  have lt : w - 1 < h.length := by omega
  have := p _ (List.getElem_mem lt)
  unfold hdB hd
  rw [List.getD_eq_getElem?_getD, List.getElem?_map, List.getElem?_eq_getElem lt, List.getD_eq_getElem?_getD, List.getElem?_eq_getElem lt, Option.getD_some, Option.map_some, Option.getD_some]
  by_cases z : h[w - 1] = 0
  · rw [z]
    rfl
  · rw [show (h[w - 1] != 0) = true from bne_iff_ne.2 z, decide_eq_true (by omega)]
theorem hdB_count (h : List Int) : (hdB h).count true + h.count 0 = h.length := by
  induction h with
  | nil => rfl
  | cons x l ih =>
    unfold hdB at ih ⊢
    rw [List.map_cons, List.count_cons, List.count_cons, List.length_cons]
    by_cases z : x = 0
    · subst z
      simp
      omega
    · rw [show (x != 0) = true from bne_iff_ne.2 z]
      simp [z]
      omega

/-- What the landed machine bears of a state. -/
structure NS (c : Conf) (o l : Nat) (b : Int) (ar : List Int) : Prop where
  len : l = c.2.1.length
  fit : o + l ≤ ar.length
  win : (ar.drop o).take l = convS c.2.1
  bits : b = ((bitsB (hdB c.2.2) : Nat) : Int)

theorem NS.top {i s o l : Nat} {rest : List Nat} {b : Int} {h ar : List Int} (S : NS (i, s :: rest, h) o l b ar) : ar[o + rest.length]? = some (s : Int) := by
  have w := S.win
  have hl : l = rest.length + 1 := S.len
  have e : ((ar.drop o).take l)[rest.length]? = ar[o + rest.length]? := by
    rw [List.getElem?_take_of_lt (by omega), List.getElem?_drop]
  have lr := convS_length rest
  rw [← e, w, convS_cons, ← lr]
  simp

theorem NS.pop {i s o l : Nat} {rest : List Nat} {b b' : Int} {h h' ar : List Int} (S : NS (i, s :: rest, h) o l b ar) (hb : b' = ((bitsB (hdB h') : Nat) : Int)) : NS (i, rest, h') o (l - 1) b' ar := by
  have w := S.win
  have f := S.fit
  have hl : l = rest.length + 1 := S.len
  refine ⟨by simp only; omega, by omega, ?_, hb⟩
  have e : (ar.drop o).take (l - 1) = ((ar.drop o).take l).take (l - 1) := by rw [List.take_take, Nat.min_eq_left (by omega)]
  have lr := convS_length rest
  rw [e, w, convS_cons, show l - 1 = (convS rest).length by omega, List.take_left]

theorem NS.full {i : Nat} {st : List Nat} {b : Int} {h : List Int} (hb : b = ((bitsB (hdB h) : Nat) : Int)) : NS (i, st, h) 0 st.length b (convS st) := by
  have l := convS_length st
  exact ⟨rfl, by omega, by rw [List.drop_zero, ← l, List.take_length], hb⟩

theorem eup {p o l : Nat} {d b : Int} {st : List Nat} {h ar : List Int} (S : NS (p + 1, st, h) o l b ar) (hl : h.length ≤ 8) (hp : p ≤ h.length) (ls : st.length ≤ 20) :
    impl_eagerMachine_upperAndNext o l (p : Int) d b h ar = some (match st with | [] => (0, 0, false) | s :: _ => if p + 1 ≤ h.length then ((s : Int), ((p + 1 : Nat) : Int), true) else (0, 0, false)) := by
  have e : impl_eagerMachine_upperAndNext o l (p : Int) d b h ar = impl_eagerMachine_upperAndNext_n1 o l (p : Int) h ar := by unfold impl_eagerMachine_upperAndNext; rfl
  rw [e]
  unfold impl_eagerMachine_upperAndNext_n1
  match st, S, ls with
  | [], S, ls =>
    have hl0 : l = 0 := S.len
    subst hl0
    rfl
  | s :: rest, S, ls =>
    have hl1 : l = rest.length + 1 := S.len
    have tp := S.top
    simp only [List.length_cons] at ls
    rw [show (((l : Nat) : Int) == 0) = false from beq_eq_false_iff_ne.2 (by omega)]
    by_cases c : p + 1 ≤ h.length
    · have i1 : inb (IntKind.wrap .i64 (((l : Nat) : Int) - 1)) l = some rest.length := by
        rw [wrap64 (by omega) (by omega)]
        unfold inb
        rw [if_pos (by omega), show (((l : Nat) : Int) - 1).toNat = rest.length by omega]
      have w : IntKind.wrap .i64 ((p : Int) + 1) = ((p + 1 : Nat) : Int) := by rw [wrap64 (by omega) (by omega)]; omega
      rw [show ((p : Int) == ((h.length : Nat) : Int)) = false from beq_eq_false_iff_ne.2 (by omega), i1, w]
      simp only [cond_false, Option.bind_some, tp]
      rw [if_pos c]
    · rw [show ((p : Int) == ((h.length : Nat) : Int)) = true from beq_iff_eq.mpr (by omega)]
      simp only [cond_true, cond_false]
      rw [if_neg c]

theorem ehas {o l : Nat} {a d b : Int} {h ar : List Int} (hb : b = ((bitsB (hdB h) : Nat) : Int)) (hl : h.length ≤ 8) (p : ∀ x ∈ h, 0 ≤ x) {w : Nat} (w1 : 1 ≤ w) (w2 : w ≤ h.length) :
    impl_eagerMachine_hasHead (w : Int) o l a d b h ar = some (decide (hd h w ≠ 0)) := by
  have e : impl_eagerMachine_hasHead (w : Int) o l a d b h ar = impl_eagerMachine_hasHead_n1 (w : Int) b := by unfold impl_eagerMachine_hasHead; rfl
  have lh := hdB_length h
  obtain ⟨v, h1, h2, _⟩ := bit_ok (hdB h) (by omega) (k := w - 1) (by omega)
  rw [show w - 1 + 1 = w by omega] at h1
  rw [e]
  unfold impl_eagerMachine_hasHead_n1
  rw [h1, hb]
  simp only [Option.bind_some, h2]
  rw [hdB_get p w1 w2]

theorem egive {o l : Nat} {a d b : Int} {h ar : List Int} (hb : b = ((bitsB (hdB h) : Nat) : Int)) (hl : h.length ≤ 8) {w g : Nat} (w1 : 1 ≤ w) (w2 : w ≤ h.length) (g1 : 1 ≤ g) :
    impl_eagerMachine_giveHead (w : Int) (g : Int) o l a d b h ar = some (((bitsB (hdB (h.set (w - 1) (g : Int))) : Nat) : Int), h.set (w - 1) (g : Int)) := by
  have e : impl_eagerMachine_giveHead (w : Int) (g : Int) o l a d b h ar = (impl_eagerMachine_giveHead_n1 (w : Int) (g : Int) b h).map (fun (t : Int × (List Int)) => (t.1, t.2)) := by unfold impl_eagerMachine_giveHead; rfl
  have lh := hdB_length h
  obtain ⟨v, h1, _, h3⟩ := bit_ok (hdB h) (by omega) (k := w - 1) (by omega)
  rw [show w - 1 + 1 = w by omega] at h1
  have i5 : inb (IntKind.wrap .i64 ((w : Int) - 1)) h.length = some (w - 1) := by
    rw [wrap64 (by omega) (by omega)]
    unfold inb
    rw [if_pos (by omega), show ((w : Int) - 1).toNat = w - 1 by omega]
  rw [e]
  unfold impl_eagerMachine_giveHead_n1
  rw [i5, h1, hb]
  simp only [Option.bind_some, Option.map_some, h3]
  rw [hdB_set h (w - 1) g1]

theorem eaway {o l : Nat} {a d b : Int} {h ar : List Int} (l1 : 1 ≤ l) (l2 : l ≤ 100) : impl_eagerMachine_takeAway o l a d b h ar = some (o, l - 1) := by
  have e : impl_eagerMachine_takeAway o l a d b h ar = (impl_eagerMachine_takeAway_n1 o l).map (fun (t : Nat × Nat) => (t.1, t.2)) := by unfold impl_eagerMachine_takeAway; rfl
  have i3 : inc (IntKind.wrap .i64 (((l : Nat) : Int) - 1)) l = some (l - 1) := by
    rw [wrap64 (by omega) (by omega)]
    unfold inc
    rw [if_pos (by omega), show (((l : Nat) : Int) - 1).toNat = l - 1 by omega]
  rw [e]
  unfold impl_eagerMachine_takeAway_n1
  rw [i3]
  rfl

theorem eput {p o l : Nat} {d b : Int} {st : List Nat} {h ar : List Int} (w : (ar.drop o).take l = convS st) (hl1 : l = st.length) (hl : h.length ≤ 8) (ls : st.length ≤ 20) :
    impl_stackMachine_putNext_v2 o l (p : Int) d b h ar = some (if p = h.length then (false, o, l, (p : Int), d, ar) else (true, 0, st.length + 1, ((IntKind.wrap .i64 ((p : Int) + 1)) : Int), imax d ((st.length + 1 : Nat) : Int), convS st ++ [IntKind.wrap .i64 ((p : Int) + 1)])) := by
  have e : impl_stackMachine_putNext_v2 o l (p : Int) d b h ar = impl_stackMachine_putNext_v2_n1 o l (p : Int) d h ar := by unfold impl_stackMachine_putNext_v2; rfl
  have lc := convS_length st
  rw [e]
  unfold impl_stackMachine_putNext_v2_n1
  by_cases c : p = h.length
  · rw [if_pos c, show ((p : Int) == ((h.length : Nat) : Int)) = true from beq_iff_eq.mpr (by omega)]
    rfl
  · have len (v : Int) : (convS st ++ [v]).length = st.length + 1 := by simp [lc]
    rw [if_neg c, show ((p : Int) == ((h.length : Nat) : Int)) = false from beq_eq_false_iff_ne.2 (by omega), w, room_ok (by simp only [List.length_cons, List.length_nil]; omega)]
    simp only [cond_false, Option.bind_some, len]

theorem eput_ok {p o l : Nat} {d b : Int} {st : List Nat} {h ar : List Int} (w : (ar.drop o).take l = convS st) (hl1 : l = st.length) (hl : h.length ≤ 8) (ls : st.length ≤ 20) (hp : p < h.length) :
    ∃ d', impl_stackMachine_putNext_v2 o l (p : Int) d b h ar = some (true, 0, ((p + 1) :: st).length, ((p + 1 : Nat) : Int), d', convS ((p + 1) :: st)) := by
  have w1 : IntKind.wrap .i64 ((p : Int) + 1) = ((p + 1 : Nat) : Int) := by rw [wrap64 (by omega) (by omega)]; omega
  refine ⟨imax d ((st.length + 1 : Nat) : Int), ?_⟩
  rw [eput w hl1 hl ls, if_neg (by omega), w1, convS_cons]
  rfl

theorem eput_no {o l : Nat} {d b : Int} {st : List Nat} {h ar : List Int} {p : Nat} (w : (ar.drop o).take l = convS st) (hl1 : l = st.length) (hl : h.length ≤ 8) (ls : st.length ≤ 20) (hp : p = h.length) :
    impl_stackMachine_putNext_v2 o l (p : Int) d b h ar = some (false, o, l, (p : Int), d, ar) := by
  rw [eput w hl1 hl ls, if_pos hp]

theorem eunder {n p o l : Nat} {d b : Int} {st : List Nat} {h ar : List Int} (S : NS (p + 1, st, h) o l b ar) (E : EInv n (p + 1, st, h)) (n8 : n ≤ 8) :
    match stepE n 76 (p + 1, st, h) with
    | some c => ∃ b', impl_eagerMachine_takeUnderNext o l (p : Int) d b h ar = some (true, o, l - 1, b', c.2.2) ∧ NS c o (l - 1) b' ar ∧ c.1 = p + 1
    | none => impl_eagerMachine_takeUnderNext o l (p : Int) d b h ar = some (false, o, l, b, h) := by
  have hl : h.length = n := E.len
  have hi : p + 1 ≤ n + 1 := E.hi
  have nm : ∀ x ∈ h, 0 ≤ x ∧ x ≤ (n : Int) := E.num
  have sh := dec_short E.dec E.rng E.i1
  simp only at sh
  have up := eup (d := d) S (by omega) (by omega) (by omega)
  cases st with
  | nil =>
    simp only [stepE]
    unfold impl_eagerMachine_takeUnderNext impl_eagerMachine_takeUnderNext_n1
    rw [up]
    rfl
  | cons s rest =>
    have rs := E.rng s (List.mem_cons_self ..)
    simp only at rs
    have hb : b = ((bitsB (hdB h) : Nat) : Int) := S.bits
    have l1 : l = rest.length + 1 := S.len
    simp only [List.length_cons] at sh
    by_cases le : p + 1 ≤ n
    · simp only at up
      rw [if_pos (by omega)] at up
      have hs := ehas (o := o) (l := l) (a := (p : Int)) (d := d) (ar := ar) hb (by omega) (fun x hx => (nm x hx).1) rs.1 (show s ≤ h.length by omega)
      by_cases z : hd h s = 0
      · have e : stepE n 76 (p + 1, s :: rest, h) = some (p + 1, rest, h.set (s - 1) ((p + 1 : Nat) : Int)) := by simp [stepE, le, z]
        rw [e]
        simp only
        refine ⟨_, ?_, S.pop rfl, trivial⟩
        unfold impl_eagerMachine_takeUnderNext impl_eagerMachine_takeUnderNext_n1
        rw [up]
        simp only [Option.bind_some, Bool.not_true, cond_false, hs]
        rw [decide_eq_false (fun y => y z), egive hb (by omega) rs.1 (show s ≤ h.length by omega) (by omega)]
        simp only [cond_false, Option.bind_some]
        rw [eaway (by omega) (by omega)]
        rfl
      · have e : stepE n 76 (p + 1, s :: rest, h) = none := by simp [stepE, z]
        rw [e]
        simp only
        unfold impl_eagerMachine_takeUnderNext impl_eagerMachine_takeUnderNext_n1
        rw [up]
        simp only [Option.bind_some, Bool.not_true, cond_false, hs]
        rw [decide_eq_true z]
        rfl
    · simp only at up
      rw [if_neg (by omega)] at up
      have e : stepE n 76 (p + 1, s :: rest, h) = none := by simp [stepE, le]
      rw [e]
      simp only
      unfold impl_eagerMachine_takeUnderNext impl_eagerMachine_takeUnderNext_n1
      rw [up]
      rfl

theorem eupper {n p o l : Nat} {d b : Int} {st : List Nat} {h ar : List Int} (S : NS (p + 1, st, h) o l b ar) (E : EInv n (p + 1, st, h)) (n8 : n ≤ 8) :
    match stepE n 82 (p + 1, st, h) with
    | some c => ∃ o' l' d' b' ar', impl_eagerMachine_putUnderUpper o l (p : Int) d b h ar = some (true, o', l', ((c.1 - 1 : Nat) : Int), d', b', c.2.2, ar') ∧ NS c o' l' b' ar'
    | none => impl_eagerMachine_putUnderUpper o l (p : Int) d b h ar = some (false, o, l, (p : Int), d, b, h, ar) := by
  have hl : h.length = n := E.len
  have hi : p + 1 ≤ n + 1 := E.hi
  have sh := dec_short E.dec E.rng E.i1
  simp only at sh
  have up := eup (d := d) S (by omega) (by omega) (by omega)
  cases st with
  | nil =>
    simp only [stepE]
    unfold impl_eagerMachine_putUnderUpper impl_eagerMachine_putUnderUpper_n1
    rw [up]
    rfl
  | cons s rest =>
    have rs := E.rng s (List.mem_cons_self ..)
    simp only at rs
    have hb : b = ((bitsB (hdB h) : Nat) : Int) := S.bits
    have l1 : l = rest.length + 1 := S.len
    have w : (ar.drop o).take l = convS (s :: rest) := S.win
    simp only [List.length_cons] at sh
    by_cases le : p + 1 ≤ n
    · simp only at up
      rw [if_pos (by omega)] at up
      have e : stepE n 82 (p + 1, s :: rest, h) = some (p + 1 + 1, (p + 1) :: s :: rest, h.set (p + 1 - 1) (s : Int)) := by simp [stepE, le]
      have g := egive (o := o) (l := l) (a := (p : Int)) (d := d) (ar := ar) hb (by omega) (show 1 ≤ p + 1 by omega) (show p + 1 ≤ h.length by omega) rs.1
      obtain ⟨d', q⟩ := eput_ok (p := p) (d := d) (b := ((bitsB (hdB (h.set (p + 1 - 1) (s : Int))) : Nat) : Int)) (h := h.set (p + 1 - 1) (s : Int)) w l1 (by rw [List.length_set]; omega) (by simp only [List.length_cons]; omega) (by rw [List.length_set]; omega)
      rw [e]
      simp only
      refine ⟨0, ((p + 1) :: s :: rest).length, d', _, convS ((p + 1) :: s :: rest), ?_, NS.full rfl⟩
      unfold impl_eagerMachine_putUnderUpper impl_eagerMachine_putUnderUpper_n1
      rw [up]
      simp only [Option.bind_some, Bool.not_true, cond_false, g, q]
      rfl
    · simp only at up
      rw [if_neg (by omega)] at up
      have e : stepE n 82 (p + 1, s :: rest, h) = none := by simp [stepE, le]
      rw [e]
      simp only
      unfold impl_eagerMachine_putUnderUpper impl_eagerMachine_putUnderUpper_n1
      rw [up]
      rfl

theorem eheaded {n p o l : Nat} {d b : Int} {st : List Nat} {h ar : List Int} (S : NS (p + 1, st, h) o l b ar) (E : EInv n (p + 1, st, h)) (n8 : n ≤ 8) :
    match stepE n 68 (p + 1, st, h) with
    | some c => impl_eagerMachine_takeHeaded o l (p : Int) d b h ar = some (true, o, l - 1) ∧ NS c o (l - 1) b ar ∧ c.1 = p + 1 ∧ c.2.2 = h
    | none => impl_eagerMachine_takeHeaded o l (p : Int) d b h ar = some (false, o, l) := by
  have hl : h.length = n := E.len
  have hi : p + 1 ≤ n + 1 := E.hi
  have nm : ∀ x ∈ h, 0 ≤ x ∧ x ≤ (n : Int) := E.num
  have sh := dec_short E.dec E.rng E.i1
  simp only at sh
  cases st with
  | nil =>
    have l0 : l = 0 := S.len
    subst l0
    simp only [stepE]
    unfold impl_eagerMachine_takeHeaded impl_eagerMachine_takeHeaded_n1
    rfl
  | cons s rest =>
    have rs := E.rng s (List.mem_cons_self ..)
    simp only at rs
    have hb : b = ((bitsB (hdB h) : Nat) : Int) := S.bits
    have l1 : l = rest.length + 1 := S.len
    simp only [List.length_cons] at sh
    have hs := ehas (o := o) (l := l) (a := (p : Int)) (d := d) (ar := ar) hb (by omega) (fun x hx => (nm x hx).1) rs.1 (show s ≤ h.length by omega)
    have i1 : inb (IntKind.wrap .i64 (((l : Nat) : Int) - 1)) l = some rest.length := by
      rw [wrap64 (by omega) (by omega)]
      unfold inb
      rw [if_pos (by omega), show (((l : Nat) : Int) - 1).toNat = rest.length by omega]
    have nat : impl_eagerMachine_takeHeaded o l (p : Int) d b h ar = cond (!(decide (hd h s ≠ 0))) (some (false, o, l)) (some (true, o, l - 1)) := by
      unfold impl_eagerMachine_takeHeaded impl_eagerMachine_takeHeaded_n1
      rw [show (((l : Nat) : Int) == 0) = false from beq_eq_false_iff_ne.2 (by omega), i1]
      simp only [cond_false, Option.bind_some, S.top, hs]
      rw [eaway (by omega) (by omega)]
      rfl
    by_cases z : hd h s ≠ 0
    · have e : stepE n 68 (p + 1, s :: rest, h) = some (p + 1, rest, h) := by simp [stepE, z]
      rw [e]
      simp only
      refine ⟨?_, S.pop hb, trivial, trivial⟩
      rw [nat, decide_eq_true z]
      rfl
    · have e : stepE n 68 (p + 1, s :: rest, h) = none := by
        unfold stepE
        rw [if_neg (by decide)]
        simp only
        rw [if_neg (by decide), if_neg (by decide), if_pos trivial, if_neg z]
      rw [e]
      simp only
      rw [nat, decide_eq_false z]
      rfl

theorem stepE_other {n m : Nat} {c : Conf} (h1 : m ≠ 83) (h2 : m ≠ 76) (h3 : m ≠ 82) (h4 : m ≠ 68) : stepE n m c = none := by
  unfold stepE
  rw [if_neg h1]
  split
  · rw [if_neg h2, if_neg h3, if_neg h4]
  · rfl

theorem eall_step {n k z o l p m : Nat} {mv : ByteArray} {d b : Int} {st : List Nat} {h ar : List Int} (hk : k < z) (hm : bidx mv (k : Int) = some (m : Int)) (S : NS (p + 1, st, h) o l b ar) (E : EInv n (p + 1, st, h)) (n8 : n ≤ 8) (z8 : z ≤ 1099511627776) :
    match stepE n m (p + 1, st, h) with
    | some c => ∃ o' l' d' b' ar', impl_allDone_impl_eagerMachine_n3 mv (z : Int) (k : Int) o l (p : Int) d b h ar = some (Sum.inl (((k + 1 : Nat) : Int), o', l', ((c.1 - 1 : Nat) : Int), d', b', c.2.2, ar')) ∧ NS c o' l' b' ar'
    | none => ∃ q, impl_allDone_impl_eagerMachine_n3 mv (z : Int) (k : Int) o l (p : Int) d b h ar = some (Sum.inr (Sum.inl (false, q))) := by
  have hl : h.length = n := E.len
  have hi : p + 1 ≤ n + 1 := E.hi
  have sh := dec_short E.dec E.rng E.i1
  simp only at sh
  have hl1 : l = st.length := S.len
  have hw : (ar.drop o).take l = convS st := S.win
  have hb : b = ((bitsB (hdB h) : Nat) : Int) := S.bits
  have w : IntKind.wrap .i64 ((k : Int) + 1) = ((k + 1 : Nat) : Int) := by rw [wrap64 (by omega) (by omega)]; omega
  unfold impl_allDone_impl_eagerMachine_n3
  rw [decide_eq_true (show (k : Int) < (z : Int) by omega), hm, w]
  simp only [cond_true, Option.bind_some]
  by_cases m1 : m = 83
  · subst m1
    rw [show (((83 : Nat) : Int) == 83) = true from rfl]
    by_cases le : p + 1 ≤ n
    · have e : stepE n 83 (p + 1, st, h) = some (p + 1 + 1, (p + 1) :: st, h) := by simp [stepE, le]
      obtain ⟨d', q⟩ := eput_ok (p := p) (d := d) (b := b) (h := h) hw hl1 (by omega) (by omega) (by omega)
      rw [e, q]
      exact ⟨_, _, _, _, _, rfl, NS.full hb⟩
    · have e : stepE n 83 (p + 1, st, h) = none := by simp [stepE, le]
      rw [e, eput_no hw hl1 (by omega) (by omega) (by omega)]
      exact ⟨_, rfl⟩
  · rw [show ((m : Int) == 83) = false from beq_eq_false_iff_ne.2 (by omega)]
    by_cases m2 : m = 76
    · subst m2
      rw [show (((76 : Nat) : Int) == 76) = true from rfl]
      have u := eunder (d := d) S E n8
      cases e : stepE n 76 (p + 1, st, h) with
      | none =>
        rw [e] at u
        simp only at u
        rw [u]
        exact ⟨_, rfl⟩
      | some c =>
        rw [e] at u
        obtain ⟨b', u1, u2, u3⟩ := u
        rw [u1]
        refine ⟨o, l - 1, d, b', ar, ?_, u2⟩
        rw [u3]
        rfl
    · rw [show ((m : Int) == 76) = false from beq_eq_false_iff_ne.2 (by omega)]
      by_cases m3 : m = 82
      · subst m3
        rw [show (((82 : Nat) : Int) == 82) = true from rfl]
        have u := eupper (d := d) S E n8
        cases e : stepE n 82 (p + 1, st, h) with
        | none =>
          rw [e] at u
          simp only at u
          rw [u]
          exact ⟨_, rfl⟩
        | some c =>
          rw [e] at u
          obtain ⟨o', l', d', b', ar', u1, u2⟩ := u
          rw [u1]
          exact ⟨o', l', d', b', ar', rfl, u2⟩
      · rw [show ((m : Int) == 82) = false from beq_eq_false_iff_ne.2 (by omega)]
        by_cases m4 : m = 68
        · subst m4
          rw [show (((68 : Nat) : Int) == 68) = true from rfl]
          have u := eheaded (d := d) S E n8
          cases e : stepE n 68 (p + 1, st, h) with
          | none =>
            rw [e] at u
            simp only at u
            rw [u]
            exact ⟨_, rfl⟩
          | some c =>
            rw [e] at u
            obtain ⟨u1, u2, u3, u4⟩ := u
            rw [u1]
            refine ⟨o, l - 1, d, b, ar, ?_, u2⟩
            rw [u3, u4]
            rfl
        · rw [show ((m : Int) == 68) = false from beq_eq_false_iff_ne.2 (by omega), stepE_other m1 m2 m3 m4]
          exact ⟨_, rfl⟩

theorem eall_loop {n : Nat} {mv : ByteArray} (n8 : n ≤ 8) (hs : mv.size ≤ 1099511627776) : ∀ (r k o l p : Nat) (d b : Int) (st : List Nat) (h ar : List Int) (N : Nat), k + r = mv.size → NS (p + 1, st, h) o l b ar → EInv n (p + 1, st, h) → r < N →
    ∃ out, nloop (fun (s : Int × Nat × Nat × Int × Int × Int × (List Int) × (List Int)) => ((impl_allDone_impl_eagerMachine_n3 mv ((mv.size : Nat) : Int) s.1 s.2.1 s.2.2.1 s.2.2.2.1 s.2.2.2.2.1 s.2.2.2.2.2.1 s.2.2.2.2.2.2.1 s.2.2.2.2.2.2.2).map (Sum.elim (fun (t : Int × Nat × Nat × Int × Int × Int × (List Int) × (List Int)) => Sum.inl (t.1, t.2.1, t.2.2.1, t.2.2.2.1, t.2.2.2.2.1, t.2.2.2.2.2.1, t.2.2.2.2.2.2.1, t.2.2.2.2.2.2.2)) (Sum.elim (fun (t : Bool × Nat × Nat × Int × Int × Int × (List Int) × (List Int)) => Sum.inr (Sum.inl t)) (fun (t : Nat × Nat × Int × Int × Int × (List Int) × (List Int)) => Sum.inr (Sum.inr t)))) : Option ((Int × Nat × Nat × Int × Int × Int × (List Int) × (List Int)) ⊕ ((Bool × Nat × Nat × Int × Int × Int × (List Int) × (List Int)) ⊕ (Nat × Nat × Int × Int × Int × (List Int) × (List Int)))))) N ((k : Int), o, l, (p : Int), d, b, h, ar) = some out ∧
      match runE n ((bytesN mv).drop k) (p + 1, st, h) with
      | some c => ∃ o' l' d' b' ar', out = Sum.inr (o', l', ((c.1 - 1 : Nat) : Int), d', b', c.2.2, ar') ∧ NS c o' l' b' ar'
      | none => ∃ q, out = Sum.inl (false, q)
  | 0, k, o, l, p, d, b, st, h, ar, N, e, S, E, hN => by
    obtain ⟨N, rfl⟩ : ∃ N', N = N' + 1 := ⟨N - 1, by omega⟩
    rw [List.drop_eq_nil_of_le (by rw [bytesN_length]; omega)]
    unfold nloop impl_allDone_impl_eagerMachine_n3
    simp only
    rw [decide_eq_false (show ¬ (k : Int) < ((mv.size : Nat) : Int) by omega)]
    exact ⟨_, rfl, o, l, d, b, ar, rfl, S⟩
  | r + 1, k, o, l, p, d, b, st, h, ar, N, e, S, E, hN => by
    obtain ⟨N, rfl⟩ : ∃ N', N = N' + 1 := ⟨N - 1, by omega⟩
    have hk : k < mv.size := by omega
    have hk' : k < (bytesN mv).length := by rw [bytesN_length]; exact hk
    have st1 := eall_step (d := d) hk (bidx_ok hk) S E n8 hs
    rw [List.drop_eq_getElem_cons hk']
    unfold nloop runE
    simp only
    cases q : stepE n (bytesN mv)[k] (p + 1, st, h) with
    | none =>
      rw [q] at st1
      obtain ⟨q1, g⟩ := st1
      rw [g]
      exact ⟨_, rfl, q1, rfl⟩
    | some c =>
      rw [q] at st1
      obtain ⟨o', l', d', b', ar', g, S'⟩ := st1
      obtain ⟨i', st', h'⟩ := c
      have E' := (estep_ok E q).1
      have i1 : 1 ≤ i' := E'.i1
      obtain ⟨p', rfl⟩ : ∃ p', i' = p' + 1 := ⟨i' - 1, by omega⟩
      rw [g]
      simp only [Option.map_some, Sum.elim_inl, Option.bind_some, Nat.add_sub_cancel]
      exact eall_loop n8 hs r (k + 1) o' l' p' d' b' st' h' ar' N (by omega) S' E' (by omega)

theorem bits_zero : ∀ n, bitsB (hdB (List.replicate n 0)) = 0 := fun n => by
  induction n with
  | zero => rfl
  | succ n ih =>
    unfold hdB at ih ⊢
    rw [List.replicate_succ, List.map_cons]
    unfold bitsB
    rw [ih]
    rfl

theorem eall_eq {n : Nat} {mv : ByteArray} (n1 : 1 ≤ n) (n8 : n ≤ 8) (hs : mv.size ≤ 1099511627776) : ∃ out, impl_allDone_impl_eagerMachine mv 0 0 0 (List.replicate n 0) = some out ∧
      match runE n (bytesN mv) (1, [], List.replicate n 0) with
      | some c => ∃ o' l' d' b' ar', out = (true, o', l', ((c.1 - 1 : Nat) : Int), d', b', c.2.2, ar') ∧ NS c o' l' b' ar'
      | none => ∃ q, out = (false, q) := by
  have z : ((bitsB (hdB (List.replicate n 0)) : Nat) : Int) = 0 := by
    rw [bits_zero]
    rfl
  obtain ⟨out, l1, l2⟩ := eall_loop n8 hs mv.size 0 0 0 0 0 0 [] (List.replicate n 0) [] LL (by omega) ⟨rfl, Nat.le_refl _, rfl, z.symm⟩ (EInv.start n1) (by simp only [LL]; omega)
  rw [List.drop_zero] at l2
  rw [show ((0 : Nat) : Int) = 0 from rfl] at l1
  have e : impl_allDone_impl_eagerMachine mv 0 0 0 (List.replicate n 0) = impl_allDone_impl_eagerMachine_n9 mv 0 0 0 (List.replicate n 0) := by unfold impl_allDone_impl_eagerMachine; rfl
  rw [e]
  unfold impl_allDone_impl_eagerMachine_n9 impl_allDone_impl_eagerMachine_n1 impl_allDone_impl_eagerMachine_n8 impl_allDone_impl_eagerMachine_n6 impl_allDone_impl_eagerMachine_n2 impl_allDone_impl_eagerMachine_n5 impl_allDone_impl_eagerMachine_n4
  simp only [Option.bind_some, List.length_nil]
  rw [l1]
  cases q : runE n (bytesN mv) (1, [], List.replicate n 0) with
  | none =>
    rw [q] at l2
    obtain ⟨q1, rfl⟩ := l2
    exact ⟨_, rfl, q1, rfl⟩
  | some c =>
    rw [q] at l2
    obtain ⟨o', l', d', b', ar', rfl, S⟩ := l2
    exact ⟨_, rfl, o', l', d', b', ar', rfl, S⟩

theorem newEager {n : Nat} (n8 : n ≤ 8) : impl_newEagerMachine (n : Int) = some (List.replicate n 0) := by
  have hnew : impl_newStackMachine (n : Int) = some (List.replicate n 0) := by
    unfold impl_newStackMachine impl_newStackMachine_n1
    rw [mk_nat (by omega)]
    rfl
  unfold impl_newEagerMachine impl_newEagerMachine_n1
  rw [hnew]
  rfl

theorem eagerMoves_eq : impl_eagerMoves = some () := by unfold impl_eagerMoves; rfl

theorem implEager_eq (x : Int) (mv : ByteArray) (hs : mv.size ≤ 1099511627776) : impl_RunEager x mv = some (eagI x mv) := by
  have e : impl_RunEager x mv = impl_RunEager_n1 x mv := by unfold impl_RunEager; rfl
  rw [e]
  unfold impl_RunEager_n1 eagI
  by_cases h1 : 1 ≤ x
  · rw [decide_eq_false (show ¬ x < 1 by omega)]
    by_cases h8 : x ≤ 8
    · rw [decide_eq_false (show ¬ x > 8 by omega), if_pos ⟨h1, h8⟩]
      obtain ⟨n, rfl⟩ : ∃ n : Nat, x = (n : Int) := ⟨x.toNat, by omega⟩
      have n8 : n ≤ 8 := by omega
      obtain ⟨out, l1, l2⟩ := eall_eq (mv := mv) (show 1 ≤ n by omega) n8 hs
      simp only [cond_false, newEager n8, eagerMoves_eq, Option.bind_some, Int.toNat_natCast]
      rw [l1]
      cases q : runE n (bytesN mv) (1, [], List.replicate n 0) with
      | none =>
        rw [q] at l2
        obtain ⟨q1, rfl⟩ := l2
        rfl
      | some c =>
        rw [q] at l2
        obtain ⟨o', l', d', b', ar', rfl, S⟩ := l2
        obtain ⟨i, st, h⟩ := c
        have E := (erun_inv (EInv.start (show 1 ≤ n by omega)) q).1
        have hl : h.length = n := E.len
        have hi : i ≤ n + 1 := E.hi
        have i1 : 1 ≤ i := E.i1
        have hb : b' = ((bitsB (hdB h) : Nat) : Int) := S.bits
        have lh := hdB_length h
        have hc := hdB_count h
        have en : impl_eagerMachine_ended o' l' ((i - 1 : Nat) : Int) d' b' h ar' = impl_eagerMachine_ended_n1 ((i - 1 : Nat) : Int) b' h := by unfold impl_eagerMachine_ended; rfl
        simp only [Option.bind_some, Bool.not_true, cond_false]
        rw [en]
        unfold impl_eagerMachine_ended_n1
        rw [hb, count_ok (hdB h) (by omega), wrap64 (x := ((h.length : Nat) : Int) - 1) (by omega) (by omega)]
        by_cases g : n < i
        · rw [show (((i - 1 : Nat) : Int) == ((h.length : Nat) : Int)) = true from beq_iff_eq.mpr (by omega)]
          by_cases c : h.count 0 = 1
          · simp only [cond_true, Option.bind_some]
            rw [show ((((hdB h).count true : Nat) : Int) == ((h.length : Nat) : Int) - 1) = true from beq_iff_eq.mpr (by omega), if_pos ⟨c, g⟩]
            rfl
          · simp only [cond_true, Option.bind_some]
            rw [show ((((hdB h).count true : Nat) : Int) == ((h.length : Nat) : Int) - 1) = false from beq_eq_false_iff_ne.2 (by omega), if_neg (fun z => c z.1)]
            rfl
        · rw [show (((i - 1 : Nat) : Int) == ((h.length : Nat) : Int)) = false from beq_eq_false_iff_ne.2 (by omega), if_neg (fun z => g z.2)]
          rfl
    · rw [decide_eq_true (show x > 8 by omega), if_neg (fun z => h8 z.2)]
      rfl
  · rw [decide_eq_true (show x < 1 by omega), if_neg (fun z => h1 z.1)]
    rfl

theorem upper_short {a b : Int} {h : List Int} {st : List Nat} (hl : st.length < 2) : impl_stackMachine_upperTwo a b h (convS st) = some (0, 0, false) := by
  have e : impl_stackMachine_upperTwo a b h (convS st) = impl_stackMachine_upperTwo_n1 (convS st) := by unfold impl_stackMachine_upperTwo; rfl
  rw [e]
  unfold impl_stackMachine_upperTwo_n1
  rw [decide_eq_true (show (((convS st).length : Nat) : Int) < 2 by rw [convS_length]; omega)]
  rfl

theorem upper_two {a b : Int} {h : List Int} {s t : Nat} {rest : List Nat} (lrest : rest.length ≤ 20) : impl_stackMachine_upperTwo a b h (convS (s :: t :: rest)) = some ((t : Int), (s : Int), true) := by
  have e : impl_stackMachine_upperTwo a b h (convS (s :: t :: rest)) = impl_stackMachine_upperTwo_n1 (convS (s :: t :: rest)) := by unfold impl_stackMachine_upperTwo; rfl
  have lr := convS_length rest
  have ec2 : convS (s :: t :: rest) = convS rest ++ [(t : Int), (s : Int)] := by rw [convS_cons, convS_cons]; simp
  have len : (convS (s :: t :: rest)).length = rest.length + 2 := by rw [convS_length]; rfl
  have g1 : (convS (s :: t :: rest))[rest.length]? = some (t : Int) := by rw [ec2, ← lr]; simp
  have g2 : (convS (s :: t :: rest))[rest.length + 1]? = some (s : Int) := by rw [ec2, ← lr]; simp
  have i1 : inb (IntKind.wrap .i64 (((rest.length + 2 : Nat) : Int) - 2)) (rest.length + 2) = some rest.length := by
    rw [wrap64 (by omega) (by omega)]
    unfold inb
    rw [if_pos (by omega), show (((rest.length + 2 : Nat) : Int) - 2).toNat = rest.length by omega]
  have i2 : inb (IntKind.wrap .i64 (((rest.length + 2 : Nat) : Int) - 1)) (rest.length + 2) = some (rest.length + 1) := by
    rw [wrap64 (by omega) (by omega)]
    unfold inb
    rw [if_pos (by omega), show (((rest.length + 2 : Nat) : Int) - 1).toNat = rest.length + 1 by omega]
  rw [e]
  unfold impl_stackMachine_upperTwo_n1
  rw [len, decide_eq_false (show ¬ ((rest.length + 2 : Nat) : Int) < 2 by omega), i1, i2]
  simp only [cond_false, Option.bind_some, g1, g2]

theorem join_ok {a g : Nat} {r d : Int} {h : List Int} {s t : Nat} {rest : List Nat} (ha : 1 ≤ a) (ha' : a ≤ h.length) (hl : h.length ≤ 100) (lrest : rest.length ≤ 20) :
    impl_stackMachine_join (a : Int) (g : Int) r d h (convS (s :: t :: rest)) = some (h.set (a - 1) (g : Int), convS (g :: rest)) := by
  have lr := convS_length rest
  have ec2 : convS (s :: t :: rest) = convS rest ++ [(t : Int), (s : Int)] := by rw [convS_cons, convS_cons]; simp
  have len : (convS (s :: t :: rest)).length = rest.length + 2 := by rw [convS_length]; rfl
  have i5 : inb (IntKind.wrap .i64 ((a : Int) - 1)) h.length = some (a - 1) := by
    rw [wrap64 (by omega) (by omega)]
    unfold inb
    rw [if_pos (by omega), show ((a : Int) - 1).toNat = a - 1 by omega]
  have i3 : inc (IntKind.wrap .i64 (((rest.length + 2 : Nat) : Int) - 2)) (rest.length + 2) = some rest.length := by
    rw [wrap64 (by omega) (by omega)]
    unfold inc
    rw [if_pos (by omega), show (((rest.length + 2 : Nat) : Int) - 2).toNat = rest.length by omega]
  have t1 : ((convS (s :: t :: rest)).drop 0).take (rest.length - 0) = convS rest := by rw [ec2, ← lr]; simp
  unfold impl_stackMachine_join impl_stackMachine_join_n1
  rw [len, i5, i3]
  simp only [Option.bind_some]
  rw [room_ok (by simp only [List.length_cons, List.length_nil]; omega), t1, convS_cons]
  rfl

theorem below_short {r d : Int} {h : List Int} {st : List Nat} (hl : st.length < 2) : impl_stackMachine_takeBelow r d h (convS st) = some (false, h, convS st) := by
  unfold impl_stackMachine_takeBelow impl_stackMachine_takeBelow_n1
  rw [upper_short hl]
  rfl

theorem above_short {r d : Int} {h : List Int} {st : List Nat} (hl : st.length < 2) : impl_stackMachine_takeUpper r d h (convS st) = some (false, h, convS st) := by
  unfold impl_stackMachine_takeUpper impl_stackMachine_takeUpper_n1
  rw [upper_short hl]
  rfl

theorem below_two {r d : Int} {h : List Int} {s t : Nat} {rest : List Nat} (ht : 1 ≤ t) (ht' : t ≤ h.length) (hl : h.length ≤ 100) (lrest : rest.length ≤ 20) :
    impl_stackMachine_takeBelow r d h (convS (s :: t :: rest)) = some (true, h.set (t - 1) (s : Int), convS (s :: rest)) := by
  unfold impl_stackMachine_takeBelow impl_stackMachine_takeBelow_n1
  rw [upper_two lrest]
  simp only [Option.bind_some, cond_true]
  rw [join_ok ht ht' hl lrest]
  rfl

theorem above_two {r d : Int} {h : List Int} {s t : Nat} {rest : List Nat} (ht : 1 ≤ s) (ht' : s ≤ h.length) (hl : h.length ≤ 100) (lrest : rest.length ≤ 20) :
    impl_stackMachine_takeUpper r d h (convS (s :: t :: rest)) = some (true, h.set (s - 1) (t : Int), convS (t :: rest)) := by
  unfold impl_stackMachine_takeUpper impl_stackMachine_takeUpper_n1
  rw [upper_two lrest]
  simp only [Option.bind_some, cond_true]
  rw [join_ok ht ht' hl lrest]
  rfl

theorem imax_nat (y z : Nat) : imax (y : Int) (z : Int) = ((max y z : Nat) : Int) := by unfold imax; split <;> omega

theorem put_more {p d : Nat} {h : List Int} {st : List Nat} (hp : p < h.length) (hl : h.length ≤ 100) (ls : st.length ≤ 100) :
    impl_stackMachine_putNext (p : Int) (d : Int) h (convS st) = some (true, ((p + 1 : Nat) : Int), ((max d (st.length + 1) : Nat) : Int), convS ((p + 1) :: st)) := by
  have w : IntKind.wrap .i64 ((p : Int) + 1) = ((p + 1 : Nat) : Int) := by rw [wrap64 (by omega) (by omega)]; omega
  have lc := convS_length st
  unfold impl_stackMachine_putNext impl_stackMachine_putNext_n1
  rw [show ((p : Int) == ((h.length : Nat) : Int)) = false from beq_eq_false_iff_ne.2 (by omega), w, ← convS_cons, room_ok (by simp only [List.length_cons, List.length_nil]; omega), convS_length, imax_nat]
  rfl

theorem put_none {p d : Int} {h : List Int} {st : List Int} (hp : p = ((h.length : Nat) : Int)) : impl_stackMachine_putNext p d h st = some (false, p, d, st) := by
  unfold impl_stackMachine_putNext impl_stackMachine_putNext_n1
  rw [show (p == ((h.length : Nat) : Int)) = true from beq_iff_eq.mpr hp]
  rfl

/-- How deep the stack is after a move, if it was so deep at most before. -/
def dstepN (m : Nat) (c : Conf) (d : Nat) : Nat := if m = 83 then max d c.2.1.length else d

theorem after_step {n k z : Nat} {mv : ByteArray} {p d : Nat} {st : List Nat} {h : List Int} {m : Nat} (hk : k < z) (hm : bidx mv (k : Int) = some (m : Int)) (R : RInv n (p + 1, st, h)) (n8 : n ≤ 8) (z8 : z ≤ 1099511627776) :
    impl_allDone_impl_stackMachine_n3 mv (z : Int) (k : Int) (p : Int) (d : Int) h (convS st) = some (match stepM n m (p + 1, st, h) with
      | some c => Sum.inl (((k + 1 : Nat) : Int), ((c.1 - 1 : Nat) : Int), ((dstepN m c d : Nat) : Int), c.2.2, convS c.2.1)
      | none => Sum.inr (Sum.inl (false, (p : Int), (d : Int), h, convS st))) := by
  have M := R.base
  have hl : h.length = n := M.len
  have hi : p + 1 ≤ n + 1 := M.hi
  obtain ⟨c0, ρ, ec, _⟩ := M.rank
  simp only at ec
  have w : IntKind.wrap .i64 ((k : Int) + 1) = ((k + 1 : Nat) : Int) := by rw [wrap64 (by omega) (by omega)]; omega
  unfold impl_allDone_impl_stackMachine_n3
  rw [decide_eq_true (show (k : Int) < (z : Int) by omega), hm, w]
  simp only [cond_true, Option.bind_some]
  by_cases m1 : m = 83
  · subst m1
    rw [show (((83 : Nat) : Int) == 83) = true from rfl]
    by_cases le : p + 1 ≤ n
    · have e : stepM n 83 (p + 1, st, h) = some (p + 1 + 1, (p + 1) :: st, h) := by simp [stepM, le]
      rw [e, put_more (by omega) (by omega) (by omega)]
      simp [dstepN]
    · have e : stepM n 83 (p + 1, st, h) = none := by simp [stepM, le]
      rw [e, put_none (by omega)]
      rfl
  · rw [show ((m : Int) == 83) = false from beq_eq_false_iff_ne.2 (by omega)]
    have dn : ∀ c : Conf, dstepN m c d = d := fun c => by unfold dstepN; rw [if_neg m1]
    match st, R, M, ec with
    | [], R, M, ec =>
      have e : stepM n m (p + 1, [], h) = none := by simp [stepM, m1]
      rw [e, below_short (by simp), above_short (by simp)]
      cases (m : Int) == 76 <;> cases (m : Int) == 82 <;> rfl
    | [s], R, M, ec =>
      have e : stepM n m (p + 1, [s], h) = none := by simp [stepM, m1]
      rw [e, below_short (by simp), above_short (by simp)]
      cases (m : Int) == 76 <;> cases (m : Int) == 82 <;> rfl
    | s :: t :: rest, R, M, ec =>
      have rs := M.rng s (List.mem_cons_self ..)
      have rt := M.rng t (List.mem_cons_of_mem _ (List.mem_cons_self ..))
      simp only at rs rt
      have lrest : rest.length ≤ 20 := by simp only [List.length_cons] at ec; omega
      by_cases m2 : m = 76
      · subst m2
        have e : stepM n 76 (p + 1, s :: t :: rest, h) = some (p + 1, s :: rest, h.set (t - 1) (s : Int)) := by simp [stepM]
        rw [e, show (((76 : Nat) : Int) == 76) = true from rfl, below_two rt.1 (by omega) (by omega) lrest]
        simp [dn]
      · rw [show ((m : Int) == 76) = false from beq_eq_false_iff_ne.2 (by omega)]
        by_cases m3 : m = 82
        · subst m3
          have e : stepM n 82 (p + 1, s :: t :: rest, h) = some (p + 1, t :: rest, h.set (s - 1) (t : Int)) := by simp [stepM]
          rw [e, show (((82 : Nat) : Int) == 82) = true from rfl, above_two rs.1 (by omega) (by omega) lrest]
          simp [dn]
        · rw [show ((m : Int) == 82) = false from beq_eq_false_iff_ne.2 (by omega)]
          have e : stepM n m (p + 1, s :: t :: rest, h) = none := by simp [stepM, m1, m2, m3]
          rw [e]
          rfl

/-- How deep the stack is at most. -/
def depM (n : Nat) : List Nat → Conf → Nat → Nat
  | [], _, d => d
  | m :: ms, c, d => match stepM n m c with
    | some c' => depM n ms c' (dstepN m c' d)
    | none => d

theorem step_pos {n m : Nat} {c c' : Conf} (hc : 1 ≤ c.1) (e : stepM n m c = some c') : 1 ≤ c'.1 := by
  obtain ⟨i, st, h⟩ := c
  unfold stepM at e
  simp only at e hc
  split at e
  · split at e
    · cases e; simp only; omega
    · cases e
  · split at e
    · split at e
      · cases e; exact hc
      · split at e
        · cases e; exact hc
        · cases e
    · cases e

theorem run_pos {n : Nat} : ∀ {ms : List Nat} {c c' : Conf}, 1 ≤ c.1 → runM n ms c = some c' → 1 ≤ c'.1
  | [], c, c', hc, e => by
    unfold runM at e
    cases e
    exact hc
  | m :: ms, c, c', hc, e => by
    unfold runM at e
    obtain ⟨d, e1, e2⟩ := Option.bind_eq_some_iff.mp e
    exact run_pos (step_pos hc e1) e2

theorem step_pos0 {n : Nat} {ms : List Nat} {c' : Conf} (e : runM n ms (1, [], List.replicate n 0) = some c') : 1 ≤ c'.1 := run_pos (Nat.le_refl _) e

/-- What the moves, one after another, lead to; a state if one of them cannot be done. -/
def doneS (n : Nat) : List Nat → Conf → Nat → (Int × Int × List Int × List Int) ⊕ (Int × Int × List Int × List Int)
  | [], c, d => Sum.inl (((c.1 - 1 : Nat) : Int), (d : Int), c.2.2, convS c.2.1)
  | m :: ms, c, d => match stepM n m c with
    | some c' => doneS n ms c' (dstepN m c' d)
    | none => Sum.inr (((c.1 - 1 : Nat) : Int), (d : Int), c.2.2, convS c.2.1)

theorem doneS_some {n : Nat} : ∀ {ms : List Nat} {c e : Conf} {d : Nat}, runM n ms c = some e → doneS n ms c d = Sum.inl (((e.1 - 1 : Nat) : Int), ((depM n ms c d : Nat) : Int), e.2.2, convS e.2.1)
  | [], c, e, d, h => by
    unfold runM at h
    cases h
    rfl
  | m :: ms, c, e, d, h => by
    unfold runM at h
    obtain ⟨c', e1, e2⟩ := Option.bind_eq_some_iff.mp h
    unfold doneS depM
    rw [e1]
    exact doneS_some e2

theorem doneS_none {n : Nat} : ∀ {ms : List Nat} {c : Conf} {d : Nat}, runM n ms c = none → ∃ q, doneS n ms c d = Sum.inr q
  | [], c, d, h => by
    unfold runM at h
    cases h
  | m :: ms, c, d, h => by
    unfold doneS
    cases e : stepM n m c with
    | none => exact ⟨_, rfl⟩
    | some c' =>
      unfold runM at h
      rw [e] at h
      exact doneS_none h

theorem done_loop {n : Nat} {mv : ByteArray} (n8 : n ≤ 8) (hs : mv.size ≤ 1099511627776) : ∀ (r k p d : Nat) (st : List Nat) (h : List Int) (N : Nat), k + r = mv.size → RInv n (p + 1, st, h) → r < N →
    nloop (fun (s : Int × Int × Int × (List Int) × (List Int)) => ((impl_allDone_impl_stackMachine_n3 mv ((mv.size : Nat) : Int) s.1 s.2.1 s.2.2.1 s.2.2.2.1 s.2.2.2.2).map (Sum.elim (fun (t : Int × Int × Int × (List Int) × (List Int)) => Sum.inl (t.1, t.2.1, t.2.2.1, t.2.2.2.1, t.2.2.2.2)) (Sum.elim (fun (t : Bool × Int × Int × (List Int) × (List Int)) => Sum.inr (Sum.inl t)) (fun (t : Int × Int × (List Int) × (List Int)) => Sum.inr (Sum.inr t)))) : Option ((Int × Int × Int × (List Int) × (List Int)) ⊕ ((Bool × Int × Int × (List Int) × (List Int)) ⊕ (Int × Int × (List Int) × (List Int)))))) N ((k : Int), (p : Int), (d : Int), h, convS st)
      = some (match doneS n ((bytesN mv).drop k) (p + 1, st, h) d with
        | .inl q => Sum.inr q
        | .inr q => Sum.inl (false, q))
  | 0, k, p, d, st, h, N, e, R, hN => by
    obtain ⟨N, rfl⟩ : ∃ N', N = N' + 1 := ⟨N - 1, by omega⟩
    rw [List.drop_eq_nil_of_le (by rw [bytesN_length]; omega)]
    unfold nloop impl_allDone_impl_stackMachine_n3
    simp only
    rw [decide_eq_false (show ¬ (k : Int) < ((mv.size : Nat) : Int) by omega)]
    rfl
  | r + 1, k, p, d, st, h, N, e, R, hN => by
    obtain ⟨N, rfl⟩ : ∃ N', N = N' + 1 := ⟨N - 1, by omega⟩
    have hk : k < mv.size := by omega
    have hk' : k < (bytesN mv).length := by rw [bytesN_length]; exact hk
    have st1 := after_step (d := d) hk (bidx_ok hk) R n8 hs
    rw [List.drop_eq_getElem_cons hk']
    unfold nloop doneS
    simp only
    rw [st1]
    cases q : stepM n (bytesN mv)[k] (p + 1, st, h) with
    | none => rfl
    | some c =>
      obtain ⟨i', st', h'⟩ := c
      have hp := step_pos (by simp only; omega) q
      simp only at hp
      obtain ⟨p', rfl⟩ : ∃ p', i' = p' + 1 := ⟨i' - 1, by omega⟩
      have R' := (step_ok R q).1
      exact done_loop n8 hs r (k + 1) p' _ st' h' N (by omega) R' (by omega)

theorem done_eq {n : Nat} {mv : ByteArray} (n8 : n ≤ 8) (hs : mv.size ≤ 1099511627776) : impl_allDone_impl_stackMachine mv 0 0 (List.replicate n 0) = some (match doneS n (bytesN mv) (1, [], List.replicate n 0) 0 with
      | .inl q => (true, q)
      | .inr q => (false, q)) := by
  have l := done_loop n8 hs mv.size 0 0 0 [] (List.replicate n 0) LL (by omega) (RInv.start n) (by simp only [LL]; omega)
  rw [List.drop_zero, show ((0 : Nat) : Int) = 0 from rfl, show convS [] = ([] : List Int) from rfl, show (0 + 1 : Nat) = 1 from rfl] at l
  unfold impl_allDone_impl_stackMachine impl_allDone_impl_stackMachine_n9 impl_allDone_impl_stackMachine_n1 impl_allDone_impl_stackMachine_n8 impl_allDone_impl_stackMachine_n6 impl_allDone_impl_stackMachine_n2 impl_allDone_impl_stackMachine_n5 impl_allDone_impl_stackMachine_n4
  simp only [Option.bind_some]
  rw [l]
  cases doneS n (bytesN mv) (1, [], List.replicate n 0) 0 with
  | inl q => rfl
  | inr q => rfl

/-- What the landed machine says. -/
def afterI (x : Int) (mv : ByteArray) : Bool × Int × Int × List Int × List Int :=
  if 1 ≤ x ∧ x ≤ 8 then
    match runM x.toNat (bytesN mv) (1, [], List.replicate x.toNat 0) with
    | some c => if c.2.1.length = 1 ∧ x.toNat < c.1 then (true, ((c.1 - 1 : Nat) : Int), ((depM x.toNat (bytesN mv) (1, [], List.replicate x.toNat 0) 0 : Nat) : Int), c.2.2, convS c.2.1) else (false, 0, 0, [], [])
    | none => (false, 0, 0, [], [])
  else (false, 0, 0, [], [])

theorem after_eq (x : Int) (mv : ByteArray) (hs : mv.size ≤ 1099511627776) : impl_afterMoves x mv = some (afterI x mv) := by
  unfold impl_afterMoves impl_afterMoves_n1 afterI
  by_cases h1 : 1 ≤ x
  · rw [decide_eq_false (show ¬ x < 1 by omega)]
    by_cases h8 : x ≤ 8
    · rw [decide_eq_false (show ¬ x > 8 by omega), if_pos ⟨h1, h8⟩]
      obtain ⟨n, rfl⟩ : ∃ n : Nat, x = (n : Int) := ⟨x.toNat, by omega⟩
      have n8 : n ≤ 8 := by omega
      have hm : mk (n : Int) (n : Int) = some n := mk_nat (by omega)
      have hnew : impl_newStackMachine (n : Int) = some (List.replicate n 0) := by
        unfold impl_newStackMachine impl_newStackMachine_n1
        rw [hm]
        rfl
      have hmo : impl_stackMoves = some () := by unfold impl_stackMoves; rfl
      simp only [cond_false, hnew, hmo, Option.bind_some, Int.toNat_natCast]
      rw [done_eq n8 hs]
      cases q : runM n (bytesN mv) (1, [], List.replicate n 0) with
      | none =>
        obtain ⟨z, hz⟩ := doneS_none (d := 0) q
        rw [hz]
        rfl
      | some c =>
        rw [doneS_some q]
        obtain ⟨i, st, h⟩ := c
        have R := (run_inv (RInv.start n) q).1
        have hi : i ≤ n + 1 := R.base.hi
        have hl : h.length = n := R.base.len
        have ls := convS_length st
        simp only [Option.bind_some, Bool.not_true, cond_false]
        have e : ∀ a b, impl_stackMachine_ended a b h (convS st) = impl_stackMachine_ended_n1 a h (convS st) := fun a b => by unfold impl_stackMachine_ended; rfl
        rw [e]
        unfold impl_stackMachine_ended_n1
        by_cases g : n < i
        · rw [show (((i - 1 : Nat) : Int) == ((h.length : Nat) : Int)) = true from beq_iff_eq.mpr (by omega)]
          by_cases c : st.length = 1
          · rw [show ((((convS st).length : Nat) : Int) == 1) = true from beq_iff_eq.mpr (by omega), if_pos ⟨c, g⟩]
            rfl
          · rw [show ((((convS st).length : Nat) : Int) == 1) = false from beq_eq_false_iff_ne.2 (by omega), if_neg (fun z => c z.1)]
            rfl
        · rw [if_neg (fun z => g z.2)]
          by_cases z : i = 0
          · subst z
            have := step_pos0 q
            omega
          · rw [show (((i - 1 : Nat) : Int) == ((h.length : Nat) : Int)) = false from beq_eq_false_iff_ne.2 (by omega)]
            rfl
    · rw [decide_eq_true (show x > 8 by omega), if_neg (fun z => h8 z.2)]
      rfl
  · rw [decide_eq_true (show x < 1 by omega), if_neg (fun z => h1 z.1)]
    rfl

theorem implRun_eq (x : Int) (mv : ByteArray) (hs : mv.size ≤ 1099511627776) : impl_RunStack x mv = some (runI x mv) := by
  unfold impl_RunStack impl_RunStack_n1
  rw [after_eq x mv hs]
  unfold afterI runI
  by_cases b : 1 ≤ x ∧ x ≤ 8
  · rw [if_pos b, if_pos b]
    cases q : runM x.toNat (bytesN mv) (1, [], List.replicate x.toNat 0) with
    | none => rfl
    | some c =>
      simp only
      by_cases e : c.2.1.length = 1 ∧ x.toNat < c.1
      · rw [if_pos e, if_pos e]
        rfl
      · rw [if_neg e, if_neg e]
        rfl
  · rw [if_neg b, if_neg b]
    rfl

theorem ba_ext {a b : ByteArray} (h : a.data.toList = b.data.toList) : a = b := by
  cases a with
  | mk x =>
    cases b with
    | mk y =>
      congr 1
      exact Array.ext' h

theorem bytes_fold (l : List Int) : ∀ (r : ByteArray), (l.foldl (fun r n => r.push (UInt8.ofNat n.toNat)) r).data.toList = r.data.toList ++ l.map (fun n => UInt8.ofNat n.toNat) := by
  induction l with
  | nil => intro r; simp
  | cons n l ih =>
    intro r
    rw [List.foldl_cons, ih]
    simp [ByteArray.push]

theorem bytesOf_data (l : List Int) : (bytesOf l).data.toList = l.map (fun n => UInt8.ofNat n.toNat) := by
  unfold bytesOf
  rw [bytes_fold]
  have e : ByteArray.empty.data.toList = [] := rfl
  rw [e, List.nil_append]

theorem bytesOf_bytesN (mv : ByteArray) : bytesOf ((bytesN mv).map fun (m : Nat) => (m : Int)) = mv := by
  refine ba_ext ?_
  rw [bytesOf_data]
  unfold bytesN
  rw [List.map_map, List.map_map]
  refine (List.map_congr_left (fun b _ => ?_)).trans (List.map_id _)
  simp

theorem maskN_inj {p q : Nat → Bool} {n : Nat} (h : maskN p n = maskN q n) {i : Nat} (hi : i < n) : p i = q i := by
  have a := maskN_bit p n i
  have b := maskN_bit q n i
  rw [h] at a
  rw [a] at b
  simpa [hi] using b

theorem headB_at {h : List Int} {w c : Nat} (c1 : 1 ≤ c) (hg : h[c - 1]? = some ((hd h c : Nat) : Int)) : headB h (w : Int) (c - 1) = decide (hd h c = w) := by
  unfold headB
  rw [List.getD_eq_getElem?_getD, hg, Option.getD_some]
  by_cases e : hd h c = w
  · rw [e]
    simp
  · rw [decide_eq_false e]
    exact beq_eq_false_iff_ne.2 (by omega)

theorem free_iff {H : List Int} (T : Tree H) {i : Nat} {st : List Nat} {h : List Int} (O : ORInv H (i, st, h)) {w : Nat} (w1 : 1 ≤ w) : maskN (headB H (w : Int)) H.length = maskN (headB h (w : Int)) H.length ↔ LeafU H i st w := by
  have M := O.o.base
  have hl : h.length = H.length := M.len
  have zero : ∀ c, 1 ≤ c → c ≤ H.length → InU i st c → hd h c = 0 := fun c c1 c2 u => by
    rcases u with u | u
    · exact (M.rng c u).2.2
    · exact O.unread c u c2
  constructor
  · intro e c c1 c2 u hc
    have a := maskN_inj e (i := c - 1) (by omega)
    rw [headB_at c1 (T.get c1 c2), headB_at c1 (M.get c1 (by omega))] at a
    rw [zero c c1 c2 u, decide_eq_true hc] at a
    have := of_decide_eq_true a.symm
    omega
  · intro L
    refine maskN_congr fun k hk => ?_
    have a := headB_at (h := H) (w := w) (c := k + 1) (by omega) (T.get (by omega) (by omega))
    have b := headB_at (h := h) (w := w) (c := k + 1) (by omega) (M.get (by omega) (by omega))
    rw [Nat.add_sub_cancel] at a b
    rw [a, b]
    by_cases u : InU i st (k + 1)
    · rw [decide_eq_false (L (k + 1) (by omega) (by omega) u), zero (k + 1) (by omega) (by omega) u, decide_eq_false (by omega)]
    · have u1 : k + 1 ∉ st := fun z => u (.inl z)
      have u2 : k + 1 < i := Nat.lt_of_not_le fun z => u (.inr z)
      rw [O.o.agree (k + 1) (by omega) u2 u1]

open Classical in
theorem may_ok {H : List Int} (T : Tree H) {i : Nat} {st : List Nat} {h : List Int} (O : ORInv H (i, st, h)) {w g : Nat} {r d : Int} {ss : List Int} (w1 : 1 ≤ w) (w2 : w ≤ H.length) :
    impl_stackMachine_ruleFor_1 (w : Int) (g : Int) H r d h ss = some (decide (hd H w = g ∧ LeafU H i st w)) := by
  have M := O.o.base
  have hl : h.length = H.length := M.len
  have le := T.le
  have ix : idx H (IntKind.wrap .i64 ((w : Int) - 1)) = some ((hd H w : Nat) : Int) := by
    rw [wrap64 (by omega) (by omega)]
    have := T.get w1 w2
    unfold idx
    rw [if_pos (by omega), show ((w : Int) - 1).toNat = w - 1 by omega]
    exact this
  have d1 := dependents_eq H (w : Int) le
  have d2 := dependents_eq h (w : Int) (by omega)
  rw [hl] at d2
  unfold impl_stackMachine_ruleFor_1 impl_stackMachine_ruleFor_1_n1
  rw [ix, d1, d2]
  simp only [Option.bind_some]
  by_cases e : hd H w = g
  · rw [show (((hd H w : Nat) : Int) == (g : Int)) = true from beq_iff_eq.mpr (by omega)]
    have fi := free_iff T O w1
    by_cases L : LeafU H i st w
    · rw [decide_eq_true ⟨e, L⟩, fi.mpr L]
      simp
    · rw [decide_eq_false (fun z => L z.2)]
      simp only [cond_true]
      congr 1
      refine beq_eq_false_iff_ne.2 fun z => L (fi.mp ?_)
      omega
  · rw [show (((hd H w : Nat) : Int) == (g : Int)) = false from beq_eq_false_iff_ne.2 (by omega), decide_eq_false (fun z => e z.1)]
    rfl

open Classical in
theorem rule_ok {H : List Int} (T : Tree H) {i : Nat} {st : List Nat} {h : List Int} (O : ORInv H (i, st, h)) {r d : Int} :
    impl_stackMachine_ruleFor_2 r d H h (convS st) = some ((ruleM H i st : Nat) : Int) := by
  have M := O.o.base
  have hi : i ≤ H.length + 1 := M.hi
  have le := T.le
  obtain ⟨c0, ρ, ec, _⟩ := M.rank
  simp only at ec
  unfold impl_stackMachine_ruleFor_2 impl_stackMachine_ruleFor_2_n1
  match st, O, M, ec with
  | [], O, M, ec =>
    rw [upper_short (by simp)]
    rfl
  | [s], O, M, ec =>
    rw [upper_short (by simp)]
    rfl
  | s :: t :: rest, O, M, ec =>
    have rs := M.rng s (List.mem_cons_self ..)
    have rt := M.rng t (List.mem_cons_of_mem _ (List.mem_cons_self ..))
    simp only at rs rt
    have lrest : rest.length ≤ 20 := by simp only [List.length_cons] at ec; omega
    rw [upper_two lrest]
    simp only [Option.bind_some, cond_true]
    rw [may_ok T O rt.1 (by omega), may_ok T O rs.1 (by omega)]
    simp only [Option.bind_some]
    unfold ruleM
    simp only
    by_cases a : hd H t = s ∧ LeafU H i (s :: t :: rest) t
    · rw [decide_eq_true a, if_pos a]
      rfl
    · rw [decide_eq_false a, if_neg a]
      by_cases b : hd H s = t ∧ LeafU H i (s :: t :: rest) s
      · rw [decide_eq_true b, if_pos b]
        rfl
      · rw [decide_eq_false b, if_neg b]
        rfl

/-- One move by the rule. -/
theorem move_ok {H : List Int} (T : Tree H) {k z : Nat} {p d : Nat} {st : List Nat} {h : List Int} {c : Conf} (O : ORInv H (p + 1, st, h)) (e : stepM H.length (ruleM H (p + 1) st) (p + 1, st, h) = some c) (hk : k < z) (z8 : z ≤ 100) {ms : List Int} (lm : ms.length ≤ 100) :
    impl_MovesFor_n3 (z : Int) (k : Int) (p : Int) (d : Int) ms h (convS st) H = some (Sum.inl (((k + 1 : Nat) : Int), ((c.1 - 1 : Nat) : Int), ((dstepN (ruleM H (p + 1) st) c d : Nat) : Int), ms ++ [((ruleM H (p + 1) st : Nat) : Int)], c.2.2, convS c.2.1)) := by
  have M := O.o.base
  have hl : h.length = H.length := M.len
  have hi : p + 1 ≤ H.length + 1 := M.hi
  have le := T.le
  obtain ⟨c0, ρ, ec, _⟩ := M.rank
  simp only at ec
  have w : IntKind.wrap .i64 ((k : Int) + 1) = ((k + 1 : Nat) : Int) := by rw [wrap64 (by omega) (by omega)]; omega
  have rm : ∀ v : Int, room (ms.length + [v].length) = some () := fun v => room_ok (by simp only [List.length_cons, List.length_nil]; omega)
  unfold impl_MovesFor_n3
  rw [decide_eq_true (show (k : Int) < (z : Int) by omega), rule_ok T O, w]
  simp only [cond_true, Option.bind_some]
  rcases rule_three H (p + 1) st with m | m | m
  · rw [m] at e ⊢
    by_cases hp : p + 1 ≤ H.length
    · have e' : stepM H.length 83 (p + 1, st, h) = some (p + 1 + 1, (p + 1) :: st, h) := by simp [stepM, hp]
      rw [e'] at e
      cases e
      rw [show (((83 : Nat) : Int) == 83) = true from rfl, put_more (by omega) (by omega) (by omega)]
      simp only [cond_true, Option.bind_some, rm]
      simp [dstepN]
    · have e' : stepM H.length 83 (p + 1, st, h) = none := by simp [stepM, hp]
      rw [e'] at e
      cases e
  · rw [m] at e ⊢
    match st, O, M, ec, e with
    | [], O, M, ec, e => simp [stepM] at e
    | [s], O, M, ec, e => simp [stepM] at e
    | s :: t :: rest, O, M, ec, e =>
      have rs := M.rng s (List.mem_cons_self ..)
      have rt := M.rng t (List.mem_cons_of_mem _ (List.mem_cons_self ..))
      simp only at rs rt
      have lrest : rest.length ≤ 20 := by simp only [List.length_cons] at ec; omega
      have e' : stepM H.length 76 (p + 1, s :: t :: rest, h) = some (p + 1, s :: rest, h.set (t - 1) (s : Int)) := by simp [stepM]
      rw [e'] at e
      cases e
      rw [show (((76 : Nat) : Int) == 83) = false from rfl, show (((76 : Nat) : Int) == 76) = true from rfl, below_two rt.1 (by omega) (by omega) lrest]
      simp only [cond_true, cond_false, Option.bind_some, rm]
      simp [dstepN]
  · rw [m] at e ⊢
    match st, O, M, ec, e with
    | [], O, M, ec, e => simp [stepM] at e
    | [s], O, M, ec, e => simp [stepM] at e
    | s :: t :: rest, O, M, ec, e =>
      have rs := M.rng s (List.mem_cons_self ..)
      have rt := M.rng t (List.mem_cons_of_mem _ (List.mem_cons_self ..))
      simp only at rs rt
      have lrest : rest.length ≤ 20 := by simp only [List.length_cons] at ec; omega
      have e' : stepM H.length 82 (p + 1, s :: t :: rest, h) = some (p + 1, t :: rest, h.set (s - 1) (t : Int)) := by simp [stepM]
      rw [e'] at e
      cases e
      rw [show (((82 : Nat) : Int) == 83) = false from rfl, show (((82 : Nat) : Int) == 76) = false from rfl, show (((82 : Nat) : Int) == 82) = true from rfl, above_two rs.1 (by omega) (by omega) lrest]
      simp only [cond_true, cond_false, Option.bind_some, rm]
      simp [dstepN]

theorem rule_loop {H : List Int} (T : Tree H) (F : FlatP H) {z : Nat} (z8 : z ≤ 100) : ∀ (r k p d : Nat) (st : List Nat) (h : List Int) (ms : List Int) (N : Nat), k + r = z → ms.length = k → ORInv H (p + 1, st, h) → 2 * (p + 1) + r = 2 * H.length + 1 + st.length → r < N → ∀ {ns : List Nat} {c : Conf}, goM H r (p + 1, st, h) = some (ns, c) →
    nloop (fun (s : Int × Int × Int × (List Int) × (List Int) × (List Int)) => ((impl_MovesFor_n3 (z : Int) s.1 s.2.1 s.2.2.1 s.2.2.2.1 s.2.2.2.2.1 s.2.2.2.2.2 H).map (Sum.elim (fun (t : Int × Int × Int × (List Int) × (List Int) × (List Int)) => Sum.inl (t.1, t.2.1, t.2.2.1, t.2.2.2.1, t.2.2.2.2.1, t.2.2.2.2.2)) (fun (t : (List Int)) => Sum.inr t)) : Option ((Int × Int × Int × (List Int) × (List Int) × (List Int)) ⊕ (((List Int)))))) N ((k : Int), (p : Int), (d : Int), ms, h, convS st)
      = some (ms ++ ns.map fun (m : Nat) => (m : Int))
  | 0, k, p, d, st, h, ms, N, e, lm, O, b, hN, ns, c, g => by
    obtain ⟨N, rfl⟩ : ∃ N', N = N' + 1 := ⟨N - 1, by omega⟩
    unfold goM at g
    simp only [Option.some.injEq, Prod.mk.injEq] at g
    obtain ⟨rfl, _⟩ := g
    unfold nloop impl_MovesFor_n3
    simp only
    rw [decide_eq_false (show ¬ (k : Int) < (z : Int) by omega)]
    simp
  | r + 1, k, p, d, st, h, ms, N, e, lm, O, b, hN, ns, c, g => by
    obtain ⟨N, rfl⟩ : ∃ N', N = N' + 1 := ⟨N - 1, by omega⟩
    have nf : ¬ ((p + 1, st, h).1 = H.length + 1 ∧ (p + 1, st, h).2.1.length = 1) := by
      rintro ⟨x, y⟩
      simp only at x y
      omega
    obtain ⟨c1, e1, O', e2⟩ := rule_step T F O nf
    unfold goM at g
    rw [e1, Option.bind_some] at g
    obtain ⟨q, g1, g2⟩ := Option.map_eq_some_iff.mp g
    injection g2 with g3 g4
    subst g3 g4
    simp only at e1 e2
    have hp := step_pos (by simp only; omega) e1
    have mo := move_ok (d := d) (k := k) (z := z) T O e1 (by omega) z8 (ms := ms) (by omega)
    unfold nloop
    simp only
    rw [mo]
    obtain ⟨i', st', h'⟩ := c1
    simp only at hp e2
    obtain ⟨p', rfl⟩ : ∃ p', i' = p' + 1 := ⟨i' - 1, by omega⟩
    have ih := rule_loop T F z8 r (k + 1) p' (dstepN (ruleM H (p + 1) st) (p' + 1, st', h') d) st' h' (ms ++ [((ruleM H (p + 1) st : Nat) : Int)]) N (by omega) (by simp [lm]) O' (by omega) (by omega) g1
    simp only [Option.map_some, Sum.elim_inl, Option.bind_some]
    rw [show p' + 1 - 1 = p' by omega, ih]
    simp

theorem implMoves_eq (h : List Int) (hl : h.length ≤ 1048576) : impl_MovesFor h = spec_MovesFor h := by
  have e : impl_MovesFor h = impl_MovesFor_n9 h := by unfold impl_MovesFor; rfl
  rw [e]
  unfold impl_MovesFor_n9 impl_MovesFor_n1
  rw [implFlat_eq]
  cases f : flatI h with
  | false =>
    rw [specMoves_none hl f]
    rfl
  | true =>
    have TF : Tree h ∧ FlatP h := by
      unfold flatI at f
      rw [Bool.and_eq_true, tree_iff, flatB_iff] at f
      exact f
    obtain ⟨T, F⟩ := TF
    obtain ⟨mv, ms, g1, g2, g3⟩ := specMoves_flat T F
    have hp := T.pos
    have le := T.le
    have hnew : impl_newStackMachine ((h.length : Nat) : Int) = some (List.replicate h.length 0) := by
      unfold impl_newStackMachine impl_newStackMachine_n1
      rw [mk_nat (by omega)]
      rfl
    have hmo : impl_stackMoves = some () := by unfold impl_stackMoves; rfl
    have hru : ∀ a b c d, impl_stackMachine_ruleFor a b c d = some () := fun a b c d => by unfold impl_stackMachine_ruleFor impl_stackMachine_ruleFor_n1; rfl
    have z : IntKind.wrap .i64 (IntKind.wrap .i64 (2 * ((h.length : Nat) : Int)) - 1) = ((2 * h.length - 1 : Nat) : Int) := by rw [wrap64 (x := 2 * ((h.length : Nat) : Int)) (by omega) (by omega), wrap64 (by omega) (by omega)]; omega
    have lp := rule_loop T F (z := 2 * h.length - 1) (by omega) (2 * h.length - 1) 0 0 0 [] (List.replicate h.length 0) [] LL (by omega) rfl ⟨OInv.start h T, (RInv.start h.length).unread⟩ (by simp only [List.length_nil]; omega) (by simp only [LL]; omega) g2
    rw [show ((0 : Nat) : Int) = 0 from rfl, show convS [] = ([] : List Int) from rfl] at lp
    simp only [Option.bind_some, Bool.not_true, cond_false, hnew, hmo, hru, Sum.elim_inl]
    unfold impl_MovesFor_n8 impl_MovesFor_n6 impl_MovesFor_n2 impl_MovesFor_n5 impl_MovesFor_n4
    simp only [Option.bind_some, z]
    rw [lp, g1]
    simp only [Option.map_some, Option.bind_some, List.nil_append, impl_MovesFor_n7, ← g3, bytesOf_bytesN]

theorem below_loop {H : List Int} (T : Tree H) {i : Nat} {rest : List Nat} (i1 : 1 ≤ i) (hi : i ≤ H.length) (rg : ∀ x ∈ rest, 1 ≤ x ∧ x ≤ H.length) (sh : rest.length ≤ 8) : ∀ (r k N : Nat), k + r = rest.length → r < N →
    ∃ out, nloop (fun (s : Int) => ((slices_IndexFunc_int_int_n3 (convS rest) ((rest.length : Nat) : Int) s H (i : Int)).map (Sum.elim (fun (t : Int) => Sum.inl t) (Sum.elim (fun (t : Int) => Sum.inr (Sum.inl t)) (fun (t : Unit) => Sum.inr (Sum.inr t)))) : Option ((Int) ⊕ (Int ⊕ Unit)))) N (k : Int) = some out ∧
      if (rest.reverse.drop k).any (ruleP H i) = true then ∃ j : Nat, out = Sum.inl (j : Int) else out = Sum.inr ()
  | 0, k, N, e, hN => by
    obtain ⟨N, rfl⟩ : ∃ N', N = N' + 1 := ⟨N - 1, by omega⟩
    unfold nloop slices_IndexFunc_int_int_n3
    rw [decide_eq_false (show ¬ (k : Int) < ((rest.length : Nat) : Int) by omega), List.drop_eq_nil_of_le (by simp; omega)]
    exact ⟨_, rfl, rfl⟩
  | r + 1, k, N, e, hN => by
    obtain ⟨N, rfl⟩ : ∃ N', N = N' + 1 := ⟨N - 1, by omega⟩
    have ih := below_loop T i1 hi rg sh r (k + 1) N (by omega) (by omega)
    have hk : k < rest.reverse.length := by simp; omega
    have mx : rest.reverse[k] ∈ rest := by
      have := List.getElem_mem hk
      rwa [List.mem_reverse] at this
    have rx := rg _ mx
    have hle := T.le
    have gs : idx (convS rest) (k : Int) = some ((rest.reverse[k] : Nat) : Int) := by
      unfold idx
      rw [if_pos (by omega), Int.toNat_natCast]
      unfold convS
      rw [← List.map_reverse, List.getElem?_map, List.getElem?_eq_getElem hk]
      rfl
    have w1 : IntKind.wrap .i64 ((i : Int) - 1) = ((i - 1 : Nat) : Int) := by rw [wrap64 (by omega) (by omega)]; omega
    have w2 : IntKind.wrap .i64 (((rest.reverse[k] : Nat) : Int) - 1) = ((rest.reverse[k] - 1 : Nat) : Int) := by rw [wrap64 (by omega) (by omega)]; omega
    have w3 : IntKind.wrap .i64 ((k : Int) + 1) = ((k + 1 : Nat) : Int) := by rw [wrap64 (by omega) (by omega)]; omega
    have gi : idx H ((i - 1 : Nat) : Int) = some ((hd H i : Nat) : Int) := by
      unfold idx
      rw [if_pos (by omega), Int.toNat_natCast, T.get i1 hi]
    have gx : idx H ((rest.reverse[k] - 1 : Nat) : Int) = some ((hd H rest.reverse[k] : Nat) : Int) := by
      unfold idx
      rw [if_pos (by omega), Int.toNat_natCast, T.get rx.1 rx.2]
    have c : impl_eagerMachine_waitsBelow_1 ((rest.reverse[k] : Nat) : Int) H (i : Int) = some (ruleP H i rest.reverse[k]) := by
      have e : impl_eagerMachine_waitsBelow_1 ((rest.reverse[k] : Nat) : Int) H (i : Int) = impl_eagerMachine_waitsBelow_1_n1 ((rest.reverse[k] : Nat) : Int) H (i : Int) := by unfold impl_eagerMachine_waitsBelow_1; rfl
      rw [e]
      unfold impl_eagerMachine_waitsBelow_1_n1 ruleP
      rw [w1, w2, gi, gx]
      simp only [Option.bind_some]
      by_cases c1 : hd H i = rest.reverse[k]
      · rw [show (((hd H i : Nat) : Int) == ((rest.reverse[k] : Nat) : Int)) = true from beq_iff_eq.mpr (by omega), beq_iff_eq.mpr c1]
        rfl
      · rw [show (((hd H i : Nat) : Int) == ((rest.reverse[k] : Nat) : Int)) = false from beq_eq_false_iff_ne.2 (by omega), beq_eq_false_iff_ne.2 c1]
        by_cases c2 : hd H rest.reverse[k] = i
        · rw [show (((hd H rest.reverse[k] : Nat) : Int) == (i : Int)) = true from beq_iff_eq.mpr (by omega), beq_iff_eq.mpr c2]
          rfl
        · rw [show (((hd H rest.reverse[k] : Nat) : Int) == (i : Int)) = false from beq_eq_false_iff_ne.2 (by omega), beq_eq_false_iff_ne.2 c2]
          rfl
    rw [List.drop_eq_getElem_cons hk, List.any_cons]
    unfold nloop slices_IndexFunc_int_int_n3
    rw [decide_eq_true (show (k : Int) < ((rest.length : Nat) : Int) by omega), gs]
    simp only [cond_true, Option.bind_some, c, w3]
    cases q : ruleP H i rest.reverse[k] with
    | true => exact ⟨_, rfl, k, rfl⟩
    | false =>
      simp only [Bool.false_or]
      exact ih

theorem contains_eq {H : List Int} (T : Tree H) {i : Nat} {rest : List Nat} (i1 : 1 ≤ i) (hi : i ≤ H.length) (rg : ∀ x ∈ rest, 1 ≤ x ∧ x ≤ H.length) (sh : rest.length ≤ 8) : slices_ContainsFunc_int_int (convS rest) H (i : Int) = some (rest.any (ruleP H i)) := by
  obtain ⟨out, l1, l2⟩ := below_loop T i1 hi rg sh rest.length 0 LL (by omega) (by simp only [LL]; omega)
  rw [List.drop_zero, List.any_reverse] at l2
  rw [show ((0 : Nat) : Int) = 0 from rfl] at l1
  have ls := convS_length rest
  have e : slices_IndexFunc_int_int (convS rest) H (i : Int) = slices_IndexFunc_int_int_n9 (convS rest) H (i : Int) := by unfold slices_IndexFunc_int_int; rfl
  unfold slices_ContainsFunc_int_int slices_ContainsFunc_int_int_n1
  rw [e]
  unfold slices_IndexFunc_int_int_n9 slices_IndexFunc_int_int_n1 slices_IndexFunc_int_int_n8 slices_IndexFunc_int_int_n6 slices_IndexFunc_int_int_n2 slices_IndexFunc_int_int_n5 slices_IndexFunc_int_int_n4
  simp only [Option.bind_some, ls]
  rw [l1]
  by_cases q : rest.any (ruleP H i) = true
  · rw [if_pos q] at l2
    obtain ⟨j, rfl⟩ := l2
    rw [q]
    simp only [Option.map_some, Option.bind_some, Sum.elim_inl, Sum.elim_inr]
    rw [decide_eq_true (by omega)]
  · rw [if_neg q] at l2
    subst l2
    rw [Bool.eq_false_iff.mpr q]
    rfl

theorem letter_ok {H : List Int} (T : Tree H) {p o l : Nat} {d b : Int} {st : List Nat} {h ar : List Int} (S : NS (p + 1, st, h) o l b ar) (E : EInv H.length (p + 1, st, h)) (hp : p < H.length) :
    impl_eagerMachine_letterFor H o l (p : Int) d b h ar = some ((ruleE H (p + 1) st : Nat) : Int) := by
  have hle := T.le
  have hl : h.length = H.length := E.len
  have sh := dec_short E.dec E.rng E.i1
  simp only at sh
  have up := eup (d := d) S (by omega) (by omega) (by omega)
  have e : impl_eagerMachine_letterFor H o l (p : Int) d b h ar = impl_eagerMachine_letterFor_n1 H o l (p : Int) d b h ar := by unfold impl_eagerMachine_letterFor; rfl
  rw [e]
  unfold impl_eagerMachine_letterFor_n1
  rw [up]
  cases st with
  | nil => rfl
  | cons s rest =>
    have rs := E.rng s (List.mem_cons_self ..)
    simp only at rs
    have l1 : l = rest.length + 1 := S.len
    simp only [List.length_cons] at sh
    simp only
    rw [if_pos (by omega)]
    have w1 : IntKind.wrap .i64 (((p + 1 : Nat) : Int) - 1) = ((p : Nat) : Int) := by rw [wrap64 (by omega) (by omega)]; omega
    have w2 : IntKind.wrap .i64 ((s : Int) - 1) = ((s - 1 : Nat) : Int) := by rw [wrap64 (by omega) (by omega)]; omega
    have gi : idx H ((p : Nat) : Int) = some ((hd H (p + 1) : Nat) : Int) := by
      have := T.get (w := p + 1) (by omega) (by omega)
      unfold idx
      rw [if_pos (by omega), Int.toNat_natCast]
      exact this
    have gs : idx H ((s - 1 : Nat) : Int) = some ((hd H s : Nat) : Int) := by
      unfold idx
      rw [if_pos (by omega), Int.toNat_natCast, T.get rs.1 (by omega)]
    have wb : impl_eagerMachine_waitsBelow H ((p + 1 : Nat) : Int) o l (p : Int) d b h ar = some (rest.any (ruleP H (p + 1))) := by
      have e : impl_eagerMachine_waitsBelow H ((p + 1 : Nat) : Int) o l (p : Int) d b h ar = impl_eagerMachine_waitsBelow_n1 H ((p + 1 : Nat) : Int) o l ar := by unfold impl_eagerMachine_waitsBelow; rfl
      have i3 : inc (IntKind.wrap .i64 (((l : Nat) : Int) - 1)) l = some (l - 1) := by
        rw [wrap64 (by omega) (by omega)]
        unfold inc
        rw [if_pos (by omega), show (((l : Nat) : Int) - 1).toNat = l - 1 by omega]
      have w := (S.pop (h' := h) rfl).win
      simp only at w
      rw [e]
      unfold impl_eagerMachine_waitsBelow_n1
      rw [i3]
      simp only [Option.bind_some, Nat.add_zero, Nat.sub_zero, w]
      rw [contains_eq T (by omega) (by omega) (fun x hx => by have := E.rng x (List.mem_cons_of_mem _ hx); simp only at this; omega) (by omega)]
      rfl
    simp only [Option.bind_some, Bool.not_true, cond_false, w1, w2, gi, gs, wb, ruleE]
    by_cases c1 : hd H s = p + 1
    · rw [show (((hd H s : Nat) : Int) == ((p + 1 : Nat) : Int)) = true from beq_iff_eq.mpr (by omega), if_pos c1]
      rfl
    · rw [show (((hd H s : Nat) : Int) == ((p + 1 : Nat) : Int)) = false from beq_eq_false_iff_ne.2 (by omega), if_neg c1]
      by_cases c2 : hd H (p + 1) = s
      · rw [show (((hd H (p + 1) : Nat) : Int) == (s : Int)) = true from beq_iff_eq.mpr (by omega), if_pos c2]
        rfl
      · rw [show (((hd H (p + 1) : Nat) : Int) == (s : Int)) = false from beq_eq_false_iff_ne.2 (by omega), if_neg c2]
        have eq : rest.any (ruleP H (p + 1)) = rest.any (fun k => hd H (p + 1) == k || hd H k == p + 1) := rfl
        rw [eq]
        by_cases c3 : rest.any (fun k => hd H (p + 1) == k || hd H k == p + 1) = true
        · rw [if_pos c3, c3]
          rfl
        · rw [if_neg c3, Bool.eq_false_iff.mpr c3]
          rfl

theorem efor_step {H : List Int} (T : Tree H) {p o l : Nat} {d b : Int} {st : List Nat} {h ar ms : List Int} {c : Conf} (S : NS (p + 1, st, h) o l b ar) (E : EInv H.length (p + 1, st, h)) (hp : p < H.length) (e : stepE H.length (ruleE H (p + 1) st) (p + 1, st, h) = some c) (lm : ms.length ≤ 100) :
    ∃ o' l' d' b' ar', impl_EagerFor_n2 H o l (p : Int) d b ms h ar = some (Sum.inl (o', l', ((c.1 - 1 : Nat) : Int), d', b', ms ++ [((ruleE H (p + 1) st : Nat) : Int)], c.2.2, ar')) ∧ NS c o' l' b' ar' := by
  have hle := T.le
  have hl : h.length = H.length := E.len
  have sh := dec_short E.dec E.rng E.i1
  simp only at sh
  have hl1 : l = st.length := S.len
  have hw : (ar.drop o).take l = convS st := S.win
  have hb : b = ((bitsB (hdB h) : Nat) : Int) := S.bits
  have rm : ∀ v : Int, room (ms.length + [v].length) = some () := fun v => room_ok (by simp only [List.length_cons, List.length_nil]; omega)
  unfold impl_EagerFor_n2
  rw [decide_eq_true (show (p : Int) < ((H.length : Nat) : Int) by omega), letter_ok T S E hp]
  simp only [cond_true, Option.bind_some]
  rcases ruleE_four H (p + 1) st with m | m | m | m
  · rw [m] at e ⊢
    have e' : stepE H.length 83 (p + 1, st, h) = some (p + 1 + 1, (p + 1) :: st, h) := by simp [stepE]; omega
    obtain ⟨d', q⟩ := eput_ok (p := p) (d := d) (b := b) (h := h) hw hl1 (by omega) (by omega) (by omega)
    rw [e'] at e
    cases e
    rw [show (((83 : Nat) : Int) == 83) = true from rfl, q]
    simp only [cond_true, Option.bind_some, rm]
    exact ⟨_, _, _, _, _, rfl, NS.full hb⟩
  · rw [m] at e ⊢
    have u := eunder (d := d) S E hle
    rw [e] at u
    obtain ⟨b', u1, u2, u3⟩ := u
    rw [show (((76 : Nat) : Int) == 83) = false from rfl, show (((76 : Nat) : Int) == 76) = true from rfl, u1]
    simp only [cond_true, cond_false, Option.bind_some, rm]
    refine ⟨o, l - 1, d, b', ar, ?_, u2⟩
    rw [u3]
    rfl
  · rw [m] at e ⊢
    have u := eupper (d := d) S E hle
    rw [e] at u
    obtain ⟨o', l', d', b', ar', u1, u2⟩ := u
    rw [show (((82 : Nat) : Int) == 83) = false from rfl, show (((82 : Nat) : Int) == 76) = false from rfl, show (((82 : Nat) : Int) == 82) = true from rfl, u1]
    simp only [cond_true, cond_false, Option.bind_some, rm]
    exact ⟨o', l', d', b', ar', rfl, u2⟩
  · rw [m] at e ⊢
    have u := eheaded (d := d) S E hle
    rw [e] at u
    obtain ⟨u1, u2, u3, u4⟩ := u
    rw [show (((68 : Nat) : Int) == 83) = false from rfl, show (((68 : Nat) : Int) == 76) = false from rfl, show (((68 : Nat) : Int) == 82) = false from rfl, show (((68 : Nat) : Int) == 68) = true from rfl, u1]
    simp only [cond_true, cond_false, Option.bind_some, rm]
    refine ⟨o, l - 1, d, b, ar, ?_, u2⟩
    rw [u3, u4]
    rfl

theorem efor_loop {H : List Int} (T : Tree H) (F : FlatP H) : ∀ (k : Nat) (p o l : Nat) (d b : Int) (st : List Nat) (h ar ms : List Int) (N : Nat), NS (p + 1, st, h) o l b ar → EO H (p + 1, st, h) → ms.length + k ≤ 100 → k < N → ∀ {ns : List Nat} {c : Conf}, goE H k (p + 1, st, h) = some (ns, c) →
    nloop (fun (s : Nat × Nat × Int × Int × Int × (List Int) × (List Int) × (List Int)) => ((impl_EagerFor_n2 H s.1 s.2.1 s.2.2.1 s.2.2.2.1 s.2.2.2.2.1 s.2.2.2.2.2.1 s.2.2.2.2.2.2.1 s.2.2.2.2.2.2.2).map (Sum.elim (fun (t : Nat × Nat × Int × Int × Int × (List Int) × (List Int) × (List Int)) => Sum.inl (t.1, t.2.1, t.2.2.1, t.2.2.2.1, t.2.2.2.2.1, t.2.2.2.2.2.1, t.2.2.2.2.2.2.1, t.2.2.2.2.2.2.2)) (fun (t : (List Int)) => Sum.inr t)) : Option ((Nat × Nat × Int × Int × Int × (List Int) × (List Int) × (List Int)) ⊕ (((List Int)))))) N (o, l, (p : Int), d, b, ms, h, ar)
      = some (ms ++ ns.map fun (m : Nat) => (m : Int))
  | k, p, o, l, d, b, st, h, ar, ms, N, S, O, lm, hN, ns, c, g => by
    obtain ⟨N, rfl⟩ : ∃ N', N = N' + 1 := ⟨N - 1, by omega⟩
    have hle := T.le
    by_cases hc : p + 1 ≤ H.length
    · cases k with
      | zero =>
        unfold goE at g
        rw [if_pos hc] at g
        cases g
      | succ k =>
        obtain ⟨c1, e1, O'⟩ := erule_step T F O hc
        unfold goE at g
        rw [if_pos hc, e1, Option.bind_some] at g
        obtain ⟨q, g1, g2⟩ := Option.map_eq_some_iff.mp g
        injection g2 with g3 g4
        subst g3 g4
        simp only at e1
        obtain ⟨o', l', d', b', ar', s1, S'⟩ := efor_step (d := d) (ms := ms) T S O.e (by omega) e1 (by omega)
        obtain ⟨i', st', h'⟩ := c1
        have i1 : 1 ≤ i' := O'.e.i1
        obtain ⟨p', rfl⟩ : ∃ p', i' = p' + 1 := ⟨i' - 1, by omega⟩
        unfold nloop
        simp only
        rw [s1]
        have ih := efor_loop T F k p' o' l' d' b' st' h' ar' (ms ++ [((ruleE H (p + 1) st : Nat) : Int)]) N S' O' (by simp; omega) (by omega) g1
        simp only [Option.map_some, Sum.elim_inl, Option.bind_some, Nat.add_sub_cancel]
        rw [ih]
        simp
    · have g' : goE H k (p + 1, st, h) = some ([], (p + 1, st, h)) := by cases k <;> (unfold goE; rw [if_neg hc])
      rw [g'] at g
      simp only [Option.some.injEq, Prod.mk.injEq] at g
      obtain ⟨rfl, _⟩ := g
      unfold nloop impl_EagerFor_n2
      simp only
      rw [decide_eq_false (show ¬ (p : Int) < ((H.length : Nat) : Int) by omega)]
      simp

theorem implEagerFor_eq (h : List Int) (hl : h.length ≤ 1048576) : impl_EagerFor h = spec_EagerFor h := by
  have e : impl_EagerFor h = impl_EagerFor_n7 h := by unfold impl_EagerFor; rfl
  rw [e]
  unfold impl_EagerFor_n7 impl_EagerFor_n1
  rw [implFlat_eq]
  cases f : flatI h with
  | false =>
    rw [specEagerFor_none hl f]
    rfl
  | true =>
    have TF : Tree h ∧ FlatP h := by
      unfold flatI at f
      rw [Bool.and_eq_true, tree_iff, flatB_iff] at f
      exact f
    obtain ⟨T, F⟩ := TF
    obtain ⟨mv, ms, st, g1, g2, g3⟩ := specEagerFor_flat T F
    have hp := T.pos
    have le := T.le
    have z : ((bitsB (hdB (List.replicate h.length 0)) : Nat) : Int) = 0 := by
      rw [bits_zero]
      rfl
    have lp := efor_loop T F (2 * h.length) 0 0 0 0 0 [] (List.replicate h.length 0) [] [] LL ⟨rfl, Nat.le_refl _, rfl, z.symm⟩ (EO.start T) (by simp only [List.length_nil]; omega) (by simp only [LL]; omega) g2
    rw [show ((0 : Nat) : Int) = 0 from rfl] at lp
    simp only [Option.bind_some, Bool.not_true, cond_false, newEager le, eagerMoves_eq, Sum.elim_inl]
    unfold impl_EagerFor_n6 impl_EagerFor_n4 impl_EagerFor_n3
    simp only [List.length_nil]
    rw [lp, g1]
    simp only [Option.map_some, Option.bind_some, List.nil_append, impl_EagerFor_n5, ← g3, bytesOf_bytesN]

theorem tree0 : treeB [0] = true := by decide
theorem tree1 : treeB [1] = false := by decide
theorem alive_eq : laws_alive = some true := by
  unfold laws_alive laws_alive_n1
  simp [implTree_eq, tree0, tree1]

theorem sameInts_eq (xs ys : List Int) (h : xs.length ≤ 1048576) : laws_sameInts xs ys = some (xs == ys) := by
  have e : laws_sameInts xs ys = laws_sameInts_n9 xs ys := by unfold laws_sameInts; rfl
  rw [e]
  unfold laws_sameInts_n9 laws_sameInts_n1 laws_sameInts_n8 laws_sameInts_n6 laws_sameInts_n5 laws_sameInts_n4 laws_sameInts_n2 laws_sameInts_n7
  by_cases hl : xs.length = ys.length
  · have hloop := nloop_run (body := fun (s : Int) => ((laws_sameInts_n3 xs ys s).map (Sum.elim (fun (t : Int) => Sum.inl t) (Sum.elim (fun (t : Bool) => Sum.inr (Sum.inl t)) (fun (t : Unit) => Sum.inr (Sum.inr t)))) : Option ((Int) ⊕ (Bool ⊕ Unit))))
      (I := fun s => ∃ k : Nat, s = k ∧ k ≤ xs.length) (μ := fun s => xs.length - s.toNat) (f := fun s => cond (xs.drop s.toNat == ys.drop s.toNat) (.inr ()) (.inl false))
      (by
        rintro _ ⟨k, rfl, hk⟩
        by_cases hlt : k < xs.length
        · have hlt' : k < ys.length := by omega
          simp only [laws_sameInts_n3]
          rw [show decide ((k : Int) < ((xs.length : Nat) : Int)) = true from decide_eq_true (by omega)]
          simp only [cond_true, idx_lt hlt, idx_lt hlt', Option.bind_some, Int.toNat_natCast]
          rw [wrap64 (by omega) (by omega), drop_beq hlt hlt']
          by_cases he : xs[k] = ys[k]
          · left
            refine ⟨((k + 1 : Nat) : Int), by simp [he], ⟨k + 1, rfl, hlt⟩, by simp; omega, by simp [he]⟩
          · right
            have e1 : (xs[k] == ys[k]) = false := by simpa using he
            simp [bne, e1]
        · right
          have e : k = xs.length := by omega
          subst e
          simp only [laws_sameInts_n3]
          rw [show decide (((xs.length : Nat) : Int) < ((xs.length : Nat) : Int)) = false from decide_eq_false (by omega)]
          simp [List.drop_of_length_le (Nat.le_of_eq hl.symm)])
    rw [show ((((xs.length : Nat) : Int)) != (((ys.length : Nat) : Int))) = false by simp [hl]]
    simp only [cond_false, Option.bind_some, Sum.elim_inl]
    rw [hloop LL 0 ⟨0, by simp, by omega⟩ (by simp only [LL]; simp; omega)]
    simp only [Int.toNat_zero, List.drop_zero]
    cases xs == ys <;> rfl
  · rw [show ((((xs.length : Nat) : Int)) != (((ys.length : Nat) : Int))) = true by simp; omega]
    have : (xs == ys) = false := by
      rw [beq_eq_false_iff_ne]
      exact fun e => hl (by rw [e])
    rw [this]; rfl

end Go.Rv
