/-
  Plain mathematics: how many pairs of arcs cross. Conditions: none.
-/
import Derived.Test.YtgnjabkkcglmkaaDoorMcf
set_option linter.unusedVariables false
set_option linter.unusedSimpArgs false
namespace Go.Rv

def crossP (p q : Int × Int) : Bool := arcX p.1 p.2 q.1 q.2

/-- How many pairs of a list cross. -/
def pairsN (X : Int × Int → Int × Int → Bool) : List (Int × Int) → Nat
  | [] => 0
  | a :: r => r.countP (X a) + pairsN X r

theorem pairsN_snoc (X : Int × Int → Int × Int → Bool) (x : Int × Int) : ∀ l, pairsN X (l ++ [x]) = pairsN X l + l.countP (fun q => X q x)
  | [] => by simp [pairsN]
  | a :: r => by
    simp only [List.cons_append, pairsN]
    rw [pairsN_snoc X x r, List.countP_append, List.countP_cons, List.countP_cons, List.countP_nil]
    omega

theorem pairsN_le (X : Int × Int → Int × Int → Bool) : ∀ l, pairsN X l ≤ l.length * l.length
  | [] => by simp [pairsN]
  | a :: r => by
    simp only [pairsN, List.length_cons]
    have h1 := pairsN_le X r
    have h2 : r.countP (X a) ≤ r.length := List.countP_le_length
    rw [Nat.add_mul, Nat.mul_add]
    omega

theorem pairsN_reverse {X : Int × Int → Int × Int → Bool} (hX : ∀ p q, X p q = X q p) : ∀ l, pairsN X l.reverse = pairsN X l
  | [] => rfl
  | a :: r => by
    rw [List.reverse_cons, pairsN_snoc, pairsN_reverse hX r]
    simp only [pairsN]
    have : r.reverse.countP (fun q => X q a) = r.countP (X a) := by
      rw [List.countP_reverse]
      exact List.countP_congr fun q _ => by rw [hX]
    omega

theorem pairsN_map {X : Int × Int → Int × Int → Bool} {f : Int × Int → Int × Int} (hX : ∀ p q, X (f p) (f q) = X p q) : ∀ l, pairsN X (l.map f) = pairsN X l
  | [] => rfl
  | a :: r => by
    simp only [List.map_cons, pairsN]
    rw [pairsN_map hX r, List.countP_map]
    congr 1
    exact List.countP_congr fun q _ => by simp only [Function.comp]; rw [hX]

theorem pairsN_zero {X : Int × Int → Int × Int → Bool} : ∀ l, pairsN X l = 0 ↔ l.Pairwise fun p q => X p q = false
  | [] => by simp [pairsN]
  | a :: r => by
    simp only [pairsN, List.pairwise_cons, ← pairsN_zero r]
    constructor
    · intro h
      have h1 : r.countP (X a) = 0 := by omega
      rw [List.countP_eq_zero] at h1
      exact ⟨fun q hq => by simpa using h1 q hq, by omega⟩
    · rintro ⟨h1, h2⟩
      have : r.countP (X a) = 0 := List.countP_eq_zero.2 fun q hq => by rw [h1 q hq]; simp
      omega

theorem crossP_comm (p q : Int × Int) : crossP p q = crossP q p := by
  unfold crossP arcX
  apply Bool.eq_iff_iff.2
  simp only [decide_eq_true_eq]
  omega

def crossN (h : List Int) : Nat := pairsN crossP (arcsP h)
def crossingsI (h : List Int) : Int := if treeB h then (crossN h : Int) else -1

theorem crossN_le {h : List Int} (h8 : h.length ≤ 8) : crossN h ≤ 64 := by
  have h1 := pairsN_le crossP (arcsP h)
  have h2 := arcsK_length h h.length
  have h3 : (arcsP h).length * (arcsP h).length ≤ 8 * 8 := Nat.mul_le_mul (by unfold arcsP; omega) (by unfold arcsP; omega)
  unfold crossN
  omega

theorem pairs_eq (A : List (Int × Int)) (hA : A.length ≤ 8) (hX : ∀ p ∈ A, p.1 < p.2) : impl_countPairs_impl_arc (A.map asArc) = some ((pairsN crossP A : Nat) : Int) := by
  have e : impl_countPairs_impl_arc (A.map asArc) = impl_countPairs_impl_arc_n18 (A.map asArc) := by unfold impl_countPairs_impl_arc; rfl
  rw [e]
  unfold impl_countPairs_impl_arc_n18 impl_countPairs_impl_arc_n1 impl_countPairs_impl_arc_n17 impl_countPairs_impl_arc_n15 impl_countPairs_impl_arc_n2 impl_countPairs_impl_arc_n14 impl_countPairs_impl_arc_n13 impl_countPairs_impl_arc_n16
  have hcount : ∀ (a : Int × Int) (l : List (Int × Int)), l.countP (crossP a) ≤ l.length := fun a l => List.countP_le_length
  have hbig := pairsN_le crossP A
  have h64 : A.length * A.length ≤ 8 * 8 := Nat.mul_le_mul hA hA
  have hinner : ∀ (a : Int × Int) (l : List (Int × Int)) (c : Nat), a.1 < a.2 → (∀ p ∈ l, p.1 < p.2) → l.length ≤ 8 → c ≤ 1000 →
      impl_countPairs_impl_arc_n7 (c : Int) (l.map asArc) ((l.length : Nat) : Int) a.1 a.2 = some ((c + l.countP (crossP a) : Nat) : Int) := fun a l c ha hl h8 hc => by
    unfold impl_countPairs_impl_arc_n7 impl_countPairs_impl_arc_n6
    have hloop := nloop_to (body := fun (s : Int × Int) => ((impl_countPairs_impl_arc_n5 s.1 (l.map asArc) l.length s.2 a.1 a.2).map (Sum.elim (fun (t : Int × Int) => Sum.inl (t.1, t.2)) (fun (t : Int) => Sum.inr t)) : Option ((Int × Int) ⊕ (Int))))
      (fun j => (((c + (l.take j).countP (crossP a) : Nat) : Int), (j : Int))) l.length ((c + l.countP (crossP a) : Nat) : Int)
      (by
        intro j hj
        have hcj : (l.take j).countP (crossP a) ≤ j := Nat.le_trans (hcount a _) (by simp; omega)
        have hi : idx (l.map asArc) (j : Int) = some (asArc l[j]) := by rw [idx_nat]; simp [hj]
        simp only [impl_countPairs_impl_arc_n5]
        rw [show decide ((j : Int) < ((l.length : Nat) : Int)) = true from decide_eq_true (by omega), hi, wrap64 (x := (j : Int) + 1) (by omega) (by omega), wrap64 (by omega) (by omega)]
        simp only [cond_true, Option.bind_some, asArc]
        rw [crosses_eq ha (hl l[j] (List.getElem_mem hj)), List.take_add_one, List.getElem?_eq_getElem hj]
        simp only [Option.bind_some, Option.toList_some, List.countP_append, List.countP_cons, List.countP_nil]
        have ex : arcX a.1 a.2 l[j].1 l[j].2 = crossP a l[j] := rfl
        rw [ex]
        cases crossP a l[j] <;> rfl)
      (by
        simp only [impl_countPairs_impl_arc_n5]
        rw [show decide (((l.length : Nat) : Int) < ((l.length : Nat) : Int)) = false from decide_eq_false (by omega), List.take_length]
        rfl)
    have hl2 := hloop LL (by simp only [LL]; omega)
    rw [List.take_zero, List.countP_nil] at hl2
    rw [show ((c : Int), (0 : Int)) = (((c + 0 : Nat) : Int), ((0 : Nat) : Int)) from rfl, hl2]
    rfl
  have hsum : ∀ k, k ≤ A.length → ∃ c : Nat, c + pairsN crossP (A.drop k) = pairsN crossP A := by
    intro k
    induction k with
    | zero => exact fun _ => ⟨0, by simp⟩
    | succ k ih =>
      intro hk
      obtain ⟨c, hc⟩ := ih (by omega)
      rw [List.drop_eq_getElem_cons (show k < A.length by omega)] at hc
      simp only [pairsN] at hc
      exact ⟨c + (A.drop (k + 1)).countP (crossP A[k]), by omega⟩
  have hloop := nloop_run (body := fun (s : Int × Int) => ((impl_countPairs_impl_arc_n12 (A.map asArc) s.1 (A.map asArc).length s.2).map (Sum.elim (fun (t : Int × Int) => Sum.inl (t.1, t.2)) (fun (t : Int) => Sum.inr t)) : Option ((Int × Int) ⊕ (Int))))
    (I := fun s => ∃ k c : Nat, s = ((c : Int), (k : Int)) ∧ k ≤ A.length ∧ c + pairsN crossP (A.drop k) = pairsN crossP A) (μ := fun s => A.length - s.2.toNat) (f := fun _ => ((pairsN crossP A : Nat) : Int))
    (by
      rintro _ ⟨k, c, rfl, hk, hc⟩
      simp only [impl_countPairs_impl_arc_n12, impl_countPairs_impl_arc_n3, List.length_map]
      by_cases hlt : k < A.length
      · left
        rw [show decide ((k : Int) < ((A.length : Nat) : Int)) = true from decide_eq_true (by omega)]
        have hi : idx (A.map asArc) (k : Int) = some (asArc A[k]) := by rw [idx_nat]; simp [hlt]
        have hinc : inc (IntKind.wrap .i64 ((k : Int) + 1)) (A.map asArc).length = some (k + 1) := by
          rw [wrap64 (by omega) (by omega)]
          simp only [inc, List.length_map]
          rw [if_pos (by omega)]
          congr 1
        have hdr : ((A.map asArc).take A.length).drop (k + 1) = (A.drop (k + 1)).map asArc := by rw [List.take_of_length_le (by simp), List.map_drop]
        rw [List.drop_eq_getElem_cons hlt] at hc
        simp only [pairsN] at hc
        simp only [cond_true, Option.bind_some, Sum.elim_inl]
        unfold impl_countPairs_impl_arc_n11 impl_countPairs_impl_arc_n9 impl_countPairs_impl_arc_n8 impl_countPairs_impl_arc_n4 impl_countPairs_impl_arc_n10
        rw [hi]
        simp only [Option.bind_some]
        rw [hinc]
        simp only [Option.bind_some, hdr, List.length_map, asArc]
        rw [hinner A[k] (A.drop (k + 1)) c (hX _ (List.getElem_mem hlt)) (fun p hp => hX p (List.mem_of_mem_drop hp)) (by simp; omega) (by omega), wrap64 (by omega) (by omega)]
        exact ⟨(((c + (A.drop (k + 1)).countP (crossP A[k]) : Nat) : Int), ((k + 1 : Nat) : Int)), rfl, ⟨k + 1, _, rfl, hlt, by omega⟩, by simp; omega, trivial⟩
      · right
        have ek : k = A.length := by omega
        subst ek
        rw [show decide (((A.length : Nat) : Int) < ((A.length : Nat) : Int)) = false from decide_eq_false (by omega)]
        rw [List.drop_length] at hc
        simp only [pairsN] at hc
        simp only [cond_false, Option.bind_some, Sum.elim_inr, Option.map_some]
        congr 3)
  simp only [Option.bind_some]
  rw [hloop LL (0, 0) ⟨0, 0, rfl, by omega, by simp⟩ (by simp only [LL]; simp; omega)]
  rfl

theorem implCrossings_eq (h : List Int) : impl_CrossingsOf h = some (crossingsI h) := by
  have e : impl_CrossingsOf h = impl_CrossingsOf_n1 h := by unfold impl_CrossingsOf; rfl
  rw [e]
  unfold impl_CrossingsOf_n1 crossingsI
  rw [implTree_eq]
  cases hT : treeB h with
  | false => rfl
  | true =>
    have T := (tree_iff h).1 hT
    have hl := arcsK_length h h.length
    have hle := T.le
    simp only [Option.bind_some, Bool.not_true, cond_false, implArcs_eq T, if_true]
    rw [pairs_eq (arcsP h) (by unfold arcsP; omega) (fun p hp => (arc_ends T hp).2.1)]
    rfl

theorem crossI_arc {p q : Int × Int} (hp : 1 ≤ p.1 ∧ p.1 < p.2) (hq : 1 ≤ q.1 ∧ q.1 < q.2) : crossI p.1 p.2 q.1 q.2 = crossP p q := by
  have m1 : imin p.1 p.2 = p.1 := by unfold imin; rw [if_neg (by omega)]
  have m2 : imax p.1 p.2 = p.2 := by unfold imax; rw [if_pos (by omega)]
  have m3 : imin q.1 q.2 = q.1 := by unfold imin; rw [if_neg (by omega)]
  have m4 : imax q.1 q.2 = q.2 := by unfold imax; rw [if_pos (by omega)]
  have b1 : pairB p.1 p.2 = true := decide_eq_true (by omega)
  have b2 : pairB q.1 q.2 = true := decide_eq_true (by omega)
  unfold crossI crossP
  rw [m1, m2, m3, m4, b1, b2]
  rfl

end Go.Rv
