/-
  What the landed program says in chapter 5: pairs counted, gaps, turns, rows. Conditions: none.
-/
import Derived.Test.YtdnefgbdhomgcaaDoorMge
import Derived.Test.YtdnefgbdhomgcaaDoorMca
set_option linter.unusedVariables false
set_option linter.unusedSimpArgs false
namespace Go.Rv

/-- Pairs of items counted, as the program does. -/
def cg5 (f : Int → Int → Option Bool) (c a : Int) (l : List Int) (n j : Int) : Option ((Int × Int) ⊕ Int) :=
  cond (decide (j < n)) ((idx l j).bind fun (y : Int) => (f a y).bind fun (b : Bool) => cond b (some (Sum.inl ((IntKind.wrap .i64 (c + 1)), (IntKind.wrap .i64 (j + 1))))) (some (Sum.inl (c, (IntKind.wrap .i64 (j + 1)))))) (some (Sum.inr c))
def cg7 (f : Int → Int → Option Bool) (c a : Int) (l : List Int) (n : Int) : Option Int :=
  (nloop (fun (s : Int × Int) => ((cg5 f s.1 a l n s.2).map (Sum.elim (fun (t : Int × Int) => Sum.inl (t.1, t.2)) (fun (t : Int) => Sum.inr t)) : Option ((Int × Int) ⊕ (Int)))) LL (c, 0)).map (fun (t : Int) => t)
def cg4 (l : List Int) (k : Int) : Option (Int × List Int × Int) :=
  (idx l k).bind fun (v : Int) => (inc (IntKind.wrap .i64 (k + 1)) (List.length l)).bind fun (w : Nat) => some (v, ((l.take (List.length l)).drop w), (((List.length ((l.take (List.length l)).drop w) : Nat) : Int)))
def cg11 (f : Int → Int → Option Bool) (l : List Int) (c k : Int) : Option (Int × Int) :=
  (((cg4 l k).bind (fun (t : Int × (List Int) × Int) => cg7 f c t.1 t.2.1 t.2.2)).map (fun (t : Int) => t)).bind (fun (t : Int) => (some (IntKind.wrap .i64 (k + 1))).map (fun (u : Int) => (t, u)))
def cg12 (f : Int → Int → Option Bool) (l : List Int) (c n k : Int) : Option ((Int × Int) ⊕ Int) :=
  (cond (decide (k < n)) (some (Sum.inl ())) (some (Sum.inr c)) : Option (Unit ⊕ Int)).bind (Sum.elim (fun (t : Unit) => (cg11 f l c k).map (fun (t : Int × Int) => (Sum.inl (t.1, t.2)))) (fun e => some ((fun (t : Int) => (Sum.inr t)) e)))
def countG (f : Int → Int → Option Bool) (l : List Int) : Option Int :=
  ((nloop (fun (s : Int × Int) => ((cg12 f l s.1 ((List.length l : Nat) : Int) s.2).map (Sum.elim (fun (t : Int × Int) => Sum.inl (t.1, t.2)) (fun (t : Int) => Sum.inr t)) : Option ((Int × Int) ⊕ (Int)))) LL (0, 0)).map (fun (t : Int) => t)).bind (fun (t : Int) => some t)

def pairsQ (X : Int → Int → Bool) : List Int → Nat
  | [] => 0
  | a :: r => r.countP (X a) + pairsQ X r

theorem pairsQ_le (X : Int → Int → Bool) : ∀ l, pairsQ X l ≤ l.length * l.length
  | [] => Nat.zero_le _
  | a :: r => by
    simp only [pairsQ, List.length_cons]
    have h1 := pairsQ_le X r
    have h2 : r.countP (X a) ≤ r.length := List.countP_le_length
    have h3 : (r.length + 1) * (r.length + 1) = r.length * r.length + r.length + r.length + 1 := by
      rw [Nat.add_mul, Nat.mul_add]
      omega
    omega

theorem pairsQ_pos {X : Int → Int → Bool} : ∀ {l : List Int}, l.Pairwise (· < ·) → (0 < pairsQ X l ↔ ∃ a ∈ l, ∃ b ∈ l, a < b ∧ X a b = true)
  | [], _ => by simp [pairsQ]
  | a :: r, h => by
    rw [List.pairwise_cons] at h
    obtain ⟨h1, h2⟩ := h
    simp only [pairsQ, Nat.add_pos_iff_pos_or_pos, List.countP_pos_iff, pairsQ_pos h2]
    constructor
    · rintro (⟨b, hb, x⟩ | ⟨c, hc, b, hb, lt, x⟩)
      · exact ⟨a, List.mem_cons_self, b, List.mem_cons_of_mem _ hb, h1 b hb, x⟩
      · exact ⟨c, List.mem_cons_of_mem _ hc, b, List.mem_cons_of_mem _ hb, lt, x⟩
    · rintro ⟨c, hc, b, hb, lt, x⟩
      rcases List.mem_cons.mp hc with rfl | hc'
      · rcases List.mem_cons.mp hb with rfl | hb'
        · omega
        · exact .inl ⟨b, hb', x⟩
      · rcases List.mem_cons.mp hb with rfl | hb'
        · have := h1 c hc'
          omega
        · exact .inr ⟨c, hc', b, hb', lt, x⟩

theorem countG_eq {f : Int → Int → Option Bool} {X : Int → Int → Bool} (A : List Int) (hA : A.length ≤ 8) (hf : ∀ x ∈ A, ∀ y ∈ A, f x y = some (X x y)) : countG f A = some ((pairsQ X A : Nat) : Int) := by
  unfold countG
  have hcount : ∀ (a : Int) (l : List Int), l.countP (X a) ≤ l.length := fun a l => List.countP_le_length
  have hbig := pairsQ_le X A
  have h64 : A.length * A.length ≤ 8 * 8 := Nat.mul_le_mul hA hA
  have hinner : ∀ (a : Int) (l : List Int) (c : Nat), a ∈ A → (∀ p ∈ l, p ∈ A) → l.length ≤ 8 → c ≤ 1000 →
      cg7 f (c : Int) a l ((l.length : Nat) : Int) = some ((c + l.countP (X a) : Nat) : Int) := fun a l c ha hl h8 hc => by
    unfold cg7
    have hloop := nloop_to (body := fun (s : Int × Int) => ((cg5 f s.1 a l ((l.length : Nat) : Int) s.2).map (Sum.elim (fun (t : Int × Int) => Sum.inl (t.1, t.2)) (fun (t : Int) => Sum.inr t)) : Option ((Int × Int) ⊕ (Int))))
      (fun j => (((c + (l.take j).countP (X a) : Nat) : Int), (j : Int))) l.length ((c + l.countP (X a) : Nat) : Int)
      (by
        intro j hj
        have hcj : (l.take j).countP (X a) ≤ j := Nat.le_trans (hcount a _) (by simp; omega)
        have hi : idx l (j : Int) = some l[j] := by rw [idx_nat]; simp [hj]
        simp only [cg5]
        rw [show decide ((j : Int) < ((l.length : Nat) : Int)) = true from decide_eq_true (by omega), hi, wrap64 (x := (j : Int) + 1) (by omega) (by omega), wrap64 (by omega) (by omega)]
        simp only [cond_true, Option.bind_some]
        rw [hf a ha l[j] (hl _ (List.getElem_mem hj)), List.take_add_one, List.getElem?_eq_getElem hj]
        simp only [Option.bind_some, Option.toList_some, List.countP_append, List.countP_cons, List.countP_nil]
        cases X a l[j] <;> rfl)
      (by
        simp only [cg5]
        rw [show decide (((l.length : Nat) : Int) < ((l.length : Nat) : Int)) = false from decide_eq_false (by omega), List.take_length]
        rfl)
    have hl2 := hloop LL (by simp only [LL]; omega)
    rw [List.take_zero, List.countP_nil] at hl2
    rw [show ((c : Int), (0 : Int)) = (((c + 0 : Nat) : Int), ((0 : Nat) : Int)) from rfl, hl2]
    rfl
  have hloop := nloop_run (body := fun (s : Int × Int) => ((cg12 f A s.1 ((A.length : Nat) : Int) s.2).map (Sum.elim (fun (t : Int × Int) => Sum.inl (t.1, t.2)) (fun (t : Int) => Sum.inr t)) : Option ((Int × Int) ⊕ (Int))))
    (I := fun s => ∃ k c : Nat, s = ((c : Int), (k : Int)) ∧ k ≤ A.length ∧ c + pairsQ X (A.drop k) = pairsQ X A) (μ := fun s => A.length - s.2.toNat) (f := fun _ => ((pairsQ X A : Nat) : Int))
    (by
      rintro _ ⟨k, c, rfl, hk, hc⟩
      simp only [cg12]
      by_cases hlt : k < A.length
      · left
        rw [show decide ((k : Int) < ((A.length : Nat) : Int)) = true from decide_eq_true (by omega)]
        have hi : idx A (k : Int) = some A[k] := by rw [idx_nat]; simp [hlt]
        have hinc : inc (IntKind.wrap .i64 ((k : Int) + 1)) A.length = some (k + 1) := by
          rw [wrap64 (by omega) (by omega)]
          simp only [inc]
          rw [if_pos (by omega)]
          congr 1
        have hdr : (A.take A.length).drop (k + 1) = A.drop (k + 1) := by rw [List.take_length]
        rw [List.drop_eq_getElem_cons hlt] at hc
        simp only [pairsQ] at hc
        simp only [cond_true, Option.bind_some, Sum.elim_inl]
        unfold cg11 cg4
        rw [hi]
        simp only [Option.bind_some]
        rw [hinc]
        simp only [Option.bind_some, hdr]
        rw [hinner A[k] (A.drop (k + 1)) c (List.getElem_mem hlt) (fun p hp => List.mem_of_mem_drop hp) (by simp; omega) (by omega), wrap64 (by omega) (by omega)]
        exact ⟨(((c + (A.drop (k + 1)).countP (X A[k]) : Nat) : Int), ((k + 1 : Nat) : Int)), rfl, ⟨k + 1, _, rfl, hlt, by omega⟩, by simp; omega, trivial⟩
      · right
        have ek : k = A.length := by omega
        subst ek
        rw [show decide (((A.length : Nat) : Int) < ((A.length : Nat) : Int)) = false from decide_eq_false (by omega)]
        rw [List.drop_length] at hc
        simp only [pairsQ] at hc
        simp only [cond_false, Option.bind_some, Sum.elim_inr, Option.map_some]
        congr 3)
  rw [hloop LL (0, 0) ⟨0, 0, rfl, by omega, by simp⟩ (by simp only [LL]; simp; omega)]
  rfl

theorem mem_words {m : Nat} {x : Int} : x ∈ wordsL m ↔ ∃ i, i < 8 ∧ m.testBit i = true ∧ x = ((i + 1 : Nat) : Int) := by
  unfold wordsL
  simp only [List.mem_map, List.mem_filter, List.mem_range]
  constructor
  · rintro ⟨i, ⟨h1, h2⟩, rfl⟩
    exact ⟨i, h1, h2, rfl⟩
  · rintro ⟨i, h1, h2, rfl⟩
    exact ⟨i, ⟨h1, h2⟩, rfl⟩

theorem words_sorted (m : Nat) : (wordsL m).Pairwise (· < ·) := by
  unfold wordsL
  rw [List.pairwise_map]
  refine List.Pairwise.imp ?_ ((List.pairwise_lt_range (n := 8)).filter _)
  intro a b h
  omega

theorem cross_lt {a b c d : Int} (h1 : 1 ≤ a) (h2 : a < b) (h3 : 1 ≤ c) (h4 : c < d) : crossI a b c d = true ↔ (a < c ∧ c < b ∧ b < d) ∨ (c < a ∧ a < d ∧ d < b) := by
  have e1 : imin a b = a := by unfold imin; split <;> omega
  have e2 : imax a b = b := by unfold imax; split <;> omega
  have e3 : imin c d = c := by unfold imin; split <;> omega
  have e4 : imax c d = d := by unfold imax; split <;> omega
  unfold crossI pairB arcX
  rw [e1, e2, e3, e4]
  simp only [Bool.and_eq_true, decide_eq_true_eq]
  omega

noncomputable def seesB (n : Nat) (a b : Int) : Bool := decide (0 < pairsQ (fun c d => crossI a b c d) (wordsL n))

theorem pairsQ_zero {X : Int → Int → Bool} : ∀ l, pairsQ X l = 0 ↔ l.Pairwise fun p q => X p q = false
  | [] => by simp [pairsQ]
  | a :: r => by
    simp only [pairsQ, List.pairwise_cons, ← pairsQ_zero r]
    constructor
    · intro h
      have h1 : r.countP (X a) = 0 := by omega
      rw [List.countP_eq_zero] at h1
      exact ⟨fun q hq => by simpa using h1 q hq, by omega⟩
    · rintro ⟨h1, h2⟩
      have : r.countP (X a) = 0 := List.countP_eq_zero.2 fun q hq => by rw [h1 q hq]; simp
      omega

noncomputable def setsX (a b : Int) : Bool := decide (a.toNat &&& b.toNat = 0) && turnsN a.toNat b.toNat

def rowsI (m : Nat) : Option (List (List Int)) :=
  (impl_wordSet_ends (m : Int)).bind fun (v : Int) => (impl_wordSet_list v).bind fun (l : List Int) => (mk (((List.length l : Nat) : Int)) (((List.length l : Nat) : Int))).bind fun (n : Nat) => impl_RowsOf_n8 (m : Int) l (List.replicate n [])

theorem rows_tab : ((List.range 256).all fun m => rowsI m == spec_RowsOf_n8 (wordsL m)) = true := by decide +kernel

theorem implRows_eq (h : List Int) (v : Int) : impl_RowsOf h v = spec_RowsOf h v := by
  have e : impl_RowsOf h v = impl_RowsOf_n9 h v := by unfold impl_RowsOf; rfl
  have e2 : spec_RowsOf h v = spec_RowsOf_n9 h v := by unfold spec_RowsOf; rfl
  rw [e, e2]
  unfold impl_RowsOf_n9 impl_RowsOf_n1 spec_RowsOf_n9 spec_RowsOf_n1
  rw [wordOk_eq, specYield_eq]
  unfold yieldI
  cases hw : wordB h v with
  | false => rfl
  | true =>
    obtain ⟨w, rfl, T, h1, h2⟩ := wordB_iff.1 hw
    have hle := T.le
    have t := all_lt rows_tab (ymask_lt hle w)
    rw [beq_iff_eq] at t
    simp only [Option.bind_some, Bool.not_true, cond_false, yields_eq T, if_true]
    rw [wrap64 (by omega) (by omega), show (w : Int) - 1 = ((w - 1 : Nat) : Int) by omega, inb_nat (by rw [yieldL_length]; omega)]
    simp only [Option.bind_some, yieldL_get h (show w - 1 < h.length by omega), show w - 1 + 1 = w by omega, Int.toNat_natCast]
    rw [← t]
    unfold rowsI
    cases impl_wordSet_ends ((ymask h w : Nat) : Int) with
    | none => rfl
    | some v =>
      simp only [Option.bind_some]
      cases impl_wordSet_list v with
      | none => rfl
      | some l =>
        simp only [Option.bind_some]
        cases mk ((l.length : Nat) : Int) ((l.length : Nat) : Int) with
        | none => rfl
        | some n => rfl

end Go.Rv
