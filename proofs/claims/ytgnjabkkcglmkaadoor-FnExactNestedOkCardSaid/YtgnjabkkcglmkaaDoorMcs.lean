/-
  What the landed program says in chapter 5: pairs counted, gaps, turns, rows. Conditions: none.
-/
import Derived.Test.YtgnjabkkcglmkaaDoorMge
import Derived.Test.YtgnjabkkcglmkaaDoorMca
set_option linter.unusedVariables false
set_option linter.unusedSimpArgs false
namespace Go.Rv

theorem gaps_tab : ((List.range 256).all fun m => impl_wordSet_gaps (m : Int) == some ((endsN m : Nat) - 1 : Int)) = true := by decide +kernel
theorem gaps_eq {m : Nat} (h : m < 256) : impl_wordSet_gaps (m : Int) = some ((endsN m : Nat) - 1 : Int) := by simpa using all_lt gaps_tab h

theorem implGaps_eq (h : List Int) (v : Int) : impl_GapsOf h v = some (gapsI h v) := by
  have e : impl_GapsOf h v = impl_GapsOf_n1 h v := by unfold impl_GapsOf; rfl
  rw [e]
  unfold impl_GapsOf_n1 gapsI
  rw [wordOk_eq]
  cases hw : wordB h v with
  | false => rfl
  | true =>
    obtain ⟨w, rfl, T, h1, h2⟩ := wordB_iff.1 hw
    have hle := T.le
    simp only [Option.bind_some, Bool.not_true, cond_false, yields_eq T, if_true]
    rw [wrap64 (by omega) (by omega), show (w : Int) - 1 = ((w - 1 : Nat) : Int) by omega, inb_nat (by rw [yieldL_length]; omega)]
    simp only [Option.bind_some, yieldL_get h (show w - 1 < h.length by omega), show w - 1 + 1 = w by omega, gaps_eq (ymask_lt hle w), Int.toNat_natCast]

theorem implMost_eq (h : List Int) : impl_MostGaps h = some (mostI h) := by
  have e : impl_MostGaps h = impl_MostGaps_n9 h := by unfold impl_MostGaps; rfl
  rw [e]
  unfold impl_MostGaps_n9 impl_MostGaps_n1 mostI
  rw [implTree_eq]
  cases hT : treeB h with
  | false => rfl
  | true =>
    have T := (tree_iff h).mp hT
    have hle := T.le
    have hp := T.pos
    simp only [Option.bind_some, Bool.not_true, cond_false, Sum.elim_inl]
    unfold impl_MostGaps_n8 impl_MostGaps_n6 impl_MostGaps_n2 impl_MostGaps_n5 impl_MostGaps_n4 impl_MostGaps_n7
    rw [yields_eq T]
    simp only [Option.bind_some]
    have one : ∀ i, i < h.length → 1 ≤ endsN (ymask h (i + 1)) := fun i hi => ends_pos (ymask_lt hle _) (ymask_pos T (by omega) (by omega))
    have le8 : ∀ k, mostK h k ≤ 8 := by
      intro k
      induction k with
      | zero => exact Nat.zero_le _
      | succ k ih =>
        unfold mostK at ih ⊢
        rw [List.range_succ, List.foldl_append]
        simp only [List.foldl_cons, List.foldl_nil]
        have := endsN_le8 (ymask h (k + 1))
        omega
    have hloop := nloop_to (body := fun (s : Int × Int) => ((impl_MostGaps_n3 s.1 ((yieldL h).length : Nat) s.2 (yieldL h)).map (Sum.elim (fun (t : Int × Int) => Sum.inl (t.1, t.2)) (fun (t : Int) => Sum.inr t)) : Option ((Int × Int) ⊕ (Int))))
      (fun j => (((mostK h j - 1 : Nat) : Int), (j : Int))) h.length ((mostK h h.length - 1 : Nat) : Int)
      (by
        intro j hj
        simp only [impl_MostGaps_n3, yieldL_length]
        rw [decide_eq_true (show (j : Int) < ((h.length : Nat) : Int) by omega), inb_nat hj]
        simp only [cond_true, Option.bind_some, yieldL_get h hj, gaps_eq (ymask_lt hle (j + 1))]
        rw [wrap64 (by omega) (by omega)]
        have o := one j hj
        have st : mostK h (j + 1) = max (mostK h j) (endsN (ymask h (j + 1))) := by
          unfold mostK
          rw [List.range_succ, List.foldl_append]
          rfl
        have im : imax ((mostK h j - 1 : Nat) : Int) ((endsN (ymask h (j + 1)) : Nat) - 1 : Int) = ((mostK h (j + 1) - 1 : Nat) : Int) := by
          rw [st]
          unfold imax
          split <;> omega
        rw [im]
        rfl)
      (by
        simp only [impl_MostGaps_n3, yieldL_length]
        rw [decide_eq_false (by omega)]
        rfl)
    have hl2 := hloop LL (by simp only [LL]; omega)
    rw [show ((0 : Int), (0 : Int)) = (((mostK h 0 - 1 : Nat) : Int), ((0 : Nat) : Int)) from rfl, hl2]
    have : 1 ≤ mostK h h.length := by
      obtain ⟨k, hk⟩ : ∃ k, h.length = k + 1 := ⟨h.length - 1, by omega⟩
      have o := one k (by omega)
      rw [hk]
      unfold mostK
      rw [List.range_succ, List.foldl_append]
      simp only [List.foldl_cons, List.foldl_nil]
      omega
    simp only [Option.map_some, Option.bind_some, if_true]
    congr 1
    omega

/-- Pairs of items counted, as the program does. -/
def cg5 (f : Int → Int → Option Bool) (c a : Int) (l : List Int) (n j : Int) : Option ((Int × Int) ⊕ Int) :=
  cond (decide (j < n)) ((idx l j).bind fun (y : Int) => (f a y).bind fun (b : Bool) => cond b (some (Sum.inl ((IntKind.wrap .i64 (c + 1)), (IntKind.wrap .i64 (j + 1))))) (some (Sum.inl (c, (IntKind.wrap .i64 (j + 1)))))) (some (Sum.inr c))
def cg7 (f : Int → Int → Option Bool) (c a : Int) (l : List Int) (n : Int) : Option Int :=
  (nloop (fun (s : Int × Int) => ((cg5 f s.1 a l n s.2).map (Sum.elim (fun (t : Int × Int) => Sum.inl (t.1, t.2)) (fun (t : Int) => Sum.inr t)) : Option ((Int × Int) ⊕ (Int)))) LL (c, 0)).map (fun (t : Int) => t)
def cg4 (l : List Int) (k : Int) : Option (Int × List Int × Int) :=
  (idx l k).bind fun (v : Int) => (inc (IntKind.wrap .i64 (k + 1)) (List.length l)).bind fun (w : Nat) => some (v, ((l.take (List.length l)).drop w), (((List.length ((l.take (List.length l)).drop w) : Nat) : Int)))
def cg11 (f : Int → Int → Option Bool) (l : List Int) (c k : Int) : Option (Int × Int) :=
  (((cg4 l k).bind (fun (t : Int × (List Int) × Int) => cg7 f c t.1 t.2.1 t.2.2)).map (fun (t : Int) => t)).bind (fun (t : Int) => (some (IntKind.wrap .i64 (k + 1))).map (fun (u : Int) => (t, u)))
def cg12 (f : Int → Int → Option Bool) (l : List Int) (c n k : Int) : Option ((Int × Int) ⊕ Int) :=
  (cond (decide (k < n)) (some (Sum.inl ())) (some (Sum.inr c)) : Option (Unit ⊕ Int)).bind (Sum.elim (fun (t : Unit) => (cg11 f l c k).map (fun (t : Int × Int) => (Sum.inl (t.1, t.2)))) (fun e => some ((fun (t : Int) => (Sum.inr t)) e)))
def countG (f : Int → Int → Option Bool) (l : List Int) : Option Int :=
  ((nloop (fun (s : Int × Int) => ((cg12 f l s.1 ((List.length l : Nat) : Int) s.2).map (Sum.elim (fun (t : Int × Int) => Sum.inl (t.1, t.2)) (fun (t : Int) => Sum.inr t)) : Option ((Int × Int) ⊕ (Int)))) LL (0, 0)).map (fun (t : Int) => t)).bind (fun (t : Int) => some t)

theorem countSets_eq (l : List Int) : impl_countPairs_impl_wordSet l = countG impl_goByTurns l := by
  unfold impl_countPairs_impl_wordSet
  kernel_rfl
theorem countInts_eq (l r : List Int) : impl_countPairs_int l r = countG (fun a b => impl_goByTurns_1 a b r) l := by
  unfold impl_countPairs_int
  kernel_rfl
theorem countInts2_eq (l : List Int) (a b : Int) : impl_countPairs_int_v2 l a b = countG (fun c d => impl_goByTurns_1_1 c d a b) l := by
  unfold impl_countPairs_int_v2
  kernel_rfl

def pairsQ (X : Int → Int → Bool) : List Int → Nat
  | [] => 0
  | a :: r => r.countP (X a) + pairsQ X r

theorem pairsQ_le (X : Int → Int → Bool) : ∀ l, pairsQ X l ≤ l.length * l.length
  | [] => Nat.zero_le _
  | a :: r => by
    simp only [pairsQ, List.length_cons]
    have h1 := pairsQ_le X r
    have h2 : r.countP (X a) ≤ r.length := List.countP_le_length
    have h3 : (r.length + 1) * (r.length + 1) = r.length * r.length + r.length + r.length + 1 := by
      rw [Nat.add_mul, Nat.mul_add]
      omega
    omega

theorem pairsQ_pos {X : Int → Int → Bool} : ∀ {l : List Int}, l.Pairwise (· < ·) → (0 < pairsQ X l ↔ ∃ a ∈ l, ∃ b ∈ l, a < b ∧ X a b = true)
  | [], _ => by simp [pairsQ]
  | a :: r, h => by
    rw [List.pairwise_cons] at h
    obtain ⟨h1, h2⟩ := h
    simp only [pairsQ, Nat.add_pos_iff_pos_or_pos, List.countP_pos_iff, pairsQ_pos h2]
    constructor
    · rintro (⟨b, hb, x⟩ | ⟨c, hc, b, hb, lt, x⟩)
      · exact ⟨a, List.mem_cons_self, b, List.mem_cons_of_mem _ hb, h1 b hb, x⟩
      · exact ⟨c, List.mem_cons_of_mem _ hc, b, List.mem_cons_of_mem _ hb, lt, x⟩
    · rintro ⟨c, hc, b, hb, lt, x⟩
      rcases List.mem_cons.mp hc with rfl | hc'
      · rcases List.mem_cons.mp hb with rfl | hb'
        · omega
        · exact .inl ⟨b, hb', x⟩
      · rcases List.mem_cons.mp hb with rfl | hb'
        · have := h1 c hc'
          omega
        · exact .inr ⟨c, hc', b, hb', lt, x⟩

theorem countG_eq {f : Int → Int → Option Bool} {X : Int → Int → Bool} (A : List Int) (hA : A.length ≤ 8) (hf : ∀ x ∈ A, ∀ y ∈ A, f x y = some (X x y)) : countG f A = some ((pairsQ X A : Nat) : Int) := by
  unfold countG
  have hcount : ∀ (a : Int) (l : List Int), l.countP (X a) ≤ l.length := fun a l => List.countP_le_length
  have hbig := pairsQ_le X A
  have h64 : A.length * A.length ≤ 8 * 8 := Nat.mul_le_mul hA hA
  have hinner : ∀ (a : Int) (l : List Int) (c : Nat), a ∈ A → (∀ p ∈ l, p ∈ A) → l.length ≤ 8 → c ≤ 1000 →
      cg7 f (c : Int) a l ((l.length : Nat) : Int) = some ((c + l.countP (X a) : Nat) : Int) := fun a l c ha hl h8 hc => by
    unfold cg7
    have hloop := nloop_to (body := fun (s : Int × Int) => ((cg5 f s.1 a l ((l.length : Nat) : Int) s.2).map (Sum.elim (fun (t : Int × Int) => Sum.inl (t.1, t.2)) (fun (t : Int) => Sum.inr t)) : Option ((Int × Int) ⊕ (Int))))
      (fun j => (((c + (l.take j).countP (X a) : Nat) : Int), (j : Int))) l.length ((c + l.countP (X a) : Nat) : Int)
      (by
        intro j hj
        have hcj : (l.take j).countP (X a) ≤ j := Nat.le_trans (hcount a _) (by simp; omega)
        have hi : idx l (j : Int) = some l[j] := by rw [idx_nat]; simp [hj]
        simp only [cg5]
        rw [show decide ((j : Int) < ((l.length : Nat) : Int)) = true from decide_eq_true (by omega), hi, wrap64 (x := (j : Int) + 1) (by omega) (by omega), wrap64 (by omega) (by omega)]
        simp only [cond_true, Option.bind_some]
        rw [hf a ha l[j] (hl _ (List.getElem_mem hj)), List.take_add_one, List.getElem?_eq_getElem hj]
        simp only [Option.bind_some, Option.toList_some, List.countP_append, List.countP_cons, List.countP_nil]
        cases X a l[j] <;> rfl)
      (by
        simp only [cg5]
        rw [show decide (((l.length : Nat) : Int) < ((l.length : Nat) : Int)) = false from decide_eq_false (by omega), List.take_length]
        rfl)
    have hl2 := hloop LL (by simp only [LL]; omega)
    rw [List.take_zero, List.countP_nil] at hl2
    rw [show ((c : Int), (0 : Int)) = (((c + 0 : Nat) : Int), ((0 : Nat) : Int)) from rfl, hl2]
    rfl
  have hloop := nloop_run (body := fun (s : Int × Int) => ((cg12 f A s.1 ((A.length : Nat) : Int) s.2).map (Sum.elim (fun (t : Int × Int) => Sum.inl (t.1, t.2)) (fun (t : Int) => Sum.inr t)) : Option ((Int × Int) ⊕ (Int))))
    (I := fun s => ∃ k c : Nat, s = ((c : Int), (k : Int)) ∧ k ≤ A.length ∧ c + pairsQ X (A.drop k) = pairsQ X A) (μ := fun s => A.length - s.2.toNat) (f := fun _ => ((pairsQ X A : Nat) : Int))
    (by
      rintro _ ⟨k, c, rfl, hk, hc⟩
      simp only [cg12]
      by_cases hlt : k < A.length
      · left
        rw [show decide ((k : Int) < ((A.length : Nat) : Int)) = true from decide_eq_true (by omega)]
        have hi : idx A (k : Int) = some A[k] := by rw [idx_nat]; simp [hlt]
        have hinc : inc (IntKind.wrap .i64 ((k : Int) + 1)) A.length = some (k + 1) := by
          rw [wrap64 (by omega) (by omega)]
          simp only [inc]
          rw [if_pos (by omega)]
          congr 1
        have hdr : (A.take A.length).drop (k + 1) = A.drop (k + 1) := by rw [List.take_length]
        rw [List.drop_eq_getElem_cons hlt] at hc
        simp only [pairsQ] at hc
        simp only [cond_true, Option.bind_some, Sum.elim_inl]
        unfold cg11 cg4
        rw [hi]
        simp only [Option.bind_some]
        rw [hinc]
        simp only [Option.bind_some, hdr]
        rw [hinner A[k] (A.drop (k + 1)) c (List.getElem_mem hlt) (fun p hp => List.mem_of_mem_drop hp) (by simp; omega) (by omega), wrap64 (by omega) (by omega)]
        exact ⟨(((c + (A.drop (k + 1)).countP (X A[k]) : Nat) : Int), ((k + 1 : Nat) : Int)), rfl, ⟨k + 1, _, rfl, hlt, by omega⟩, by simp; omega, trivial⟩
      · right
        have ek : k = A.length := by omega
        subst ek
        rw [show decide (((A.length : Nat) : Int) < ((A.length : Nat) : Int)) = false from decide_eq_false (by omega)]
        rw [List.drop_length] at hc
        simp only [pairsQ] at hc
        simp only [cond_false, Option.bind_some, Sum.elim_inr, Option.map_some]
        congr 3)
  rw [hloop LL (0, 0) ⟨0, 0, rfl, by omega, by simp⟩ (by simp only [LL]; simp; omega)]
  rfl

theorem mem_words {m : Nat} {x : Int} : x ∈ wordsL m ↔ ∃ i, i < 8 ∧ m.testBit i = true ∧ x = ((i + 1 : Nat) : Int) := by
  unfold wordsL
  simp only [List.mem_map, List.mem_filter, List.mem_range]
  constructor
  · rintro ⟨i, ⟨h1, h2⟩, rfl⟩
    exact ⟨i, h1, h2, rfl⟩
  · rintro ⟨i, h1, h2, rfl⟩
    exact ⟨i, ⟨h1, h2⟩, rfl⟩

theorem words_sorted (m : Nat) : (wordsL m).Pairwise (· < ·) := by
  unfold wordsL
  rw [List.pairwise_map]
  refine List.Pairwise.imp ?_ ((List.pairwise_lt_range (n := 8)).filter _)
  intro a b h
  omega

theorem cross_lt {a b c d : Int} (h1 : 1 ≤ a) (h2 : a < b) (h3 : 1 ≤ c) (h4 : c < d) : crossI a b c d = true ↔ (a < c ∧ c < b ∧ b < d) ∨ (c < a ∧ a < d ∧ d < b) := by
  have e1 : imin a b = a := by unfold imin; split <;> omega
  have e2 : imax a b = b := by unfold imax; split <;> omega
  have e3 : imin c d = c := by unfold imin; split <;> omega
  have e4 : imax c d = d := by unfold imax; split <;> omega
  unfold crossI pairB arcX
  rw [e1, e2, e3, e4]
  simp only [Bool.and_eq_true, decide_eq_true_eq]
  omega

noncomputable def seesB (n : Nat) (a b : Int) : Bool := decide (0 < pairsQ (fun c d => crossI a b c d) (wordsL n))

theorem sees_eq (n : Nat) (a b : Int) : impl_goByTurns_1 a b (wordsL n) = some (seesB n a b) := by
  have e : impl_goByTurns_1 a b (wordsL n) = impl_goByTurns_1_n1 a b (wordsL n) := by unfold impl_goByTurns_1; rfl
  rw [e]
  unfold impl_goByTurns_1_n1
  rw [countInts2_eq, countG_eq (X := fun c d => crossI a b c d) (wordsL n) (wordsL_length_le n)]
  · simp only [Option.bind_some]
    unfold seesB
    congr 1
    apply Bool.eq_iff_iff.2
    simp only [decide_eq_true_eq]
    omega
  · intro x _ y _
    have e2 : impl_goByTurns_1_1 x y a b = impl_goByTurns_1_1_n1 x y a b := by unfold impl_goByTurns_1_1; rfl
    simp only [e2]
    unfold impl_goByTurns_1_1_n1
    rw [implCross_eq]
    rfl

theorem turns_sets {m n : Nat} (hm : m < 256) (hn : n < 256) : impl_goByTurns (m : Int) (n : Int) = some (decide (m &&& n = 0) && turnsN m n) := by
  have e : impl_goByTurns (m : Int) (n : Int) = impl_goByTurns_n1 (m : Int) (n : Int) := by unfold impl_goByTurns; rfl
  rw [e]
  unfold impl_goByTurns_n1
  rw [iandu (by omega) (by omega)]
  by_cases h0 : m &&& n = 0
  · rw [h0]
    simp only [list_eq hm, list_eq hn, Option.bind_some]
    rw [show ((((0 : Nat) : Int)) != 0) = false from rfl, cond_false, countInts_eq, countG_eq (X := seesB n) (wordsL m) (wordsL_length_le m) (fun x _ y _ => sees_eq n x y)]
    simp only [Option.bind_some, decide_true, Bool.true_and]
    congr 1
    apply Bool.eq_iff_iff.2
    rw [decide_eq_true_eq, turnsN_iff]
    constructor
    · intro h
      obtain ⟨a, ha, b, hb, lt, s⟩ := (pairsQ_pos (X := seesB n) (words_sorted m)).mp (by omega)
      unfold seesB at s
      rw [decide_eq_true_eq] at s
      obtain ⟨c, hc, d, hd, lt2, x⟩ := (pairsQ_pos (words_sorted n)).mp s
      obtain ⟨i, i8, bi, rfl⟩ := mem_words.mp ha
      obtain ⟨j, j8, bj, rfl⟩ := mem_words.mp hb
      obtain ⟨k, k8, bk, rfl⟩ := mem_words.mp hc
      obtain ⟨l, l8, bl, rfl⟩ := mem_words.mp hd
      rw [cross_lt (by omega) lt (by omega) lt2] at x
      by_cases o : i < k
      · exact ⟨i, k, j, l, by omega, by omega, by omega, by omega, .inl ⟨bi, bk, bj, bl⟩⟩
      · exact ⟨k, i, l, j, by omega, by omega, by omega, by omega, .inr ⟨bk, bi, bl, bj⟩⟩
    · rintro ⟨a, b, c, d, h1, h2, h3, h4, h⟩
      have : 0 < pairsQ (seesB n) (wordsL m) := by
        rcases h with ⟨xa, yb, xc, yd⟩ | ⟨ya, xb, yc, xd⟩
        · refine (pairsQ_pos (words_sorted m)).mpr ⟨_, mem_words.mpr ⟨a, by omega, xa, rfl⟩, _, mem_words.mpr ⟨c, by omega, xc, rfl⟩, by omega, ?_⟩
          unfold seesB
          rw [decide_eq_true_eq]
          refine (pairsQ_pos (words_sorted n)).mpr ⟨_, mem_words.mpr ⟨b, by omega, yb, rfl⟩, _, mem_words.mpr ⟨d, by omega, yd, rfl⟩, by omega, ?_⟩
          rw [cross_lt (by omega) (by omega) (by omega) (by omega)]
          omega
        · refine (pairsQ_pos (words_sorted m)).mpr ⟨_, mem_words.mpr ⟨b, by omega, xb, rfl⟩, _, mem_words.mpr ⟨d, by omega, xd, rfl⟩, by omega, ?_⟩
          unfold seesB
          rw [decide_eq_true_eq]
          refine (pairsQ_pos (words_sorted n)).mpr ⟨_, mem_words.mpr ⟨a, by omega, ya, rfl⟩, _, mem_words.mpr ⟨c, by omega, yc, rfl⟩, by omega, ?_⟩
          rw [cross_lt (by omega) (by omega) (by omega) (by omega)]
          omega
      omega
  · rw [show (((m &&& n : Nat) : Int) != 0) = true from bne_iff_ne.mpr (by omega), decide_eq_false h0]
    rfl

theorem implTurns_eq (h : List Int) (a b : Int) : impl_TurnsOk h a b = some (turnsI h a b) := by
  have e : impl_TurnsOk h a b = impl_TurnsOk_n1 h a b := by unfold impl_TurnsOk; rfl
  rw [e]
  unfold impl_TurnsOk_n1 turnsI
  rw [wordOk_eq, wordOk_eq]
  cases ha : wordB h a with
  | false => rfl
  | true =>
    cases hb : wordB h b with
    | false => rfl
    | true =>
      obtain ⟨u, rfl, T, u1, u2⟩ := wordB_iff.1 ha
      obtain ⟨v, rfl, _, v1, v2⟩ := wordB_iff.1 hb
      have hle := T.le
      simp only [Option.bind_some, Bool.not_true, cond_false, yields_eq T]
      rw [wrap64 (by omega) (by omega), show (u : Int) - 1 = ((u - 1 : Nat) : Int) by omega, inb_nat (by rw [yieldL_length]; omega), wrap64 (by omega) (by omega), show (v : Int) - 1 = ((v - 1 : Nat) : Int) by omega, inb_nat (by rw [yieldL_length]; omega)]
      simp only [Option.bind_some, yieldL_get h (show u - 1 < h.length by omega), yieldL_get h (show v - 1 < h.length by omega), show u - 1 + 1 = u by omega, show v - 1 + 1 = v by omega, turns_sets (ymask_lt hle u) (ymask_lt hle v), Int.toNat_natCast, Bool.true_and]

theorem pairsQ_zero {X : Int → Int → Bool} : ∀ l, pairsQ X l = 0 ↔ l.Pairwise fun p q => X p q = false
  | [] => by simp [pairsQ]
  | a :: r => by
    simp only [pairsQ, List.pairwise_cons, ← pairsQ_zero r]
    constructor
    · intro h
      have h1 : r.countP (X a) = 0 := by omega
      rw [List.countP_eq_zero] at h1
      exact ⟨fun q hq => by simpa using h1 q hq, by omega⟩
    · rintro ⟨h1, h2⟩
      have : r.countP (X a) = 0 := List.countP_eq_zero.2 fun q hq => by rw [h1 q hq]; simp
      omega

noncomputable def setsX (a b : Int) : Bool := decide (a.toNat &&& b.toNat = 0) && turnsN a.toNat b.toNat

theorem implNested_eq (h : List Int) : impl_NestedOk h = some (nestI h) := by
  have e : impl_NestedOk h = impl_NestedOk_n1 h := by unfold impl_NestedOk; rfl
  rw [e]
  unfold impl_NestedOk_n1 nestI
  rw [implTree_eq]
  cases hT : treeB h with
  | false => rw [Bool.and_false]; rfl
  | true =>
    have T := (tree_iff h).mp hT
    have hle := T.le
    simp only [Option.bind_some, cond_true, yields_eq T, Bool.and_true, countSets_eq]
    rw [countG_eq (X := setsX) (yieldL h) (by rw [yieldL_length]; exact hle) (by
      intro x hx y hy
      unfold yieldL at hx hy
      obtain ⟨i, hi, rfl⟩ := List.mem_map.mp hx
      obtain ⟨j, hj, rfl⟩ := List.mem_map.mp hy
      rw [turns_sets (ymask_lt hle _) (ymask_lt hle _)]
      unfold setsX
      rw [Int.toNat_natCast, Int.toNat_natCast])]
    simp only [Option.bind_some]
    congr 1
    apply Bool.eq_iff_iff.2
    have z : (((pairsQ setsX (yieldL h) : Nat) : Int) == 0) = true ↔ pairsQ setsX (yieldL h) = 0 := by
      rw [beq_iff_eq]
      omega
    rw [z, pairsQ_zero, List.pairwise_iff_getElem]
    simp only [List.all_eq_true, List.mem_range, nestK, Bool.not_eq_true', yieldL_length]
    have at' : ∀ i (hi : i < (yieldL h).length), (yieldL h)[i] = ((ymask h (i + 1) : Nat) : Int) := by
      intro i hi
      have := yieldL_get h (show i < h.length by rw [yieldL_length] at hi; exact hi)
      rw [List.getElem?_eq_getElem hi] at this
      exact Option.some.inj this
    have tu : ∀ i j, i < h.length → j < h.length → turnsI h ((i + 1 : Nat) : Int) ((j + 1 : Nat) : Int) = setsX ((ymask h (i + 1) : Nat) : Int) ((ymask h (j + 1) : Nat) : Int) := by
      intro i j hi hj
      unfold turnsI setsX
      rw [wordB_iff.2 ⟨i + 1, rfl, T, by omega, by omega⟩, wordB_iff.2 ⟨j + 1, rfl, T, by omega, by omega⟩]
      simp only [Int.toNat_natCast, Bool.true_and]
    constructor
    · intro p i hi j hj
      have q := p j i (by omega) (by omega) hj
      rw [at', at'] at q
      rw [turnsI_comm, tu j i (by omega) hi]
      exact q
    · intro p j i hj hi lt
      have q := p i hi j lt
      rw [turnsI_comm, tu j i (by omega) (by omega)] at q
      rw [at', at']
      exact q

def rowsI (m : Nat) : Option (List (List Int)) :=
  (impl_wordSet_ends (m : Int)).bind fun (v : Int) => (impl_wordSet_list v).bind fun (l : List Int) => (mk (((List.length l : Nat) : Int)) (((List.length l : Nat) : Int))).bind fun (n : Nat) => impl_RowsOf_n8 (m : Int) l (List.replicate n [])

theorem rows_tab : ((List.range 256).all fun m => rowsI m == spec_RowsOf_n8 (wordsL m)) = true := by decide +kernel

theorem implRows_eq (h : List Int) (v : Int) : impl_RowsOf h v = spec_RowsOf h v := by
  have e : impl_RowsOf h v = impl_RowsOf_n9 h v := by unfold impl_RowsOf; rfl
  have e2 : spec_RowsOf h v = spec_RowsOf_n9 h v := by unfold spec_RowsOf; rfl
  rw [e, e2]
  unfold impl_RowsOf_n9 impl_RowsOf_n1 spec_RowsOf_n9 spec_RowsOf_n1
  rw [wordOk_eq, specYield_eq]
  unfold yieldI
  cases hw : wordB h v with
  | false => rfl
  | true =>
    obtain ⟨w, rfl, T, h1, h2⟩ := wordB_iff.1 hw
    have hle := T.le
    have t := all_lt rows_tab (ymask_lt hle w)
    rw [beq_iff_eq] at t
    simp only [Option.bind_some, Bool.not_true, cond_false, yields_eq T, if_true]
    rw [wrap64 (by omega) (by omega), show (w : Int) - 1 = ((w - 1 : Nat) : Int) by omega, inb_nat (by rw [yieldL_length]; omega)]
    simp only [Option.bind_some, yieldL_get h (show w - 1 < h.length by omega), show w - 1 + 1 = w by omega, Int.toNat_natCast]
    rw [← t]
    unfold rowsI
    cases impl_wordSet_ends ((ymask h w : Nat) : Int) with
    | none => rfl
    | some v =>
      simp only [Option.bind_some]
      cases impl_wordSet_list v with
      | none => rfl
      | some l =>
        simp only [Option.bind_some]
        cases mk ((l.length : Nat) : Int) ((l.length : Nat) : Int) with
        | none => rfl
        | some n => rfl

end Go.Rv
