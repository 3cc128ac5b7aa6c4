/-
  Plain mathematics: gaps and turns: read from the last word, of the root, of flat trees. Conditions: none.
-/
import Derived.Test.YtdnefgbdhomgcaaDoorMgd
import Derived.Test.YtdnefgbdhomgcaaDoorMr
set_option linter.unusedVariables false
set_option linter.unusedSimpArgs false
namespace Go.Rv

theorem ymask_back {h : List Int} (T : Tree h) {k : Nat} (k1 : 1 ≤ k) (k2 : k ≤ h.length) : ymask (backL h) (h.length + 1 - k) = mirrorN h.length (ymask h k) := by
  have T' := back_tree T
  apply Nat.eq_of_testBit_eq
  intro i
  rw [ymask_bit T', mirrorN, maskN_bit, ymask_bit T]
  by_cases hi : i < h.length
  · rw [decide_eq_true hi, Bool.true_and, Bool.eq_iff_iff, undB_iff, undB_iff, ← back_und T (a := h.length - 1 - i + 1) (b := k) (by omega) (by omega) k1 k2]
    rw [show h.length + 1 - (h.length - 1 - i + 1) = i + 1 by omega]
  · rw [decide_eq_false hi, Bool.false_and, Bool.eq_false_iff]
    intro u
    have := (T'.und_rng (undB_iff.mp u)).1.2
    rw [backL_length] at this
    omega

theorem ymask_lt2 {h : List Int} (T : Tree h) (k : Nat) : ymask h k < 2 ^ h.length := by
  refine Nat.lt_pow_two_of_testBit _ ?_
  intro i hi
  rw [ymask_bit T, Bool.eq_false_iff]
  intro u
  have := (T.und_rng (undB_iff.mp u)).1.2
  omega

theorem ends_back {h : List Int} (T : Tree h) {k : Nat} (k1 : 1 ≤ k) (k2 : k ≤ h.length) : endsN (ymask (backL h) (h.length + 1 - k)) = endsN (ymask h k) := by
  rw [ymask_back T k1 k2, ends_mirror T.le (ymask_lt2 T k)]

theorem gaps_at {h : List Int} (T : Tree h) {k : Nat} (k1 : 1 ≤ k) (k2 : k ≤ h.length) : gapsI h (k : Int) = (endsN (ymask h k) : Int) - 1 := by
  unfold gapsI
  rw [if_pos (wordB_iff.2 ⟨k, rfl, T, k1, k2⟩), Int.toNat_natCast]

theorem gaps_back {h : List Int} (T : Tree h) {k : Nat} (k1 : 1 ≤ k) (k2 : k ≤ h.length) : gapsI (backL h) ((h.length : Int) + 1 - (k : Int)) = gapsI h (k : Int) := by
  rw [show (h.length : Int) + 1 - (k : Int) = ((h.length + 1 - k : Nat) : Int) by omega]
  rw [gaps_at (back_tree T) (by omega) (by rw [backL_length]; omega), gaps_at T k1 k2, ends_back T k1 k2]

theorem ends_top {h : List Int} (T : Tree h) : endsN (ymask h (top h)) ≤ 1 := by
  rw [← ends_row (ymask_lt T.le _), row_iff T]
  intro a b c h1 h2 u v
  have ru := T.und_rng u
  have rv := T.und_rng v
  exact T.und_top (by omega) (by omega)

theorem ends_leaf {h : List Int} (T : Tree h) {k : Nat} (k1 : 1 ≤ k) (k2 : k ≤ h.length) (n : ∀ c, 1 ≤ c → c ≤ h.length → hd h c ≠ k) : endsN (ymask h k) ≤ 1 := by
  rw [← ends_row (ymask_lt T.le _), row_iff T]
  intro a b c h1 h2 u v
  have e : ∀ x, Und h x k → x = k := by
    intro x y
    rcases T.und_child.mp y with z | z
    · exact z.1
    · obtain ⟨_, c, c1, c2, c3, _⟩ := z
      exact absurd c3 (n c c1 c2)
  have := e a u
  have := e c v
  omega

/-! Turns -/

theorem turnsN_row {x y : Nat} (hx : x < 256) (h0 : x &&& y = 0) (t : turnsN x y = true) : 2 ≤ endsN x := by
  refine Classical.byContradiction fun c => ?_
  have r := (rowN_iff x).mp ((ends_row hx).mpr (by omega))
  obtain ⟨a, b, c', d, h1, h2, h3, h4, h⟩ := (turnsN_iff x y).mp t
  rcases h with ⟨q1, q2, q3, q4⟩ | ⟨q1, q2, q3, q4⟩
  · have := r a b c' h1 h2 (by omega) q1 q3
    rw [and_zero_bit h0 b this] at q2
    cases q2
  · have := r b c' d h2 h3 h4 q2 q4
    rw [and_zero_bit h0 c' this] at q3
    cases q3

theorem turnsI_iff {h : List Int} {a b : Int} : turnsI h a b = true ↔ ∃ u v : Nat, a = (u : Int) ∧ b = (v : Int) ∧ Tree h ∧ (1 ≤ u ∧ u ≤ h.length) ∧ (1 ≤ v ∧ v ≤ h.length) ∧ ymask h u &&& ymask h v = 0 ∧ turnsN (ymask h u) (ymask h v) = true := by
  unfold turnsI
  simp only [Bool.and_eq_true, decide_eq_true_eq]
  constructor
  · rintro ⟨⟨ha, hb⟩, h0, t⟩
    obtain ⟨u, rfl, T, u1, u2⟩ := wordB_iff.1 ha
    obtain ⟨v, rfl, _, v1, v2⟩ := wordB_iff.1 hb
    simp only [Int.toNat_natCast] at h0 t
    exact ⟨u, v, rfl, rfl, T, ⟨u1, u2⟩, ⟨v1, v2⟩, h0, t⟩
  · rintro ⟨u, v, rfl, rfl, T, u1, v1, h0, t⟩
    simp only [Int.toNat_natCast]
    exact ⟨⟨wordB_iff.2 ⟨u, rfl, T, u1.1, u1.2⟩, wordB_iff.2 ⟨v, rfl, T, v1.1, v1.2⟩⟩, h0, t⟩

theorem turnsI_comm (h : List Int) (a b : Int) : turnsI h b a = turnsI h a b := by
  unfold turnsI
  rw [turnsN_comm, Nat.and_comm, Bool.and_comm (wordB h b)]

theorem mirror_bit (n m i : Nat) : (mirrorN n m).testBit i = (decide (i < n) && m.testBit (n - 1 - i)) := by rw [mirrorN, maskN_bit]

theorem turns_mirror {n x y : Nat} (hn : n ≤ 8) (hx : x < 2 ^ n) (hy : y < 2 ^ n) (t : turnsN x y = true) : turnsN (mirrorN n x) (mirrorN n y) = true := by
  rw [turnsN_iff] at t ⊢
  obtain ⟨a, b, c, d, h1, h2, h3, h4, h⟩ := t
  have lt : d < n := by
    refine Classical.byContradiction fun c => ?_
    have p : 2 ^ n ≤ 2 ^ d := Nat.pow_le_pow_right (by omega) (by omega)
    rcases h with ⟨_, _, _, q⟩ | ⟨_, _, _, q⟩
    · rw [Nat.testBit_lt_two_pow (Nat.lt_of_lt_of_le hy p)] at q
      cases q
    · rw [Nat.testBit_lt_two_pow (Nat.lt_of_lt_of_le hx p)] at q
      cases q
  have m (z i : Nat) (hi : i < n) : (mirrorN n z).testBit (n - 1 - i) = z.testBit i := by
    rw [mirror_bit, decide_eq_true (by omega), Bool.true_and, show n - 1 - (n - 1 - i) = i by omega]
  refine ⟨n - 1 - d, n - 1 - c, n - 1 - b, n - 1 - a, by omega, by omega, by omega, by omega, ?_⟩
  rw [m x a (by omega), m x b (by omega), m x c (by omega), m x d (by omega), m y a (by omega), m y b (by omega), m y c (by omega), m y d (by omega)]
  rcases h with ⟨q1, q2, q3, q4⟩ | ⟨q1, q2, q3, q4⟩
  · exact .inr ⟨q4, q3, q2, q1⟩
  · exact .inl ⟨q4, q3, q2, q1⟩

theorem turns_back {h : List Int} (T : Tree h) {u v : Nat} (u1 : 1 ≤ u ∧ u ≤ h.length) (v1 : 1 ≤ v ∧ v ≤ h.length) (t : turnsI h (u : Int) (v : Int) = true) : turnsI (backL h) ((h.length + 1 - u : Nat) : Int) ((h.length + 1 - v : Nat) : Int) = true := by
  obtain ⟨u', v', e1, e2, _, _, _, h0, t'⟩ := turnsI_iff.mp t
  have e1 : u' = u := by omega
  have e2 : v' = v := by omega
  subst e1 e2
  have l := backL_length h
  refine turnsI_iff.mpr ⟨_, _, rfl, rfl, back_tree T, by omega, by omega, ?_, ?_⟩
  · rw [ymask_back T u1.1 u1.2, ymask_back T v1.1 v1.2]
    apply Nat.eq_of_testBit_eq
    intro i
    rw [Nat.testBit_and, mirror_bit, mirror_bit]
    cases q : (ymask h u').testBit (h.length - 1 - i) with
    | false => simp
    | true => rw [and_zero_bit h0 _ q]; simp
  · rw [ymask_back T u1.1 u1.2, ymask_back T v1.1 v1.2]
    exact turns_mirror T.le (ymask_lt2 T _) (ymask_lt2 T _) t'

theorem nest_iff {h : List Int} (T : Tree h) : nestI h = true ↔ ∀ u v, 1 ≤ u → u ≤ h.length → 1 ≤ v → v ≤ h.length → turnsI h (u : Int) (v : Int) = false := by
  unfold nestI nestK
  rw [(tree_iff h).mpr T]
  simp only [Bool.and_true, List.all_eq_true, List.mem_range, Bool.not_eq_true']
  constructor
  · intro x u v u1 u2 v1 v2
    by_cases lt : v < u
    · have := x (u - 1) (by omega) (v - 1) (by omega)
      rwa [show u - 1 + 1 = u by omega, show v - 1 + 1 = v by omega] at this
    · by_cases e : u = v
      · subst e
        rw [Bool.eq_false_iff]
        intro t
        obtain ⟨u', v', e1, e2, _, _, _, h0, _⟩ := turnsI_iff.mp t
        have e1 : u' = u := by omega
        have e2 : v' = u := by omega
        subst e1 e2
        rw [Nat.and_self] at h0
        exact ymask_pos T u1 u2 h0
      · rw [turnsI_comm]
        have := x (v - 1) (by omega) (u - 1) (by omega)
        rwa [show u - 1 + 1 = u by omega, show v - 1 + 1 = v by omega] at this
  · intro x i hi j hj
    exact x (i + 1) (j + 1) (by omega) (by omega) (by omega) (by omega)

theorem nest_back {h : List Int} (T : Tree h) : nestI (backL h) = nestI h := by
  have T' := back_tree T
  have l := backL_length h
  have one : ∀ {g : List Int}, Tree g → nestI (backL g) = true → nestI g = true := by
    intro g G x
    have lg := backL_length g
    rw [nest_iff (back_tree G)] at x
    rw [nest_iff G]
    intro u v u1 u2 v1 v2
    rw [Bool.eq_false_iff]
    intro t
    have := turns_back G ⟨u1, u2⟩ ⟨v1, v2⟩ t
    rw [x _ _ (by omega) (by omega) (by omega) (by omega)] at this
    cases this
  rw [Bool.eq_iff_iff]
  refine ⟨one T, fun x => one T' ?_⟩
  rw [back_back T]
  exact x

theorem nest_plane {h : List Int} (T : Tree h) (N : crossN h = 0) : nestI h = true := by
  rw [nest_iff T]
  intro u v u1 u2 v1 v2
  rw [Bool.eq_false_iff]
  intro t
  obtain ⟨u', v', e1, e2, _, _, _, h0, t'⟩ := turnsI_iff.mp t
  have e1 : u' = u := by omega
  have e2 : v' = v := by omega
  subst e1 e2
  have dis : ∀ x, Und h x u' → ¬ Und h x v' := by
    intro x p q
    have r := (T.und_rng p).1
    have p' : (ymask h u').testBit (x - 1) = true := by rw [ymask_bit T, undB_iff, show x - 1 + 1 = x by omega]; exact p
    have q' : (ymask h v').testBit (x - 1) = true := by rw [ymask_bit T, undB_iff, show x - 1 + 1 = x by omega]; exact q
    rw [and_zero_bit h0 _ p'] at q'
    cases q'
  have N' := (arcs_pairs T).mp N
  obtain ⟨a, b, c, d, h1, h2, h3, h4, h⟩ := (turnsN_iff _ _).mp t'
  simp only [ymask_bit T, undB_iff] at h
  rcases h with ⟨q1, q2, q3, q4⟩ | ⟨q1, q2, q3, q4⟩
  · exact no_turns T N' (T.conn_und u1 u2) (T.conn_und v1 v2) dis q1 q2 q3 q4 (by omega) (by omega) (by omega)
  · exact no_turns T N' (T.conn_und v1 v2) (T.conn_und u1 u2) (fun x p q => dis x q p) q1 q2 q3 q4 (by omega) (by omega) (by omega)

end Go.Rv
