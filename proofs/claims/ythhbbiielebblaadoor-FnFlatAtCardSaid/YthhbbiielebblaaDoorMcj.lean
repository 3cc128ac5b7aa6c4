/-
  Plain mathematics: flat trees of few words, one after another. Conditions: none.
-/
import Derived.Test.YthhbbiielebblaaDoorMci
set_option linter.unusedVariables false
set_option linter.unusedSimpArgs false
namespace Go.Rv

def btwN (a b j : Nat) : Bool := (Nat.blt a j && Nat.blt j b) || (Nat.blt b j && Nat.blt j a)
def outN (a b j : Nat) : Bool := (Nat.blt j a && Nat.blt j b) || (Nat.blt a j && Nat.blt b j)
/-- Two words, each with its head or 0, cross. -/
def crsN (a b c d : Nat) : Bool := (btwN a b c && outN a b d) || (btwN a b d && outN a b c)

def noCrs (w v : Nat) : Nat → List Nat → Bool
  | _, [] => true
  | i, x :: xs => !(crsN i x w v) && noCrs w v (i + 1) xs
/-- From head to head one does not come to the word. -/
def chaseN (pre : List Nat) (w : Nat) : Nat → Nat → Bool
  | 0, _ => true
  | f + 1, x => Nat.beq x 0 || Nat.blt w x || (!(Nat.beq x w) && chaseN pre w f (pre.getD (x - 1) 0))

/-- Whether a head may follow these heads. -/
def okN (pre : List Nat) (v : Nat) : Bool :=
  chaseN pre (pre.length + 1) 9 v && noCrs (pre.length + 1) v 1 pre && !(Nat.beq v 0 && pre.contains 0)

/-- All flat trees of `n` words that begin so. -/
def srchN (P : List Int → Bool) (n : Nat) : Nat → List Nat → Bool
  | 0, pre => P (pre.map Int.ofNat)
  | k + 1, pre => (List.range (n + 1)).all fun v => !(okN pre v) || srchN P n k (pre ++ [v])

def hdsN (h : List Int) (j : Nat) : List Nat := (List.range j).map fun i => hd h (i + 1)

theorem hdsN_succ (h : List Int) (j : Nat) : hdsN h (j + 1) = hdsN h j ++ [hd h (j + 1)] := by
  simp [hdsN, List.range_succ]

theorem hdsN_all {h : List Int} (T : Tree h) : (hdsN h h.length).map Int.ofNat = h := by
  apply List.ext_getElem
  · simp [hdsN]
  · intro i h1 h2
    have := T.get (w := i + 1) (by omega) (by omega)
    rw [show i + 1 - 1 = i by omega, List.getElem?_eq_getElem h2] at this
    injection this with this
    simp [hdsN, this]

theorem crsN_iff (a b c d : Nat) : crsN a b c d = true ↔ (Betw a b c ∧ Outs a b d) ∨ (Betw a b d ∧ Outs a b c) := by
  have b (x y : Nat) : Nat.blt x y = true ↔ x < y := by rw [Nat.blt_eq]
  unfold crsN btwN outN Betw Outs
  simp only [Bool.or_eq_true, Bool.and_eq_true, b]

theorem flat_crs {h : List Int} (T : Tree h) (F : FlatP h) {w v : Nat} (w1 : 1 ≤ w) (w2 : w ≤ h.length) (v1 : 1 ≤ v) (v2 : v ≤ h.length) (ne : w ≠ v) :
    crsN w (hd h w) v (hd h v) = false := by
  rw [Bool.eq_false_iff]
  intro x
  rw [crsN_iff] at x
  have B := (flat_below T).mp F
  by_cases hw : hd h w = 0
  · have e := (T.hd_zero w1 w2).mp hw
    have hv : hd h v ≠ 0 := fun y => ne (e.trans ((T.hd_zero v1 v2).mp y).symm)
    have b : Betw v (hd h v) w := by
      rw [hw] at x
      unfold Betw Outs at *
      omega
    have := B v w v1 v2 hv b
    rw [e] at this
    have := T.und_of_top this
    unfold Betw at b
    omega
  · by_cases hv : hd h v = 0
    · have e := (T.hd_zero v1 v2).mp hv
      have b : Betw w (hd h w) v := by
        rw [hv] at x
        unfold Betw Outs at *
        omega
      have := B w v w1 w2 hw b
      rw [e] at this
      have := T.und_of_top this
      unfold Betw at b
      omega
    · have N := (arcs_pairs T).mp ((plan_iff T).mp F).1 w v w1 w2 hw v1 v2 hv
      exact N x

theorem noCrs_ok (w v : Nat) : ∀ (l : List Nat) (i : Nat), (∀ k (hk : k < l.length), crsN (i + k) l[k] w v = false) → noCrs w v i l = true
  | [], _, _ => rfl
  | x :: xs, i, h => by
    unfold noCrs
    have h0 := h 0 (by simp)
    simp only [Nat.add_zero, List.getElem_cons_zero] at h0
    rw [h0, noCrs_ok w v xs (i + 1) (fun k hk => by
      have := h (k + 1) (by simp; omega)
      simp only [List.getElem_cons_succ] at this
      rwa [show i + 1 + k = i + (k + 1) by omega])]
    rfl

theorem hdsN_getD (h : List Int) {i j : Nat} (hi : i < j) : (hdsN h j).getD i 0 = hd h (i + 1) := by simp [hdsN, List.getD, hi]

theorem chase_ok {h : List Int} (T : Tree h) {j : Nat} (hj : j < h.length) : ∀ (f x : Nat), (x = 0 ∨ Und h (hd h (j + 1)) x) → chaseN (hdsN h j) (j + 1) f x = true
  | 0, _, _ => rfl
  | f + 1, x, u => by
    unfold chaseN
    simp only [Bool.or_eq_true, Bool.and_eq_true, Nat.beq_eq_true_eq, Nat.blt_eq, Bool.not_eq_true']
    by_cases x0 : x = 0
    · exact .inl (.inl (by rw [x0]; rfl))
    · have u := u.resolve_left x0
      have r := T.und_rng u
      by_cases xl : j + 1 < x
      · exact .inl (.inr xl)
      · have xne : x ≠ j + 1 := by
          intro e
          have z : hd h (j + 1) ≠ 0 := by
            have := r.1.1
            omega
          have a := T.und_hd (a := j + 1) (by omega) (by omega) z
          rw [e] at u
          have := T.und_anti a u
          exact T.hd_other (w := j + 1) (by omega) (by omega) this.symm
        refine .inr ⟨?_, ?_⟩
        · rw [Bool.eq_false_iff]
          intro y
          exact xne (Nat.eq_of_beq_eq_true y)
        · rw [hdsN_getD h (show x - 1 < j by omega), show x - 1 + 1 = x by omega]
          refine chase_ok T hj f _ ?_
          by_cases z : hd h x = 0
          · exact .inl z
          · exact .inr (T.und_trans u (T.und_hd r.2.1 r.2.2 z))

theorem okN_ok {h : List Int} (T : Tree h) (F : FlatP h) {j : Nat} (hj : j < h.length) : okN (hdsN h j) (hd h (j + 1)) = true := by
  have lj : (hdsN h j).length = j := by simp [hdsN]
  unfold okN
  rw [lj]
  have c1 : chaseN (hdsN h j) (j + 1) 9 (hd h (j + 1)) = true := by
    refine chase_ok T hj 9 _ ?_
    by_cases z : hd h (j + 1) = 0
    · exact .inl z
    · exact .inr (.refl (Nat.pos_of_ne_zero z) (T.hd_le (w := j + 1) (by omega) (by omega)))
  have c2 : noCrs (j + 1) (hd h (j + 1)) 1 (hdsN h j) = true := by
    refine noCrs_ok _ _ _ _ ?_
    intro k hk
    have : (hdsN h j)[k] = hd h (k + 1) := by simp [hdsN]
    rw [this, Nat.add_comm 1 k]
    exact flat_crs T F (by omega) (by omega) (by omega) (by omega) (by omega)
  rw [c1, c2]
  simp only [Bool.true_and, Bool.not_eq_true', Bool.and_eq_false_iff]
  by_cases z : hd h (j + 1) = 0
  · refine .inr ?_
    rw [Bool.eq_false_iff]
    intro c
    simp only [List.contains_iff_mem, hdsN, List.mem_map, List.mem_range] at c
    obtain ⟨i, hi, y⟩ := c
    have e1 := (T.hd_zero (w := j + 1) (by omega) (by omega)).mp z
    have e2 := (T.hd_zero (w := i + 1) (by omega) (by omega)).mp y
    omega
  · refine .inl ?_
    rw [Bool.eq_false_iff]
    intro y
    exact z (Nat.eq_of_beq_eq_true y)

theorem srch_all {h : List Int} (T : Tree h) (F : FlatP h) {P : List Int → Bool} : ∀ (k j : Nat), j + k = h.length → srchN P h.length k (hdsN h j) = true → P h = true
  | 0, j, e, s => by
    rw [show j = h.length by omega] at s
    unfold srchN at s
    rwa [hdsN_all T] at s
  | k + 1, j, e, s => by
    unfold srchN at s
    rw [List.all_eq_true] at s
    have hl := T.hd_le (w := j + 1) (by omega) (by omega)
    have := s (hd h (j + 1)) (by simp only [List.mem_range]; omega)
    rw [← hdsN_succ, okN_ok T F (by omega)] at this
    refine srch_all T F k (j + 1) (by omega) ?_
    simpa using this

theorem flat_all {P : List Int → Bool} {n : Nat} (s : srchN P n n [] = true) {h : List Int} (T : Tree h) (F : FlatP h) (e : h.length = n) : P h = true := by
  subst e
  exact srch_all T F h.length 0 (by omega) s

end Go.Rv
