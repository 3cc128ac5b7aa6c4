/-
  Plain mathematics: yields, as both sides fill them. Conditions: none.
-/
import Derived.Test.YtmmfabigcffdfaaDoorMul
import Derived.Test.YtmmfabigcffdfaaDoorMer
import Derived.Test.YtmmfabigcffdfaaDoorMs
set_option linter.unusedVariables false
set_option linter.unusedSimpArgs false
namespace Go.Rv

/-- Whether a word is under another one. -/
noncomputable def undB (h : List Int) (a b : Nat) : Bool := @decide (Und h a b) (Classical.propDecidable _)
theorem undB_iff {h : List Int} {a b : Nat} : undB h a b = true ↔ Und h a b := by simp [undB]
theorem undB_false {h : List Int} {a b : Nat} : undB h a b = false ↔ ¬ Und h a b := by simp [undB]

/-- The yield of a word as bits. -/
noncomputable def ymask (h : List Int) (k : Nat) : Nat := maskN (fun i => undB h (i + 1) k) h.length

theorem ymask_lt {h : List Int} (hl : h.length ≤ 8) (k : Nat) : ymask h k < 256 := lt256 hl (maskN_lt _ _)

theorem ymask_bit {h : List Int} {k i : Nat} (T : Tree h) : (ymask h k).testBit i = undB h (i + 1) k := by
  unfold ymask
  rw [maskN_bit]
  by_cases hi : i < h.length
  · simp [hi]
  · have : undB h (i + 1) k = false := undB_false.2 fun u => by have := T.und_rng u; omega
    rw [this]; simp

/-- The words that depend on a word. -/
def kidsL (h : List Int) (w : Nat) : List Int := wordsL (maskN (headB h (w : Int)) h.length)

theorem mem_kids {h : List Int} (T : Tree h) {w : Nat} {x : Int} : x ∈ kidsL h w ↔ ∃ c, 1 ≤ c ∧ c ≤ h.length ∧ hd h c = w ∧ x = (c : Int) := by
  unfold kidsL
  rw [mem_wordsL T.le]
  constructor
  · rintro ⟨i, h1, h2, e⟩
    refine ⟨i + 1, by omega, by omega, ?_, e⟩
    have hg := T.get (w := i + 1) (by omega) (by omega)
    rw [Nat.add_sub_cancel] at hg
    simp only [headB, List.getD_eq_getElem?_getD, hg, Option.getD_some, beq_iff_eq] at h2
    omega
  · rintro ⟨c, h1, h2, h3, rfl⟩
    refine ⟨c - 1, by omega, ?_, by omega⟩
    have hg := T.get (w := c) (by omega) (by omega)
    simp only [headB, List.getD_eq_getElem?_getD, hg, Option.getD_some, beq_iff_eq, h3]

theorem kids_length (h : List Int) (w : Nat) : (kidsL h w).length ≤ 8 := wordsL_length_le _

/-- Words of a yield: the word, and those under what depends on it. -/
noncomputable def partB (h : List Int) (w : Nat) (cs : List Int) (i : Nat) : Bool := (i + 1 == w) || cs.any fun c => undB h (i + 1) c.toNat

theorem part_all {h : List Int} (T : Tree h) {w : Nat} (h1 : 1 ≤ w) (h2 : w ≤ h.length) {i : Nat} (hi : i < h.length) : partB h w (kidsL h w) i = undB h (i + 1) w := by
  rw [Bool.eq_iff_iff, undB_iff, T.und_child]
  simp only [partB, Bool.or_eq_true, beq_iff_eq, List.any_eq_true, undB_iff]
  constructor
  · rintro (e | ⟨x, hx, u⟩)
    · exact .inl ⟨e, by omega, by omega⟩
    · obtain ⟨c, c1, c2, c3, rfl⟩ := (mem_kids T).1 hx
      exact .inr ⟨by omega, c, c1, c2, c3, by simpa using u⟩
  · rintro (⟨e, _⟩ | ⟨_, c, c1, c2, c3, u⟩)
    · exact .inl e
    · exact .inr ⟨(c : Int), (mem_kids T).2 ⟨c, c1, c2, c3, rfl⟩, by simpa using u⟩

theorem part_step (h : List Int) (w : Nat) (cs : List Int) {j : Nat} (hj : j < cs.length) {n : Nat} :
    maskN (partB h w (cs.take (j + 1))) n = maskN (partB h w (cs.take j)) n ||| maskN (fun i => undB h (i + 1) cs[j].toNat) n := by
  refine (eq_maskN (Nat.or_lt_two_pow (maskN_lt _ _) (maskN_lt _ _)) fun i hi => ?_).symm
  rw [Nat.testBit_or, maskN_bit, maskN_bit]
  simp only [hi, decide_true, Bool.true_and, partB]
  rw [List.take_add_one, List.getElem?_eq_getElem hj]
  simp only [Option.toList_some, List.any_append, List.any_cons, List.any_nil, Bool.or_false, Bool.or_assoc]

theorem part_none (h : List Int) {w n : Nat} (h1 : 1 ≤ w) (h2 : w ≤ n) : maskN (partB h w []) n = 2 ^ (w - 1) := by
  refine (eq_maskN (Nat.pow_lt_pow_right (by omega) (by omega)) fun i hi => ?_).symm
  rw [Nat.testBit_two_pow]
  simp only [partB, List.any_nil, Bool.or_false]
  rw [Bool.eq_iff_iff]
  simp only [decide_eq_true_eq, beq_iff_eq]
  omega

/-- The yields, filled for those under some words. -/
noncomputable def fillL (h : List Int) (ys cs : List Int) : List Int := (List.range h.length).map fun i => if (cs.any fun c => undB h (i + 1) c.toNat) = true then ((ymask h (i + 1) : Nat) : Int) else ys.getD i 0

theorem fillL_length (h ys cs : List Int) : (fillL h ys cs).length = h.length := by simp [fillL]
theorem fillL_get (h ys cs : List Int) {i : Nat} (hi : i < h.length) : (fillL h ys cs)[i]? = some (if (cs.any fun c => undB h (i + 1) c.toNat) = true then ((ymask h (i + 1) : Nat) : Int) else ys.getD i 0) := by
  simp [fillL, hi]
theorem fillL_nil {h ys : List Int} (hl : ys.length = h.length) : fillL h ys [] = ys := by
  apply List.ext_getElem?
  intro i
  by_cases hi : i < h.length
  · rw [fillL_get h ys [] hi]
    simp [List.getD, show i < ys.length by omega]
  · rw [List.getElem?_eq_none (by rw [fillL_length]; omega), List.getElem?_eq_none (by omega)]

theorem fillL_step (h ys cs : List Int) {j : Nat} (hj : j < cs.length) : fillL h (fillL h ys (cs.take j)) [cs[j]] = fillL h ys (cs.take (j + 1)) := by
  apply List.ext_getElem?
  intro i
  by_cases hi : i < h.length
  · rw [fillL_get h _ _ hi, fillL_get h _ _ hi, List.getD_eq_getElem?_getD, fillL_get h _ _ hi, List.take_add_one, List.getElem?_eq_getElem hj]
    simp only [List.any_cons, List.any_nil, Bool.or_false, Option.getD_some, Option.toList_some, List.any_append]
    cases undB h (i + 1) cs[j].toNat <;> cases ((List.take j cs).any fun c => undB h (i + 1) c.toNat) <;> simp
  · rw [List.getElem?_eq_none (by rw [fillL_length]; omega), List.getElem?_eq_none (by rw [fillL_length]; omega)]

theorem fillL_set {h ys : List Int} (T : Tree h) {w : Nat} (h1 : 1 ≤ w) (h2 : w ≤ h.length) : (fillL h ys (kidsL h w)).set (w - 1) ((ymask h w : Nat) : Int) = fillL h ys [(w : Int)] := by
  apply List.ext_getElem?
  intro i
  by_cases hi : i < h.length
  · by_cases e : i = w - 1
    · subst e
      rw [List.getElem?_set_self (by rw [fillL_length]; omega), fillL_get h _ _ hi, if_pos]
      · rw [show w - 1 + 1 = w by omega]
      · have : undB h (w - 1 + 1) w = true := undB_iff.2 (by rw [show w - 1 + 1 = w by omega]; exact .refl h1 h2)
        simpa using this
    · rw [List.getElem?_set_ne (fun e' => e e'.symm), fillL_get h _ _ hi, fillL_get h _ _ hi]
      have hp := part_all T h1 h2 hi
      have hne : (i + 1 == w) = false := by rw [beq_eq_false_iff_ne]; omega
      simp only [partB, hne, Bool.false_or] at hp
      rw [hp]
      simp
  · rw [List.getElem?_eq_none (by rw [List.length_set, fillL_length]; omega), List.getElem?_eq_none (by rw [fillL_length]; omega)]

theorem fill_fuel {h : List Int} (T : Tree h) : ∀ w, 1 ≤ w → w ≤ h.length → ∀ (f : Nat) (ys : List Int), h.length - dep h w < f → ys.length = h.length →
    impl_fillYields_knot f h (w : Int) ys = some (((ymask h w : Nat) : Int), fillL h ys [(w : Int)]) := by
  refine T.fallInd (P := fun w => ∀ (f : Nat) (ys : List Int), h.length - dep h w < f → ys.length = h.length → impl_fillYields_knot f h (w : Int) ys = some (((ymask h w : Nat) : Int), fillL h ys [(w : Int)])) ?_
  intro w h1 h2 ih f ys hf hys
  obtain ⟨f, rfl⟩ : ∃ g, f = g + 1 := ⟨f - 1, by omega⟩
  have hle := T.le
  simp only [impl_fillYields_knot]
  generalize hR : impl_fillYields_knot f = R0
  have ih' : ∀ c, 1 ≤ c → c ≤ h.length → hd h c = w → ∀ zs : List Int, zs.length = h.length → R0 h (c : Int) zs = some (((ymask h c : Nat) : Int), fillL h zs [(c : Int)]) := by
    intro c c1 c2 c3 zs hz
    rw [← hR]
    refine ih c c1 c2 c3 f zs ?_ hz
    have := T.dep_step c1 c2 (by omega)
    rw [c3] at this
    have := T.dep_lt h1 h2
    omega
  have hkl := kids_length h w
  have hloop := nloop_to (body := fun (s : Int × Int × (List Int)) => ((impl_fillYields_n3 R0 h s.1 (kidsL h w).length s.2.1 s.2.2 (kidsL h w)).map (Sum.elim (fun (t : Int × Int × (List Int)) => Sum.inl (t.1, t.2.1, t.2.2)) (fun (t : Int × (List Int)) => Sum.inr t)) : Option ((Int × Int × (List Int)) ⊕ ((Int × (List Int))))))
    (fun j => (((maskN (partB h w ((kidsL h w).take j)) h.length : Nat) : Int), (j : Int), fillL h ys ((kidsL h w).take j))) (kidsL h w).length (((maskN (partB h w (kidsL h w)) h.length : Nat) : Int), fillL h ys (kidsL h w))
    (by
      intro j hj
      simp only [impl_fillYields_n3]
      obtain ⟨c, c1, c2, c3, hc⟩ := (mem_kids T).1 (List.getElem_mem hj)
      have ihc := ih' c c1 c2 c3 (fillL h ys ((kidsL h w).take j)) (fillL_length _ _ _)
      have l1 : maskN (partB h w ((kidsL h w).take j)) h.length < 256 := lt256 hle (maskN_lt _ _)
      have l2 := ymask_lt hle c
      rw [show decide ((j : Int) < (((kidsL h w).length : Nat) : Int)) = true from decide_eq_true (by omega), inb_nat hj, wrap64 (by omega) (by omega)]
      simp only [cond_true, Option.bind_some, List.getElem?_eq_getElem hj]
      rw [hc, ihc]
      simp only [Option.bind_some]
      rw [ioru (by omega) (by omega), part_step h w _ hj, ← fillL_step h ys _ hj, hc]
      rfl)
    (by
      simp only [impl_fillYields_n3]
      rw [show decide ((((kidsL h w).length : Nat) : Int) < (((kidsL h w).length : Nat) : Int)) = false from decide_eq_false (by omega), List.take_length]
      rfl)
  have hl := hloop LL (by simp only [LL]; omega)
  rw [List.take_zero, part_none h h1 h2, fillL_nil hys] at hl
  unfold impl_fillYields_one impl_fillYields_n9 impl_fillYields_n1 impl_fillYields_n8 impl_fillYields_n6 impl_fillYields_n2 impl_fillYields_n5 impl_fillYields_n4 impl_fillYields_n7
  rw [only_eq h1 (by omega), dependents_eq h _ hle]
  simp only [Option.bind_some]
  rw [list_eq (lt256 hle (maskN_lt _ _))]
  show (((((some _).bind fun v1208 => some (((List.length v1208 : Nat) : Int), v1208)).bind _) : Option _).bind _) = _
  simp only [Option.bind_some]
  change ((Option.map _ (nloop (fun (s : Int × Int × (List Int)) => ((impl_fillYields_n3 R0 h s.1 (kidsL h w).length s.2.1 s.2.2 (kidsL h w)).map (Sum.elim (fun (t : Int × Int × (List Int)) => Sum.inl (t.1, t.2.1, t.2.2)) (fun (t : Int × (List Int)) => Sum.inr t)) : Option ((Int × Int × (List Int)) ⊕ ((Int × (List Int)))))) LL (((2 ^ (w - 1) : Nat) : Int), ((0 : Nat) : Int), ys))).bind _) = _
  rw [hl]
  simp only [Option.map_some, Option.bind_some]
  rw [wrap64 (by omega) (by omega), show (w : Int) - 1 = ((w - 1 : Nat) : Int) by omega, inb_nat (by rw [fillL_length]; omega)]
  simp only [Option.bind_some]
  have hm : maskN (partB h w (kidsL h w)) h.length = ymask h w := maskN_congr fun i hi => part_all T h1 h2 hi
  rw [hm, fillL_set T h1 h2]

/-- The yields of all words. -/
noncomputable def yieldL (h : List Int) : List Int := (List.range h.length).map fun i => ((ymask h (i + 1) : Nat) : Int)
theorem yieldL_length (h : List Int) : (yieldL h).length = h.length := by simp [yieldL]
theorem yieldL_get (h : List Int) {i : Nat} (hi : i < h.length) : (yieldL h)[i]? = some ((ymask h (i + 1) : Nat) : Int) := by simp [yieldL, hi]

theorem yields_eq {h : List Int} (T : Tree h) : impl_yieldsOf h = some (yieldL h) := by
  have hle := T.le
  have e : impl_yieldsOf h = impl_yieldsOf_n1 h := by unfold impl_yieldsOf; rfl
  rw [e]
  unfold impl_yieldsOf_n1
  rw [mk_nat (by omega), implRoot_eq]
  have hT : treeB h = true := (tree_iff h).2 T
  simp only [Option.bind_some, rootI, hT, if_true]
  have e2 : impl_fillYields h (top h : Int) (List.replicate h.length 0) = impl_fillYields_knot RR h (top h : Int) (List.replicate h.length 0) := by unfold impl_fillYields impl_fillYields_fuel; rfl
  rw [e2, fill_fuel T (top h) (top_pos h) T.top_le RR _ (by simp only [RR]; omega) (by simp)]
  simp only [Option.bind_some]
  congr 1
  apply List.ext_getElem?
  intro i
  by_cases hi : i < h.length
  · rw [fillL_get h _ _ hi, yieldL_get h hi, if_pos]
    have : undB h (i + 1) (top h) = true := undB_iff.2 (T.und_top (by omega) (by omega))
    simpa using this
  · rw [List.getElem?_eq_none (by rw [fillL_length]; omega), List.getElem?_eq_none (by rw [yieldL_length]; omega)]

end Go.Rv
