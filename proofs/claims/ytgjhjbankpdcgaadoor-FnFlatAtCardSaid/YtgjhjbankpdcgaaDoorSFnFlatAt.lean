/-
  The law FnFlatAt, in plain words: it is true of every argument. Conditions: none.
-/
import Derived.Test.YtgjhjbankpdcgaaDoorHFnFlatAt
set_option linter.unusedVariables false
set_option linter.unusedSimpArgs false
namespace Go.Rv

theorem same_FnFlatAt (x : List Int) (w : ∀ n ∈ x, (Lit.int .u8 n).wf = true) (l : x.length ≤ maxLen) : laws_FnFlatAt x = some true := by
  unfold laws_FnFlatAt laws_FnFlatAt_n1
  by_cases hx : x.length ≤ 1048576
  · rw [show decide (((x.length : Nat) : Int) > 1048576) = false from decide_eq_false (by omega)]
    obtain ⟨n, k, hd, n1, n2, k1, k2⟩ := drawn_at x w l
    have hw : IntKind.wrap .i64 (k + 1) = k + 1 := wrap64 (by omega) (by omega)
    simp only [hd, cond_false, Option.bind_some, implAt_eq, specAt_eq, hw]
    by_cases b : atB n k
    · obtain ⟨m, rfl⟩ : ∃ m : Nat, n = (m : Int) := ⟨n.toNat, by have := b.1; omega⟩
      obtain ⟨j, rfl⟩ : ∃ j : Nat, k = (j : Int) := ⟨k.toNat, by have := b.2; omega⟩
      have b1 := b.1
      have b2 := b.2
      simp only [Int.toNat_natCast] at b2
      obtain ⟨h, ht, T, F, hl, hr, hn⟩ := at_ok (n := m) (k := j) (by omega) (by omega) (by omega)
      have e1 : atS (m : Int) (j : Int) = (true, h) := by unfold atS; rw [if_pos b]; simp [ht]
      have f : flatI h = true := flatI_iff.mpr ⟨T, F⟩
      have p : placeI h = (j : Int) := by unfold placeI; rw [if_pos ⟨f, by omega⟩, hr]; rfl
      have s : (h == h) = true := beq_self_eq_true h
      have hl' : (((h.length : Nat) : Int) == (m : Int)) = true := by rw [hl]; exact beq_self_eq_true _
      have q : ((j : Int) == (j : Int)) = true := beq_self_eq_true _
      have r : rootI h = (top h : Int) := by unfold rootI; rw [(tree_iff h).mpr T]; rfl
      simp only [e1, sameInts_eq h h (by omega), Option.bind_some, s, Bool.not_true, cond_false, bne_self_eq_false, implFlat_eq, f, cond_true, hl', implPlace_eq, p, q]
      by_cases c : j + 1 < flatT m
      · obtain ⟨g, hg, tg⟩ := hn c
        have b' : atB (m : Int) ((j : Int) + 1) := ⟨b1, by omega, by simp only [Int.toNat_natCast]; omega⟩
        obtain ⟨g', hg', T', _⟩ := at_ok (n := m) (k := j + 1) (by omega) (by omega) c
        rw [hg] at hg'
        injection hg' with hg'
        subst hg'
        have e2 : atS (m : Int) ((j : Int) + 1) = (true, g) := by
          unfold atS
          rw [if_pos b']
          simp only [Int.toNat_natCast, show ((j : Int) + 1).toNat = j + 1 by omega, hg, Option.getD_some]
        have r' : rootI g = (top g : Int) := by unfold rootI; rw [(tree_iff g).mpr T']; rfl
        simp only [e2, Bool.not_true, cond_false, implRoot_eq, Option.bind_some, r, r']
        rw [decide_eq_true (by omega)]
      · have b' : ¬ atB (m : Int) ((j : Int) + 1) := by
          rintro ⟨_, _, z⟩
          simp only [Int.toNat_natCast] at z
          omega
        have e2 : atS (m : Int) ((j : Int) + 1) = (false, []) := by unfold atS; rw [if_neg b']
        simp only [e2, Bool.not_false, cond_true]
    · have e1 : atS n k = (false, []) := by unfold atS; rw [if_neg b]
      simp only [e1, sameInts_eq [] [] (by simp), alive_eq]
      rfl
  · rw [show decide (((x.length : Nat) : Int) > 1048576) = true from decide_eq_true (by omega)]
    rfl

end Go.Rv
