/-
  Plain mathematics: how many pairs of arcs cross. Conditions: none.
-/
import Derived.Test.YtiokdplogigiaaaMcf
set_option linter.unusedVariables false
set_option linter.unusedSimpArgs false
namespace Go.Rv

def crossP (p q : Int × Int) : Bool := arcX p.1 p.2 q.1 q.2

/-- How many pairs of a list cross. -/
def pairsN (X : Int × Int → Int × Int → Bool) : List (Int × Int) → Nat
  | [] => 0
  | a :: r => r.countP (X a) + pairsN X r

theorem pairsN_snoc (X : Int × Int → Int × Int → Bool) (x : Int × Int) : ∀ l, pairsN X (l ++ [x]) = pairsN X l + l.countP (fun q => X q x)
  | [] => by simp [pairsN]
  | a :: r => by
    simp only [List.cons_append, pairsN]
    rw [pairsN_snoc X x r, List.countP_append, List.countP_cons, List.countP_cons, List.countP_nil]
    omega

theorem pairsN_le (X : Int × Int → Int × Int → Bool) : ∀ l, pairsN X l ≤ l.length * l.length
  | [] => by simp [pairsN]
  | a :: r => by
    simp only [pairsN, List.length_cons]
    have h1 := pairsN_le X r
    have h2 : r.countP (X a) ≤ r.length := List.countP_le_length
    rw [Nat.add_mul, Nat.mul_add]
    omega

theorem pairsN_reverse {X : Int × Int → Int × Int → Bool} (hX : ∀ p q, X p q = X q p) : ∀ l, pairsN X l.reverse = pairsN X l
  | [] => rfl
  | a :: r => by
    rw [List.reverse_cons, pairsN_snoc, pairsN_reverse hX r]
    simp only [pairsN]
    have : r.reverse.countP (fun q => X q a) = r.countP (X a) := by
      rw [List.countP_reverse]
      exact List.countP_congr fun q _ => by rw [hX]
    omega

theorem pairsN_map {X : Int × Int → Int × Int → Bool} {f : Int × Int → Int × Int} (hX : ∀ p q, X (f p) (f q) = X p q) : ∀ l, pairsN X (l.map f) = pairsN X l
  | [] => rfl
  | a :: r => by
    simp only [List.map_cons, pairsN]
    rw [pairsN_map hX r, List.countP_map]
    congr 1
    exact List.countP_congr fun q _ => by simp only [Function.comp]; rw [hX]

theorem pairsN_zero {X : Int × Int → Int × Int → Bool} : ∀ l, pairsN X l = 0 ↔ l.Pairwise fun p q => X p q = false
  | [] => by simp [pairsN]
  | a :: r => by
    simp only [pairsN, List.pairwise_cons, ← pairsN_zero r]
    constructor
    · intro h
      have h1 : r.countP (X a) = 0 := by omega
      rw [List.countP_eq_zero] at h1
      exact ⟨fun q hq => by simpa using h1 q hq, by omega⟩
    · rintro ⟨h1, h2⟩
      have : r.countP (X a) = 0 := List.countP_eq_zero.2 fun q hq => by rw [h1 q hq]; simp
      omega

theorem crossP_comm (p q : Int × Int) : crossP p q = crossP q p := by
  unfold crossP arcX
  apply Bool.eq_iff_iff.2
  simp only [decide_eq_true_eq]
  omega

def crossN (h : List Int) : Nat := pairsN crossP (arcsP h)
def crossingsI (h : List Int) : Int := if treeB h then (crossN h : Int) else -1

theorem crossN_le {h : List Int} (h8 : h.length ≤ 8) : crossN h ≤ 64 := by
  have h1 := pairsN_le crossP (arcsP h)
  have h2 := arcsK_length h h.length
  have h3 : (arcsP h).length * (arcsP h).length ≤ 8 * 8 := Nat.mul_le_mul (by unfold arcsP; omega) (by unfold arcsP; omega)
  unfold crossN
  omega

theorem crossI_arc {p q : Int × Int} (hp : 1 ≤ p.1 ∧ p.1 < p.2) (hq : 1 ≤ q.1 ∧ q.1 < q.2) : crossI p.1 p.2 q.1 q.2 = crossP p q := by
  have m1 : imin p.1 p.2 = p.1 := by unfold imin; rw [if_neg (by omega)]
  have m2 : imax p.1 p.2 = p.2 := by unfold imax; rw [if_pos (by omega)]
  have m3 : imin q.1 q.2 = q.1 := by unfold imin; rw [if_neg (by omega)]
  have m4 : imax q.1 q.2 = q.2 := by unfold imax; rw [if_pos (by omega)]
  have b1 : pairB p.1 p.2 = true := decide_eq_true (by omega)
  have b2 : pairB q.1 q.2 = true := decide_eq_true (by omega)
  unfold crossI crossP
  rw [m1, m2, m3, m4, b1, b2]
  rfl

end Go.Rv
