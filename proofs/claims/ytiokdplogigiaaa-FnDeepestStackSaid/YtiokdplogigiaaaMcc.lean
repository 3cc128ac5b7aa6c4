/-
  Plain mathematics: a tree read from the last word. Conditions: none.
-/
import Derived.Test.YtiokdplogigiaaaMq
import Derived.Test.YtiokdplogigiaaaMs
import Derived.Test.YtiokdplogigiaaaMt
set_option linter.unusedVariables false
set_option linter.unusedSimpArgs false
namespace Go.Rv

/-- The order from the last word to the first one. -/
def lastL (n : Nat) : List Int := (List.range n).map fun (k : Nat) => (n : Int) - (k : Int)
theorem lastL_length (n : Nat) : (lastL n).length = n := by simp [lastL]
theorem lastL_get (n : Nat) {k : Nat} (hk : k < n) : (lastL n)[k]'(by rw [lastL_length]; exact hk) = ((n - k : Nat) : Int) := by simp [lastL]; omega
theorem lastL_get? (n : Nat) {k : Nat} (hk : k < n) : (lastL n)[k]? = some ((n - k : Nat) : Int) := by
  rw [List.getElem?_eq_getElem (by rw [lastL_length]; exact hk), lastL_get n hk]

theorem lastL_order (n : Nat) : OrderP (lastL n) ((lastL n).length : Nat) := by
  refine ⟨fun k hk => ?_, fun i j hij hj e => ?_⟩
  · rw [lastL_length] at hk
    rw [lastL_get n hk, lastL_length]; omega
  · rw [lastL_length] at hj
    rw [lastL_get n hj, lastL_get n (by omega)] at e
    omega

theorem lastL_orderB {n : Nat} (h1 : 1 ≤ n) (h8 : n ≤ 8) : orderB (lastL n) (n : Int) = true := by
  rw [orderB_iff]
  have := lastL_order n
  rw [lastL_length] at this
  exact ⟨by omega, by omega, by rw [lastL_length], this⟩

theorem lastL_pl {n v : Nat} (h1 : 1 ≤ v) (h2 : v ≤ n) : pl (lastL n) v = n + 1 - v := by
  have := pl_get (lastL_order n) (k := n - v) (by rw [lastL_length]; omega)
  rw [lastL_get n (by omega), Int.toNat_natCast, show n - (n - v) = v by omega] at this
  omega

def backL (h : List Int) : List Int := putRow h (lastL h.length)
theorem backL_length (h : List Int) : (backL h).length = h.length := by rw [backL, putRow_length, lastL_length]
def backI (h : List Int) : List Int := if treeB h then backL h else []

theorem back_tree {h : List Int} (T : Tree h) : Tree (backL h) := put_tree T (lastL_length _) (lastL_order _)

theorem back_get {h : List Int} (T : Tree h) {k : Nat} (hk : k < h.length) : (backL h)[k]? = some (if hd h (h.length - k) = 0 then 0 else ((h.length + 1 - hd h (h.length - k) : Nat) : Int)) := by
  have hg := put_get T (lastL_length h.length) (lastL_order h.length) (k := k) (by rw [lastL_length]; exact hk)
  unfold backL
  rw [hg, lastL_get _ hk, Int.toNat_natCast]
  by_cases e : hd h (h.length - k) = 0
  · rw [if_pos e, e, pl_zero (lastL_order _)]; rfl
  · have := T.hd_le (w := h.length - k) (by omega) (by omega)
    rw [if_neg e, lastL_pl (by omega) this]

theorem backI_length (h : List Int) : (backI h).length ≤ h.length := by
  unfold backI
  split
  · rw [backL_length]; exact Nat.le_refl _
  · simp

/-- Put in an order, the same words are under each other. -/
theorem put_und {h o : List Int} (T : Tree h) (hl : o.length = h.length) (hP : OrderP o (o.length : Nat)) {a b : Nat} (u : Und h a b) : Und (putRow h o) (pl o a) (pl o b) := by
  have hlen := putRow_length h o
  induction u with
  | refl h1 h2 =>
    obtain ⟨x, y, _⟩ := pl_rng hP h1 (by omega)
    exact .refl x (by omega)
  | @step a b h1 h2 h3 u ih =>
    obtain ⟨x, y, _⟩ := pl_rng hP h1 (by omega)
    have hh : hd (putRow h o) (pl o a) = pl o (hd h a) := by
      have := put_at T hl hP (v := a) h1 (by omega)
      rw [hd, List.getD_eq_getElem?_getD, this]
      simp
    have := pl_hd T hl hP h1 (by omega)
    refine .step x (by omega) (by rw [hh]; omega) ?_
    rw [hh]; exact ih

theorem back_back {h : List Int} (T : Tree h) : backL (backL h) = h := by
  have T' := back_tree T
  have hlen := backL_length h
  apply List.ext_getElem?
  intro k
  by_cases hk : k < h.length
  · rw [back_get T' (by omega), hlen]
    have h0 := back_get T (k := h.length - 1 - k) (by omega)
    have hd1 : hd (backL h) (h.length - k) = if hd h (k + 1) = 0 then 0 else h.length + 1 - hd h (k + 1) := by
      rw [hd, List.getD_eq_getElem?_getD, show h.length - k - 1 = h.length - 1 - k by omega, h0, show h.length - (h.length - 1 - k) = k + 1 by omega]
      simp only [Option.getD_some]
      split
      · rfl
      · rw [Int.toNat_natCast]
    have hg := T.get (w := k + 1) (by omega) (by omega)
    have hle := T.hd_le (w := k + 1) (by omega) (by omega)
    rw [Nat.add_sub_cancel] at hg
    rw [hg, hd1]
    by_cases e : hd h (k + 1) = 0
    · rw [if_pos e, if_pos rfl, e]; rfl
    · rw [if_neg e, if_neg (by omega)]
      congr 1
      omega
  · rw [List.getElem?_eq_none (by rw [backL_length, hlen]; omega), List.getElem?_eq_none (by omega)]

theorem back_und {h : List Int} (T : Tree h) {a b : Nat} (a1 : 1 ≤ a) (a2 : a ≤ h.length) (b1 : 1 ≤ b) (b2 : b ≤ h.length) : Und (backL h) (h.length + 1 - a) (h.length + 1 - b) ↔ Und h a b := by
  have key : ∀ {g : List Int} (T : Tree g) {a b : Nat}, Und g a b → Und (backL g) (g.length + 1 - a) (g.length + 1 - b) := by
    intro g T a b u
    have r := T.und_rng u
    have := put_und T (lastL_length g.length) (lastL_order g.length) u
    rw [lastL_pl r.1.1 r.1.2, lastL_pl r.2.1 r.2.2] at this
    exact this
  refine ⟨fun u => ?_, key T⟩
  have := key (back_tree T) u
  rw [back_back T, backL_length, show h.length + 1 - (h.length + 1 - a) = a by omega, show h.length + 1 - (h.length + 1 - b) = b by omega] at this
  exact this

end Go.Rv
