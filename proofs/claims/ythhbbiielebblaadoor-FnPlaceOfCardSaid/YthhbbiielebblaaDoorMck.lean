/-
  Plain mathematics: flat trees and their numbers, by enumeration. Conditions: none.
-/
import Derived.Test.YthhbbiielebblaaDoorMcj
set_option linter.unusedVariables false
set_option linter.unusedSimpArgs false
namespace Go.Rv

/-- Flat trees of `n` words, and rows of them; the numbers of chapter 4. -/
def flatT : Nat → Nat
  | 0 => 0 | 1 => 1 | 2 => 2 | 3 => 7 | 4 => 30 | 5 => 143 | 6 => 728 | _ => 0
def rowsT : Nat → Nat
  | 0 => 1 | 1 => 1 | 2 => 3 | 3 => 12 | 4 => 55 | 5 => 273 | 6 => 1428 | _ => 0

theorem specRowsT : ((List.range 7).all fun n => spec_l4Rows (n : Int) == some (rowsT n : Int)) = true := by decide +kernel
theorem specFlatT : ((List.range 7).all fun n => spec_l4Flat (n : Int) == some (flatT n : Int)) = true := by decide +kernel

def tabR (f : Int → Option Int) (t : Nat → Nat) (x : Int) : Option Int :=
  match x with
  | .ofNat n => cond (Nat.ble n 6) (some (t n : Int)) (f x)
  | .negSucc _ => f x

theorem tabR_eq {f : Int → Option Int} {t : Nat → Nat} (h : ((List.range 7).all fun n => f (n : Int) == some (t n : Int)) = true) : f = tabR f t := by
  funext x
  cases x with
  | negSucc n => rfl
  | ofNat n =>
    simp only [tabR]
    cases e : Nat.ble n 6 with
    | false => rfl
    | true =>
      have := List.all_eq_true.mp h n (by simp only [List.mem_range]; have := Nat.le_of_ble_eq_true e; omega)
      simpa using this

/-- Reckoning in 64 bits, where it is small, at once. -/
def wrapG (L : Nat) (x : Int) : Int :=
  match x with
  | .ofNat n => cond (Nat.ble n L) (.ofNat n) (IntKind.wrap .i64 x)
  | .negSucc n => cond (Nat.ble n L) (.negSucc n) (IntKind.wrap .i64 x)

theorem small1 (n L : Nat) (hL : (L : Int) ≤ 9223372036854775807) (h : n ≤ L) : IntKind.wrap .i64 (n : Int) = (n : Int) := wrap64 (by omega) (by omega)
theorem small2 (n L : Nat) (hL : (L : Int) ≤ 9223372036854775807) (h : n ≤ L) : IntKind.wrap .i64 (Int.negSucc n) = Int.negSucc n := by
  rw [Int.negSucc_eq]
  exact wrap64 (by omega) (by omega)
theorem cond_ble {α : Type} {n L : Nat} {a b : α} (h : n ≤ L → b = a) : b = cond (Nat.ble n L) a b := by
  cases e : Nat.ble n L with
  | false => rfl
  | true => exact h (Nat.le_of_ble_eq_true e)
theorem wrapG_eq (L : Nat) (hL : (L : Int) ≤ 9223372036854775807) : IntKind.wrap .i64 = wrapG L := by
  funext x
  cases x with
  | ofNat n => exact cond_ble (small1 n L hL)
  | negSucc n => exact cond_ble (small2 n L hL)

def wrapF : Int → Int := wrapG 1000000000000000000
theorem wrapF_eq : IntKind.wrap .i64 = wrapF := wrapG_eq 1000000000000000000 (by omega)

def ltF (a b : Int) : Bool :=
  match a, b with
  | .ofNat a, .ofNat b => Nat.blt a b
  | .negSucc _, .ofNat _ => true
  | .ofNat _, .negSucc _ => false
  | .negSucc a, .negSucc b => Nat.blt b a
def leF (a b : Int) : Bool :=
  match a, b with
  | .ofNat a, .ofNat b => Nat.ble a b
  | .negSucc _, .ofNat _ => true
  | .ofNat _, .negSucc _ => false
  | .negSucc a, .negSucc b => Nat.ble b a

theorem ltF_eq (a b : Int) : decide (a < b) = ltF a b := by
  cases a <;> cases b <;> simp only [ltF, Int.ofNat_eq_natCast, Int.negSucc_eq] <;> rw [Bool.eq_iff_iff] <;> simp <;> omega
theorem leF_eq (a b : Int) : decide (a ≤ b) = leF a b := by
  cases a <;> cases b <;> simp only [leF, Int.ofNat_eq_natCast, Int.negSucc_eq] <;> rw [Bool.eq_iff_iff] <;> simp <;> omega

abbrev TreeF := Int → Int → Int → Int → List Int → Option (List Int)

def specTreeP : {F : TreeF → TreeF → TreeF // spec_l4Tree_one = F} := by
  apply Subtype.mk
  unfold spec_l4Tree_one
  unfold spec_l4Tree_n5
  unfold spec_l4Tree_n4
  unfold spec_l4Tree_n3
  unfold spec_l4Tree_n2
  rewrite [tabR_eq specRowsT, wrapF_eq]
  simp only [ltF_eq, leF_eq]
  exact rfl

def specRowP : {F : TreeF → TreeF → TreeF // spec_l4Row_one = F} := by
  apply Subtype.mk
  unfold spec_l4Row_one
  unfold spec_l4Row_n5
  unfold spec_l4Row_n4
  unfold spec_l4Row_n3
  unfold spec_l4Row_n2
  rewrite [tabR_eq specRowsT, tabR_eq specFlatT, wrapF_eq]
  simp only [ltF_eq, leF_eq]
  exact rfl

def specTreeK : Nat → TreeF × TreeF
  | 0 => ((fun _ _ _ _ _ => none), (fun _ _ _ _ _ => none))
  | n + 1 => (specTreeP.1 (specTreeK n).1 (specTreeK n).2, specRowP.1 (specTreeK n).1 (specTreeK n).2)

theorem specTreeK_eq : ∀ n, spec_l4Tree_knot n = specTreeK n
  | 0 => rfl
  | n + 1 => by
    show ((fun y0 y1 y2 y3 y4 => spec_l4Tree_one (spec_l4Tree_knot n).1 (spec_l4Tree_knot n).2 y0 y1 y2 y3 y4), (fun y0 y1 y2 y3 y4 => spec_l4Row_one (spec_l4Tree_knot n).1 (spec_l4Tree_knot n).2 y0 y1 y2 y3 y4)) = specTreeK (n + 1)
    rw [specTreeK_eq n, specTreeP.2, specRowP.2]
    rfl

theorem spec4Tree_eq : spec_l4Tree = (specTreeK RR).1 := by
  rw [← specTreeK_eq]
  funext a b c d e
  unfold spec_l4Tree
  rfl


abbrev RankF := List Int → Int → Int → Int → Option Int

def specTRP : {F : RankF → RankF → RankF // spec_l4TreeRank_one = F} := by
  apply Subtype.mk
  unfold spec_l4TreeRank_one spec_l4TreeRank_n9 spec_l4TreeRank_n8 spec_l4TreeRank_n7 spec_l4TreeRank_n6 spec_l4TreeRank_n5 spec_l4TreeRank_n4 spec_l4TreeRank_n3
  rewrite [tabR_eq specRowsT, wrapF_eq]
  simp only [ltF_eq, leF_eq]
  exact rfl

def specRRP : {F : RankF → RankF → RankF // spec_l4RowRank_one = F} := by
  apply Subtype.mk
  unfold spec_l4RowRank_one spec_l4RowRank_n21 spec_l4RowRank_n20 spec_l4RowRank_n19 spec_l4RowRank_n18 spec_l4RowRank_n17 spec_l4RowRank_n16 spec_l4RowRank_n15 spec_l4RowRank_n14 spec_l4RowRank_n13 spec_l4RowRank_n12 spec_l4RowRank_n11
  rewrite [tabR_eq specRowsT, tabR_eq specFlatT, wrapF_eq]
  simp only [ltF_eq, leF_eq]
  exact rfl

def specRankK : Nat → RankF × RankF
  | 0 => ((fun _ _ _ _ => none), (fun _ _ _ _ => none))
  | n + 1 => (specTRP.1 (specRankK n).1 (specRankK n).2, specRRP.1 (specRankK n).1 (specRankK n).2)

theorem specRankK_eq : ∀ n, spec_l4TreeRank_knot n = specRankK n
  | 0 => rfl
  | n + 1 => by
    show ((fun y0 y1 y2 y3 => spec_l4TreeRank_one (spec_l4TreeRank_knot n).1 (spec_l4TreeRank_knot n).2 y0 y1 y2 y3), (fun y0 y1 y2 y3 => spec_l4RowRank_one (spec_l4TreeRank_knot n).1 (spec_l4TreeRank_knot n).2 y0 y1 y2 y3)) = specRankK (n + 1)
    rw [specRankK_eq n, specTRP.2, specRRP.2]
    rfl

theorem spec4Rank_eq : spec_l4TreeRank = (specRankK RR).1 := by
  rw [← specRankK_eq]
  funext a b c d
  unfold spec_l4TreeRank
  rfl

/-- To reckon a small number, and the words of a row, before one goes on. -/
def fN {α : Type} (n : Nat) (k : Nat → α) : α :=
  match n with
  | 0 => k 0 | 1 => k 1 | 2 => k 2 | 3 => k 3 | 4 => k 4 | 5 => k 5 | 6 => k 6 | 7 => k 7 | 8 => k 8 | n => k n
theorem fN_eq {α : Type} (n : Nat) (k : Nat → α) : fN n k = k n := by unfold fN; split <;> rfl
def fI {α : Type} (x : Int) (k : Int → α) : α :=
  match x with
  | .ofNat n => fN n fun n => k (.ofNat n)
  | .negSucc n => k (.negSucc n)
theorem fI_eq {α : Type} (x : Int) (k : Int → α) : fI x k = k x := by cases x <;> simp only [fI, fN_eq]
def fL {α : Type} (l : List Int) (k : List Int → α) : α :=
  match l with
  | [] => k []
  | x :: xs => fI x fun x => fL xs fun xs => k (x :: xs)
theorem fL_eq {α : Type} : ∀ (l : List Int) (k : List Int → α), fL l k = k l
  | [], k => rfl
  | x :: xs, k => by rw [fL, fI_eq, fL_eq xs]
def fM {α : Type} (l : List Nat) (k : List Nat → α) : α :=
  match l with
  | [] => k []
  | x :: xs => fN x fun x => fM xs fun xs => k (x :: xs)
theorem fM_eq {α : Type} : ∀ (l : List Nat) (k : List Nat → α), fM l k = k l
  | [], k => rfl
  | x :: xs, k => by rw [fM, fN_eq, fM_eq xs]

def srchF (P : List Int → Bool) (n : Nat) : Nat → List Nat → Bool
  | 0, pre => fL (pre.map Int.ofNat) P
  | k + 1, pre => (List.range (n + 1)).all fun v => fN v fun v => !(okN pre v) || fM (pre ++ [v]) fun q => srchF P n k q
theorem srchF_eq (P : List Int → Bool) (n : Nat) : ∀ k pre, srchF P n k pre = srchN P n k pre
  | 0, pre => by rw [srchF, srchN, fL_eq]
  | k + 1, pre => by
    rw [srchF, srchN]
    congr 1
    funext v
    rw [fN_eq, fM_eq, srchF_eq P n k]
theorem flat_allF {P : List Int → Bool} {n : Nat} (s : srchF P n n [] = true) {h : List Int} (T : Tree h) (F : FlatP h) (e : h.length = n) : P h = true :=
  flat_all (by rw [← srchF_eq]; exact s) T F e

def chk1 (n k : Nat) : Bool :=
  match (specTreeK RR).1 1 n 0 k (List.replicate n 0) with
  | some h => fL h fun h => (specRankK RR).1 h 1 n (top h) == some (k : Int) && h.length == n
  | _ => false
theorem at_tab5 : ((List.range 5).all fun n => (List.range (flatT (n + 1))).all fun k => chk1 (n + 1) k) = true := by decide +kernel
def chk2 (n : Nat) (h : List Int) : Bool :=
  match (specRankK RR).1 h 1 n (top h) with
  | some k => leF 0 k && ltF k (flatT n) && (specTreeK RR).1 1 n 0 k (List.replicate n 0) == some h
  | none => false
end Go.Rv
