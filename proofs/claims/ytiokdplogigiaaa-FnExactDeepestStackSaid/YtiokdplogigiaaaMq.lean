/-
  Plain mathematics: trees put in an order, and back. Conditions: none.
-/
import Derived.Test.YtiokdplogigiaaaMp
set_option linter.unusedVariables false
set_option linter.unusedSimpArgs false
namespace Go.Rv

/-- Where a number stands in an order, from 1 on; 0 for none. -/
def pl (o : List Int) (v : Nat) : Nat := ((placesL o).getD v 0).toNat

theorem pl_val {o : List Int} {v : Nat} (hv : v ≤ o.length) : pl o v = if (v : Int) ∈ o then o.idxOf (v : Int) + 1 else 0 := by
  unfold pl
  rw [List.getD_eq_getElem?_getD, placesL, placesK_get _ _ _ (by omega)]
  simp only [Option.getD_some, List.take_length]
  split <;> omega

theorem places_get {o : List Int} {v : Nat} (hv : v ≤ o.length) : (placesL o)[v]? = some ((pl o v : Nat) : Int) := by
  rw [pl_val hv, placesL, placesK_get _ _ _ (by omega)]
  simp only [List.take_length]
  split <;> simp

section
variable {o : List Int} (hP : OrderP o (o.length : Nat))
include hP

theorem pl_zero : pl o 0 = 0 := by
  rw [pl_val (by omega), if_neg]
  intro hm
  obtain ⟨k, hk, e⟩ := List.getElem_of_mem hm
  have := hP.1 k hk
  omega

theorem pl_get {k : Nat} (hk : k < o.length) : pl o o[k].toNat = k + 1 := by
  have := hP.1 k hk
  rw [pl_val (by omega), show ((o[k].toNat : Nat) : Int) = o[k] by omega, if_pos (List.getElem_mem hk), idxOf_get hP hk]

theorem pl_rng {v : Nat} (h1 : 1 ≤ v) (h2 : v ≤ o.length) : 1 ≤ pl o v ∧ pl o v ≤ o.length ∧ o[pl o v - 1]? = some (v : Int) := by
  have hm := order_mem hP (v := (v : Int)) (by omega) (by omega)
  obtain ⟨k, hk, e⟩ := List.getElem_of_mem hm
  have hg := pl_get hP hk
  rw [e, Int.toNat_natCast] at hg
  rw [hg]
  exact ⟨by omega, by omega, by rw [Nat.add_sub_cancel, List.getElem?_eq_getElem hk, e]⟩

theorem order_perm : o.Perm ((List.range o.length).map fun k => ((k + 1 : Nat) : Int)) := by
  have h := (orderP_iff o _).1 hP
  rw [List.perm_ext_iff_of_nodup h.2 (by
    rw [List.Nodup, List.pairwise_map]
    refine List.Pairwise.imp ?_ List.nodup_range
    intro a b hab e
    exact hab (by omega))]
  intro x
  rw [List.mem_map]
  constructor
  · intro hx
    have := h.1 x hx
    exact ⟨x.toNat - 1, by rw [List.mem_range]; omega, by omega⟩
  · rintro ⟨k, hk, rfl⟩
    rw [List.mem_range] at hk
    exact order_mem hP (by omega) (by omega)

end

section
variable {h o : List Int} (T : Tree h) (hl : o.length = h.length) (hP : OrderP o (o.length : Nat))
include T hl hP

theorem put_get {k : Nat} (hk : k < o.length) : (putRow h o)[k]? = some ((pl o (hd h o[k].toNat) : Nat) : Int) := by
  obtain ⟨w, x, e1, hw, e2, hx, e3⟩ := put_reads T hl hP hk
  have hg := T.get (w := w + 1) (by omega) (by omega)
  rw [Nat.add_sub_cancel, e2] at hg
  have hg' : (x : Int) = ((hd h (w + 1) : Nat) : Int) := Option.some.inj hg
  have hx' : x = hd h (w + 1) := by omega
  rw [places_get (by omega)] at e3
  have : (putRow h o)[k]? = some (newHd h o k) := by simp [putRow, hk]
  rw [this, ← e3, hx', e1, Int.toNat_natCast]

theorem put_at {v : Nat} (h1 : 1 ≤ v) (h2 : v ≤ o.length) : (putRow h o)[pl o v - 1]? = some ((pl o (hd h v) : Nat) : Int) := by
  obtain ⟨a, b, c⟩ := pl_rng hP h1 h2
  have hk : pl o v - 1 < o.length := by omega
  rw [put_get T hl hP hk]
  rw [List.getElem?_eq_getElem hk] at c
  rw [Option.some.inj c, Int.toNat_natCast]

theorem pl_hd {v : Nat} (h1 : 1 ≤ v) (h2 : v ≤ o.length) : pl o (hd h v) ≤ o.length ∧ (pl o (hd h v) = 0 ↔ hd h v = 0) := by
  have h3 := T.hd_le h1 (by omega)
  by_cases e : hd h v = 0
  · rw [e, pl_zero hP]; omega
  · obtain ⟨a, b, _⟩ := pl_rng hP (v := hd h v) (by omega) (by omega)
    exact ⟨b, by omega⟩

theorem put_climb : ∀ (f v : Nat), 1 ≤ v → v ≤ o.length → climb (putRow h o) f (pl o v) = (climb h f v).map fun p => (pl o p.1, p.2)
  | 0, v, _, _ => rfl
  | f + 1, v, h1, h2 => by
    have h3 := T.hd_le h1 (by omega)
    obtain ⟨_, hz⟩ := pl_hd T hl hP h1 h2
    simp only [climb, put_at T hl hP h1 h2, T.get h1 (by omega)]
    by_cases e : hd h v = 0
    · rw [if_pos (by omega), if_pos (by omega)]; rfl
    · rw [if_neg (by omega), if_neg (by omega)]
      simp only [Int.toNat_natCast]
      rw [put_climb f (hd h v) (by omega) (by omega)]
      simp only [Option.map_map]
      rfl

theorem put_tree : Tree (putRow h o) := by
  have hlen := putRow_length h o
  have hp := T.pos
  have h8 := T.le
  refine ⟨by omega, by omega, ?_, ?_, fun k hk => ?_⟩
  · unfold inRange
    rw [List.all_eq_true]
    intro x hx
    obtain ⟨k, hk, e⟩ := List.getElem_of_mem hx
    have hk' : k < o.length := by omega
    have hg := put_get T hl hP hk'
    rw [List.getElem?_eq_getElem hk, e] at hg
    have hr := hP.1 k hk'
    obtain ⟨a, _⟩ := pl_hd T hl hP (v := o[k].toNat) (by omega) (by omega)
    rw [Option.some.inj hg, hlen]
    simp only [okHead, Bool.and_eq_true, decide_eq_true_eq]
    omega
  · have e1 : putRow h o = o.map fun x => ((pl o (hd h x.toNat) : Nat) : Int) := by
      apply List.ext_getElem?
      intro k
      by_cases hk : k < o.length
      · rw [put_get T hl hP hk]; simp [hk]
      · rw [List.getElem?_eq_none (by omega), List.getElem?_eq_none (by simp; omega)]
    have e2 : h = (List.range h.length).map fun k => ((hd h (k + 1) : Nat) : Int) := by
      apply List.ext_getElem?
      intro k
      by_cases hk : k < h.length
      · have := T.get (w := k + 1) (by omega) (by omega)
        rw [Nat.add_sub_cancel] at this
        rw [this]; simp [hk]
      · rw [List.getElem?_eq_none (by omega), List.getElem?_eq_none (by simp; omega)]
    have e3 := T.one
    rw [List.count] at e3 ⊢
    rw [e1, List.countP_map, (order_perm hP).countP_eq, List.countP_map]
    rw [e2, List.countP_map] at e3
    refine Eq.trans ?_ e3
    rw [hl]
    apply List.countP_congr
    intro k hk
    rw [List.mem_range] at hk
    obtain ⟨_, hz⟩ := pl_hd T hl hP (v := k + 1) (by omega) (by omega)
    simp only [Function.comp, Int.toNat_natCast, beq_iff_eq]
    omega
  · have hk' : k < o.length := by omega
    have hr := hP.1 k hk'
    have hc := put_climb T hl hP h.length o[k].toNat (by omega) (by omega)
    rw [pl_get hP hk', T.climb_some (w := o[k].toNat) (by omega) (by omega)] at hc
    rw [hlen, hl, hc]
    rfl

theorem put_dep {k : Nat} (hk : k < o.length) : dep (putRow h o) (k + 1) = dep h o[k].toNat := by
  have hr := hP.1 k hk
  have hc := put_climb T hl hP h.length o[k].toNat (by omega) (by omega)
  rw [pl_get hP hk, T.climb_some (w := o[k].toNat) (by omega) (by omega)] at hc
  rw [dep, putRow_length, hl, hc]
  rfl

end

/-- An order turned inside out. -/
def invO (o : List Int) : List Int := (placesL o).tail

theorem invO_length (o : List Int) : (invO o).length = o.length := by simp [invO, placesL, placesK_length]
theorem invO_get {o : List Int} {v : Nat} (hv : v < o.length) : (invO o)[v]? = some ((pl o (v + 1) : Nat) : Int) := by
  rw [invO, List.getElem?_tail, places_get (by omega)]

theorem invO_order {o : List Int} (hP : OrderP o (o.length : Nat)) : OrderP (invO o) (o.length : Nat) := by
  have hlen := invO_length o
  have get : ∀ (v : Nat) (hv : v < (invO o).length), (invO o)[v] = ((pl o (v + 1) : Nat) : Int) := fun v hv => by
    have := invO_get (o := o) (v := v) (by omega)
    rw [List.getElem?_eq_getElem hv] at this
    exact Option.some.inj this
  refine ⟨fun v hv => ?_, fun i j hij hj e => ?_⟩
  · rw [get v hv]
    obtain ⟨a, b, _⟩ := pl_rng hP (v := v + 1) (by omega) (by omega)
    omega
  · rw [get i (by omega), get j hj] at e
    obtain ⟨_, _, c1⟩ := pl_rng hP (v := i + 1) (by omega) (by omega)
    obtain ⟨_, _, c2⟩ := pl_rng hP (v := j + 1) (by omega) (by omega)
    rw [show pl o (i + 1) = pl o (j + 1) by omega, c2] at c1
    have := Option.some.inj c1
    omega

theorem invO_put {h o : List Int} (T : Tree h) (hl : o.length = h.length) (hP : OrderP o (o.length : Nat)) : putRow (putRow h o) (invO o) = h := by
  have hlen := invO_length o
  have hpl := putRow_length h o
  have T' := put_tree T hl hP
  have hP' : OrderP (invO o) ((invO o).length : Nat) := by rw [hlen]; exact invO_order hP
  have get : ∀ (v : Nat) (hv : v < (invO o).length), (invO o)[v] = ((pl o (v + 1) : Nat) : Int) := fun v hv => by
    have := invO_get (o := o) (v := v) (by omega)
    rw [List.getElem?_eq_getElem hv] at this
    exact Option.some.inj this
  apply List.ext_getElem?
  intro k
  by_cases hk : k < o.length
  · have hk' : k < (invO o).length := by omega
    rw [put_get T' (by omega) hP' hk', get k hk', Int.toNat_natCast]
    have h3 := T.hd_le (w := k + 1) (by omega) (by omega)
    have hg := T.get (w := k + 1) (by omega) (by omega)
    rw [Nat.add_sub_cancel] at hg
    have e1 : hd (putRow h o) (pl o (k + 1)) = pl o (hd h (k + 1)) := by
      have := put_at T hl hP (v := k + 1) (by omega) (by omega)
      rw [hd, List.getD_eq_getElem?_getD, this]
      simp
    rw [hg, e1]
    have e2 : pl (invO o) (pl o (hd h (k + 1))) = hd h (k + 1) := by
      by_cases e : hd h (k + 1) = 0
      · rw [e, pl_zero hP, pl_zero hP']
      · have hv : hd h (k + 1) - 1 < (invO o).length := by omega
        have := pl_get hP' hv
        rw [get _ hv, Int.toNat_natCast, show hd h (k + 1) - 1 + 1 = hd h (k + 1) by omega] at this
        exact this
    rw [e2]
  · rw [List.getElem?_eq_none (by rw [putRow_length]; omega), List.getElem?_eq_none (by omega)]

theorem tail_set {l : List Int} {v : Nat} {x : Int} : (l.set (v + 1) x).tail = l.tail.set v x := by cases l <;> rfl

end Go.Rv
