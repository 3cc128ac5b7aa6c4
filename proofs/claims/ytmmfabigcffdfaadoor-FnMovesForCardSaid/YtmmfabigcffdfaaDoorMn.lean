/-
  What is drawn: trees. Conditions: none.
-/
import Derived.Test.YtmmfabigcffdfaaDoorMm
set_option linter.unusedVariables false
set_option linter.unusedSimpArgs false
namespace Go.Rv

theorem set_ok {o hs : List Int} {m : Nat} (hm : m ≤ 1000000) (ho : o.length = m) (hx : ∀ x ∈ o, 1 ≤ x ∧ x ≤ (m : Int)) (hh : hs.length = m) {k at_ : Int} (hk0 : 0 ≤ k) (hk : k < m) (ha0 : 0 ≤ at_) (ha : at_ < m) {α : Type} (f : List Int → α) :
    ∃ l : List Int, l.length = m ∧ ((inb k (List.length o)).bind fun (v638 : Nat) => (o[v638]?).bind fun (v639 : Int) => (inb at_ (List.length o)).bind fun (v641 : Nat) => (o[v641]?).bind fun (v642 : Int) => (inb (IntKind.wrap .i64 (v639 - 1)) (List.length hs)).bind fun (v643 : Nat) => some (f (hs.set v643 v642))) = some (f l) := by
  have h1 : k.toNat < o.length := by omega
  have h2 : at_.toNat < o.length := by omega
  have hr := hx o[k.toNat] (List.getElem_mem h1)
  refine ⟨hs.set (o[k.toNat] - 1).toNat o[at_.toNat], by simpa using hh, ?_⟩
  rw [inb_ok hk0 (by omega), inb_ok ha0 (by omega)]
  simp only [Option.bind_some, List.getElem?_eq_getElem h1, List.getElem?_eq_getElem h2]
  rw [wrap64 (by omega) (by omega), inb_ok (by omega) (by omega)]
  rfl

theorem tree_ok {b : List Int} (hb : Bytes b) (n : Int) (hn : n ≤ 1000) {p : Int} (hp : 0 ≤ p) (hp2 : p ≤ 999990000) :
    ∃ (q : Int) (h : List Int), spec_l20Tree n b p = some (q, h) ∧ p ≤ q ∧ q ≤ p + 300 ∧ h.length ≤ 8 := by
  unfold spec_l20Tree spec_l20Tree_n9 spec_l20Tree_n1
  obtain ⟨v, hv, va, vb, _⟩ := pick_ok hb 7 (by omega) hp (by omega)
  have vb' := vb (by omega)
  obtain ⟨m, hm⟩ : ∃ m : Nat, 1 + v = (m : Int) := ⟨(1 + v).toNat, by omega⟩
  obtain ⟨q1, o, ho, q1a, q1b, hol, hox⟩ := order_ok hb m (by omega) (p := p + 1) (by omega) (by omega)
  obtain ⟨nr, hnr, nra, _⟩ := pick_ok hb 2 (by omega) (p := q1) (by omega) (by omega)
  simp only [hv, Option.bind_some]
  rw [wrap64 (x := 1 + v) (by omega) (by omega), hm]
  simp only [ho, mk_nat (show m ≤ 1099511627776 by omega), hnr, Option.bind_some]
  unfold spec_l20Tree_n8 spec_l20Tree_n6 spec_l20Tree_n2 spec_l20Tree_n5 spec_l20Tree_n4
  obtain ⟨⟨q2, hs⟩, h1, h2, h3, h4⟩ := nloop_ex (body := fun (s : Int × Int × List Int) => ((spec_l20Tree_n3 m nr s.1 b s.2.1 o s.2.2).map (Sum.elim (fun (t : Int × Int × List Int) => Sum.inl (t.1, t.2.1, t.2.2)) (fun (t : Int × List Int) => Sum.inr t)) : Option ((Int × Int × List Int) ⊕ ((Int × List Int)))))
    (I := fun s => ∃ (k : Nat) (q : Int) (hs : List Int), s = ((k : Int), q, hs) ∧ 1 ≤ k ∧ k ≤ m ∧ q1 ≤ q ∧ q ≤ q1 + 1 + 2 * k ∧ hs.length = m) (μ := fun s => m - s.1.toNat)
    (Q := fun t => q1 ≤ t.1 ∧ t.1 ≤ q1 + 20 ∧ t.2.length = m)
    (by
      rintro _ ⟨k, q, hs, rfl, hk1, hk, qa, qb, hhs⟩
      simp only [spec_l20Tree_n3]
      by_cases hlt : k < m
      · left
        rw [show decide ((k : Int) < (m : Int)) = true from decide_eq_true (by omega), wrap64 (x := (k : Int) + 1) (by omega) (by omega), wrap64 (x := (k : Int) - 1) (by omega) (by omega)]
        obtain ⟨a, ha, aa, ab, _⟩ := pick_ok hb (k : Int) (by omega) (p := q) (by omega) (by omega)
        have ab' := ab (by omega)
        obtain ⟨c, hc, _⟩ := pick_ok hb 2 (by omega) (p := q + 1) (by omega) (by omega)
        simp only [cond_true, ha, Option.bind_some]
        have hmu : m - (((k : Int) + 1)).toNat < m - ((k : Int)).toNat := by omega
        cases hnear : (nr == 1) with
        | true =>
          simp only [cond_true, hc, Option.bind_some]
          cases h5 : (c == 0) with
          | true =>
            obtain ⟨l, hl, e⟩ := set_ok (by omega) hol hox hhs (k := (k : Int)) (at_ := (k : Int) - 1) (by omega) (by omega) (by omega) (by omega) (fun l => (Sum.inl ((k : Int) + 1, q + 1 + 1, l) : (Int × Int × List Int) ⊕ (Int × List Int)))
            simp only [cond_true]
            rw [e]
            exact ⟨_, rfl, ⟨k + 1, q + 1 + 1, l, by push_cast; rfl, by omega, by omega, by omega, by push_cast; omega, hl⟩, hmu⟩
          | false =>
            obtain ⟨l, hl, e⟩ := set_ok (by omega) hol hox hhs (k := (k : Int)) (at_ := a) (by omega) (by omega) (by omega) (by omega) (fun l => (Sum.inl ((k : Int) + 1, q + 1 + 1, l) : (Int × Int × List Int) ⊕ (Int × List Int)))
            simp only [cond_false]
            rw [e]
            exact ⟨_, rfl, ⟨k + 1, q + 1 + 1, l, by push_cast; rfl, by omega, by omega, by omega, by push_cast; omega, hl⟩, hmu⟩
        | false =>
          obtain ⟨l, hl, e⟩ := set_ok (by omega) hol hox hhs (k := (k : Int)) (at_ := a) (by omega) (by omega) (by omega) (by omega) (fun l => (Sum.inl ((k : Int) + 1, q + 1, l) : (Int × Int × List Int) ⊕ (Int × List Int)))
          simp only [cond_false]
          rw [e]
          exact ⟨_, rfl, ⟨k + 1, q + 1, l, by push_cast; rfl, by omega, by omega, by omega, by push_cast; omega, hl⟩, hmu⟩
      · right
        have e : k = m := by omega
        subst e
        rw [show decide ((k : Int) < (k : Int)) = false from decide_eq_false (by omega)]
        exact ⟨_, rfl, qa, by show q ≤ q1 + 20; omega, hhs⟩) LL (1, q1 + 1, List.replicate m 0) ⟨1, q1 + 1, _, rfl, by omega, by omega, by omega, by omega, by simp⟩ (by simp only [LL]; omega)
  rw [h1]
  simp only at h2 h3 h4
  simp only [Option.bind_some, Option.map_some]
  unfold spec_l20Tree_n7
  obtain ⟨od, q3, ho3, q3a, q3b⟩ := odd_ok hb n (by omega) (p := q2) (by omega) (by omega)
  obtain ⟨c, hc, ca, cb, _⟩ := pick_ok hb 4 (by omega) (p := q3) (by omega) (by omega)
  obtain ⟨d, hd, da, db, _⟩ := pick_ok hb (m : Int) (by omega) (p := q3 + 1) (by omega) (by omega)
  have db' := db (by omega)
  obtain ⟨e, he, ea, eb, _⟩ := pick_ok hb 3 (by omega) (p := q3 + 1) (by omega) (by omega)
  have eb' := eb (by omega)
  simp only [ho3, Option.bind_some]
  cases od with
  | false => exact ⟨_, _, rfl, by omega, by omega, by omega⟩
  | true =>
    simp only [cond_true, hc, Option.bind_some]
    cases (c == 0) with
    | true => exact ⟨_, _, rfl, by omega, by omega, by simp⟩
    | false =>
      cases (c == 1) with
      | true => exact ⟨_, _, rfl, by omega, by omega, by simp⟩
      | false =>
        cases (c == 2) with
        | true =>
          simp only [cond_true, cond_false, hd, Option.bind_some, inb_ok da (show d < (hs.length : Nat) by omega)]
          rw [room_le (by simp; omega)]
          exact ⟨_, _, rfl, by omega, by omega, by simp; omega⟩
        | false =>
          simp only [cond_true, cond_false, he, Option.bind_some]
          have hin : inb e (List.length ([1, (IntKind.wrap .i64 ((m : Int) + 1)), (-1)])) = some e.toNat := inb_ok ea (by simp; omega)
          have hin0 : inb 0 (List.length hs) = some 0 := inb_ok (by omega) (by omega)
          have hlt : e.toNat < ([1, (IntKind.wrap .i64 ((m : Int) + 1)), (-1)] : List Int).length := by simp; omega
          rw [hin]
          simp only [Option.bind_some, List.getElem?_eq_getElem hlt, hin0]
          exact ⟨_, _, rfl, by omega, by omega, by simp; omega⟩

end Go.Rv
