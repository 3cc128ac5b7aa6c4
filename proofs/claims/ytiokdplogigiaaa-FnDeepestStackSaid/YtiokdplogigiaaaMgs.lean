/-
  Draws of chapter 6: moves. Conditions: none.
-/
import Derived.Test.YtiokdplogigiaaaMgo
set_option linter.unusedVariables false
set_option linter.unusedSimpArgs false
namespace Go.Rv

theorem size_app (a b : ByteArray) : (a ++ b).size = a.size + b.size := by
  have := bytesN_length (a ++ b)
  rw [bytesN_append, List.length_append, bytesN_length, bytesN_length] at this
  omega

theorem lr_ok {b : List Int} (hb : Bytes b) {p : Int} (hp : 0 ≤ p) (hp2 : p ≤ 1000000000) {t : ByteArray} (ht : t.size ≤ 200) {β : Type} (f : ByteArray → Int → Option β) {K : β → Prop}
    (h : ∀ t' : ByteArray, t'.size = t.size + 1 → ∃ r, f t' (p + 1) = some r ∧ K r) :
    ∃ r, ((spec_l20Rd_pick 2 b p).bind fun (v : Int × Int) => (inb (v.1) (List.length ([(ByteArray.mk #[76]), (ByteArray.mk #[82])]))).bind fun (i : Nat) => (([(ByteArray.mk #[76]), (ByteArray.mk #[82])])[i]?).bind fun (c : ByteArray) => (cat t c).bind fun (t' : ByteArray) => f t' v.2) = some r ∧ K r := by
  obtain ⟨v, hv, a, c, _⟩ := pick_ok hb 2 (by omega) hp hp2
  have c := c (by omega)
  have two : v = 0 ∨ v = 1 := by omega
  have go (m : ByteArray) (hm : m.size = 1) : ∃ r, ((cat t m).bind fun (t' : ByteArray) => f t' (p + 1)) = some r ∧ K r := by
    rw [cat_ok (by omega)]
    exact h (t ++ m) (by rw [size_app, hm])
  simp only [hv, Option.bind_some]
  rcases two with rfl | rfl
  · exact go (ByteArray.mk #[76]) rfl
  · exact go (ByteArray.mk #[82]) rfl

theorem moves_drawn {b : List Int} (hb : Bytes b) {n : Int} (n0 : 0 ≤ n) (n9 : n ≤ 20) {p : Int} (hp : 0 ≤ p) (hp2 : p ≤ 1000000) :
    ∃ (t : ByteArray) (q : Int), spec_l20Moves n b p = some (t, q) ∧ t.size ≤ 300 := by
  have e : spec_l20Moves n b p = spec_l20Moves_n7 n b p := by unfold spec_l20Moves; rfl
  rw [e]
  unfold spec_l20Moves_n7 spec_l20Moves_n1 spec_l20Moves_n6 spec_l20Moves_n4 spec_l20Moves_n3
  have lp := nloop_ex (body := fun (s : ByteArray × Int × Int × Int) => ((spec_l20Moves_n2 s.1 s.2.1 s.2.2.1 b s.2.2.2).map (Sum.elim (fun (t : ByteArray × Int × Int × Int) => Sum.inl (t.1, t.2.1, t.2.2.1, t.2.2.2)) (fun (t : ByteArray × Int) => Sum.inr t)) : Option ((ByteArray × Int × Int × Int) ⊕ ((ByteArray × Int)))))
    (fun s => 0 ≤ s.2.1 ∧ s.2.1 ≤ 100 ∧ 0 ≤ s.2.2.1 ∧ s.2.2.1 ≤ 20 ∧ (s.1.size : Int) + 2 * s.2.2.1 + s.2.1 ≤ 100 ∧ 0 ≤ s.2.2.2 ∧ s.2.2.2 + 2 * (2 * s.2.2.1 + s.2.1) ≤ 2000000)
    (fun s => (2 * s.2.2.1 + s.2.1).toNat) (fun o => o.1.size ≤ 100 ∧ 0 ≤ o.2 ∧ o.2 ≤ 2000000)
    (by
      rintro ⟨t, d, m, q⟩ ⟨i1, i2, i3, i4, i5, i6, i7⟩
      simp only at i1 i2 i3 i4 i5 i6 i7
      have c83 : cat t (ByteArray.mk #[83]) = some (t ++ ByteArray.mk #[83]) := cat_ok (by show t.size + 1 ≤ 1000; omega)
      have s83 : (t ++ ByteArray.mk #[83]).size = t.size + 1 := by rw [size_app]; rfl
      by_cases m0 : m > 0
      · left
        simp only [spec_l20Moves_n2]
        rw [decide_eq_true m0]
        simp only [cond_true]
        by_cases d2 : d < 2
        · rw [decide_eq_true d2]
          simp only [cond_true, c83, Option.bind_some, Option.map_some, Sum.elim_inl]
          rw [wrap64 (x := d + 1) (by omega) (by omega), wrap64 (x := m - 1) (by omega) (by omega)]
          refine ⟨_, rfl, ?_⟩
          simp only [s83]
          omega
        · rw [decide_eq_false d2]
          obtain ⟨v, hv, a, c, _⟩ := pick_ok hb 2 (by omega) (p := q) (by omega) (by omega)
          simp only [cond_false, hv, Option.bind_some]
          by_cases v0 : (v == 0) = true
          · rw [v0]
            simp only [cond_true, c83, Option.bind_some, Option.map_some, Sum.elim_inl]
            rw [wrap64 (x := d + 1) (by omega) (by omega), wrap64 (x := m - 1) (by omega) (by omega)]
            refine ⟨_, rfl, ?_⟩
            simp only [s83]
            omega
          · rw [show (v == 0) = false from by simpa using v0]
            simp only [cond_false]
            rw [wrap64 (x := d - 1) (by omega) (by omega)]
            obtain ⟨r, h1, h2⟩ := lr_ok hb (p := q + 1) (by omega) (by omega) (t := t) (by omega) (fun t' p' => some (Sum.inl (t', d - 1, m, p') : (ByteArray × Int × Int × Int) ⊕ (ByteArray × Int)))
              (K := fun r => ∃ t' : ByteArray, t'.size = t.size + 1 ∧ r = Sum.inl (t', d - 1, m, q + 1 + 1)) (fun t' h => ⟨_, rfl, t', h, rfl⟩)
            obtain ⟨t', h3, rfl⟩ := h2
            rw [h1]
            refine ⟨_, rfl, ?_⟩
            simp only
            omega
      · simp only [spec_l20Moves_n2]
        rw [decide_eq_false m0]
        simp only [cond_false]
        by_cases d1 : d > 1
        · left
          rw [decide_eq_true d1, wrap64 (x := d - 1) (by omega) (by omega)]
          simp only [cond_true]
          obtain ⟨r, h1, h2⟩ := lr_ok hb (p := q) (by omega) (by omega) (t := t) (by omega) (fun t' p' => some (Sum.inl (t', d - 1, m, p') : (ByteArray × Int × Int × Int) ⊕ (ByteArray × Int)))
            (K := fun r => ∃ t' : ByteArray, t'.size = t.size + 1 ∧ r = Sum.inl (t', d - 1, m, q + 1)) (fun t' h => ⟨_, rfl, t', h, rfl⟩)
          obtain ⟨t', h3, rfl⟩ := h2
          rw [h1]
          refine ⟨_, rfl, ?_⟩
          simp only
          omega
        · right
          rw [decide_eq_false d1]
          exact ⟨_, rfl, by simp only; omega⟩)
    LL (ByteArray.empty, 0, n, p) (by
      have : ByteArray.empty.size = 0 := rfl
      simp only [this]
      omega) (by simp only [LL]; omega)
  obtain ⟨⟨t, q⟩, l1, l2, l3, l4⟩ := lp
  simp only at l2 l3 l4
  simp only [Option.bind_some]
  rw [l1]
  simp only [Option.map_some, Option.bind_some]
  unfold spec_l20Moves_n5
  obtain ⟨o, q1, ho, o1, o2⟩ := odd_ok hb 8 (by omega) (p := q) (by omega) (by omega)
  simp only [ho, Option.bind_some]
  cases o with
  | false => exact ⟨t, q1, rfl, by omega⟩
  | true =>
    by_cases ts : ((t.size : Nat) : Int) > 0
    · rw [decide_eq_true ts]
      obtain ⟨v, hv, a, c, _⟩ := pick_ok hb ((t.size : Nat) : Int) (by omega) (p := q1) (by omega) (by omega)
      have c := c (by omega)
      obtain ⟨v2, hv2, a2, c2, _⟩ := pick_ok hb 4 (by omega) (p := q1 + 1) (by omega) (by omega)
      have c2 := c2 (by omega)
      have i1 : inc v t.size = some v.toNat := inc_ok a (by omega)
      have i2 : inc (v + 1) t.size = some (v + 1).toNat := inc_ok (by omega) (by omega)
      have w1 : IntKind.wrap .i64 (v + 1) = v + 1 := wrap64 (by omega) (by omega)
      have x1 : (t.extract 0 v.toNat).size ≤ 100 := by rw [ByteArray.size_extract]; omega
      have x2 : (t.extract (v + 1).toNat t.size).size ≤ 100 := by rw [ByteArray.size_extract]; omega
      have go (m : ByteArray) (hm : m.size ≤ 1) : ∃ (u : ByteArray) (r : Int), ((cat (t.extract 0 v.toNat) m).bind fun (v8125 : ByteArray) => (cat v8125 (t.extract (v + 1).toNat t.size)).bind fun (v8126 : ByteArray) => some (v8126, q1 + 1 + 1)) = some (u, r) ∧ u.size ≤ 300 := by
        rw [cat_ok (by omega)]
        simp only [Option.bind_some]
        rw [cat_ok (by rw [size_app]; omega)]
        exact ⟨_, _, rfl, by rw [size_app, size_app]; omega⟩
      simp only [cond_true, hv, Option.bind_some, i1, w1, i2, hv2]
      have four : v2 = 0 ∨ v2 = 1 ∨ v2 = 2 ∨ v2 = 3 := by omega
      rcases four with rfl | rfl | rfl | rfl
      · rw [show idx ([ByteArray.empty, (ByteArray.mk #[83]), (ByteArray.mk #[76]), (ByteArray.mk #[120])]) 0 = some ByteArray.empty from rfl]
        simp only [Option.bind_some]
        exact go ByteArray.empty (by show 0 ≤ 1; omega)
      · rw [show idx ([ByteArray.empty, (ByteArray.mk #[83]), (ByteArray.mk #[76]), (ByteArray.mk #[120])]) 1 = some (ByteArray.mk #[83]) from rfl]
        simp only [Option.bind_some]
        exact go (ByteArray.mk #[83]) (by show 1 ≤ 1; omega)
      · rw [show idx ([ByteArray.empty, (ByteArray.mk #[83]), (ByteArray.mk #[76]), (ByteArray.mk #[120])]) 2 = some (ByteArray.mk #[76]) from rfl]
        simp only [Option.bind_some]
        exact go (ByteArray.mk #[76]) (by show 1 ≤ 1; omega)
      · rw [show idx ([ByteArray.empty, (ByteArray.mk #[83]), (ByteArray.mk #[76]), (ByteArray.mk #[120])]) 3 = some (ByteArray.mk #[120]) from rfl]
        simp only [Option.bind_some]
        exact go (ByteArray.mk #[120]) (by show 1 ≤ 1; omega)
    · rw [decide_eq_false ts]
      exact ⟨t, q1, rfl, by omega⟩

theorem drawn_run (x : List Int) (w : ∀ n ∈ x, (Lit.int .u8 n).wf = true) (l : x.length ≤ maxLen) : ∃ n mv, spec_DrawRunStack x = some (n, mv) ∧ mv.size ≤ 1000 := by
  obtain ⟨b, hb, hB⟩ := open_ok x w l
  obtain ⟨v1, h1, a1, b1, _⟩ := pick_ok hB 8 (by omega) (p := 0) (by omega) (by omega)
  obtain ⟨v2, h2, a2, b2, _⟩ := pick_ok hB 20 (by omega) (p := 0 + 1) (by omega) (by omega)
  obtain ⟨q2, hq2, c2, d2⟩ := quo_ok (a := v2) (b := 19) (by omega) a2 (by omega)
  obtain ⟨v3, h3, a3, b3, _⟩ := pick_ok hB 30 (by omega) (p := 0 + 1 + 1) (by omega) (by omega)
  obtain ⟨q3, hq3, c3, d3⟩ := quo_ok (a := v3) (b := 29) (by omega) a3 (by omega)
  have b1 := b1 (by omega)
  obtain ⟨t, q, ht, hs⟩ := moves_drawn hB (n := 1 + v1) (by omega) (by omega) (p := 0 + 1 + 1 + 1) (by omega) (by omega)
  have w1 : IntKind.wrap .i64 (1 + v1) = 1 + v1 := wrap64 (by omega) (by omega)
  unfold spec_DrawRunStack spec_DrawRunStack_n1
  simp only [hb, Option.bind_some, h1, h2, hq2, h3, hq3, w1, ht]
  exact ⟨_, t, rfl, by omega⟩

end Go.Rv
