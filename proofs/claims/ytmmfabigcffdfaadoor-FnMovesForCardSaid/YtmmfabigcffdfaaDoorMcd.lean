/-
  Plain mathematics: trees that are drawn, often flat. Conditions: none.
-/
import Derived.Test.YtmmfabigcffdfaaDoorMn
set_option linter.unusedVariables false
set_option linter.unusedSimpArgs false
namespace Go.Rv

theorem fill_ok {b : List Int} (hb : Bytes b) (m : Nat) (hm : m ≤ 20) : ∀ (f : Nat) (low high head p : Int) (hs : List Int), (high - low + 1).toNat < f → 1 ≤ low → low ≤ high + 1 → high ≤ m → hs.length = m → 0 ≤ p → p + 2 * (high - low + 1) ≤ 999980000 →
    ∃ (q : Int) (ks : List Int), spec_l20Fill_knot f low high head b p hs = some (q, ks) ∧ p ≤ q ∧ q ≤ p + 2 * (high - low + 1) ∧ (low ≤ high → q + 1 ≤ p + 2 * (high - low + 1)) ∧ ks.length = m := by
  intro f
  induction f with
  | zero => intro low high head p hs h; omega
  | succ f ih =>
    intro low high head p hs hf h1 h2 h3 hl hp hp2
    simp only [spec_l20Fill_knot]
    generalize hR : spec_l20Fill_knot f = R0 at ih
    unfold spec_l20Fill_one spec_l20Fill_n11 spec_l20Fill_n1
    by_cases h0 : low > high
    · rw [decide_eq_true h0]
      exact ⟨p, hs, rfl, by omega, by omega, by omega, hl⟩
    · rw [decide_eq_false h0]
      obtain ⟨v, hv, va, vb, _⟩ := pick_ok hb (high - low + 1) (by omega) (p := p) (by omega) (by omega)
      have vb' := vb (by omega)
      rw [wrap64 (x := high - low) (by omega) (by omega), wrap64 (x := high - low + 1) (by omega) (by omega)]
      simp only [cond_false, hv, Option.bind_some]
      rw [wrap64 (x := low + v) (by omega) (by omega), wrap64 (x := low + v - 1) (by omega) (by omega), inb_ok (by omega) (show low + v - 1 < (hs.length : Nat) by omega)]
      simp only [Option.bind_some, Sum.elim_inl]
      generalize hroot : low + v = root
      unfold spec_l20Fill_n10 spec_l20Fill_n4 spec_l20Fill_n3 spec_l20Fill_n9 spec_l20Fill_n5 spec_l20Fill_n8 spec_l20Fill_n7
      obtain ⟨⟨q1, k1⟩, e1, a1, a2, a3⟩ := nloop_ex (body := fun (s : Int × Int × (List Int)) => ((spec_l20Fill_n2 R0 root s.1 b s.2.1 s.2.2).map (Sum.elim (fun (t : Int × Int × (List Int)) => Sum.inl (t.1, t.2.1, t.2.2)) (fun (t : Int × (List Int)) => Sum.inr t)) : Option ((Int × Int × (List Int)) ⊕ ((Int × (List Int))))))
        (I := fun s => ∃ (fr q : Int) (ks : List Int), s = (fr, q, ks) ∧ low ≤ fr ∧ fr ≤ root ∧ p + 1 ≤ q ∧ q ≤ p + 1 + 2 * (fr - low) ∧ ks.length = m) (μ := fun s => (root - s.1).toNat)
        (Q := fun t => p + 1 ≤ t.1 ∧ t.1 ≤ p + 1 + 2 * (root - low) ∧ t.2.length = m)
        (by
          rintro _ ⟨fr, q, ks, rfl, i1, i2, i3, i4, i6⟩
          simp only [spec_l20Fill_n2]
          by_cases hlt : fr < root
          · left
            rw [decide_eq_true hlt, wrap64 (x := root - fr) (by omega) (by omega)]
            obtain ⟨w, hw, wa, wb, _⟩ := pick_ok hb (root - fr) (by omega) (p := q) (by omega) (by omega)
            have wb' := wb (by omega)
            simp only [cond_true, hw, Option.bind_some]
            rw [wrap64 (x := fr + w) (by omega) (by omega), wrap64 (x := fr + w + 1) (by omega) (by omega)]
            obtain ⟨q2, k2, e2, b1, b2, b4, b3⟩ := ih fr (fr + w) root (q + 1) ks (by omega) (by omega) (by omega) (by omega) i6 (by omega) (by omega)
            have b4' := b4 (by omega)
            rw [e2]
            exact ⟨(fr + w + 1, q2, k2), rfl, ⟨fr + w + 1, q2, k2, rfl, by omega, by omega, by omega, by omega, b3⟩, by simp only; omega⟩
          · right
            rw [decide_eq_false hlt]
            exact ⟨(q, ks), rfl, i3, by show q ≤ _; omega, i6⟩) LL (low, p + 1, hs.set (root - 1).toNat head) ⟨low, p + 1, _, rfl, by omega, by omega, by omega, by omega, by simpa using hl⟩ (by simp only [LL]; omega)
      simp only at a1 a2 a3
      rw [e1]
      simp only [Option.map_some, Option.bind_some]
      rw [wrap64 (x := root + 1) (by omega) (by omega)]
      obtain ⟨⟨q2, k2⟩, e2, c1, c2, c3⟩ := nloop_ex (body := fun (s : Int × Int × (List Int)) => ((spec_l20Fill_n6 R0 high root s.1 b s.2.1 s.2.2).map (Sum.elim (fun (t : Int × Int × (List Int)) => Sum.inl (t.1, t.2.1, t.2.2)) (fun (t : Int × (List Int)) => Sum.inr t)) : Option ((Int × Int × (List Int)) ⊕ ((Int × (List Int))))))
        (I := fun s => ∃ (fr q : Int) (ks : List Int), s = (fr, q, ks) ∧ root + 1 ≤ fr ∧ fr ≤ high + 1 ∧ p + 1 ≤ q ∧ q ≤ p + 1 + 2 * (root - low) + 2 * (fr - root - 1) ∧ ks.length = m) (μ := fun s => (high + 1 - s.1).toNat)
        (Q := fun t => p + 1 ≤ t.1 ∧ t.1 ≤ p + 1 + 2 * (high - low) ∧ t.2.length = m)
        (by
          rintro _ ⟨fr, q, ks, rfl, i1, i2, i3, i4, i6⟩
          simp only [spec_l20Fill_n6]
          by_cases hlt : fr ≤ high
          · left
            rw [decide_eq_true hlt, wrap64 (x := high - fr) (by omega) (by omega), wrap64 (x := high - fr + 1) (by omega) (by omega)]
            obtain ⟨w, hw, wa, wb, _⟩ := pick_ok hb (high - fr + 1) (by omega) (p := q) (by omega) (by omega)
            have wb' := wb (by omega)
            simp only [cond_true, hw, Option.bind_some]
            rw [wrap64 (x := fr + w) (by omega) (by omega), wrap64 (x := fr + w + 1) (by omega) (by omega)]
            obtain ⟨q2, k2, e2, b1, b2, b4, b3⟩ := ih fr (fr + w) root (q + 1) ks (by omega) (by omega) (by omega) (by omega) i6 (by omega) (by omega)
            have b4' := b4 (by omega)
            rw [e2]
            exact ⟨(fr + w + 1, q2, k2), rfl, ⟨fr + w + 1, q2, k2, rfl, by omega, by omega, by omega, by omega, b3⟩, by simp only; omega⟩
          · right
            rw [decide_eq_false hlt]
            exact ⟨(q, ks), rfl, i3, by show q ≤ _; omega, i6⟩) LL (root + 1, q1, k1) ⟨root + 1, q1, k1, rfl, by omega, by omega, by omega, by omega, a3⟩ (by simp only [LL]; omega)
      simp only at c1 c2 c3
      rw [e2]
      exact ⟨q2, k2, rfl, by omega, by omega, by omega, c3⟩

theorem flat_ok {b : List Int} (hb : Bytes b) (n : Int) (hn : n ≤ 1000) {p : Int} (hp : 0 ≤ p) (hp2 : p ≤ 999970000) :
    ∃ (q : Int) (h : List Int), spec_l20Flat n b p = some (q, h) ∧ p ≤ q ∧ q ≤ p + 400 ∧ h.length ≤ 8 := by
  have e : spec_l20Flat n b p = spec_l20Flat_n1 n b p := by unfold spec_l20Flat; rfl
  rw [e]
  unfold spec_l20Flat_n1
  obtain ⟨c, hc, ca, _⟩ := pick_ok hb 3 (by omega) (p := p) (by omega) (by omega)
  simp only [hc, Option.bind_some]
  cases (c == 0) with
  | true =>
    obtain ⟨q, h, hq, qa, qb, h8⟩ := tree_ok hb n hn (p := p + 1) (by omega) (by omega)
    simp only [cond_true, hq, Option.bind_some]
    exact ⟨q, h, rfl, by omega, by omega, h8⟩
  | false =>
    obtain ⟨v, hv, va, vb, _⟩ := pick_ok hb 7 (by omega) (p := p + 1) (by omega) (by omega)
    have vb' := vb (by omega)
    obtain ⟨m, hm⟩ : ∃ m : Nat, 1 + v = (m : Int) := ⟨(1 + v).toNat, by omega⟩
    simp only [cond_false, hv, Option.bind_some]
    rw [wrap64 (x := 1 + v) (by omega) (by omega), hm, mk_nat (by omega)]
    have e2 : spec_l20Fill 1 (m : Int) 0 b (p + 1 + 1) (List.replicate m 0) = spec_l20Fill_knot RR 1 (m : Int) 0 b (p + 1 + 1) (List.replicate m 0) := by unfold spec_l20Fill spec_l20Fill_fuel; rfl
    obtain ⟨q, ks, hq, qa, qb, _, hk⟩ := fill_ok hb m (by omega) RR 1 (m : Int) 0 (p + 1 + 1) (List.replicate m 0) (by simp only [RR]; omega) (by omega) (by omega) (by omega) (by simp) (by omega) (by omega)
    simp only [Option.bind_some, e2, hq]
    exact ⟨q, ks, rfl, by omega, by omega, by omega⟩

/-- Trees that are drawn. -/
theorem drawn_flat (x : List Int) (w : ∀ n ∈ x, (Lit.int .u8 n).wf = true) (l : x.length ≤ maxLen) (n : Int) (hn : n ≤ 1000) :
    ∃ h : List Int, h.length ≤ 8 ∧ ((spec_l20Open x).bind fun (v : List Int) => (spec_l20Flat n v 0).bind fun (t : Int × List Int) => some (t.2)) = some h := by
  obtain ⟨b, hb, hB⟩ := open_ok x w l
  obtain ⟨q, h, hq, _, _, h8⟩ := flat_ok hB n hn (p := 0) (by omega) (by omega)
  exact ⟨h, h8, by simp [hb, hq]⟩

end Go.Rv
