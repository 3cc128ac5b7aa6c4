/-
  Soundness of the abstract run, a part. Conditions: none.
-/
import Derived.Test.YtenenhmofmdcbabDoorRg
set_option linter.unusedSimpArgs false
set_option linter.unusedVariables false
namespace Go.Rv

section
variable {P : Program} {T : TT} {B : Base} {s : St} {tmps : Array Value} {w : World} {ι : Plc}

theorem run_sliceBound {i : Int} {y : Nat} {k : IntKind} {c : BoundsCode} {n : Nat} (h : inc i y = some n) {y' : Nat} (hy : y ≤ y') :
    n ≤ y ∧ (Instr.sliceBound (.int k i) y' c).run P w = .ok n w := by
  unfold inc at h
  split at h
  · rename_i hc
    simp at h
    subst h
    have h2 : i ≤ (y' : Int) := by omega
    exact ⟨by omega, by simp [Instr.sliceBound, asIntOf, hc.1, h2]⟩
  · cases h

theorem acut_ok {S : Nat → Prop} {σ : Nat → Option Sum} {β : Type} {lo hi : Option AV} {L : Nat} {k : Nat → Nat → Option β} {r : β} (h : acut (optAlg β) lo hi L k = some r)
    {vlo vhi : Option Value} (hlo : ∀ a, lo = some a → ∃ v, vlo = some v ∧ AVRep w S σ a v) (hhi : ∀ a, hi = some a → ∃ v, vhi = some v ∧ AVRep w S σ a v)
    (nlo : lo = none → vlo = none) (nhi : hi = none → vhi = none) :
    ∃ q m, k q m = some r ∧ q ≤ m ∧ m ≤ L ∧ ∀ cap b, L ≤ cap → (Instr.sliceBounds b L cap vlo vhi none).run P w = .ok (q, m, cap) w := by
  unfold acut at h
  split at h
  · rw [nlo rfl, nhi rfl]
    exact ⟨0, L, h, by omega, Nat.le_refl _, fun cap b hc => by simp [Instr.sliceBounds]⟩
  · rename_i kk n
    obtain ⟨v, rfl, hv⟩ := hhi _ rfl
    have e := dat_int hv
    subst e
    rw [nlo rfl]
    simp only [optAlg] at h
    cases hn : inc n L with
    | none => simp [hn] at h
    | some m =>
      simp only [hn, Option.bind_some] at h
      exact ⟨0, m, h, by omega, (run_sliceBound (P := P) (w := w) (k := kk) (c := .index) hn (Nat.le_refl _)).1, fun cap b hc => by
        have := (run_sliceBound (P := P) (w := w) (k := kk) (c := if b then .sliceAcap else .sliceAlen) hn hc).2
        simp [Instr.sliceBounds, Sem.run_bind, this]⟩
  · rename_i kk n
    obtain ⟨v, rfl, hv⟩ := hlo _ rfl
    have e := dat_int hv
    subst e
    rw [nhi rfl]
    simp only [optAlg] at h
    cases hn : inc n L with
    | none => simp [hn] at h
    | some q =>
      simp only [hn, Option.bind_some] at h
      have hb := run_sliceBound (P := P) (w := w) (k := kk) (c := .sliceB) hn (Nat.le_refl _)
      exact ⟨q, L, h, hb.1, Nat.le_refl _, fun cap b hc => by simp [Instr.sliceBounds, Sem.run_bind, hb.2]⟩
  · rename_i k1 l k2 n
    obtain ⟨v1, rfl, hv1⟩ := hlo _ rfl
    obtain ⟨v2, rfl, hv2⟩ := hhi _ rfl
    have e := dat_int hv1
    subst e
    have e := dat_int hv2
    subst e
    simp only [optAlg] at h
    cases hn : inc n L with
    | none => simp [hn] at h
    | some m =>
      simp only [hn, Option.bind_some] at h
      cases hl : inc l m with
      | none => simp [hl] at h
      | some q =>
        simp only [hl, Option.bind_some] at h
        have hb := run_sliceBound (P := P) (w := w) (k := k1) (c := .sliceB) hl (Nat.le_refl _)
        exact ⟨q, m, h, hb.1, (run_sliceBound (P := P) (w := w) (k := k2) (c := .index) hn (Nat.le_refl _)).1, fun cap b hc => by
          have := (run_sliceBound (P := P) (w := w) (k := k2) (c := if b then .sliceAcap else .sliceAlen) hn hc).2
          simp [Instr.sliceBounds, Sem.run_bind, this, hb.2]⟩
  · cases h

theorem run_slice {t e : TypeId} {ti ie : TI} (hti : TIOk P t ti) (hk : ti.kind = .slice e) (hie : TIOk P e ie) {a : Option Addr} {len cap q m : Nat} {vlo vhi : Option Value}
    (hb : (Instr.sliceBounds true len cap vlo vhi none).run P w = .ok (q, m, cap) w) :
    (Instr.sliceAt t (.slice a len cap) vlo vhi none).run P w = .ok (.slice (if cap = q then a else a.map (·.add (q * ie.size))) (m - q) (cap - q)) w := by
  have hu : P.underlying t = some (.slice e) := by have := hti.kind; rw [hk] at this; exact this
  simp [Instr.sliceAt, Instr.slice, Sem.run_bind, run_underlying hu, hb, run_sizeOf hie]

theorem run_slice_str {t : TypeId} {ti : TI} (hti : TIOk P t ti) (hk : ti.kind = .str) {b : ByteArray} {q m : Nat} {vlo vhi : Option Value}
    (hb : (Instr.sliceBounds false b.size b.size vlo vhi none).run P w = .ok (q, m, b.size) w) :
    (Instr.sliceAt t (.string b) vlo vhi none).run P w = .ok (.string (b.extract q m)) w := by
  have hu : P.underlying t = some .string := by have := hti.kind; rw [hk] at this; exact this
  simp [Instr.sliceAt, Instr.slice, Sem.run_bind, run_underlying hu, hb]

/-- The value of a window, cut once more. -/
theorem WinAt.cut {q : Sum} {off len : Nat} {v : Value} (h : WinAt q off len v) {i m : Nat} (him : i ≤ m) (hm : m ≤ len) :
    ∃ a cap, v = .slice a len cap ∧ len ≤ cap ∧ WinAt q (off + i) (m - i) (.slice (if cap = i then a else a.map (·.add (i * q.cells))) (m - i) (cap - i)) := by
  unfold WinAt at h ⊢
  split at h
  · rename_i b o c hp
    obtain ⟨hle, h⟩ := h
    rcases h with rfl | ⟨hc, a, rfl⟩
    · refine ⟨_, _, rfl, by omega, by omega, ?_⟩
      split
      · rename_i hci
        right
        exact ⟨by omega, _, by congr 1 <;> omega⟩
      · left
        have e1 : o + off * q.cells + i * q.cells = o + (off + i) * q.cells := by rw [Nat.add_mul, Nat.add_assoc]
        have e2 : c - off - i = c - (off + i) := by omega
        simp only [Option.map_some, addr_add, e1, e2]
    · have h0 : len = 0 := by omega
      have hi0 : i = 0 := by omega
      have hm0 : m = 0 := by omega
      subst h0 hi0 hm0
      exact ⟨a, 0, rfl, by omega, by omega, .inr ⟨by omega, a, by simp⟩⟩
  · obtain ⟨h0, h1, a, rfl⟩ := h
    have hi0 : i = 0 := by omega
    have hm0 : m = 0 := by omega
    subst h0 h1 hi0 hm0
    exact ⟨a, 0, rfl, by omega, by omega, by omega, a, by simp⟩

theorem aslice_ok (hT : TOk P T) (hI : Inv B s tmps w ι) {β : Type} {t : TypeId} {x : AV} {lo hi : Option AV} {K : AV → Option β} {r : β} (h : aslice (optAlg β) T s t x lo hi K = some r) {vx : Value}
    (hx : AVRep w (dst B.D w ι s.heap) (sumOf ι s.heap) x vx) {vlo vhi : Option Value}
    (hlo : ∀ a, lo = some a → ∃ v, vlo = some v ∧ AVRep w (dst B.D w ι s.heap) (sumOf ι s.heap) a v) (hhi : ∀ a, hi = some a → ∃ v, vhi = some v ∧ AVRep w (dst B.D w ι s.heap) (sumOf ι s.heap) a v)
    (nlo : lo = none → vlo = none) (nhi : hi = none → vhi = none) :
    ∃ a v, K a = some r ∧ AVRep w (dst B.D w ι s.heap) (sumOf ι s.heap) a v ∧ (Instr.sliceAt t vx vlo vhi none).run P w = .ok v w := by
  unfold aslice at h
  split at h
  · rename_i ti hti
    have hti := hT t ti hti
    split at h
    · rename_i e hke
      split at h
      · rename_i ie hie
        have hie := hT e ie hie
        split at h
        · rename_i u xs
          split at h
          · rename_i hc
            obtain ⟨q, m, h1, h2, h3, h4⟩ := acut_ok (P := P) (w := w) h hlo hhi nlo nhi
            obtain ⟨a, cap, e1, hcap, hr⟩ := hx
            simp at e1
            subst e1
            refine ⟨_, _, h1, ?_, run_slice hti hke hie (h4 cap true hcap)⟩
            have hlen : ((xs.take m).drop q).length = m - q := by simp; omega
            refine ⟨if cap = q then a else a.map (·.add (q * ie.size)), cap - q, by rw [hlen], by rw [hlen]; omega, ?_⟩
            by_cases hqm : q = m
            · left
              apply List.eq_nil_of_length_eq_zero
              omega
            · right
              rcases hr with rfl | ⟨b, o, rfl, hS, hbl, hall⟩
              · simp at h3; omega
              · have hcq : cap ≠ q := by omega
                refine ⟨b, o + q * u.cells, by simp [hcq, addr_add, hc], hS, hbl, fun i y hy => ?_⟩
                have hy' : xs[q + i]? = some y := by
                  rw [List.getElem?_drop, List.getElem?_take] at hy
                  split at hy
                  · exact hy
                  · cases hy
                obtain ⟨c, hd, hh⟩ := hall _ y hy'
                exact ⟨c, hd, by rw [Nat.add_assoc, ← Nat.add_mul]; exact hh⟩
          · cases h
        · rename_i g
          split at h
          · rename_i u xs hrow
            have hr := row_eq hrow
            split at h
            · rename_i hc
              obtain ⟨q, m, h1, h2, h3, h4⟩ := acut_ok (P := P) (w := w) h hlo hhi nlo nhi
              obtain ⟨sm, hq, hw⟩ := hx
              have hq' := sum_of_row hr hq
              subst hq'
              obtain ⟨a, cap, rfl, hcap, hw'⟩ := hw.cut h2 h3
              refine ⟨_, _, h1, ?_, run_slice hti hke hie (h4 cap true hcap)⟩
              exact ⟨_, hq, by simp; omega, by simpa [hc] using hw'⟩
            · cases h
          · cases h
        · rename_i g off len
          split at h
          · rename_i u xs hrow
            have hr := row_eq hrow
            split at h
            · rename_i hc
              obtain ⟨q, m, h1, h2, h3, h4⟩ := acut_ok (P := P) (w := w) h hlo hhi nlo nhi
              obtain ⟨sm, hq, hl, hw⟩ := hx
              have hq' := sum_of_row hr hq
              subst hq'
              obtain ⟨a, cap, rfl, hcap, hw'⟩ := hw.cut h2 h3
              refine ⟨_, _, h1, ?_, run_slice hti hke hie (h4 cap true hcap)⟩
              exact ⟨_, hq, by simp at hl ⊢; omega, by simpa [hc] using hw'⟩
            · cases h
          · cases h
        · cases h
      · cases h
    · rename_i hks
      split at h
      · rename_i b
        obtain ⟨q, m, h1, h2, h3, h4⟩ := acut_ok (P := P) (w := w) h hlo hhi nlo nhi
        have e := dat_str hx
        subst e
        exact ⟨_, _, h1, rep_str _, run_slice_str hti hks (h4 b.size false (Nat.le_refl _))⟩
      · cases h
    · cases h
  · cases h

end
end Go.Rv
