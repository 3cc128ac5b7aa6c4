/-
  A row that is a datum from now on. Conditions: none.
-/
import Derived.Test.YtenenhmofmdcbabRn
set_option linter.unusedSimpArgs false
set_option linter.unusedVariables false
namespace Go.Rv

section
variable {B : Base} {s : St} {tmps : Array Value} {w : World} {ι : Plc}

theorem beq_ne {g h : Nat} (e : g ≠ h) : Nat.beq g h = false := by
  cases hb : Nat.beq g h with
  | false => rfl
  | true => exact absurd (Nat.eq_of_beq_eq_true hb) e

mutual
theorem frz_rep {h : Nat} {t : Ty} {xs : List t.den} {S S' : Nat → Prop} {σ σ' : Nat → Option Sum} (hS : ∀ b, S b → S' b) (hσ : ∀ g, g ≠ h → σ' g = σ g)
    (hrow : ∀ {off len : Nat} {q : Sum} {v : Value}, σ h = some q → off + len ≤ q.len → WinAt q off len v → DCells w S' (.list t) ((xs.drop off).take len) [v])
    (hlen : ∀ q, σ h = some q → q.len = xs.length) :
    ∀ (a : AV) (v : Value), AVRep w S σ a v → AVRep w S' σ' (frz h t xs a) v
  | .undef, _, _ => trivial
  | .dat t x, v, hr => DCells.sub hS hr
  | .nils, _, hr => hr
  | .slc g, v, ⟨q, hq, hw⟩ => by
    by_cases e : g = h
    · subst e
      simp only [frz, Nat.beq_refl, cond_true]
      have := hrow (off := 0) (len := q.len) hq (by simp) hw
      rw [hlen q hq] at this
      simp only [List.drop_zero, List.take_length] at this
      exact this
    · simp only [frz, beq_ne e, cond_false]
      exact ⟨q, (hσ g e).trans hq, hw⟩
  | .win g o l, v, ⟨q, hq, hl, hw⟩ => by
    by_cases e : g = h
    · subst e
      simp only [frz, Nat.beq_refl, cond_true]
      exact hrow hq hl hw
    · simp only [frz, beq_ne e, cond_false]
      exact ⟨q, (hσ g e).trans hq, hl, hw⟩
  | .ptr g o, v, ⟨q, b, o', c, hq, hr⟩ => by
    by_cases e : g = h
    · subst e
      simp only [frz, Nat.beq_refl, cond_true]
      trivial
    · simp only [frz, beq_ne e, cond_false]
      exact ⟨q, b, o', c, (hσ g e).trans hq, hr⟩
  | .elt g i o, v, ⟨q, b, o', c, hq, hr⟩ => by
    by_cases e : g = h
    · subst e
      simp only [frz, Nat.beq_refl, cond_true]
      trivial
    · simp only [frz, beq_ne e, cond_false]
      exact ⟨q, b, o', c, (hσ g e).trans hq, hr⟩
  | .relt t x _, _, ⟨b, o, cs, e, hs, hlt, hd, hc⟩ => ⟨b, o, cs, e, hS b hs, hlt, DCells.sub hS hd, hc⟩
  | .tab t xs, _, ⟨b, e, ht⟩ => ⟨b, e, ht.mono (Nat.le_refl _) (fun b hb _ => ⟨hS b hb, rfl⟩)⟩
  | .agg cs, _, ⟨vs, e, hr⟩ => ⟨vs, e, frzL_rep hS hσ hrow hlen cs vs hr⟩
  | .tup cs, _, ⟨vs, e, hr⟩ => ⟨vs, e, frzL_rep hS hσ hrow hlen cs vs hr⟩
  | .fn _ a b, _, ⟨va, vb, e, h1, h2⟩ => ⟨va, vb, e, frzL_rep hS hσ hrow hlen a va h1, frzL_rep hS hσ hrow hlen b vb h2⟩
  | .raw _, _, hr => hr
theorem frzL_rep {h : Nat} {t : Ty} {xs : List t.den} {S S' : Nat → Prop} {σ σ' : Nat → Option Sum} (hS : ∀ b, S b → S' b) (hσ : ∀ g, g ≠ h → σ' g = σ g)
    (hrow : ∀ {off len : Nat} {q : Sum} {v : Value}, σ h = some q → off + len ≤ q.len → WinAt q off len v → DCells w S' (.list t) ((xs.drop off).take len) [v])
    (hlen : ∀ q, σ h = some q → q.len = xs.length) :
    ∀ (a : List AV) (v : List Value), AVsRep w S σ a v → AVsRep w S' σ' (frzL h t xs a) v
  | [], _, hr => hr
  | a :: r, _, ⟨v, vr, e, h1, h2⟩ => ⟨v, vr, e, frz_rep hS hσ hrow hlen a v h1, frzL_rep hS hσ hrow hlen r vr h2⟩
end

theorem frzL_get {h : Nat} {t : Ty} {xs : List t.den} : ∀ {cs : List AV} {j : Nat} {a : AV}, (frzL h t xs cs)[j]? = some a → ∃ a0, cs[j]? = some a0 ∧ a = frz h t xs a0
  | [], _, _, hh => by simp [frzL] at hh
  | c :: r, 0, a, hh => by simp [frzL] at hh; exact ⟨c, rfl, hh.symm⟩
  | c :: r, j + 1, a, hh => by simp [frzL] at hh; simpa using frzL_get hh

theorem frzL_length {h : Nat} {t : Ty} {xs : List t.den} : ∀ (cs : List AV), (frzL h t xs cs).length = cs.length
  | [] => rfl
  | c :: r => by simp [frzL, frzL_length r]

theorem RowRep.sub {S S' : Nat → Prop} {σ : Nat → Option Sum} (hS : ∀ b, S b → S' b) {p : Option (Nat × Nat × Nat)} {r : Row} (h : RowRep w S σ p r) : RowRep w S' σ p r := by
  cases r with
  | seq u ys =>
    cases p with
    | none => exact h
    | some p =>
      obtain ⟨b, o, c⟩ := p
      obtain ⟨cur, e, h1, h2, h3, h4, h5⟩ := h
      refine ⟨cur, e, h1, h2, h3, h4, fun i x hx => ?_⟩
      obtain ⟨cs, hd, hc⟩ := h5 i x hx
      exact ⟨cs, DCells.sub hS hd, hc⟩
  | box cs =>
    obtain ⟨b, o, c, cur, e, hp, h1, h2⟩ := h
    refine ⟨b, o, c, cur, e, hp, h1, fun j a hj => ?_⟩
    obtain ⟨v, hv, h1c, hr⟩ := h2 j a hj
    exact ⟨v, hv, h1c, AVRep.mono (Nat.le_refl _) (fun b hb _ => ⟨hS b hb, rfl⟩) _ v (fun _ _ => rfl) hr⟩

theorem freeze_ok (hI : Inv B s tmps w ι) {h : Nat} (hk : B.k ≤ h) {t : Ty} {xs : List t.den} (hr : s.heap[h]? = some (some (.seq t xs))) :
    Inv B ⟨frzL h t xs s.env, (s.heap.map (Option.map (frzRow h t xs))).set h none⟩ tmps w ι := by
  have hlt : h < s.heap.length := (List.getElem?_eq_some_iff.1 hr).1
  generalize hH : (s.heap.map (Option.map (frzRow h t xs))).set h none = H'
  have hget : ∀ g r', H'[g]? = some (some r') → g ≠ h ∧ ∃ r, s.heap[g]? = some (some r) ∧ r' = frzRow h t xs r := fun g r' hg => by
    subst hH
    by_cases e : g = h
    · subst e
      rw [List.getElem?_set_self (by simpa using hlt)] at hg
      cases hg
    · refine ⟨e, ?_⟩
      rw [List.getElem?_set_ne (Ne.symm e), List.getElem?_map] at hg
      cases hc : s.heap[g]? with
      | none => rw [hc] at hg; simp at hg
      | some x =>
        cases x with
        | none => rw [hc] at hg; simp at hg
        | some r => rw [hc] at hg; simp at hg; exact ⟨r, rfl, hg.symm⟩
  have hback : ∀ g r, g ≠ h → s.heap[g]? = some (some r) → H'[g]? = some (some (frzRow h t xs r)) := fun g r e hg => by
    subst hH
    rw [List.getElem?_set_ne (Ne.symm e), List.getElem?_map, hg]
    rfl
  have hrc : ∀ r : Row, (frzRow h t xs r).cells = r.cells := fun r => by cases r <;> rfl
  have hrl : ∀ r : Row, (frzRow h t xs r).len = r.len := fun r => by cases r <;> simp [frzRow, Row.len, frzL_length]
  have hst : ∀ b, stab w ι s.heap b → stab w ι H' b := fun b hb => ⟨hb.1, fun g r' p hg hp => by
    obtain ⟨_, r, hg', _⟩ := hget g r' hg
    exact hb.2 g r p hg' hp⟩
  have hS : ∀ b, dst B.D w ι s.heap b → dst B.D w ι H' b := fun b hb => ⟨hb.1, hst b hb.2⟩
  have hblk : ∀ p, ι h = some p → dst B.D w ι H' p.1 := fun p hp => by
    refine ⟨hI.hrep.own h _ p hr hp, ?_, fun g r' p' hg hp' => ?_⟩
    · have := hI.hrep.rows h _ hr
      rw [hp] at this
      exact this.lt
    · obtain ⟨hne, r, hg', _⟩ := hget g r' hg
      exact hI.hrep.sep g h r _ p' p hg' hr hp' hp hne
  have hσ : ∀ g, g ≠ h → sumOf ι H' g = sumOf ι s.heap g := fun g e => by
    cases hc : s.heap[g]? with
    | none =>
      have : H'[g]? = none := by
        subst hH
        rw [List.getElem?_set_ne (Ne.symm e), List.getElem?_map, hc]; rfl
      simp [sumOf, this, hc]
    | some x =>
      cases x with
      | none =>
        have : H'[g]? = some none := by
          subst hH
          rw [List.getElem?_set_ne (Ne.symm e), List.getElem?_map, hc]; rfl
        simp [sumOf, this, hc]
      | some r => simp [sumOf, hback g r e hc, hc, hrc, hrl]
  have hrow : ∀ {off len : Nat} {q : Sum} {v : Value}, sumOf ι s.heap h = some q → off + len ≤ q.len → WinAt q off len v → DCells w (dst B.D w ι H') (.list t) ((xs.drop off).take len) [v] :=
    fun hq hl hw => slc_dat hI.hrep hS hr hblk hq hl hw
  have hlen : ∀ q, sumOf ι s.heap h = some q → q.len = xs.length := fun q hq => by
    rw [sumOf_of hr] at hq
    cases hq
    rfl
  refine ⟨hI.kept, ⟨fun g r' hg => ?_, fun g1 g2 r1 r2 p1 p2 e1 e2 q1 q2 hne => ?_, fun g r' p hg hp => ?_⟩, fun b hb => hst b (hI.stay b hb), fun g hg => ?_, fun i a ha => ?_, hI.glob.mono (Nat.le_refl _) (fun b hb _ => ⟨hS b hb, rfl⟩)⟩
  · obtain ⟨hne, r, hg', rfl⟩ := hget g r' hg
    have h0 := hI.hrep.rows g r hg'
    cases r with
    | seq u ys =>
      cases hp : ι g with
      | none => rw [hp] at h0; exact h0
      | some p =>
        rw [hp] at h0
        obtain ⟨b, o, c⟩ := p
        obtain ⟨cur, e, h1, h2, h3, h4, h5⟩ := h0
        refine ⟨cur, e, h1, h2, h3, h4, fun i x hx => ?_⟩
        obtain ⟨cs, hd, hc⟩ := h5 i x hx
        exact ⟨cs, DCells.sub hS hd, hc⟩
    | box cs =>
      obtain ⟨b, o, c, cur, e, hp, h1, h2⟩ := h0
      refine ⟨b, o, c, cur, e, hp, h1, fun j a hj => ?_⟩
      obtain ⟨a0, hj0, rfl⟩ := frzL_get hj
      obtain ⟨v, hv, h1c, hr'⟩ := h2 j a0 hj0
      exact ⟨v, hv, h1c, frz_rep hS hσ hrow hlen a0 v hr'⟩
  · obtain ⟨_, s1, hg1, _⟩ := hget g1 r1 e1
    obtain ⟨_, s2, hg2, _⟩ := hget g2 r2 e2
    exact hI.hrep.sep g1 g2 s1 s2 p1 p2 hg1 hg2 q1 q2 hne
  · obtain ⟨_, r, hg', _⟩ := hget g r' hg
    exact hI.hrep.own g r p hg' hp
  · obtain ⟨h1, r, h2⟩ := hI.io g hg
    have hne : g ≠ h := by omega
    exact ⟨(hσ g hne).trans h1, _, hback g r hne h2⟩
  · obtain ⟨a0, h0, rfl⟩ := frzL_get ha
    obtain ⟨v, hv, hr'⟩ := hI.env i a0 h0
    exact ⟨v, hv, frz_rep hS hσ hrow hlen a0 v hr'⟩

theorem Rep.freeze {s : St} {a : Act} {w : World} (hR : Rep B s a w) (h : Nat) : Rep B (s.freeze B.k h) a w := by
  unfold St.freeze
  cases hb : Nat.ble B.k h with
  | false => exact hR
  | true =>
    simp only [cond_true]
    split
    · rename_i t xs hrow
      obtain ⟨hd, ι, hI⟩ := hR
      exact ⟨hd, ι, freeze_ok hI (Nat.le_of_ble_eq_true hb) (row_eq hrow)⟩
    · exact hR

theorem Rep.frzAV {s : St} {a : Act} {w : World} (hR : Rep B s a w) (x : AV) : Rep B (s.frzAV B.k x) a w := by
  unfold St.frzAV
  split
  · exact hR.freeze _
  · exact hR.freeze _
  · exact hR

theorem winify_rep {S : Nat → Prop} {a : AV} {v : Value} (hr : AVRep w S (sumOf ι s.heap) a v) : AVRep w S (sumOf ι s.heap) (winify s a) v := by
  unfold winify
  split
  · rename_i h
    split
    · rename_i t xs hrow
      obtain ⟨q, hq, hw⟩ := hr
      have hq' := sum_of_row (row_eq hrow) hq
      subst hq'
      exact ⟨_, hq, by simp, hw⟩
    · exact hr
  · exact hr

theorem winify_refs {a : AV} {x : Nat} (h : (winify s a).refs x = true) : a.refs x = true := by
  unfold winify at h
  split at h
  · split at h
    · simpa [AV.refs] using h
    · exact h
  · exact h

theorem Inv.putEnv (hI : Inv B s tmps w ι) {t : Nat} {a : AV} (ha : s.env[t]? = some a) : Inv B { s with env := s.env.set t (winify s a) } tmps w ι := by
  refine ⟨hI.kept, hI.hrep, hI.stay, hI.io, fun i b hb => ?_, hI.glob⟩
  simp only at hb
  rw [List.getElem?_set] at hb
  split at hb
  · rename_i hit
    subst hit
    split at hb
    · obtain ⟨v, hv, hr⟩ := hI.env t a ha
      cases hb
      exact ⟨v, hv, winify_rep hr⟩
    · cases hb
  · exact hI.env i b hb

theorem Inv.setCell (hI : Inv B s tmps w ι) {h c : Nat} {cs : List AV} {a : AV} (hrow : s.heap[h]? = some (some (.box cs))) (ha : cs[c]? = some a) :
    Inv B (s.setRow h (.box (cs.set c (winify s a)))) tmps w ι := by
  have hlt : h < s.heap.length := (List.getElem?_eq_some_iff.1 hrow).1
  have hσ : sumOf ι (s.setRow h (.box (cs.set c (winify s a)))).heap = sumOf ι s.heap := by
    funext g
    by_cases e : g = h
    · subst e
      have h1 : (s.setRow g (.box (cs.set c (winify s a)))).heap[g]? = some (some (.box (cs.set c (winify s a)))) := by simp [St.setRow, hlt]
      rw [sumOf_of h1, sumOf_of hrow]
      simp [Row.cells, Row.len]
    · simp [sumOf, St.setRow, List.getElem?_set_ne (Ne.symm e)]
  have hget : ∀ g r, (s.setRow h (.box (cs.set c (winify s a)))).heap[g]? = some (some r) → ∃ r0, s.heap[g]? = some (some r0) ∧ (g ≠ h → r = r0) ∧ (g = h → r = .box (cs.set c (winify s a)) ∧ r0 = .box cs) := fun g r hg => by
    by_cases e : g = h
    · subst e
      simp [St.setRow, hlt] at hg
      exact ⟨_, hrow, fun hh => absurd rfl hh, fun _ => ⟨hg.symm, rfl⟩⟩
    · simp only [St.setRow] at hg
      rw [List.getElem?_set_ne (Ne.symm e)] at hg
      exact ⟨r, hg, fun _ => rfl, fun hh => absurd hh e⟩
  have hst : ∀ b, stab w ι s.heap b → stab w ι (s.setRow h (.box (cs.set c (winify s a)))).heap b := fun b hb => ⟨hb.1, fun g r p hg hp => by
    obtain ⟨r0, h0, _⟩ := hget g r hg
    exact hb.2 g r0 p h0 hp⟩
  have hS : ∀ b, dst B.D w ι s.heap b → dst B.D w ι (s.setRow h (.box (cs.set c (winify s a)))).heap b := fun b hb => ⟨hb.1, hst b hb.2⟩
  refine ⟨hI.kept, ⟨fun g r hg => ?_, fun g1 g2 r1 r2 p1 p2 e1 e2 q1 q2 hne => ?_, fun g r p hg hp => ?_⟩, fun b hb => hst b (hI.stay b hb), fun g hg => ?_, fun i b hb => ?_, hI.glob.mono (Nat.le_refl _) (fun b hb _ => ⟨hS b hb, rfl⟩)⟩
  · obtain ⟨r0, h0, h1, h2⟩ := hget g r hg
    rw [hσ]
    have hrr := hI.hrep.rows g r0 h0
    by_cases e : g = h
    · obtain ⟨rfl, rfl⟩ := h2 e
      obtain ⟨b, o, cc, cur, e', hp, h3, h4⟩ := hrr
      refine ⟨b, o, cc, cur, e', hp, h3, fun j x hj => ?_⟩
      rw [List.getElem?_set] at hj
      split at hj
      · rename_i hcj
        subst hcj
        split at hj
        · cases hj
          obtain ⟨v, hv, h1c, hr⟩ := h4 c a ha
          exact ⟨v, hv, h1c, AVRep.mono (Nat.le_refl _) (fun b hb _ => ⟨hS b hb, rfl⟩) _ v (fun _ _ => rfl) (winify_rep hr)⟩
        · cases hj
      · obtain ⟨v, hv, h1c, hr⟩ := h4 j x hj
        exact ⟨v, hv, h1c, AVRep.mono (Nat.le_refl _) (fun b hb _ => ⟨hS b hb, rfl⟩) _ v (fun _ _ => rfl) hr⟩
    · have := h1 e
      subst this
      exact RowRep.sub hS hrr
  · obtain ⟨s1, g1', _⟩ := hget g1 r1 e1
    obtain ⟨s2, g2', _⟩ := hget g2 r2 e2
    exact hI.hrep.sep g1 g2 s1 s2 p1 p2 g1' g2' q1 q2 hne
  · obtain ⟨r0, h0, _⟩ := hget g r hg
    exact hI.hrep.own g r0 p h0 hp
  · rw [hσ]
    obtain ⟨h1, r, h2⟩ := hI.io g hg
    refine ⟨h1, ?_⟩
    rw [← hσ] at h1
    have : sumOf ι (s.setRow h (.box (cs.set c (winify s a)))).heap g = some ⟨ι g, r.cells, r.len⟩ := by rw [hσ]; exact sumOf_of h2
    exact sumOf_some this
  · obtain ⟨v, hv, hr⟩ := hI.env i b hb
    rw [hσ]
    exact ⟨v, hv, AVRep.mono (Nat.le_refl _) (fun b hb _ => ⟨hS b hb, rfl⟩) _ v (fun _ _ => rfl) hr⟩

theorem Rep.turnOne {a : Act} {w : World} (p : Turn) {s : St} (hR : Rep B s a w) : Rep B (turnOne B.k p s) a w := by
  unfold Rv.turnOne
  split
  · split
    · rename_i x hx
      cases p.win with
      | true =>
        obtain ⟨hd, ι, hI⟩ := hR
        exact ⟨hd, ι, hI.putEnv hx⟩
      | false => exact hR.frzAV x
    · exact hR
  · split
    · split
      · rename_i hrow
        split
        · rename_i x hx
          cases p.win with
          | true =>
            obtain ⟨hd, ι, hI⟩ := hR
            exact ⟨hd, ι, hI.setCell (row_eq hrow) hx⟩
          | false => exact hR.frzAV x
        · exact hR
      · exact hR
    · exact hR

theorem Rep.freezeAt {a : Act} {w : World} (i : Nat) : ∀ (fr : List Turn) {s : St}, Rep B s a w → Rep B (freezeAt B.k i fr s) a w
  | [], _, hR => hR
  | p :: r, s, hR => by
    unfold Rv.freezeAt
    cases Nat.beq p.at_ i with
    | false => exact Rep.freezeAt i r hR
    | true => exact Rep.freezeAt i r (hR.turnOne p)

end
end Go.Rv
