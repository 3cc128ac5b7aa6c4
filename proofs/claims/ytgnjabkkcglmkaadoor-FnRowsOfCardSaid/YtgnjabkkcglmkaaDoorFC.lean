/-
  The framework: rows that own rows. Conditions: none.
-/
import Derived.Test.YtgnjabkkcglmkaaDoorFA
set_option linter.unusedSimpArgs false
set_option linter.unusedVariables false
namespace Go.Rv

theorem WinAt.one {q : Sum} {off len : Nat} {v : Value} (h : WinAt q off len v) : v.oneCell' = true := by
  unfold WinAt at h
  split at h
  · rcases h with ⟨_, rfl | ⟨_, a, rfl⟩⟩ <;> simp [Value.oneCell']
  · obtain ⟨_, _, a, rfl⟩ := h
    simp [Value.oneCell']

section
variable {B : Base} {s : St} {tmps : Array Value} {w : World} {ι : Plc}

/-- Other places for the rows that row h owns. -/
def setInn (ι : Plc) (h : Nat) (q : Nat → Option (Nat × Nat × Nat)) : Plc := ⟨ι.out, fun x => if x = h then q else ι.inn x⟩

/-- The blocks of the rows that a row owns. -/
def Inner (q : Nat → Option (Nat × Nat × Nat)) (n b : Nat) : Prop := ∃ i p, i < n ∧ q i = some p ∧ p.1 = b

theorem sumOf_like {h : Nat} {r r0 : Row} {H : Heap} (hr : H[h]? = some (some r0)) (hc : r.cells = r0.cells) (hl : r.len = r0.len) (q : Nat → Option (Nat × Nat × Nat)) :
    sumOf (setInn ι h q) (H.set h (some r)) = sumOf ι H := by
  funext x
  have hlt : h < H.length := (List.getElem?_eq_some_iff.1 hr).1
  by_cases e : x = h
  · subst e
    simp [sumOf, hlt, hr, setInn, hc, hl]
    rw [List.getElem?_eq_getElem hlt] at hr
    simp at hr
    simp [hr]
  · simp [sumOf, setInn, List.getElem?_set_ne (Ne.symm e)]

/-- A row that bears slices is one that owns rows, if their blocks are no one's. -/
theorem Inv.shown {B' : Base} {I : Nat → Prop} (hI : Inv B' s tmps w ι) (hD : ∀ b, B'.D b → B.D b ∧ ¬ I b) (hID : ∀ b, I b → B.D b) (hIs : ∀ b, I b → b < w.heap.size ∧ ∀ g, ¬ Occ ι s.heap g b)
    (hkept : Kept B.S0 B.w0 w) (hstay : ∀ b, B.S0 b → stab w ι s.heap b ∧ ¬ I b) (hσ : B'.σ0 = B.σ0) (hk : B'.k = B.k)
    {h : Nat} {vs : List Value} (hr : s.heap[h]? = some (some (.seq .val vs))) (t : Ty) (xss : List (List t.den)) (m : Nat) (cs : List AV) (q : Nat → Option (Nat × Nat × Nat)) (hlen : xss.length = vs.length)
    (hq : ∀ i p, i < xss.length → q i = some p → I p.1)
    (hsep : ∀ i j p1 p2, i < xss.length → j < xss.length → q i = some p1 → q j = some p2 → i ≠ j → p1.1 ≠ p2.1)
    (hcs : ∀ (j : Nat) a, cs[j]? = some a → xss[m + j]? = some [] ∧ q (m + j) = none)
    (hcsv : ∀ (j : Nat) a, cs[j]? = some a → ∃ v, vs[m + j]? = some v ∧ AVRep w (dst B'.D w ι s.heap) (sumOf ι s.heap) a v)
    (hcell : ∀ (i : Nat) xs v, xss[i]? = some xs → vs[i]? = some v → (i < m ∨ m + cs.length ≤ i) → WinAt ⟨q i, t.cells, xs.length⟩ 0 xs.length v)
    (hpart : ∀ (i : Nat) xs, xss[i]? = some xs → RowRep w (dst B'.D w ι s.heap) (sumOf ι s.heap) (q i) (.seq t xs)) :
    Inv B (s.setRow h (.nest t xss m cs)) tmps w (setInn ι h q) ∧ sumOf (setInn ι h q) (s.setRow h (.nest t xss m cs)).heap = sumOf ι s.heap := by
  have hlt : h < s.heap.length := (List.getElem?_eq_some_iff.1 hr).1
  have hsum : sumOf (setInn ι h q) (s.setRow h (.nest t xss m cs)).heap = sumOf ι s.heap := sumOf_like (r := .nest t xss m cs) hr rfl hlen q
  have hself : (s.setRow h (.nest t xss m cs)).heap[h]? = some (some (.nest t xss m cs)) := by simp [St.setRow, hlt]
  have hoth : ∀ g, g ≠ h → (s.setRow h (.nest t xss m cs)).heap[g]? = s.heap[g]? := fun g e => by
    simp only [St.setRow]
    rw [List.getElem?_set_ne (Ne.symm e)]
  have hocc : ∀ {g b : Nat}, Occ (setInn ι h q) (s.setRow h (.nest t xss m cs)).heap g b → Occ ι s.heap g b ∨ (g = h ∧ I b) := fun {g b} o => by
    cases o with
    | out r p hr' hp e =>
      by_cases hg : g = h
      · subst hg
        exact .inl (.out _ p hr hp e)
      · rw [hoth g hg] at hr'
        exact .inl (.out r p hr' hp e)
    | inn u yss n ds i p hr' hi hp e =>
      by_cases hg : g = h
      · subst hg
        rw [hself] at hr'
        cases hr'
        simp only [setInn, if_pos] at hp
        exact .inr ⟨rfl, e ▸ hq i p hi hp⟩
      · rw [hoth g hg] at hr'
        simp only [setInn, if_neg hg] at hp
        exact .inl (.inn u yss n ds i p hr' hi hp e)
  have hst : ∀ b, stab w ι s.heap b → ¬ I b → stab w (setInn ι h q) (s.setRow h (.nest t xss m cs)).heap b := fun b hb hn => by
    refine ⟨hb.1, fun g o => ?_⟩
    rcases hocc o with o | ⟨_, hi⟩
    · exact hb.2 g o
    · exact hn hi
  have hS : ∀ b, dst B'.D w ι s.heap b → dst B.D w (setInn ι h q) (s.setRow h (.nest t xss m cs)).heap b := fun b hb => ⟨(hD b hb.1).1, hst b hb.2 (hD b hb.1).2⟩
  have hav : ∀ a v, AVRep w (dst B'.D w ι s.heap) (sumOf ι s.heap) a v → AVRep w (dst B.D w (setInn ι h q) (s.setRow h (.nest t xss m cs)).heap) (sumOf (setInn ι h q) (s.setRow h (.nest t xss m cs)).heap) a v := fun a v hv => by
    rw [hsum]
    exact AVRep.mono (Nat.le_refl _) (fun b hb _ => ⟨hS b hb, rfl⟩) a v (fun _ _ => rfl) hv
  have hrow : ∀ p r, RowRep w (dst B'.D w ι s.heap) (sumOf ι s.heap) p r → RowRep w (dst B.D w (setInn ι h q) (s.setRow h (.nest t xss m cs)).heap) (sumOf (setInn ι h q) (s.setRow h (.nest t xss m cs)).heap) p r := fun p r hv => by
    rw [hsum]
    exact RowRep.sub hS hv
  have h0 := hI.hrep.rows h _ hr
  refine ⟨⟨hkept, ⟨fun g r hg => ?_, fun g1 g2 b o1 o2 => ?_, fun g b o => ?_, fun g u yss n ds hg => ?_⟩, fun b hb => hst b (hstay b hb).1 (hstay b hb).2, fun g hg => ?_, fun i a ha => ?_, hI.glob.mono (Nat.le_refl _) (fun b hb _ => ⟨hS b hb, rfl⟩)⟩, hsum⟩
  · by_cases e : g = h
    · subst e
      rw [hself] at hg
      cases hg
      show RowRep w _ _ (ι g) _
      cases hp : ι g with
      | none =>
        rw [hp] at h0
        have h0 : vs = [] := h0
        subst h0
        have hx : xss = [] := List.eq_nil_of_length_eq_zero hlen
        refine ⟨hx, ?_⟩
        cases cs with
        | nil => rfl
        | cons a r =>
          obtain ⟨h1, _⟩ := hcs 0 a rfl
          rw [hx] at h1
          simp at h1
      | some p =>
        rw [hp] at h0
        obtain ⟨b, o, c⟩ := p
        obtain ⟨cur, e, h1, h2, h3, h4, h5⟩ := h0
        refine ⟨cur, e, h1, by simpa [Ty.cells] using h2, by omega, h4, fun j a hj => ?_⟩
        obtain ⟨v, hv, hr'⟩ := hcsv j a hj
        obtain ⟨c', hd, hc'⟩ := h5 (m + j) v hv
        obtain ⟨rfl, h1c⟩ := hd
        refine ⟨v, ?_, h1c, hav a v hr'⟩
        have := hc' 0 v rfl
        simpa [Ty.cells, Nat.add_assoc] using this
    · rw [hoth g e] at hg
      exact hrow (ι g) r (hI.hrep.rows g r hg)
  · rcases hocc o1 with o1 | ⟨e1, i1⟩ <;> rcases hocc o2 with o2 | ⟨e2, i2⟩
    · exact hI.hrep.one g1 g2 b o1 o2
    · exact absurd o1 ((hIs b i2).2 g1)
    · exact absurd o2 ((hIs b i1).2 g2)
    · exact e1.trans e2.symm
  · rcases hocc o with o | ⟨_, hi⟩
    · exact (hD b (hI.hrep.has g b o)).1
    · exact hID b hi
  · by_cases e : g = h
    · subst e
      rw [hself] at hg
      cases hg
      have hqe : (setInn ι g q).inn g = q := by simp [setInn]
      rw [hqe]
      refine ⟨hcs, fun i xs hx hi => ?_, fun i xs hx => hrow _ _ (hpart i xs hx), fun i b o c p' hi hp hp' eb => ?_, hsep⟩
      · have hiv : i < vs.length := hlen ▸ (List.getElem?_eq_some_iff.1 hx).1
        have hw := hcell i xs vs[i] hx (List.getElem?_eq_getElem hiv) hi
        cases hp : ι g with
        | none =>
          rw [hp] at h0
          have h0 : vs = [] := h0
          subst h0
          simp at hiv
        | some p =>
          rw [hp] at h0
          obtain ⟨b, o, c⟩ := p
          obtain ⟨cur, e, h1, h2, h3, h4, h5⟩ := h0
          obtain ⟨c', hd, hc'⟩ := h5 i vs[i] (List.getElem?_eq_getElem hiv)
          obtain ⟨rfl, h1c⟩ := hd
          refine ⟨b, o, c, cur, e, vs[i], hp, h1, ?_, hw⟩
          have := hc' 0 vs[i] rfl
          simpa [Ty.cells] using this
      · exact (hIs _ (hq i p' hi hp')).2 g (.out _ _ hr hp eb.symm)
    · rw [hoth g e] at hg
      have hqe : (setInn ι h q).inn g = ι.inn g := by simp [setInn, e]
      rw [hqe, hsum]
      exact NestRep.ren (.inl hS) (hI.hrep.nest g u yss n ds hg)
  · obtain ⟨h1, r, h2⟩ := hI.io g (hk ▸ hg)
    rw [hsum]
    refine ⟨hσ ▸ h1, ?_⟩
    by_cases e : g = h
    · subst e; exact ⟨_, hself⟩
    · exact ⟨r, (hoth g e).trans h2⟩
  · obtain ⟨v, hv, hr'⟩ := hI.env i a ha
    exact ⟨v, hv, hav a v hr'⟩

/-- The frame in which a row that owns rows is one that bears slices. -/
def hidB (B : Base) (w : World) (S I : Nat → Prop) (hs : B.w0.heap.size ≤ w.heap.size) (hi : ∀ b, I b → b < w.heap.size) : Base where
  w0 := w
  S0 := S
  D := fun b => B.D b ∧ ¬ I b
  σ0 := B.σ0
  k := B.k
  new := fun b hb => ⟨B.new b (Nat.le_trans hs hb), fun h => Nat.lt_irrefl _ (Nat.lt_of_lt_of_le (hi b h) hb)⟩

/-- A row that owns rows is one that bears slices. -/
theorem Inv.hidden (hI : Inv B s tmps w ι) {h : Nat} {t : Ty} {xss : List (List t.den)} {m : Nat} {cs : List AV} (hr : s.heap[h]? = some (some (.nest t xss m cs))) :
    ∃ (vs : List Value) (hi : ∀ b, Inner (ι.inn h) xss.length b → b < w.heap.size), vs.length = xss.length ∧
      (∀ (i : Nat) xs v, xss[i]? = some xs → vs[i]? = some v → (i < m ∨ m + cs.length ≤ i) → WinAt ⟨ι.inn h i, t.cells, xs.length⟩ 0 xs.length v) ∧
      (∀ (j : Nat) a, cs[j]? = some a → ∃ v, vs[m + j]? = some v ∧ AVRep w (dst B.D w ι s.heap) (sumOf ι s.heap) a v) ∧
      Inv (hidB B w (stab w ι (s.setRow h (.seq .val vs)).heap) (Inner (ι.inn h) xss.length) hI.kept.size hi) (s.setRow h (.seq .val vs)) tmps w ι ∧
      sumOf ι (s.setRow h (.seq .val vs)).heap = sumOf ι s.heap ∧
      (∀ b, dst (fun b => B.D b ∧ ¬ Inner (ι.inn h) xss.length b) w ι (s.setRow h (.seq .val vs)).heap b ↔ dst B.D w ι s.heap b) ∧
      (∀ b, Inner (ι.inn h) xss.length b → stab w ι (s.setRow h (.seq .val vs)).heap b) ∧
      (∀ b, stab w ι s.heap b → stab w ι (s.setRow h (.seq .val vs)).heap b) := by
  have hlt : h < s.heap.length := (List.getElem?_eq_some_iff.1 hr).1
  have hN := hI.hrep.nest h t xss m cs hr
  have hrow := hI.hrep.rows h _ hr
  have hinO : ∀ b, Inner (ι.inn h) xss.length b → Occ ι s.heap h b := fun b ⟨i, p, hi, hp, e⟩ => .inn t xss m cs i p hr hi hp e
  have hi : ∀ b, Inner (ι.inn h) xss.length b → b < w.heap.size := fun b hb => (hinO b hb).lt hI.hrep
  -- the cells
  have hvs : ∃ vs : List Value, vs.length = xss.length ∧
      (∀ (i : Nat) xs v, xss[i]? = some xs → vs[i]? = some v → (i < m ∨ m + cs.length ≤ i) → WinAt ⟨ι.inn h i, t.cells, xs.length⟩ 0 xs.length v) ∧
      (∀ (j : Nat) a, cs[j]? = some a → ∃ v, vs[m + j]? = some v ∧ AVRep w (dst B.D w ι s.heap) (sumOf ι s.heap) a v) ∧
      (∀ (S : Nat → Prop) (σ : Nat → Option Sum), RowRep w S σ (ι h) (.seq .val vs)) := by
    cases hp : ι h with
    | none =>
      rw [hp] at hrow
      obtain ⟨rfl, rfl⟩ := hrow
      exact ⟨[], rfl, fun i xs v hx => by simp at hx, fun j a hj => by simp at hj, fun _ _ => rfl⟩
    | some p =>
      rw [hp] at hrow
      obtain ⟨b, o, c⟩ := p
      obtain ⟨cur, e, h1, h2, h3, h4, h5⟩ := hrow
      have hcell : ∀ i xs v, xss[i]? = some xs → cur[o + i]? = some v → (i < m ∨ m + cs.length ≤ i) → WinAt ⟨ι.inn h i, t.cells, xs.length⟩ 0 xs.length v := fun i xs v hx hv hi => by
        obtain ⟨b', o', c', cur', e', v', hp', h1', hc', hw⟩ := hN.cell i xs hx hi
        rw [hp] at hp'
        cases hp'
        rw [h1] at h1'
        cases h1'
        rw [hv] at hc'
        cases hc'
        exact hw
      refine ⟨(cur.toList.drop o).take xss.length, by simp; omega, fun i xs v hx hv hi => ?_, fun j a hj => ?_, fun S σ => ⟨cur, e, h1, by simpa [Ty.cells] using h2, by simp; omega, h4, fun i x hx => ?_⟩⟩
      · have hil := (List.getElem?_eq_some_iff.1 hx).1
        rw [List.getElem?_take, if_pos hil, List.getElem?_drop] at hv
        exact hcell i xs v hx (by simpa using hv) hi
      · obtain ⟨v, hv, _, hr'⟩ := h5 j a hj
        have hil : m + j < xss.length := (List.getElem?_eq_some_iff.1 (hN.hole j a hj).1).1
        refine ⟨v, ?_, hr'⟩
        rw [List.getElem?_take, if_pos hil, List.getElem?_drop]
        simpa [Nat.add_assoc] using hv
      · rw [List.getElem?_take] at hx
        split at hx
        · rename_i hil
          rw [List.getElem?_drop] at hx
          have hx : cur[o + i]? = some x := by simpa using hx
          refine ⟨[x], ⟨rfl, ?_⟩, fun j v hv => ?_⟩
          · by_cases hlent : i < m ∨ m + cs.length ≤ i
            · exact (hcell i _ x (List.getElem?_eq_getElem hil) hx hlent).one
            · have hj : i - m < cs.length := by omega
              obtain ⟨v, hv, h1c, _⟩ := h5 (i - m) cs[i - m] (List.getElem?_eq_getElem hj)
              have e : o + m + (i - m) = o + i := by omega
              rw [e, hx] at hv
              cases hv
              exact h1c
          · cases j with
            | zero => simp at hv; subst hv; simpa [Ty.cells] using hx
            | succ j => simp at hv
        · cases hx
  obtain ⟨vs, hlen, hv1, hv2, hv3⟩ := hvs
  have hself : (s.setRow h (.seq .val vs)).heap[h]? = some (some (.seq .val vs)) := by simp [St.setRow, hlt]
  have hoth : ∀ g, g ≠ h → (s.setRow h (.seq .val vs)).heap[g]? = s.heap[g]? := fun g e => by
    simp only [St.setRow]
    rw [List.getElem?_set_ne (Ne.symm e)]
  have hsum : sumOf ι (s.setRow h (.seq .val vs)).heap = sumOf ι s.heap := by
    funext x
    by_cases e : x = h
    · subst e
      rw [sumOf_of hself, sumOf_of hr]
      simp [Row.cells, Row.len, Ty.cells, hlen]
    · simp only [sumOf, hoth x e]
  have hocc : ∀ {g b : Nat}, Occ ι (s.setRow h (.seq .val vs)).heap g b → Occ ι s.heap g b ∧ ¬ Inner (ι.inn h) xss.length b := fun {g b} o => by
    have hnot : Occ ι s.heap g b → (g = h → ∃ p, ι h = some p ∧ p.1 = b) → ¬ Inner (ι.inn h) xss.length b := fun o' hout hin => by
      have := hI.hrep.one g h b o' (hinO b hin)
      obtain ⟨p, hp, e⟩ := hout this
      obtain ⟨i, p', hi', hp', e'⟩ := hin
      obtain ⟨b0, o0, c0⟩ := p
      exact hN.far i b0 o0 c0 p' hi' hp hp' (e'.trans e.symm)
    cases o with
    | out r p hr' hp e =>
      by_cases hg : g = h
      · subst hg
        exact ⟨.out _ p hr hp e, hnot (.out _ p hr hp e) fun _ => ⟨p, hp, e⟩⟩
      · rw [hoth g hg] at hr'
        exact ⟨.out r p hr' hp e, hnot (.out r p hr' hp e) fun hh => absurd hh hg⟩
    | inn u yss n ds i p hr' hi hp e =>
      by_cases hg : g = h
      · subst hg
        rw [hself] at hr'
        cases hr'
      · rw [hoth g hg] at hr'
        exact ⟨.inn u yss n ds i p hr' hi hp e, hnot (.inn u yss n ds i p hr' hi hp e) fun hh => absurd hh hg⟩
  have hback : ∀ {g b : Nat}, Occ ι s.heap g b → (∃ g', Occ ι (s.setRow h (.seq .val vs)).heap g' b) ∨ Inner (ι.inn h) xss.length b := fun {g b} o => by
    cases o with
    | out r p hr' hp e =>
      by_cases hg : g = h
      · subst hg
        exact .inl ⟨g, .out _ p hself hp e⟩
      · exact .inl ⟨g, .out r p ((hoth g hg).trans hr') hp e⟩
    | inn u yss n ds i p hr' hi hp e =>
      by_cases hg : g = h
      · subst hg
        rw [hr] at hr'
        cases hr'
        exact .inr ⟨i, p, hi, hp, e⟩
      · exact .inl ⟨g, .inn u yss n ds i p ((hoth g hg).trans hr') hi hp e⟩
  have hst : ∀ b, stab w ι s.heap b → stab w ι (s.setRow h (.seq .val vs)).heap b := fun b hb => ⟨hb.1, fun g o => hb.2 g (hocc o).1⟩
  have hinS : ∀ b, Inner (ι.inn h) xss.length b → stab w ι (s.setRow h (.seq .val vs)).heap b := fun b hb => ⟨hi b hb, fun g o => (hocc o).2 hb⟩
  have hdst : ∀ b, dst (fun b => B.D b ∧ ¬ Inner (ι.inn h) xss.length b) w ι (s.setRow h (.seq .val vs)).heap b ↔ dst B.D w ι s.heap b := fun b => by
    constructor
    · rintro ⟨⟨hd, hn⟩, hs⟩
      refine ⟨hd, hs.1, fun g o => ?_⟩
      rcases hback o with ⟨g', o'⟩ | hin
      · exact hs.2 g' o'
      · exact hn hin
    · rintro ⟨hd, hs⟩
      exact ⟨⟨hd, fun hin => hs.2 h (hinO b hin)⟩, hst b hs⟩
  have hS : ∀ b, dst B.D w ι s.heap b → dst (fun b => B.D b ∧ ¬ Inner (ι.inn h) xss.length b) w ι (s.setRow h (.seq .val vs)).heap b := fun b hb => (hdst b).2 hb
  refine ⟨vs, hi, hlen, hv1, hv2, ⟨Kept.refl _ _, ⟨fun g r hg => ?_, fun g1 g2 b o1 o2 => hI.hrep.one g1 g2 b (hocc o1).1 (hocc o2).1, fun g b o => ⟨hI.hrep.has g b (hocc o).1, (hocc o).2⟩, fun g u yss n ds hg => ?_⟩, fun b hb => hb, fun g hg => ?_, fun i a ha => ?_, hI.glob.mono (Nat.le_refl _) (fun b hb _ => ⟨hS b hb, rfl⟩)⟩, hsum, hdst, hinS, hst⟩
  · by_cases e : g = h
    · subst e
      rw [hself] at hg
      cases hg
      exact hv3 _ _
    · rw [hoth g e] at hg
      rw [hsum]
      exact RowRep.sub hS (hI.hrep.rows g r hg)
  · by_cases e : g = h
    · subst e
      rw [hself] at hg
      cases hg
    · rw [hoth g e] at hg
      rw [hsum]
      exact NestRep.sub hS (hI.hrep.nest g u yss n ds hg)
  · obtain ⟨h1, r, h2⟩ := hI.io g hg
    rw [hsum]
    refine ⟨h1, ?_⟩
    by_cases e : g = h
    · subst e; exact ⟨_, hself⟩
    · exact ⟨r, (hoth g e).trans h2⟩
  · obtain ⟨v, hv, hr'⟩ := hI.env i a ha
    refine ⟨v, hv, ?_⟩
    rw [hsum]
    exact AVRep.mono (Nat.le_refl _) (fun b hb _ => ⟨hS b hb, rfl⟩) a v (fun _ _ => rfl) hr'

end
end Go.Rv

set_option linter.unusedSimpArgs false
set_option linter.unusedVariables false
namespace Go.Rv

section
variable {B : Base} {s : St} {tmps : Array Value} {w : World} {ι : Plc}

def lendPlc (ι : Plc) (h g i : Nat) : Plc := ⟨fun x => if x = g then ι.inn h i else ι x, fun x j => if x = h ∧ j = i then none else ι.inn x j⟩

theorem set_get {α : Type} {l : List α} {i j : Nat} {a x : α} (h : (l.set i a)[j]? = some x) : (j = i ∧ x = a) ∨ (j ≠ i ∧ l[j]? = some x) := by
  rw [List.getElem?_set] at h
  split at h
  · rename_i e
    split at h
    · exact .inl ⟨e.symm, (by simpa using h.symm)⟩
    · cases h
  · rename_i e
    exact .inr ⟨fun e' => e e'.symm, h⟩

theorem Inv.lend (hI : Inv B s tmps w ι) {h g i : Nat} {t : Ty} {xss : List (List t.den)} {xs : List t.den} {m : Nat} (hr : s.heap[h]? = some (some (.nest t xss m []))) (hx : xss[i]? = some xs) (hfree : s.heap[g]? = some none) :
    Inv B (lendSt s h g i t xss xs) tmps w (lendPlc ι h g i) ∧
    ∃ b o c cur e v, ι h = some (b, o, c) ∧ w.heap[b]? = some (.cells cur e (0, 0)) ∧ cur[o + i]? = some v ∧
      AVRep w (dst B.D w (lendPlc ι h g i) (lendSt s h g i t xss xs).heap) (sumOf (lendPlc ι h g i) (lendSt s h g i t xss xs).heap) (.slc g) v := by
  have hlt : h < s.heap.length := (List.getElem?_eq_some_iff.1 hr).1
  have hglt : g < s.heap.length := (List.getElem?_eq_some_iff.1 hfree).1
  have hgh : h ≠ g := fun e => by subst e; rw [hfree] at hr; cases hr
  have hil : i < xss.length := (List.getElem?_eq_some_iff.1 hx).1
  have hN := hI.hrep.nest h t xss m [] hr
  have hselfh : (lendSt s h g i t xss xs).heap[h]? = some (some (.nest t (xss.set i []) i [.slc g])) := by
    simp only [lendSt, St.setRow]
    rw [List.getElem?_set_ne (Ne.symm hgh), List.getElem?_set_self hlt]
  have hselfg : (lendSt s h g i t xss xs).heap[g]? = some (some (.seq t xs)) := by
    simp only [lendSt, St.setRow]
    rw [List.getElem?_set_self (by simpa using hglt)]
  have hoth : ∀ x, x ≠ h → x ≠ g → (lendSt s h g i t xss xs).heap[x]? = s.heap[x]? := fun x e1 e2 => by
    simp only [lendSt, St.setRow]
    rw [List.getElem?_set_ne (Ne.symm e2), List.getElem?_set_ne (Ne.symm e1)]
  have henv : (lendSt s h g i t xss xs).env = s.env := rfl
  generalize hs' : lendSt s h g i t xss xs = s' at hselfh hselfg hoth henv ⊢
  have ho : ∀ x, x ≠ g → (lendPlc ι h g i) x = ι x := fun x e => by simp [lendPlc, e]
  have hog : (lendPlc ι h g i) g = ι.inn h i := by simp [lendPlc]
  have hin : ∀ x, x ≠ h → (lendPlc ι h g i).inn x = ι.inn x := fun x e => by funext j; simp [lendPlc, e]
  have hinh : ∀ j, j ≠ i → (lendPlc ι h g i).inn h j = ι.inn h j := fun j e => by simp [lendPlc, e]
  have hini : (lendPlc ι h g i).inn h i = none := by simp [lendPlc]
  generalize hι' : lendPlc ι h g i = ι' at ho hog hin hinh hini ⊢
  have hinner : ∀ p, ι.inn h i = some p → Occ ι s.heap h p.1 := fun p hp => .inn t xss m [] i p hr hil hp rfl
  have hnone : sumOf ι s.heap g = none := by simp [sumOf, hfree]
  have hocc : ∀ {x b : Nat}, Occ ι' s'.heap x b → (x = g ∧ ∃ p, ι.inn h i = some p ∧ p.1 = b) ∨ (x ≠ g ∧ Occ ι s.heap x b ∧ (∀ p, ι.inn h i = some p → p.1 ≠ b)) := fun {x b} o => by
    have key : ∀ {x b : Nat}, Occ ι s.heap x b → x ≠ h → ∀ p, ι.inn h i = some p → p.1 ≠ b := fun o' hne p hp e =>
      hne (hI.hrep.one _ h _ o' (e ▸ hinner p hp))
    cases o with
    | out r p hr' hp e =>
      by_cases hxg : x = g
      · subst hxg
        rw [hog] at hp
        exact .inl ⟨rfl, p, hp, e⟩
      · rw [ho x hxg] at hp
        by_cases hxh : x = h
        · subst hxh
          refine .inr ⟨hxg, .out _ p hr hp e, fun p' hp' e' => ?_⟩
          obtain ⟨b0, o0, c0⟩ := p
          exact hN.far i b0 o0 c0 p' hil hp hp' (e'.trans e.symm)
        · rw [hoth x hxh hxg] at hr'
          exact .inr ⟨hxg, .out r p hr' hp e, key (.out r p hr' hp e) hxh⟩
    | inn u yss n ds j p hr' hj hp e =>
      by_cases hxg : x = g
      · subst hxg
        rw [hselfg] at hr'
        cases hr'
      · by_cases hxh : x = h
        · subst hxh
          rw [hselfh] at hr'
          cases hr'
          have hji : j ≠ i := fun e => by subst e; rw [hini] at hp; cases hp
          rw [hinh j hji] at hp
          rw [List.length_set] at hj
          exact .inr ⟨hxg, .inn t xss m [] j p hr hj hp e, fun p' hp' e' => hN.sep i j p' p hil hj hp' hp (Ne.symm hji) (e'.trans e.symm)⟩
        · rw [hoth x hxh hxg] at hr'
          rw [hin x hxh] at hp
          exact .inr ⟨hxg, .inn u yss n ds j p hr' hj hp e, key (.inn u yss n ds j p hr' hj hp e) hxh⟩
  have hst : ∀ b, stab w ι s.heap b → stab w ι' s'.heap b := fun b hb => by
    refine ⟨hb.1, fun x o => ?_⟩
    rcases hocc o with ⟨_, p, hp, e⟩ | ⟨_, o', _⟩
    · exact hb.2 h (e ▸ hinner p hp)
    · exact hb.2 x o'
  have hsum : ∀ x, x ≠ g → sumOf ι' s'.heap x = sumOf ι s.heap x := fun x e => by
    by_cases hxh : x = h
    · subst hxh
      rw [sumOf_of hselfh, sumOf_of hr, ho x e]
      simp [Row.cells, Row.len]
    · simp only [sumOf, hoth x hxh e, ho x e]
  have T : Trans w ι s.heap w ι' s'.heap (fun x => x ≠ g) := ⟨Nat.le_refl _, fun b hb => ⟨hst b hb, rfl⟩, hsum⟩
  have hsg : sumOf ι' s'.heap g = some ⟨ι.inn h i, t.cells, xs.length⟩ := by
    rw [sumOf_of hselfg, hog]; rfl
  have hne : ∀ {a : AV} {v : Value}, AVRep w (dst B.D w ι s.heap) (sumOf ι s.heap) a v → ∀ x, a.refs x = true → x ≠ g := fun {a v} ha x hx e => by
    obtain ⟨q, hq⟩ := AVRep.refs_some a v x ha hx
    rw [e, hnone] at hq
    cases hq
  obtain ⟨b, o, c, cur, e, v, hp, hb, hc, hw⟩ := hN.cell i xs hx (by simp; omega)
  have hav : AVRep w (dst B.D w ι' s'.heap) (sumOf ι' s'.heap) (.slc g) v := ⟨_, hsg, hw⟩
  refine ⟨⟨hI.kept, ⟨fun x r hg => ?_, fun g1 g2 b o1 o2 => ?_, fun x b o => ?_, fun x u yss n ds hg => ?_⟩, fun b hb => hst b (hI.stay b hb), fun x hg => ?_, fun j a ha => ?_, T.globs hI.glob⟩, b, o, c, cur, e, v, hp, hb, hc, hav⟩
  · by_cases hxg : x = g
    · subst hxg
      rw [hselfg] at hg
      cases hg
      rw [hog]
      exact T.row (fun y hy => by simp [Row.refs] at hy) (fun _ _ _ _ => rfl) (hN.part i xs hx)
    · rw [ho x hxg]
      by_cases hxh : x = h
      · subst hxh
        rw [hselfh] at hg
        cases hg
        have h0 := hI.hrep.rows x _ hr
        rw [hp] at h0 ⊢
        obtain ⟨cur', e', h1, h2, h3, h4, _⟩ := h0
        rw [hb] at h1
        cases h1
        refine ⟨cur, e, hb, h2, by simpa using h3, h4, fun j a hj => ?_⟩
        cases j with
        | zero =>
          simp at hj
          subst hj
          exact ⟨v, by simpa using hc, hw.one, hav⟩
        | succ j => simp at hj
      · rw [hoth x hxh hxg] at hg
        have h0 := hI.hrep.rows x r hg
        refine T.row (fun y hy e => ?_) (fun _ _ _ _ => rfl) h0
        obtain ⟨q, hq⟩ := h0.refs_some y hy
        rw [e, hnone] at hq
        cases hq
  · rcases hocc o1 with ⟨e1, p1, hp1, f1⟩ | ⟨e1, o1', n1⟩ <;> rcases hocc o2 with ⟨e2, p2, hp2, f2⟩ | ⟨e2, o2', n2⟩
    · exact e1.trans e2.symm
    · exact absurd f1 (n2 p1 hp1)
    · exact absurd f2 (n1 p2 hp2)
    · exact hI.hrep.one g1 g2 b o1' o2'
  · rcases hocc o with ⟨_, p, hp', e'⟩ | ⟨_, o', _⟩
    · exact hI.hrep.has h b (e' ▸ hinner p hp')
    · exact hI.hrep.has x b o'
  · by_cases hxg : x = g
    · subst hxg
      rw [hselfg] at hg
      cases hg
    · rw [ho x hxg]
      by_cases hxh : x = h
      · subst hxh
        rw [hselfh] at hg
        cases hg
        refine ⟨fun j a hj => ?_, fun j ys hy hj => ?_, fun j ys hy => ?_, fun j b o c p' hj hp1 hp2 => ?_, fun j1 j2 p1 p2 h1 h2 hp1 hp2 hne => ?_⟩
        · cases j with
          | zero => exact ⟨by simp [hil], hini⟩
          | succ j => simp at hj
        · rcases set_get hy with ⟨rfl, _⟩ | ⟨hji, hy⟩
          · exact absurd hj (by simp)
          · rw [hinh j hji]
            exact hN.cell j ys hy (by simp; omega)
        · rcases set_get hy with ⟨rfl, rfl⟩ | ⟨hji, hy⟩
          · rw [hini]; rfl
          · rw [hinh j hji]
            exact T.row (fun y hy => by simp [Row.refs] at hy) (fun _ _ _ _ => rfl) (hN.part j ys hy)
        · have hji : j ≠ i := fun e => by subst e; rw [hini] at hp2; cases hp2
          rw [hinh j hji] at hp2
          exact hN.far j b o c p' (by simpa using hj) hp1 hp2
        · have hj1 : j1 ≠ i := fun e => by subst e; rw [hini] at hp1; cases hp1
          have hj2 : j2 ≠ i := fun e => by subst e; rw [hini] at hp2; cases hp2
          rw [hinh _ hj1] at hp1
          rw [hinh _ hj2] at hp2
          exact hN.sep j1 j2 p1 p2 (by simpa using h1) (by simpa using h2) hp1 hp2 hne
      · rw [hoth x hxh hxg] at hg
        rw [hin x hxh]
        exact T.nest (fun _ _ _ _ => rfl) (fun _ _ _ _ _ _ => rfl) (hI.hrep.nest x u yss n ds hg)
  · obtain ⟨h1, r, h2⟩ := hI.io x hg
    have hxg : x ≠ g := fun e => by subst e; rw [hfree] at h2; cases h2
    refine ⟨(hsum x hxg).trans h1, ?_⟩
    by_cases hxh : x = h
    · subst hxh; exact ⟨_, hselfh⟩
    · exact ⟨r, (hoth x hxh hxg).trans h2⟩
  · rw [henv] at ha
    obtain ⟨v, hv, hr'⟩ := hI.env j a ha
    exact ⟨v, hv, T.av (hne hr') hr'⟩

end
end Go.Rv

set_option linter.unusedSimpArgs false
set_option linter.unusedVariables false
namespace Go.Rv

section
variable {B : Base} {s : St} {tmps : Array Value} {w : World} {ι : Plc}

def backPlc (ι : Plc) (h g i : Nat) : Plc := ⟨ι.out, fun x j => if x = h ∧ j = i then ι g else ι.inn x j⟩

theorem Inv.back (hI : Inv B s tmps w ι) {h g i : Nat} {t : Ty} {yss : List (List t.den)} {xs : List t.den} (hr : s.heap[h]? = some (some (.nest t yss i [.slc g]))) (hg : s.heap[g]? = some (some (.seq t xs))) (hk : B.k ≤ g) :
    Inv B (backSt s h g i t yss xs) tmps w (backPlc ι h g i) := by
  have hlt : h < s.heap.length := (List.getElem?_eq_some_iff.1 hr).1
  have hglt : g < s.heap.length := (List.getElem?_eq_some_iff.1 hg).1
  have hgh : h ≠ g := fun e => by subst e; rw [hg] at hr; cases hr
  have hN := hI.hrep.nest h t yss i _ hr
  obtain ⟨hyi, hqi⟩ := hN.hole 0 (.slc g) rfl
  simp only [Nat.add_zero] at hyi hqi
  have hil : i < yss.length := (List.getElem?_eq_some_iff.1 hyi).1
  have hselfh : (backSt s h g i t yss xs).heap[h]? = some (some (.nest t (yss.set i xs) 0 [])) := by
    simp only [backSt, St.scrub]
    rw [List.getElem?_set_ne (Ne.symm hgh), List.getElem?_set_self (by simpa using hlt)]
  have hselfg : (backSt s h g i t yss xs).heap[g]? = some none := by
    simp only [backSt, St.scrub]
    rw [List.getElem?_set_self (by simpa using hglt)]
  have hoth : ∀ x, x ≠ h → x ≠ g → (backSt s h g i t yss xs).heap[x]? = (s.heap[x]?).map (Option.map (scrubRow g)) := fun x e1 e2 => by
    simp only [backSt, St.scrub]
    rw [List.getElem?_set_ne (Ne.symm e2), List.getElem?_set_ne (Ne.symm e1), List.getElem?_map]
  have henv : (backSt s h g i t yss xs).env = s.env.map (scrub g) := rfl
  generalize hs' : backSt s h g i t yss xs = s' at hselfh hselfg hoth henv ⊢
  have ho : ∀ x, (backPlc ι h g i) x = ι x := fun x => rfl
  have hin : ∀ x, x ≠ h → (backPlc ι h g i).inn x = ι.inn x := fun x e => by funext j; simp [backPlc, e]
  have hinh : ∀ j, j ≠ i → (backPlc ι h g i).inn h j = ι.inn h j := fun j e => by simp [backPlc, e]
  have hini : (backPlc ι h g i).inn h i = ι g := by simp [backPlc]
  generalize hι' : backPlc ι h g i = ι' at ho hin hinh hini ⊢
  have hget : ∀ x r, x ≠ h → s'.heap[x]? = some (some r) → x ≠ g ∧ ∃ r0, s.heap[x]? = some (some r0) ∧ r = scrubRow g r0 := fun x r e1 hx => by
    have hxg : x ≠ g := fun e => by subst e; rw [hselfg] at hx; cases hx
    refine ⟨hxg, ?_⟩
    rw [hoth x e1 hxg] at hx
    cases hc : s.heap[x]? with
    | none => rw [hc] at hx; simp at hx
    | some y =>
      cases y with
      | none => rw [hc] at hx; simp at hx
      | some r0 => rw [hc] at hx; simp at hx; exact ⟨r0, rfl, hx.symm⟩
  have hocc : ∀ {x b : Nat}, Occ ι' s'.heap x b → (x = h ∧ Occ ι s.heap g b) ∨ (x ≠ g ∧ Occ ι s.heap x b) := fun {x b} o => by
    cases o with
    | out r p hr' hp e =>
      rw [ho x] at hp
      by_cases hxh : x = h
      · subst hxh
        exact .inr ⟨hgh, .out _ p hr hp e⟩
      · obtain ⟨hxg, r0, h0, _⟩ := hget x r hxh hr'
        exact .inr ⟨hxg, .out r0 p h0 hp e⟩
    | inn u zss n ds j p hr' hj hp e =>
      by_cases hxh : x = h
      · subst hxh
        rw [hselfh] at hr'
        cases hr'
        rw [List.length_set] at hj
        by_cases hji : j = i
        · subst hji
          rw [hini] at hp
          exact .inl ⟨rfl, .out _ p hg hp e⟩
        · rw [hinh j hji] at hp
          exact .inr ⟨hgh, .inn t yss i _ j p hr hj hp e⟩
      · obtain ⟨hxg, r0, h0, he⟩ := hget x _ hxh hr'
        obtain ⟨cs0, rfl, _⟩ := scrubRow_like (h := g) (r := r0) _ _ _ _ he.symm
        rw [hin x hxh] at hp
        exact .inr ⟨hxg, .inn u zss n cs0 j p h0 hj hp e⟩
  have hst : ∀ b, stab w ι s.heap b → stab w ι' s'.heap b := fun b hb => by
    refine ⟨hb.1, fun x o => ?_⟩
    rcases hocc o with ⟨_, o'⟩ | ⟨_, o'⟩
    · exact hb.2 g o'
    · exact hb.2 x o'
  have hsum : ∀ x, x ≠ g → sumOf ι' s'.heap x = sumOf ι s.heap x := fun x e => by
    by_cases hxh : x = h
    · subst hxh
      rw [sumOf_of hselfh, sumOf_of hr, ho x]
      simp [Row.cells, Row.len]
    · simp only [sumOf, hoth x hxh e, ho x]
      cases hc : s.heap[x]? with
      | none => rfl
      | some y =>
        cases y with
        | none => rfl
        | some r => cases r <;> simp [scrubRow, Row.cells, Row.len]
  have T : Trans w ι s.heap w ι' s'.heap (fun x => x ≠ g) := ⟨Nat.le_refl _, fun b hb => ⟨hst b hb, rfl⟩, hsum⟩
  have hrow0 := hI.hrep.rows h _ hr
  refine ⟨hI.kept, ⟨fun x r hx => ?_, fun g1 g2 b o1 o2 => ?_, fun x b o => ?_, fun x u zss n ds hx => ?_⟩, fun b hb => hst b (hI.stay b hb), fun x hx => ?_, fun j a ha => ?_, T.globs hI.glob⟩
  · rw [ho x]
    by_cases hxh : x = h
    · subst hxh
      rw [hselfh] at hx
      cases hx
      cases hp : ι x with
      | none =>
        rw [hp] at hrow0
        rw [hrow0.1] at hil
        simp at hil
      | some p =>
        rw [hp] at hrow0
        obtain ⟨b, o, c⟩ := p
        obtain ⟨cur, e, h1, h2, h3, h4, _⟩ := hrow0
        exact ⟨cur, e, h1, h2, by simpa using h3, h4, fun j a hj => by simp at hj⟩
    · obtain ⟨hxg, r0, h0, rfl⟩ := hget x r hxh hx
      refine T.row (fun y hy => ?_) (fun _ _ _ _ => rfl) (scrubRow_rep (hI.hrep.rows x r0 h0))
      cases r0 with
      | seq u xs => simp [scrubRow, Row.refs] at hy
      | nest u xss m cs => exact (refsL_map_scrub hy).2
      | box cs => exact (refsL_map_scrub hy).2
  · rcases hocc o1 with ⟨e1, f1⟩ | ⟨e1, f1⟩ <;> rcases hocc o2 with ⟨e2, f2⟩ | ⟨e2, f2⟩
    · exact e1.trans e2.symm
    · exact absurd (hI.hrep.one _ _ b f2 f1) e2
    · exact absurd (hI.hrep.one _ _ b f1 f2) e1
    · exact hI.hrep.one g1 g2 b f1 f2
  · rcases hocc o with ⟨_, o'⟩ | ⟨_, o'⟩ <;> exact hI.hrep.has _ b o'
  · by_cases hxh : x = h
    · subst hxh
      rw [hselfh] at hx
      cases hx
      rw [ho x]
      have hpn : ∀ b o c p', ι x = some (b, o, c) → ι g = some p' → p'.1 ≠ b := fun b o c p' hp hp' e =>
        hI.hrep.sep g x _ _ p' (b, o, c) hg hr hp' hp (Ne.symm hgh) e
      have hgn : ∀ j p1 p2, j ≠ i → j < yss.length → ι.inn x j = some p1 → ι g = some p2 → p1.1 ≠ p2.1 := fun j p1 p2 hji hj hp1 hp2 e =>
        hgh (hI.hrep.one x g p2.1 (.inn t yss i _ j p1 hr hj hp1 e) (.out _ p2 hg hp2 rfl))
      refine ⟨fun j a hj => by simp at hj, fun j ys hy hj => ?_, fun j ys hy => ?_, fun j b o c p' hj hp1 hp2 => ?_, fun j1 j2 p1 p2 h1 h2 hp1 hp2 hne => ?_⟩
      · rcases set_get hy with ⟨rfl, rfl⟩ | ⟨hji, hy⟩
        · rw [hini]
          cases hp : ι x with
          | none =>
            rw [hp] at hrow0
            rw [hrow0.1] at hil
            simp at hil
          | some p =>
            rw [hp] at hrow0
            obtain ⟨b, o, c⟩ := p
            obtain ⟨cur, e, h1, h2, h3, h4, h5⟩ := hrow0
            obtain ⟨v, hv, _, q, hq, hw⟩ := h5 0 (.slc g) rfl
            rw [sumOf_of hg] at hq
            cases hq
            exact ⟨b, o, c, cur, e, v, rfl, h1, by simpa using hv, hw⟩
        · rw [hinh j hji]
          exact hN.cell j ys hy (by simp; omega)
      · rcases set_get hy with ⟨rfl, rfl⟩ | ⟨hji, hy⟩
        · rw [hini]
          exact T.row (fun y hy => by simp [Row.refs] at hy) (fun _ _ _ _ => rfl) (hI.hrep.rows g _ hg)
        · rw [hinh j hji]
          exact T.row (fun y hy => by simp [Row.refs] at hy) (fun _ _ _ _ => rfl) (hN.part j ys hy)
      · by_cases hji : j = i
        · subst hji
          rw [hini] at hp2
          exact hpn b o c p' hp1 hp2
        · rw [hinh j hji] at hp2
          exact hN.far j b o c p' (by simpa using hj) hp1 hp2
      · by_cases hj1 : j1 = i
        · subst hj1
          rw [hini] at hp1
          rw [hinh _ (Ne.symm hne)] at hp2
          exact fun e => hgn j2 p2 p1 (Ne.symm hne) (by simpa using h2) hp2 hp1 e.symm
        · rw [hinh _ hj1] at hp1
          by_cases hj2 : j2 = i
          · subst hj2
            rw [hini] at hp2
            exact hgn j1 p1 p2 hj1 (by simpa using h1) hp1 hp2
          · rw [hinh _ hj2] at hp2
            exact hN.sep j1 j2 p1 p2 (by simpa using h1) (by simpa using h2) hp1 hp2 hne
    · obtain ⟨hxg, r0, h0, he⟩ := hget x _ hxh hx
      obtain ⟨cs0, rfl, hl⟩ := scrubRow_like (h := g) (r := r0) _ _ _ _ he.symm
      rw [ho x, hin x hxh]
      exact (T.nest (fun _ _ _ _ => rfl) (fun _ _ _ _ _ _ => rfl) (hI.hrep.nest x u zss n cs0 h0)).like hl
  · obtain ⟨h1, r, h2⟩ := hI.io x hx
    have hxg : x ≠ g := by omega
    refine ⟨(hsum x hxg).trans h1, ?_⟩
    by_cases hxh : x = h
    · subst hxh; exact ⟨_, hselfh⟩
    · exact ⟨scrubRow g r, by rw [hoth x hxh hxg, h2]; rfl⟩
  · rw [henv, List.getElem?_map] at ha
    cases hc : s.env[j]? with
    | none => rw [hc] at ha; simp at ha
    | some a0 =>
      rw [hc] at ha
      simp at ha
      obtain ⟨v, hv, hr'⟩ := hI.env j a0 hc
      refine ⟨v, hv, ?_⟩
      subst ha
      rcases scrub_or g a0 with e | e
      · refine T.av (fun y hy => (scrub_refs hy).2) ?_
        rw [e]; exact hr'
      · rw [e]; trivial

end
end Go.Rv

set_option linter.unusedSimpArgs false
set_option linter.unusedVariables false
namespace Go.Rv

section
variable {P : Program} {T : TT} {B : Base} {s : St} {tmps : Array Value} {w : World} {ι : Plc}

/-- A value that is kept in sight. -/
def St.push (s : St) (a : AV) : St := { s with env := s.env ++ [a] }
def pushT (s : St) (tmps : Array Value) (v : Value) : Array Value := (tmps.toList.take s.env.length ++ [v]).toArray

theorem Inv.env_le (h : Inv B s tmps w ι) : s.env.length ≤ tmps.size := by
  rcases Nat.eq_zero_or_pos s.env.length with e | e
  · omega
  · obtain ⟨v, hv, _⟩ := h.env (s.env.length - 1) (s.env[s.env.length - 1]'(by omega)) (List.getElem?_eq_getElem (by omega))
    have := (Array.getElem?_eq_some_iff.1 hv).1
    omega

theorem pushT_old (h : Inv B s tmps w ι) {v : Value} {i : Nat} (hi : i < s.env.length) : (pushT s tmps v)[i]? = tmps[i]? := by
  have := h.env_le
  simp only [pushT, List.getElem?_toArray]
  rw [List.getElem?_append_left (by simp; omega), List.getElem?_take, if_pos hi]
  simp

theorem pushT_new (h : Inv B s tmps w ι) {v : Value} : (pushT s tmps v)[s.env.length]? = some v := by
  have := h.env_le
  simp only [pushT, List.getElem?_toArray]
  rw [List.getElem?_append_right (by simp; omega)]
  have e : s.env.length - (tmps.toList.take s.env.length).length = 0 := by simp; omega
  rw [e]
  rfl

theorem Inv.push (h : Inv B s tmps w ι) {a : AV} {v : Value} (hr : AVRep w (dst B.D w ι s.heap) (sumOf ι s.heap) a v) : Inv B (s.push a) (pushT s tmps v) w ι := by
  refine ⟨h.kept, h.hrep, h.stay, h.io, fun i b hb => ?_, h.glob⟩
  simp only [St.push] at hb
  by_cases hi : i < s.env.length
  · rw [List.getElem?_append_left hi] at hb
    obtain ⟨u, hu, hr'⟩ := h.env i b hb
    exact ⟨u, by rw [pushT_old h hi]; exact hu, hr'⟩
  · rw [List.getElem?_append_right (by omega)] at hb
    have hlt := (List.getElem?_eq_some_iff.1 hb).1
    simp at hlt
    have e : i = s.env.length := by omega
    subst e
    simp at hb
    subst hb
    exact ⟨v, pushT_new h, hr⟩

/-- And let go. -/
theorem Inv.pop {s2 : St} {w2 : World} {ι2 : Plc} {B2 : Base} (h : Inv B s tmps w ι) {v : Value} (h2 : Inv B2 s2 (pushT s tmps v) w2 ι2) {E : List AV} {a : AV} (he : s2.env = E ++ [a]) (hl : E.length = s.env.length) :
    Inv B2 { s2 with env := E } tmps w2 ι2 ∧ AVRep w2 (dst B2.D w2 ι2 s2.heap) (sumOf ι2 s2.heap) a v := by
  constructor
  · refine ⟨h2.kept, h2.hrep, h2.stay, h2.io, fun i b hb => ?_, h2.glob⟩
    have hi : i < s.env.length := hl ▸ (List.getElem?_eq_some_iff.1 hb).1
    obtain ⟨u, hu, hr⟩ := h2.env i b (by rw [he, List.getElem?_append_left (by omega)]; exact hb)
    exact ⟨u, by rw [← pushT_old h hi]; exact hu, hr⟩
  · obtain ⟨u, hu, hr⟩ := h2.env s.env.length a (by rw [he, List.getElem?_append_right (by omega), hl]; simp)
    rw [pushT_new h] at hu
    cases hu
    exact hr

/-- After a step in which a row was hidden, it is shown again. -/
theorem Inv.reshow (hI : Inv B s tmps w ι) {h : Nat} {t : Ty} {xss : List (List t.den)} {m : Nat} {cs : List AV} (hr : s.heap[h]? = some (some (.nest t xss m cs))) {H1 : Heap}
    {hi : ∀ b, Inner (ι.inn h) xss.length b → b < w.heap.size}
    (hdst : ∀ b, dst (fun b => B.D b ∧ ¬ Inner (ι.inn h) xss.length b) w ι H1 b ↔ dst B.D w ι s.heap b) (hinS : ∀ b, Inner (ι.inn h) xss.length b → stab w ι H1 b) (hst : ∀ b, stab w ι s.heap b → stab w ι H1 b)
    {s2 : St} {tmps2 : Array Value} {w2 : World} {ι2 : Plc} (h2 : Inv (hidB B w (stab w ι H1) (Inner (ι.inn h) xss.length) hI.kept.size hi) s2 tmps2 w2 ι2)
    {vs : List Value} (hr2 : s2.heap[h]? = some (some (.seq .val vs))) (xss2 : List (List t.den)) (m2 : Nat) (cs2 : List AV) (q : Nat → Option (Nat × Nat × Nat)) (hlen : xss2.length = vs.length)
    (hq : ∀ i p, i < xss2.length → q i = some p → ι.inn h i = some p ∧ i < xss.length)
    (hcs : ∀ (j : Nat) a, cs2[j]? = some a → xss2[m2 + j]? = some [] ∧ q (m2 + j) = none)
    (hcsv : ∀ (j : Nat) a, cs2[j]? = some a → ∃ v, vs[m2 + j]? = some v ∧ AVRep w2 (dst (fun b => B.D b ∧ ¬ Inner (ι.inn h) xss.length b) w2 ι2 s2.heap) (sumOf ι2 s2.heap) a v)
    (hcell : ∀ (i : Nat) xs v, xss2[i]? = some xs → vs[i]? = some v → (i < m2 ∨ m2 + cs2.length ≤ i) → WinAt ⟨q i, t.cells, xs.length⟩ 0 xs.length v)
    (hpart : ∀ (i : Nat) xs, xss2[i]? = some xs → (q i = none ∧ xs = []) ∨ (xss[i]? = some xs ∧ q i = ι.inn h i)) :
    Inv B (s2.setRow h (.nest t xss2 m2 cs2)) tmps2 w2 (setInn ι2 h q) ∧ sumOf (setInn ι2 h q) (s2.setRow h (.nest t xss2 m2 cs2)).heap = sumOf ι2 s2.heap := by
  have hN := hI.hrep.nest h t xss m cs hr
  have T : Trans w ι H1 w2 ι2 s2.heap (fun _ => False) := ⟨h2.kept.size, fun b hb => ⟨h2.stay b hb, h2.kept.block b hb⟩, fun _ hf => hf.elim⟩
  have hin : ∀ i p, i < xss2.length → q i = some p → Inner (ι.inn h) xss.length p.1 := fun i p hi hp => by
    obtain ⟨h1, h3⟩ := hq i p hi hp
    exact ⟨i, p, h3, h1, rfl⟩
  refine h2.shown (B := B) (I := Inner (ι.inn h) xss.length) (fun b hb => hb) (fun b ⟨i, p, h1, h3, e⟩ => hI.hrep.has h b (.inn t xss m cs i p hr h1 h3 e))
    (fun b hb => ⟨(h2.stay b (hinS b hb)).1, (h2.stay b (hinS b hb)).2⟩) (hI.kept.trans h2.kept fun b hb => hst b (hI.stay b hb))
    (fun b hb => ⟨h2.stay b (hst b (hI.stay b hb)), fun ⟨i, p, h1, h3, e⟩ => (hI.stay b hb).2 h (.inn t xss m cs i p hr h1 h3 e)⟩) rfl rfl hr2 t xss2 m2 cs2 q hlen hin ?_ hcs hcsv hcell ?_
  · intro i j p1 p2 h1 h3 e1 e2 hne
    obtain ⟨a1, b1⟩ := hq i p1 h1 e1
    obtain ⟨a2, b2⟩ := hq j p2 h3 e2
    exact hN.sep i j p1 p2 b1 b2 a1 a2 hne
  · intro i xs hx
    rcases hpart i xs hx with ⟨e1, rfl⟩ | ⟨hx0, e1⟩
    · rw [e1]; rfl
    · rw [e1]
      have h0 : RowRep w (dst (fun b => B.D b ∧ ¬ Inner (ι.inn h) xss.length b) w ι H1) (sumOf ι H1) (ι.inn h i) (.seq t xs) :=
        RowRep.ren (f := id) (r := .seq t xs) (.inl fun b hb => (hdst b).2 hb) (fun g hg => by simp [Row.refs] at hg) (hN.part i xs hx0)
      exact T.row (fun g hg => by simp [Row.refs] at hg) (fun b o c hp => h2.kept.block b (hinS b ⟨i, (b, o, c), (List.getElem?_eq_some_iff.1 hx0).1, hp, rfl⟩)) h0

/-- One of the rows that a row owns, lent. -/
theorem loadNest_ok (hT : TOk P T) (hI : Inv B s tmps w ι) {ty : TypeId} {ti : TI} (hti : T ty = some ti) (hns : isStruct ti.kind = false) {h g i : Nat} {t : Ty} {xss : List (List t.den)} {xs : List t.den} {m : Nat}
    (hr : s.heap[h]? = some (some (.nest t xss m []))) (hx : xss[i]? = some xs) (hfree : s.heap[g]? = some none) {vp : Value} (hp : AVRep w (dst B.D w ι s.heap) (sumOf ι s.heap) (.elt h i 0) vp) :
    ∃ v, Inv B (lendSt s h g i t xss xs) tmps w (lendPlc ι h g i) ∧ AVRep w (dst B.D w (lendPlc ι h g i) (lendSt s h g i t xss xs).heap) (sumOf (lendPlc ι h g i) (lendSt s h g i t xss xs).heap) (.slc g) v ∧
      (Instr.loadAt ty vp).run P w = .ok v w := by
  obtain ⟨hA, b, o, c, cur, e, v, hpl, hb, hc, hav⟩ := hI.lend hr hx hfree
  have hti := hT ty ti hti
  obtain ⟨q, b', o', c', hq, hpl', hlt, rfl⟩ := hp
  rw [sumOf_of hr] at hq
  cases hq
  simp only at hpl'
  rw [hpl] at hpl'
  cases hpl'
  obtain ⟨a1, v1, h1, h2, h3⟩ := fin_ok (β := AV) (K := some) (r := .slc g) (as := [.slc g]) (cs := [v]) (b := b) (o := o + i) (off := 0) hti (by simp [hns]) ⟨v, [], rfl, hav, rfl⟩ (by
    intro j y hy
    have hj : j = 0 := by
      have := (List.getElem?_eq_some_iff.1 hy).1
      simp at this
      exact this
    subst hj
    simp at hy
    subst hy
    rw [cells_of_block hb]
    exact hc)
  cases h1
  exact ⟨v1, hA, h2, by simp only [Row.cells]; simp [Instr.loadAt, Instr.sureAddr, Sem.run_bind]; simpa using h3⟩

theorem set_set_same {α : Type} (l : List α) (i : Nat) (a b : α) : (l.set i a).set i b = l.set i b := by
  simp

/-- A row of ours, put among the rows that a row owns. -/
theorem storeNest_ok (hT : TOk P T) (hI : Inv B s tmps w ι) {ty : TypeId} {ti : TI} (hti : T ty = some ti) (hns : isStruct ti.kind = false) (hsz : ti.size = 1) {h g i : Nat} {t : Ty} {xss : List (List t.den)} {xs : List t.den} {m : Nat} {cs : List AV}
    (hr : s.heap[h]? = some (some (.nest t xss m cs))) (hg : s.heap[g]? = some (some (.seq t xs))) (hk : B.k ≤ g) (hm : cs.length = 0 ∨ (cs.length = 1 ∧ m = i)) (hil : i < xss.length)
    {vp vv : Value} (hp : AVRep w (dst B.D w ι s.heap) (sumOf ι s.heap) (.elt h i 0) vp) (hv : AVRep w (dst B.D w ι s.heap) (sumOf ι s.heap) (.slc g) vv) :
    ∃ w' ι', Inv B (backSt s h g i t xss xs) tmps w' ι' ∧ (Instr.storeAt ty vp vv).run P w = .ok () w' := by
  have hlt : h < s.heap.length := (List.getElem?_eq_some_iff.1 hr).1
  have hgh : g ≠ h := fun e => by subst e; rw [hg] at hr; cases hr
  obtain ⟨vs, hi, hlen, hv1, hv2, h1, hsum, hdst, hinS, hst⟩ := hI.hidden hr
  have hvv : vv.oneCell' = true := by
    obtain ⟨q, _, hw⟩ := hv
    exact hw.one
  have hto : ∀ a v, AVRep w (dst B.D w ι s.heap) (sumOf ι s.heap) a v → AVRep w (dst (fun b => B.D b ∧ ¬ Inner (ι.inn h) xss.length b) w ι (s.setRow h (.seq .val vs)).heap) (sumOf ι (s.setRow h (.seq .val vs)).heap) a v := fun a v ha => by
    rw [hsum]
    exact AVRep.mono (Nat.le_refl _) (fun b hb _ => ⟨(hdst b).2 hb, rfl⟩) a v (fun _ _ => rfl) ha
  have h1p := h1.push (hto _ _ hv)
  have hrow1 : ((s.setRow h (.seq .val vs)).push (.slc g)).row h = some (.seq .val vs) := by
    simp [St.row, St.push, St.setRow, hlt]
  obtain ⟨s2, w', ι', hs2, hI2, hrun⟩ := astore_ok (K := some) (r := ((s.setRow h (.seq .val vs)).push (.slc g)).setRow h (.seq .val (vs.set i vv))) hT h1p (t := ty) (p := .elt h i 0) (v := .raw vv) (by
    unfold astore
    rw [hti]
    simp only [hns, hsz, if_true]
    simp only [hrow1, toDat, hvv, if_true]
    simp [Ty.cells]) (hto _ _ hp) rfl
  cases hs2
  obtain ⟨h3, h4⟩ := h1.pop hI2 (E := s.env) (a := .slc g) rfl rfl
  have hr3 : ({ (((s.setRow h (.seq .val vs)).push (.slc g)).setRow h (.seq .val (vs.set i vv))) with env := s.env } : St).heap[h]? = some (some (.seq .val (vs.set i vv))) := by
    simp [St.setRow, St.push, hlt]
  obtain ⟨h5, _⟩ := hI.reshow hr hdst hinS hst h3 hr3 (xss.set i []) i [.slc g] (fun j => if j = i then none else if cs.length = 1 ∧ m = j then none else ι.inn h j) (by simp [hlen]) (fun j p hj hp => by
      split at hp
      · cases hp
      · split at hp
        · cases hp
        · exact ⟨hp, by simpa using hj⟩)
    (fun j a hj => by
      cases j with
      | zero => exact ⟨by simp [hil], by simp⟩
      | succ j => simp at hj)
    (fun j a hj => by
      cases j with
      | zero =>
        simp at hj
        subst hj
        exact ⟨vv, by simp [hlen, hil], h4⟩
      | succ j => simp at hj)
    (fun j ys v hy hvj hj => by
      rcases set_get hy with ⟨rfl, _⟩ | ⟨hji, hy⟩
      · exact absurd hj (by simp)
      · rw [List.getElem?_set_ne (Ne.symm hji)] at hvj
        have hnm : ¬ (cs.length = 1 ∧ m = j) := by
          rintro ⟨e1, e2⟩
          rcases hm with hm | ⟨_, hm⟩ <;> omega
        simp only [if_neg hji, if_neg hnm]
        refine hv1 j ys v hy hvj ?_
        rcases hm with hm | ⟨hm1, hm2⟩ <;> omega)
    (fun j ys hy => by
      rcases set_get hy with ⟨rfl, rfl⟩ | ⟨hji, hy⟩
      · exact .inl ⟨by simp, rfl⟩
      · have hnm : ¬ (cs.length = 1 ∧ m = j) := by
          rintro ⟨e1, e2⟩
          rcases hm with hm | ⟨_, hm⟩ <;> omega
        exact .inr ⟨hy, by simp only [if_neg hji, if_neg hnm]⟩)
  have h6 := h5.back (h := h) (g := g) (i := i) (t := t) (yss := xss.set i []) (xs := xs) (by simp [St.setRow, St.push, hlt]) (by
    simp only [St.setRow, St.push]
    rw [List.getElem?_set_ne (Ne.symm hgh), List.getElem?_set_ne (Ne.symm hgh), List.getElem?_set_ne (Ne.symm hgh)]
    exact hg) hk
  have e : backSt s h g i t xss xs = backSt (({ (((s.setRow h (.seq .val vs)).push (.slc g)).setRow h (.seq .val (vs.set i vv))) with env := s.env } : St).setRow h (.nest t (xss.set i []) i [.slc g])) h g i t (xss.set i []) xs := by
    simp only [backSt, St.scrub, St.setRow, St.push, List.map_set, List.set_set, set_set_same]
  rw [← e] at h6
  exact ⟨w', _, h6, hrun⟩

end
end Go.Rv

set_option linter.unusedSimpArgs false
set_option linter.unusedVariables false
namespace Go.Rv

section
variable {P : Program} {T : TT} {B : Base} {s : St} {tmps : Array Value} {w : World} {ι : Plc}

/-- One slice, in a box of its own, as append takes it. -/
theorem box_one (hI : Inv B s tmps w ι) {y g : Nat} (hy : s.heap[y]? = some (some (.box [.slc g]))) {vy : Value} (hv : AVRep w (dst B.D w ι s.heap) (sumOf ι s.heap) (.slc y) vy) :
    ∃ v a c b o, vy = .slice a 1 c ∧ a = some ⟨b, o, none⟩ ∧ w.cell? ⟨b, o, none⟩ = some v ∧ v.oneCell' = true ∧ AVRep w (dst B.D w ι s.heap) (sumOf ι s.heap) (.slc g) v := by
  obtain ⟨q, hq, hw⟩ := hv
  rw [sumOf_of hy] at hq
  cases hq
  obtain ⟨b, o, c, cur, e, hp, hb, hall⟩ := hI.hrep.rows y _ hy
  obtain ⟨v, hv, h1, hr⟩ := hall 0 (.slc g) rfl
  rw [hp] at hw
  unfold WinAt at hw
  simp only [Row.len, List.length_singleton, Row.cells] at hw
  obtain ⟨hle, rfl | ⟨h0, a, rfl⟩⟩ := hw
  · exact ⟨v, _, _, b, o, rfl, by simp, by rw [cells_of_block hb]; simpa using hv, h1, hr⟩
  · omega

/-- A row of ours, pushed upon a row that owns rows. -/
theorem appendNest_ok (hT : TOk P T) (hI : Inv B s tmps w ι) {t0 ty : TypeId} {ie : TI} (he : elemOf T t0 = some ie) (hsz : ie.size = 1) (hby : ie.bytes ≤ 128) (hzl : ie.zero.length = 1) {h y g : Nat} {t : Ty} {xss : List (List t.den)} {xs : List t.den} {m : Nat}
    (hr : s.heap[h]? = some (some (.nest t xss m []))) (hy : s.heap[y]? = some (some (.box [.slc g]))) (hg : s.heap[g]? = some (some (.seq t xs))) (hk : B.k ≤ g) (hkh : B.k ≤ h) (hroom : room (xss.length + 1) = some ())
    {vx vy : Value} (hx : AVRep w (dst B.D w ι s.heap) (sumOf ι s.heap) (.slc h) vx) (hvy : AVRep w (dst B.D w ι s.heap) (sumOf ι s.heap) (.slc y) vy) :
    ∃ v w' ι', (Builtin.append_ #[t0, t0] ty #[vx, vy]).run P w = .ok v w' ∧ Inv B (backSt (s.scrub h) h g xss.length t (xss ++ [[]]) xs) tmps w' ι' ∧
      AVRep w' (dst B.D w' ι' (backSt (s.scrub h) h g xss.length t (xss ++ [[]]) xs).heap) (sumOf ι' (backSt (s.scrub h) h g xss.length t (xss ++ [[]]) xs).heap) (.slc h) v := by
  have hlt : h < s.heap.length := (List.getElem?_eq_some_iff.1 hr).1
  have hgh : g ≠ h := fun e => by subst e; rw [hg] at hr; cases hr
  obtain ⟨vs, hi, hlen, hv1, hv2, h1, hsum, hdst, hinS, hst⟩ := hI.hidden hr
  have hto : ∀ a v, AVRep w (dst B.D w ι s.heap) (sumOf ι s.heap) a v → AVRep w (dst (fun b => B.D b ∧ ¬ Inner (ι.inn h) xss.length b) w ι (s.setRow h (.seq .val vs)).heap) (sumOf ι (s.setRow h (.seq .val vs)).heap) a v := fun a v ha => by
    rw [hsum]
    exact AVRep.mono (Nat.le_refl _) (fun b hb _ => ⟨(hdst b).2 hb, rfl⟩) a v (fun _ _ => rfl) ha
  obtain ⟨v0, ay, cy, b0, o0, rfl, rfl, hc0, hv01, hv0⟩ := box_one hI hy hvy
  have h1p := h1.push (hto _ _ hv0)
  have hrow1 : ((s.setRow h (.seq .val vs)).push (.slc g)).heap[h]? = some (some (.seq .val vs)) := by
    simp [St.push, St.setRow, hlt]
  have hrr := h1p.hrep.rows h _ hrow1
  have hw : WinAt ⟨ι h, Ty.cells .val, vs.length⟩ 0 vs.length vx := by
    obtain ⟨q, hq, hw⟩ := hx
    rw [sumOf_of hr] at hq
    cases hq
    simpa [Row.cells, Row.len, hlen, Ty.cells] using hw
  obtain ⟨v', w', p, hrun, hend⟩ := append_run (ty := ty) (place := ι h) (S := dst (fun b => B.D b ∧ ¬ Inner (ι.inn h) xss.length b) w ι (s.setRow h (.seq .val vs)).heap) hT he (u := .val) (by simp [Ty.cells, hsz]) (by omega) hby (by simp [Ty.cells, hzl]) (zs := vs) (ys := [v0]) (by simpa [hlen] using hroom) (win_seq hrr hw)
    (vy := .slice (some ⟨b0, o0, none⟩) 1 cy) ⟨_, cy, rfl, .inr ⟨b0, o0, rfl, fun i x hx => by
      cases i with
      | zero =>
        simp at hx
        subst hx
        refine ⟨[v0], ⟨rfl, hv01⟩, fun j v hj => ?_⟩
        cases j with
        | zero => simp at hj; subst hj; simpa using hc0
        | succ j => simp at hj
      | succ i => simp at hx⟩⟩
  obtain ⟨ι', hA, hB⟩ := append_grow h1p hrow1 hkh (u := .val) (zs := vs) (ys := [v0]) (fun b o c hp => ⟨o, c, hp⟩) (fun b o c hp => by
    rw [hp] at hrr
    obtain ⟨cur, e, _, _, _, h4, _⟩ := hrr
    exact h4) hend
  have hsg : scrub h (.slc g) = .slc g := by
    have hb : (g == h) = false := by simpa using hgh
    simp [scrub, AV.refs, hb]
  obtain ⟨h3, h4⟩ := h1.pop hA (E := s.env.map (scrub h)) (a := .slc g) (by simp [St.scrub, St.push, St.setRow, hsg]) (by simp [St.setRow])
  have h3p := h3.push hB
  -- what was pushed upon it comes to be its own
  have hr3 : (({ ((((s.setRow h (.seq .val vs)).push (.slc g)).scrub h).setRow h (.seq .val (vs ++ [v0]))) with env := s.env.map (scrub h) } : St).push (.slc h)).heap[h]? = some (some (.seq .val (vs ++ [v0]))) := by
    simp [St.setRow, St.push, St.scrub, hlt]
  obtain ⟨h5, hs5⟩ := hI.reshow hr hdst hinS hst h3p hr3 (xss ++ [[]]) xss.length [.slc g] (fun j => if j < xss.length then ι.inn h j else none) (by simp [hlen]) (fun j p hj hp => by
      split at hp
      · exact ⟨hp, by assumption⟩
      · cases hp)
    (fun j a hj => by
      cases j with
      | zero => exact ⟨by simp, by simp⟩
      | succ j => simp at hj)
    (fun j a hj => by
      cases j with
      | zero =>
        simp at hj
        subst hj
        refine ⟨v0, ?_, h4⟩
        rw [Nat.add_zero, ← hlen]
        simp
      | succ j => simp at hj)
    (fun j ys v hyj hvj hj => by
      by_cases hjl : j < xss.length
      · rw [List.getElem?_append_left hjl] at hyj
        rw [List.getElem?_append_left (by omega)] at hvj
        simp only [if_pos hjl]
        exact hv1 j ys v hyj hvj (by simp; omega)
      · have := (List.getElem?_eq_some_iff.1 hyj).1
        simp at this hj
        omega)
    (fun j ys hyj => by
      by_cases hjl : j < xss.length
      · rw [List.getElem?_append_left hjl] at hyj
        exact .inr ⟨hyj, by simp only [if_pos hjl]⟩
      · rw [List.getElem?_append_right (by omega)] at hyj
        have := (List.getElem?_eq_some_iff.1 hyj).1
        simp at this
        have e : j - xss.length = 0 := by omega
        rw [e] at hyj
        simp at hyj
        exact .inl ⟨by simp only [if_neg hjl], hyj⟩)
  have h6 := h5.back (h := h) (g := g) (i := xss.length) (t := t) (yss := xss ++ [[]]) (xs := xs) (by simp [St.setRow, St.push, St.scrub, hlt]) (by
    simp only [St.setRow, St.push, St.scrub]
    rw [List.getElem?_set_ne (Ne.symm hgh), List.getElem?_set_ne (Ne.symm hgh), List.getElem?_map, List.getElem?_set_ne (Ne.symm hgh), hg]
    rfl) hk
  have hsh : scrub g (.slc h) = .slc h := by
    have hb : (h == g) = false := by simpa using Ne.symm hgh
    simp [scrub, AV.refs, hb]
  obtain ⟨h7, h8⟩ := h3.pop h6 (E := (s.env.map (scrub h)).map (scrub g)) (a := .slc h) (by simp [backSt, St.scrub, St.push, St.setRow, hsh]) (by simp)
  have hmm : ∀ r : Row, scrubRow h (.seq .val vs) = .seq .val vs := fun _ => rfl
  have e : backSt (s.scrub h) h g xss.length t (xss ++ [[]]) xs = { (backSt ((({ ((((s.setRow h (.seq .val vs)).push (.slc g)).scrub h).setRow h (.seq .val (vs ++ [v0]))) with env := s.env.map (scrub h) } : St).push (.slc h)).setRow h (.nest t (xss ++ [[]]) xss.length [.slc g])) h g xss.length t (xss ++ [[]]) xs) with env := (s.env.map (scrub h)).map (scrub g) } := by
    simp only [backSt, St.scrub, St.setRow, St.push, List.map_set, List.set_set]
  have e2 := congrArg St.heap e
  simp only at e2
  rw [← e] at h7
  rw [← e2] at h8
  exact ⟨v', w', _, hrun, h7, h8⟩

end
end Go.Rv

set_option linter.unusedSimpArgs false
set_option linter.unusedVariables false
namespace Go.Rv

section
variable {P : Program} {T : TT} {B : Base} {s : St} {tmps : Array Value} {w : World} {ι : Plc}

/-- A row of slices that have nothing is one that owns rows, all empty; but for those that are lent. -/
theorem Inv.nestify (hI : Inv B s tmps w ι) {h : Nat} {vs : List Value} (hr : s.heap[h]? = some (some (.seq .val vs))) (t : Ty) (m : Nat) (cs : List AV)
    (hcs : ∀ (j : Nat) a, cs[j]? = some a → ∃ v, vs[m + j]? = some v ∧ AVRep w (dst B.D w ι s.heap) (sumOf ι s.heap) a v)
    (hcell : ∀ (i : Nat) v, vs[i]? = some v → (i < m ∨ m + cs.length ≤ i) → ∃ a, v = .slice a 0 0) :
    Inv B (s.setRow h (.nest t (List.replicate vs.length []) m cs)) tmps w (setInn ι h fun _ => none) ∧ sumOf (setInn ι h fun _ => none) (s.setRow h (.nest t (List.replicate vs.length []) m cs)).heap = sumOf ι s.heap := by
  refine hI.shown (B := B) (I := fun _ => False) (fun b hb => ⟨hb, fun h => h⟩) (fun b hb => hb.elim) (fun b hb => hb.elim) hI.kept (fun b hb => ⟨hI.stay b hb, fun h => h⟩) rfl rfl hr t (List.replicate vs.length []) m cs (fun _ => none) (by simp)
    (fun i p _ hp => by cases hp) (fun i j p1 p2 _ _ hp => by cases hp) (fun j a hj => ?_) hcs (fun i xs v hx hv hi => ?_) (fun i xs hx => ?_)
  · obtain ⟨v, hv, _⟩ := hcs j a hj
    have hlt := (List.getElem?_eq_some_iff.1 hv).1
    exact ⟨by simp [List.getElem?_replicate, hlt], rfl⟩
  · obtain ⟨a, rfl⟩ := hcell i v hv hi
    rw [List.getElem?_replicate] at hx
    split at hx
    · cases hx
      exact ⟨rfl, rfl, a, rfl⟩
    · cases hx
  · rw [List.getElem?_replicate] at hx
    split at hx
    · cases hx; rfl
    · cases hx

/-- A new row of empty rows. -/
theorem makeNest_ok (hT : TOk P T) (hI : Inv B s tmps w ι) {t0 : TypeId} {ie : TI} (he : elemOf T t0 = some ie) {k1 k2 : IntKind} {n m : Int} {q : Nat} (hm : mk n m = some q)
    (hsz : ie.size = 1) (hb : ie.bytes ≤ 128) (hz : zeroOk .val ie.zero = true) {base : Nat} (hfree : s.heap[base]? = some none) (t : Ty) :
    ∃ v w' ι', (Instr.makeSlice t0 (.int k1 n) (.int k2 m)).run P w = .ok v w' ∧ Inv B (s.setRow base (.nest t (List.replicate q []) 0 [])) tmps w' ι' ∧
      AVRep w' (dst B.D w' ι' (s.setRow base (.nest t (List.replicate q []) 0 [])).heap) (sumOf ι' (s.setRow base (.nest t (List.replicate q []) 0 [])).heap) (.slc base) v := by
  have hlt : base < s.heap.length := (List.getElem?_eq_some_iff.1 hfree).1
  obtain ⟨v, w', ι', hrun, hA, hB⟩ := makeSlice_ok hT hI he (u := .val) (k1 := k1) (k2 := k2) hm (by simp [Ty.cells, hsz]) (by omega) hb hz hfree
  obtain ⟨h1, hs⟩ := (hA.push hB).nestify (h := base) (vs := List.replicate q (Ty.zero .val)) (by simp [St.push, St.setRow, hlt]) t 0 [] (fun j a hj => by simp at hj) (fun i v hv _ => by
    rw [List.getElem?_replicate] at hv
    split at hv
    · cases hv; exact ⟨none, rfl⟩
    · cases hv)
  obtain ⟨h2, h3⟩ := hA.pop h1 (E := s.env) (a := .slc base) rfl rfl
  have e : s.setRow base (.nest t (List.replicate q []) 0 []) = { (((s.setRow base (.seq .val (List.replicate q (Ty.zero .val)))).push (.slc base)).setRow base (.nest t (List.replicate (List.replicate q (Ty.zero .val)).length []) 0 [])) with env := s.env } := by
    simp [St.setRow, St.push]
  have e2 := congrArg St.heap e
  simp only at e2
  rw [← e] at h2
  rw [← e2] at h3
  exact ⟨v, w', _, hrun, h2, h3⟩

/-- A row that is built of no rows. -/
theorem emptyNest_ok (hT : TOk P T) (hI : Inv B s tmps w ι) {t0 : TypeId} {ie : TI} (he : elemOf T t0 = some ie) (hsz : ie.size = 1) {base : Nat} (hfree : s.heap[base]? = some none) (t : Ty) :
    ∃ v w' ι', (Instr.buildSlice t0 0 #[]).run P w = .ok v w' ∧ Inv B (s.setRow base (.nest t [] 0 [])) tmps w' ι' ∧
      AVRep w' (dst B.D w' ι' (s.setRow base (.nest t [] 0 [])).heap) (sumOf ι' (s.setRow base (.nest t [] 0 [])).heap) (.slc base) v := by
  have hlt : base < s.heap.length := (List.getElem?_eq_some_iff.1 hfree).1
  obtain ⟨v, w', ι', hrun, hA, hB⟩ := buildSlice_ok hT hI he (u := .val) (n := 0) (l := []) (xs := []) rfl rfl (by omega) (by simp [Ty.cells, hsz]) (by omega) (by omega) hfree (vs := []) rfl (fun j x hj => by simp at hj)
  obtain ⟨h1, hs⟩ := (hA.push hB).nestify (h := base) (vs := []) (by simp [St.push, St.setRow, hlt]) t 0 [] (fun j a hj => by simp at hj) (fun i v hv _ => by simp at hv)
  obtain ⟨h2, h3⟩ := hA.pop h1 (E := s.env) (a := .slc base) rfl rfl
  have e : s.setRow base (.nest t [] 0 []) = { (((s.setRow base (.seq .val [])).push (.slc base)).setRow base (.nest t (List.replicate (@List.nil Value).length []) 0 [])) with env := s.env } := by
    simp [St.setRow, St.push]
  have e2 := congrArg St.heap e
  simp only at e2
  rw [← e] at h2
  rw [← e2] at h3
  exact ⟨v, w', _, hrun, h2, h3⟩

/-- A slice of ours in a box of its own. -/
theorem boxOne_ok (hT : TOk P T) (hI : Inv B s tmps w ι) {t0 : TypeId} {ie : TI} (he : elemOf T t0 = some ie) (hsz : ie.size = 1) {base g : Nat} (hfree : s.heap[base]? = some none)
    {v : Value} (hv : AVRep w (dst B.D w ι s.heap) (sumOf ι s.heap) (.slc g) v) :
    ∃ v' w' ι', (Instr.buildSlice t0 1 #[(0, v)]).run P w = .ok v' w' ∧ Inv B (s.setRow base (.box [.slc g])) tmps w' ι' ∧
      AVRep w' (dst B.D w' ι' (s.setRow base (.box [.slc g])).heap) (sumOf ι' (s.setRow base (.box [.slc g])).heap) (.slc base) v' := by
  have hlt : base < s.heap.length := (List.getElem?_eq_some_iff.1 hfree).1
  have hv1 : v.oneCell' = true := by
    obtain ⟨q, _, hw⟩ := hv
    exact hw.one
  obtain ⟨e, out, hxn, hos, hsq, hrun⟩ := buildSlice_run (s := s) hT hI he (u := .val) (n := 1) (l := [(0, .raw v)]) (xs := [v]) (by simp [listDat, partDat, toDat, hv1]) rfl (by omega) (by simp [Ty.cells, hsz]) (by omega) (by omega) (vs := [(0, v)]) rfl (fun j x hj => by
    cases j with
    | zero => simp at hj; subst hj; exact ⟨v, rfl, rfl⟩
    | succ j => simp at hj)
  have hout : out[0]? = some v := by
    obtain ⟨cs, ⟨rfl, _⟩, hc⟩ := hsq 0 v rfl
    simpa using hc 0 v rfl
  refine ⟨_, _, _, hrun, hI.alloc hfree (.box [.slc g]) rfl out e (some (w.heap.size, 0, 1)) (.inr ⟨0, 1, rfl⟩) fun ht => ?_, _, sumOf_set_self hlt, ?_⟩
  · refine ⟨w.heap.size, 0, 1, out, e, rfl, heap_alloc_new w _, fun j a hj => ?_⟩
    cases j with
    | zero =>
      simp at hj
      subst hj
      exact ⟨v, by simpa using hout, hv1, ht.av (refs_good hI hv) hv⟩
    | succ j => simp at hj
  · exact ⟨by simp [Row.len], .inl (by simp [Row.len, Row.cells])⟩

end
end Go.Rv

set_option linter.unusedSimpArgs false
set_option linter.unusedVariables false
namespace Go.Rv

section
variable {P : Program} {T : TT} {B : Base} {s : St} {tmps : Array Value} {w : World} {ι : Plc}

/-- A row of ours, pushed upon nothing. -/
theorem appendNil_ok (hT : TOk P T) (hI : Inv B s tmps w ι) {t0 ty : TypeId} {ie : TI} (he : elemOf T t0 = some ie) (hsz : ie.size = 1) (hby : ie.bytes ≤ 128) (hzl : ie.zero.length = 1) {base y g : Nat} {t : Ty} {xs : List t.den}
    (hfree : s.heap[base]? = some none) (hy : s.heap[y]? = some (some (.box [.slc g]))) (hg : s.heap[g]? = some (some (.seq t xs))) (hk : B.k ≤ g)
    {vx vy : Value} (hx : AVRep w (dst B.D w ι s.heap) (sumOf ι s.heap) .nils vx) (hvy : AVRep w (dst B.D w ι s.heap) (sumOf ι s.heap) (.slc y) vy) :
    ∃ v w' ι', (Builtin.append_ #[t0, t0] ty #[vx, vy]).run P w = .ok v w' ∧ Inv B (backSt s base g 0 t [[]] xs) tmps w' ι' ∧
      AVRep w' (dst B.D w' ι' (backSt s base g 0 t [[]] xs).heap) (sumOf ι' (backSt s base g 0 t [[]] xs).heap) (.slc base) v := by
  have hlt : base < s.heap.length := (List.getElem?_eq_some_iff.1 hfree).1
  have hgb : g ≠ base := fun e => by subst e; rw [hg] at hfree; cases hfree
  obtain ⟨v0, ay, cy, b0, o0, rfl, rfl, hc0, hv01, hv0⟩ := box_one hI hy hvy
  obtain ⟨v', w', p, hrun, hend⟩ := append_run (w := w) (ty := ty) (place := none) (S := dst B.D w ι s.heap) hT he (u := .val) (by simp [Ty.cells, hsz]) (by omega) hby (by simp [Ty.cells, hzl]) (zs := []) (ys := [v0]) (by simp [room]) (.inl ⟨rfl, hx⟩)
    (vy := .slice (some ⟨b0, o0, none⟩) 1 cy) ⟨_, cy, rfl, .inr ⟨b0, o0, rfl, fun i x hx => by
      cases i with
      | zero =>
        simp at hx
        subst hx
        refine ⟨[v0], ⟨rfl, hv01⟩, fun j v hj => ?_⟩
        cases j with
        | zero => simp at hj; subst hj; simpa using hc0
        | succ j => simp at hj
      | succ i => simp at hx⟩⟩
  rcases hend with ⟨_, hno, _⟩ | ⟨b, o, c, cur, e, cur', hp, _⟩ | ⟨c, cur, e, rfl, rfl, rfl, hle, hcm', hsz', hseq⟩
  · cases hno
  · cases hp
  · have hdr := (hI.push hv0).drew (w.drawn + 1)
    obtain ⟨hA, hB⟩ := hdr.newSeq (g := base) (by simpa [St.push] using hfree) .val [v0] cur e c hsz' (by simpa using hle) hcm' (by
      intro i x hx
      obtain ⟨cs, hd, hc⟩ := hseq i x (by simpa using hx)
      exact ⟨cs, DCells.mono (w := w) (w' := { w with drawn := w.drawn + 1 }) (S := dst B.D w ι s.heap) (S' := dst B.D { w with drawn := w.drawn + 1 } ι (s.push (.slc g)).heap) (Nat.le_refl _) (fun b hb _ => ⟨hb, rfl⟩) .val x cs hd, hc⟩)
    obtain ⟨h3, h4⟩ := hI.pop hA (E := s.env) (a := .slc g) rfl rfl
    have h3p := h3.push hB
    obtain ⟨h5, hs5⟩ := h3p.nestify (h := base) (vs := [v0]) (by simp [St.push, St.setRow, hlt]) t 0 [.slc g] (fun j a hj => by
      cases j with
      | zero =>
        simp at hj
        subst hj
        exact ⟨v0, rfl, h4⟩
      | succ j => simp at hj) (fun i v hv hi => by
      have := (List.getElem?_eq_some_iff.1 hv).1
      simp at this hi
      omega)
    have h6 := h5.back (h := base) (g := g) (i := 0) (t := t) (yss := [[]]) (xs := xs) (by simp [St.setRow, St.push, hlt]) (by
      simp only [St.setRow, St.push]
      rw [List.getElem?_set_ne (Ne.symm hgb), List.getElem?_set_ne (Ne.symm hgb), hg]) hk
    have hsh : scrub g (.slc base) = .slc base := by
      have hb : (base == g) = false := by simpa using Ne.symm hgb
      simp [scrub, AV.refs, hb]
    obtain ⟨h7, h8⟩ := h3.pop h6 (E := s.env.map (scrub g)) (a := .slc base) (by simp [backSt, St.scrub, St.push, St.setRow, hsh]) (by simp)
    have e : backSt s base g 0 t [[]] xs = { (backSt ((({ ((s.push (.slc g)).setRow base (.seq .val [v0])) with env := s.env } : St).push (.slc base)).setRow base (.nest t (List.replicate [v0].length []) 0 [.slc g])) base g 0 t [[]] xs) with env := s.env.map (scrub g) } := by
      simp only [backSt, St.scrub, St.setRow, St.push, List.map_set, List.set_set]
    have e2 := congrArg St.heap e
    simp only at e2
    rw [← e] at h7
    rw [← e2] at h8
    exact ⟨_, _, _, hrun, h7, by simpa using h8⟩

/-- A row that owns rows is settled: from now on it bears data. -/
theorem Inv.settle (hI : Inv B s tmps w ι) {h : Nat} {t : Ty} {xss : List (List t.den)} {m : Nat} (hr : s.heap[h]? = some (some (.nest t xss m []))) : Inv B (s.setRow h (.seq (.list t) xss)) tmps w ι := by
  have hlt : h < s.heap.length := (List.getElem?_eq_some_iff.1 hr).1
  have hself : (s.setRow h (.seq (.list t) xss)).heap[h]? = some (some (.seq (.list t) xss)) := by simp [St.setRow, hlt]
  have hoth : ∀ g, g ≠ h → (s.setRow h (.seq (.list t) xss)).heap[g]? = s.heap[g]? := fun g e => by
    simp only [St.setRow]
    rw [List.getElem?_set_ne (Ne.symm e)]
  have hsum : sumOf ι (s.setRow h (.seq (.list t) xss)).heap = sumOf ι s.heap := by
    funext x
    by_cases e : x = h
    · subst e
      rw [sumOf_of hself, sumOf_of hr]
      simp [Row.cells, Row.len, Ty.cells]
    · simp only [sumOf, hoth x e]
  have hocc : ∀ {g b : Nat}, Occ ι (s.setRow h (.seq (.list t) xss)).heap g b → Occ ι s.heap g b ∧ (g = h → ∃ p, ι h = some p ∧ p.1 = b) := fun {g b} o => by
    cases o with
    | out r p hr' hp e =>
      by_cases hg : g = h
      · subst hg
        exact ⟨.out _ p hr hp e, fun _ => ⟨p, hp, e⟩⟩
      · rw [hoth g hg] at hr'
        exact ⟨.out r p hr' hp e, fun hh => absurd hh hg⟩
    | inn u yss n ds i p hr' hi hp e =>
      by_cases hg : g = h
      · subst hg
        rw [hself] at hr'
        cases hr'
      · rw [hoth g hg] at hr'
        exact ⟨.inn u yss n ds i p hr' hi hp e, fun hh => absurd hh hg⟩
  have hst : ∀ b, stab w ι s.heap b → stab w ι (s.setRow h (.seq (.list t) xss)).heap b := fun b hb => ⟨hb.1, fun g o => hb.2 g (hocc o).1⟩
  have hS : ∀ b, dst B.D w ι s.heap b → dst B.D w ι (s.setRow h (.seq (.list t) xss)).heap b := fun b hb => ⟨hb.1, hst b hb.2⟩
  have hN := hI.hrep.nest h t xss m [] hr
  have hinn : ∀ i p, i < xss.length → ι.inn h i = some p → dst B.D w ι (s.setRow h (.seq (.list t) xss)).heap p.1 := fun i p hi hp => by
    have o0 : Occ ι s.heap h p.1 := .inn t xss m [] i p hr hi hp rfl
    refine ⟨hI.hrep.has h _ o0, o0.lt hI.hrep, fun g o => ?_⟩
    obtain ⟨o1, ho⟩ := hocc o
    have hgh := hI.hrep.one g h _ o1 o0
    obtain ⟨p0, hp0, e0⟩ := ho hgh
    obtain ⟨b, o', c⟩ := p0
    exact hN.far i b o' c p hi hp0 hp e0.symm
  refine ⟨hI.kept, ⟨fun g r hg => ?_, fun g1 g2 b o1 o2 => hI.hrep.one g1 g2 b (hocc o1).1 (hocc o2).1, fun g b o => hI.hrep.has g b (hocc o).1, fun g u yss n ds hg => ?_⟩, fun b hb => hst b (hI.stay b hb), fun g hg => ?_, fun i a ha => ?_, hI.glob.mono (Nat.le_refl _) (fun b hb _ => ⟨hS b hb, rfl⟩)⟩
  · by_cases e : g = h
    · subst e
      rw [hself] at hg
      cases hg
      have h0 := hI.hrep.rows g _ hr
      cases hp : ι g with
      | none =>
        rw [hp] at h0
        exact h0.1
      | some p =>
        rw [hp] at h0
        obtain ⟨b, o, c⟩ := p
        obtain ⟨cur, e, h1, h2, h3, h4, _⟩ := h0
        refine ⟨cur, e, h1, by simpa [Ty.cells] using h2, h3, h4, fun i x hx => ?_⟩
        obtain ⟨b', o', c', cur', e', v, hp', hb', hc', hwv⟩ := hN.cell _ x hx (by simp; omega)
        rw [hp] at hp'
        cases hp'
        rw [h1] at hb'
        cases hb'
        refine ⟨[v], ?_, fun j y hy => ?_⟩
        · rcases win_seq (hN.part _ x hx) hwv with ⟨rfl, a, rfl⟩ | ⟨b2, o2, c2, cur2, e2, hp2, rfl, hb2, hxc, hcm, hsz, hseq⟩
          · exact ⟨a, 0, rfl, Nat.le_refl _, .inl rfl⟩
          · refine DCells.list_of hxc (hinn _ _ (List.getElem?_eq_some_iff.1 hx).1 hp2) (Array.getElem?_eq_some_iff.1 hb2).1 (fun j y hy => ?_)
            obtain ⟨cs, hd, hcs⟩ := hseq j y hy
            exact ⟨cs, DCells.sub hS hd, fun k z hz => by rw [cells_of_block hb2]; exact hcs k z hz⟩
        · cases j with
          | zero =>
            simp at hy
            subst hy
            simpa [Ty.cells] using hc'
          | succ j => simp at hy
    · rw [hoth g e] at hg
      rw [hsum]
      exact RowRep.sub hS (hI.hrep.rows g r hg)
  · by_cases e : g = h
    · subst e
      rw [hself] at hg
      cases hg
    · rw [hoth g e] at hg
      rw [hsum]
      exact NestRep.sub hS (hI.hrep.nest g u yss n ds hg)
  · obtain ⟨h1, r, h2⟩ := hI.io g hg
    rw [hsum]
    refine ⟨h1, ?_⟩
    by_cases e : g = h
    · subst e; exact ⟨_, hself⟩
    · exact ⟨r, (hoth g e).trans h2⟩
  · obtain ⟨v, hv, hr'⟩ := hI.env i a ha
    refine ⟨v, hv, ?_⟩
    rw [hsum]
    exact AVRep.mono (Nat.le_refl _) (fun b hb _ => ⟨hS b hb, rfl⟩) a v (fun _ _ => rfl) hr'

end
end Go.Rv

set_option linter.unusedSimpArgs false
set_option linter.unusedVariables false
namespace Go.Rv

section
variable {B : Base} {s : St} {tmps : Array Value} {w : World} {ι : Plc}

theorem Rep.freeze {s : St} {a : Act} {w : World} (hR : Rep B s a w) (h : Nat) : Rep B (s.freeze B.k h) a w := by
  unfold St.freeze
  cases hb : Nat.ble B.k h with
  | false => exact hR
  | true =>
    simp only [cond_true]
    split
    · rename_i t xs hrow
      obtain ⟨hd, ι, hI⟩ := hR
      exact ⟨hd, ι, freeze_ok hI (Nat.le_of_ble_eq_true hb) (row_eq hrow)⟩
    · rename_i t xss m hrow
      obtain ⟨hd, ι, hI⟩ := hR
      have hr := row_eq hrow
      have hlt : h < s.heap.length := (List.getElem?_eq_some_iff.1 hr).1
      have h1 := freeze_ok (hI.settle hr) (Nat.le_of_ble_eq_true hb) (t := .list t) (xs := xss) (by simp [St.setRow, hlt])
      refine ⟨hd, ι, ?_⟩
      simpa [St.setRow, List.map_set] using h1
    · exact hR

theorem Rep.frzAV {s : St} {a : Act} {w : World} (hR : Rep B s a w) (x : AV) : Rep B (s.frzAV B.k x) a w := by
  unfold St.frzAV
  split
  · exact hR.freeze _
  · exact hR.freeze _
  · exact hR

theorem Rep.turnOne {a : Act} {w : World} (p : Turn) {s : St} (hR : Rep B s a w) : Rep B (turnOne B.k p s) a w := by
  unfold Rv.turnOne
  split
  · split
    · rename_i x hx
      cases p.win with
      | true =>
        obtain ⟨hd, ι, hI⟩ := hR
        exact ⟨hd, ι, hI.putEnv hx⟩
      | false => exact hR.frzAV x
    · exact hR
  · split
    · split
      · rename_i hrow
        split
        · rename_i x hx
          cases p.win with
          | true =>
            obtain ⟨hd, ι, hI⟩ := hR
            exact ⟨hd, ι, hI.setCell (row_eq hrow) hx⟩
          | false => exact hR.frzAV x
        · exact hR
      · exact hR
    · split
      · rename_i hrow
        split
        · rename_i hrow2
          split
          · rename_i xs' hcast
            obtain ⟨e, hxs⟩ := castD_some hcast
            cases e
            have hxs : xs' = _ := hxs
            subst hxs
            cases hb : Nat.ble B.k _ with
            | true =>
              obtain ⟨hd, ι, hI⟩ := hR
              exact ⟨hd, _, hI.back (row_eq hrow) (row_eq hrow2) (Nat.le_of_ble_eq_true hb)⟩
            | false => exact hR
          · exact hR
        · exact hR
      · exact hR
    · exact hR

theorem Rep.freezeAt {a : Act} {w : World} (i : Nat) : ∀ (fr : List Turn) {s : St}, Rep B s a w → Rep B (freezeAt B.k i fr s) a w
  | [], _, hR => hR
  | p :: r, s, hR => by
    unfold Rv.freezeAt
    cases Nat.beq p.at_ i with
    | false => exact Rep.freezeAt i r hR
    | true => exact Rep.freezeAt i r (hR.turnOne p)

end
end Go.Rv
