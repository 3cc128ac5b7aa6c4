/-
  Soundness of the abstract run, a part. Conditions: none.
-/
import Derived.Test.YtenenhmofmdcbabDoorRc
namespace Go.Rv

mutual
theorem AVRep.refs_some {w : World} {S : Nat → Prop} {σ : Nat → Option Sum} : ∀ (a : AV) (v : Value) (g : Nat), AVRep w S σ a v → a.refs g = true → ∃ s, σ g = some s
  | .slc h, _, g, ⟨s, hs, _⟩, hg => by simp [AV.refs] at hg; subst hg; exact ⟨s, hs⟩
  | .win h _ _, _, g, ⟨s, hs, _⟩, hg => by simp [AV.refs] at hg; subst hg; exact ⟨s, hs⟩
  | .ptr h _, _, g, ⟨s, _, _, _, hs, _⟩, hg => by simp [AV.refs] at hg; subst hg; exact ⟨s, hs⟩
  | .elt h _ _, _, g, ⟨s, _, _, _, hs, _⟩, hg => by simp [AV.refs] at hg; subst hg; exact ⟨s, hs⟩
  | .agg cs, _, g, ⟨vs, _, hr⟩, hg => AVsRep.refs_some cs vs g hr (by simpa [AV.refs] using hg)
  | .tup cs, _, g, ⟨vs, _, hr⟩, hg => AVsRep.refs_some cs vs g hr (by simpa [AV.refs] using hg)
  | .fn _ a b, _, g, ⟨va, vb, _, h1, h2⟩, hg => by
    simp [AV.refs] at hg
    rcases hg with hg | hg
    · exact AVsRep.refs_some a va g h1 hg
    · exact AVsRep.refs_some b vb g h2 hg
  | .undef, _, _, _, hg => by simp [AV.refs] at hg
  | .dat _ _, _, _, _, hg => by simp [AV.refs] at hg
  | .nils, _, _, _, hg => by simp [AV.refs] at hg
  | .relt _ _ _, _, _, _, hg => by simp [AV.refs] at hg
  | .tab _ _, _, _, _, hg => by simp [AV.refs] at hg
  | .raw _, _, _, _, hg => by simp [AV.refs] at hg
theorem AVsRep.refs_some {w : World} {S : Nat → Prop} {σ : Nat → Option Sum} : ∀ (a : List AV) (v : List Value) (g : Nat), AVsRep w S σ a v → refsL a g = true → ∃ s, σ g = some s
  | [], _, _, _, hg => by simp [refsL] at hg
  | a :: r, _, g, ⟨v, vr, _, h1, h2⟩, hg => by
    simp [refsL] at hg
    rcases hg with hg | hg
    · exact AVRep.refs_some a v g h1 hg
    · exact AVsRep.refs_some r vr g h2 hg
end

theorem constAV_rep {w : World} {S : Nat → Prop} {σ : Nat → Option Sum} (v : Value) : AVRep w S σ (constAV v) v := by
  unfold constAV
  split <;> simp [AVRep, DCells]

section
variable {B : Base} {s : St} {tmps : Array Value} {w : World} {ι : Plc}

theorem evalO_rep (h : Inv B s tmps w ι) {x : Operand} {a : AV} (he : evalO s x = some a) (ds : List Deferred) : AVRep w (dst B.D w ι s.heap) (sumOf ι s.heap) a (Act.eval ⟨tmps, ds⟩ x) := by
  cases x with
  | tmp t =>
    obtain ⟨v, hv, hr⟩ := h.env t a he
    have : Act.eval ⟨tmps, ds⟩ (.tmp t) = v := by simp [Act.eval, Array.getD_eq_getD_getElem?, hv]
    rw [this]; exact hr
  | const v => simp [evalO] at he; subst he; exact constAV_rep v
  | global g =>
    simp only [evalO] at he
    split at he
    · rename_i q hq
      cases he
      exact ⟨g, rfl, h.glob g q.1 q.2 hq⟩
    · cases he
  | func f => simp [evalO] at he; subst he; exact ⟨[], [], rfl, rfl, rfl⟩

theorem Inv.put (h : Inv B s tmps w ι) (d : Option Tmp) {a : AV} {v : Value} (hr : AVRep w (dst B.D w ι s.heap) (sumOf ι s.heap) a v) (ds : List Deferred) :
    Inv B (s.put d a) (Act.put ⟨tmps, ds⟩ d v).tmps w ι := by
  cases d with
  | none => exact h
  | some t =>
    refine ⟨h.kept, h.hrep, h.stay, h.io, fun i b hb => ?_, h.glob⟩
    simp only [St.put, Act.put] at hb ⊢
    rw [List.getElem?_set] at hb
    split at hb
    · rename_i hit
      subst hit
      split at hb
      · rename_i hlt
        obtain ⟨u, hu, _⟩ := h.env t (s.env[t]) (by simp [hlt])
        have hts : t < tmps.size := (Array.getElem?_eq_some_iff.1 hu).1
        simp at hb; subst hb
        exact ⟨v, by simp [hts], hr⟩
      · cases hb
    · rename_i hit
      obtain ⟨u, hu, hr'⟩ := h.env i b hb
      exact ⟨u, by rw [Array.getElem?_setIfInBounds_ne hit]; exact hu, hr'⟩

/-! From one moment to a later one -/

structure Trans (w : World) (ι : Plc) (H : Heap) (w' : World) (ι' : Plc) (H' : Heap) (good : Nat → Prop) : Prop where
  size : w.heap.size ≤ w'.heap.size
  stb : ∀ b, stab w ι H b → stab w' ι' H' b ∧ w'.heap[b]? = w.heap[b]?
  sum : ∀ g, good g → sumOf ι' H' g = sumOf ι H g

variable {w' : World} {ι' : Plc} {H H' : Heap} {good : Nat → Prop}

theorem Trans.av {D : Nat → Prop} (t : Trans w ι H w' ι' H' good) {a : AV} {v : Value} (hg : ∀ g, a.refs g = true → good g) (h : AVRep w (dst D w ι H) (sumOf ι H) a v) :
    AVRep w' (dst D w' ι' H') (sumOf ι' H') a v :=
  AVRep.mono t.size (fun b hb _ => ⟨⟨hb.1, (t.stb b hb.2).1⟩, (t.stb b hb.2).2⟩) a v (fun g hh => t.sum g (hg g hh)) h

theorem Trans.avs {D : Nat → Prop} (t : Trans w ι H w' ι' H' good) {a : List AV} {v : List Value} (hg : ∀ g, refsL a g = true → good g) (h : AVsRep w (dst D w ι H) (sumOf ι H) a v) :
    AVsRep w' (dst D w' ι' H') (sumOf ι' H') a v :=
  AVsRep.mono t.size (fun b hb _ => ⟨⟨hb.1, (t.stb b hb.2).1⟩, (t.stb b hb.2).2⟩) a v (fun g hh => t.sum g (hg g hh)) h

theorem Trans.dat {D : Nat → Prop} (t : Trans w ι H w' ι' H' good) {u : Ty} {x : u.den} {c : List Value} (h : DCells w (dst D w ι H) u x c) : DCells w' (dst D w' ι' H') u x c :=
  DCells.mono t.size (fun b hb _ => ⟨⟨hb.1, (t.stb b hb.2).1⟩, (t.stb b hb.2).2⟩) u x c h

def Row.refs : Row → Nat → Bool
  | .seq _ _, _ => false
  | .box cs, g => refsL cs g

theorem refsL_get {cs : List AV} {j : Nat} {a : AV} {g : Nat} (h : cs[j]? = some a) (hg : a.refs g = true) : refsL cs g = true := by
  induction cs generalizing j with
  | nil => simp at h
  | cons c r ih =>
    cases j with
    | zero => simp at h; subst h; simp [refsL, hg]
    | succ j => simp at h; simp [refsL, ih h]

theorem Trans.globs {D : Nat → Prop} (t : Trans w ι H w' ι' H' good) (h : GlobsOk w (dst D w ι H)) : GlobsOk w' (dst D w' ι' H') :=
  h.mono t.size (fun b hb _ => ⟨⟨hb.1, (t.stb b hb.2).1⟩, (t.stb b hb.2).2⟩)

/-- A row whose block has not turned. -/
theorem Trans.row {D : Nat → Prop} (t : Trans w ι H w' ι' H' good) {r : Row} {p : Option (Nat × Nat × Nat)} (hg : ∀ g, r.refs g = true → good g)
    (hb : ∀ b o c, p = some (b, o, c) → w'.heap[b]? = w.heap[b]?) (h : RowRep w (dst D w ι H) (sumOf ι H) p r) : RowRep w' (dst D w' ι' H') (sumOf ι' H') p r := by
  cases r with
  | seq u xs =>
    cases p with
    | none => exact h
    | some q =>
      obtain ⟨b, o, c⟩ := q
      obtain ⟨cur, e, h1, h2, h3, h4, h5⟩ := h
      refine ⟨cur, e, (hb b o c rfl).trans h1, h2, h3, h4, fun i x hx => ?_⟩
      obtain ⟨cs, hd, hc⟩ := h5 i x hx
      exact ⟨cs, t.dat hd, hc⟩
  | box cs =>
    obtain ⟨b, o, c, cur, e, rfl, h1, h2⟩ := h
    refine ⟨b, o, c, cur, e, rfl, (hb b o c rfl).trans h1, fun j a hj => ?_⟩
    obtain ⟨v, hv, h1c, hr⟩ := h2 j a hj
    exact ⟨v, hv, h1c, t.av (fun g hh => hg g (refsL_get hj hh)) hr⟩

/-- A draw. -/
theorem Inv.drew (h : Inv B s tmps w ι) (n : Nat) : Inv B s tmps { w with drawn := n } ι := by
  have t : Trans w ι s.heap { w with drawn := n } ι s.heap (fun _ => True) := ⟨Nat.le_refl _, fun b hb => ⟨hb, rfl⟩, fun _ _ => rfl⟩
  refine ⟨⟨h.kept.os, h.kept.tape, h.kept.output, h.kept.size, h.kept.block, h.kept.frz⟩, ⟨fun g r hr => ?_, h.hrep.sep, h.hrep.own⟩, h.stay, h.io, fun i a ha => ?_, t.globs h.glob⟩
  · exact t.row (fun _ _ => trivial) (fun _ _ _ _ => rfl) (h.hrep.rows g r hr)
  · obtain ⟨v, hv, hr⟩ := h.env i a ha
    exact ⟨v, hv, t.av (fun _ _ => trivial) hr⟩

/-! A new row -/

def setPlc (ι : Plc) (g : Nat) (p : Option (Nat × Nat × Nat)) : Plc := fun h => if h = g then p else ι h

theorem sumOf_set_ne {r : Row} {g h : Nat} {p : Option (Nat × Nat × Nat)} (hne : h ≠ g) : sumOf (setPlc ι g p) (H.set g (some r)) h = sumOf ι H h := by
  unfold sumOf setPlc
  rw [List.getElem?_set_ne (Ne.symm hne), if_neg hne]

theorem sumOf_set_self {r : Row} {g : Nat} {p : Option (Nat × Nat × Nat)} (hlt : g < H.length) : sumOf (setPlc ι g p) (H.set g (some r)) g = some ⟨p, r.cells, r.len⟩ := by
  simp [sumOf, setPlc, hlt]

/-- The general step: row g becomes r at place p; all references in the environment and the other rows are good. -/
theorem Inv.turn (h : Inv B s tmps w ι) {s' : St} {tmps' : Array Value} {g : Nat} {r : Row} {p : Option (Nat × Nat × Nat)} (good : Nat → Prop)
    (hg : s'.heap[g]? = some (some r))
    (hother : ∀ (h' : Nat) (r' : Row), h' ≠ g → s'.heap[h']? = some (some r') → ∃ r0, s.heap[h']? = some (some r0) ∧ r'.cells = r0.cells ∧ r'.len = r0.len ∧
      (∀ (S : Nat → Prop) (σ : Nat → Option Sum) (w : World) q, RowRep w S σ q r0 → RowRep w S σ q r') ∧ (∀ x, r'.refs x = true → good x))
    (hback : ∀ (h' : Nat) (r0 : Row), h' ≠ g → s.heap[h']? = some (some r0) → ∃ r', s'.heap[h']? = some (some r'))
    (hk : Kept (stab w ι s.heap) w w')
    (hoth : ∀ (h' : Nat) (r0 : Row) q, h' ≠ g → s.heap[h']? = some (some r0) → ι h' = some q → w'.heap[q.1]? = w.heap[q.1]?)
    (hplace : ∀ q, p = some q → (q.1 < w'.heap.size ∧ ¬ stab w ι s.heap q.1 ∧ ∀ (h' : Nat) (r0 : Row) q', h' ≠ g → s.heap[h']? = some (some r0) → ι h' = some q' → q'.1 ≠ q.1))
    (hgoodg : good g → sumOf (setPlc ι g p) s'.heap g = sumOf ι s.heap g)
    (hgood : ∀ x, good x → (∃ r0, s.heap[x]? = some (some r0)))
    (hrow : Trans w ι s.heap w' (setPlc ι g p) s'.heap good → RowRep w' (dst B.D w' (setPlc ι g p) s'.heap) (sumOf (setPlc ι g p) s'.heap) p r)
    (henv : ∀ (i : Nat) (a : AV), s'.env[i]? = some a → ∃ v, tmps'[i]? = some v ∧ ((∃ a0, AVRep w (dst B.D w ι s.heap) (sumOf ι s.heap) a0 v ∧ (a = a0 ∨ a = .undef) ∧ ∀ x, a.refs x = true → good x) ∨
      (Trans w ι s.heap w' (setPlc ι g p) s'.heap good → AVRep w' (dst B.D w' (setPlc ι g p) s'.heap) (sumOf (setPlc ι g p) s'.heap) a v)))
    (hio : g < B.k → sumOf (setPlc ι g p) s'.heap g = sumOf ι s.heap g) (hown : ∀ q, p = some q → B.D q.1) :
    Inv B s' tmps' w' (setPlc ι g p) := by
  have hst : ∀ b, stab w ι s.heap b → stab w' (setPlc ι g p) s'.heap b := by
    intro b hb
    refine ⟨Nat.lt_of_lt_of_le hb.1 hk.size, fun h' r' q hr' hq => ?_⟩
    by_cases hh : h' = g
    · subst hh
      simp only [setPlc, if_pos] at hq
      intro e
      exact (hplace q hq).2.1 (e ▸ hb)
    · obtain ⟨r0, hr0, _⟩ := hother h' r' hh hr'
      simp only [setPlc, if_neg hh] at hq
      exact hb.2 h' r0 q hr0 hq
  have ht : Trans w ι s.heap w' (setPlc ι g p) s'.heap good := by
    refine ⟨hk.size, fun b hb => ⟨hst b hb, hk.block b hb⟩, fun x hx => ?_⟩
    by_cases hxg : x = g
    · subst hxg; exact hgoodg hx
    · obtain ⟨r0, hr0⟩ := hgood x hx
      obtain ⟨r', hr'⟩ := hback x r0 hxg hr0
      obtain ⟨r1, hr1, hc, hl, _⟩ := hother x r' hxg hr'
      have : r1 = r0 := by rw [hr0] at hr1; simpa using hr1.symm
      subst this
      simp [sumOf, hr', hr0, setPlc, hxg, hc, hl]
  refine ⟨h.kept.trans hk h.stay, ⟨fun h' r' hr' => ?_, fun h1 h2 r1 r2 p1 p2 e1 e2 q1 q2 hne => ?_, fun h' r' q hr' hq => ?_⟩, fun b hb => hst b (h.stay b hb), fun h' hh' => ?_, fun i a ha => ?_, ht.globs h.glob⟩
  · by_cases hh : h' = g
    · subst hh
      rw [hg] at hr'
      simp at hr'; subst hr'
      simp only [setPlc, if_pos]
      exact hrow ht
    · obtain ⟨r0, hr0, _, _, hrep, hgd⟩ := hother h' r' hh hr'
      simp only [setPlc, if_neg hh]
      refine ht.row hgd (fun b o c hp => hoth h' r0 (b, o, c) hh hr0 hp) ?_
      exact hrep _ _ _ _ (h.hrep.rows h' r0 hr0)
  · by_cases hh1 : h1 = g
    · have hh2 : h2 ≠ g := fun e => hne (hh1.trans e.symm)
      obtain ⟨r0, hr0, _⟩ := hother h2 r2 hh2 e2
      simp only [setPlc, if_pos hh1, if_neg hh2] at q1 q2
      exact fun e => (hplace p1 q1).2.2 h2 r0 p2 hh2 hr0 q2 e.symm
    · obtain ⟨r0, hr0, _⟩ := hother h1 r1 hh1 e1
      by_cases hh2 : h2 = g
      · simp only [setPlc, if_neg hh1, if_pos hh2] at q1 q2
        exact (hplace p2 q2).2.2 h1 r0 p1 hh1 hr0 q1
      · obtain ⟨r0', hr0', _⟩ := hother h2 r2 hh2 e2
        simp only [setPlc, if_neg hh1, if_neg hh2] at q1 q2
        exact h.hrep.sep h1 h2 r0 r0' p1 p2 hr0 hr0' q1 q2 hne
  · by_cases hh : h' = g
    · simp only [setPlc, if_pos hh] at hq
      exact hown q hq
    · obtain ⟨r0, hr0, _⟩ := hother h' r' hh hr'
      simp only [setPlc, if_neg hh] at hq
      exact h.hrep.own h' r0 q hr0 hq
  · obtain ⟨hi, r0, hr0⟩ := h.io h' hh'
    by_cases hh : h' = g
    · subst hh
      exact ⟨(hio hh').trans hi, r, hg⟩
    · obtain ⟨r', hr'⟩ := hback h' r0 hh hr0
      obtain ⟨r1, hr1, hc, hl, _⟩ := hother h' r' hh hr'
      have he : r1 = r0 := by rw [hr0] at hr1; simpa using hr1.symm
      subst he
      exact ⟨by rw [← hi]; simp [sumOf, hr', hr0, setPlc, hh, hc, hl], r', hr'⟩
  · obtain ⟨v, hv, hr⟩ := henv i a ha
    refine ⟨v, hv, ?_⟩
    rcases hr with ⟨a0, hr0, rfl | rfl, hgd⟩ | hr
    · exact ht.av hgd hr0
    · trivial
    · exact hr ht

theorem sumOf_some {x : Nat} {q : Sum} (h : sumOf ι H x = some q) : ∃ r0, H[x]? = some (some r0) := by
  unfold sumOf at h
  split at h
  · exact ⟨_, by assumption⟩
  · cases h

theorem sumOf_of {x : Nat} {r : Row} (h : H[x]? = some (some r)) : sumOf ι H x = some ⟨ι x, r.cells, r.len⟩ := by
  simp [sumOf, h]

theorem RowRep.refs_some {S : Nat → Prop} {σ : Nat → Option Sum} {p : Option (Nat × Nat × Nat)} {r : Row} (h : RowRep w S σ p r) (x : Nat) (hx : r.refs x = true) : ∃ q, σ x = some q := by
  cases r with
  | seq t xs => simp [Row.refs] at hx
  | box cs =>
    obtain ⟨b, o, c, cur, e, _, _, h2⟩ := h
    simp only [Row.refs] at hx
    have : ∀ (cs : List AV), (∀ (j : Nat) (a : AV), cs[j]? = some a → ∃ v, AVRep w S σ a v) → refsL cs x = true → ∃ q, σ x = some q := by
      intro cs
      induction cs with
      | nil => intro _ h; simp [refsL] at h
      | cons a r ih =>
        intro hall h
        simp [refsL] at h
        rcases h with h | h
        · obtain ⟨v, hv⟩ := hall 0 a rfl
          exact AVRep.refs_some a v x hv h
        · exact ih (fun j b hb => hall (j + 1) b hb) h
    exact this cs (fun j a hj => by obtain ⟨v, _, _, hr⟩ := h2 j a hj; exact ⟨v, hr⟩) hx

/-- A new block, a new row. -/
theorem Inv.alloc (h : Inv B s tmps w ι) {g : Nat} (hfree : s.heap[g]? = some none) (r : Row) (cur : Array Value) (e : TypeId) (p : Option (Nat × Nat × Nat))
    (hp : p = none ∨ ∃ o c, p = some (w.heap.size, o, c))
    (hrow : Trans w ι s.heap (w.alloc (.cells cur e)) (setPlc ι g p) (s.heap.set g (some r)) (fun x => ∃ r0, s.heap[x]? = some (some r0)) →
      RowRep (w.alloc (.cells cur e)) (dst B.D (w.alloc (.cells cur e)) (setPlc ι g p) (s.heap.set g (some r))) (sumOf (setPlc ι g p) (s.heap.set g (some r))) p r) :
    Inv B (s.setRow g r) tmps (w.alloc (.cells cur e)) (setPlc ι g p) := by
  have hlt : g < s.heap.length := (List.getElem?_eq_some_iff.1 hfree).1
  have hold : ∀ b, b < w.heap.size → (w.alloc (.cells cur e)).heap[b]? = w.heap[b]? := fun b hb => heap_alloc_old w _ b hb
  have hsz : (w.alloc (.cells cur e)).heap.size = w.heap.size + 1 := by simp
  refine h.turn (s' := s.setRow g r) (g := g) (r := r) (p := p) (fun x => ∃ r0, s.heap[x]? = some (some r0)) (by simp [St.setRow, hlt]) ?_ ?_ ?_ ?_ ?_ ?_ (fun x hx => hx) hrow ?_ ?_ ?_
  · intro h' r' hne hr'
    simp only [St.setRow] at hr'
    rw [List.getElem?_set_ne (Ne.symm hne)] at hr'
    exact ⟨r', hr', rfl, rfl, fun _ _ _ _ hh => hh, fun x hx => by
      obtain ⟨q, hq⟩ := (h.hrep.rows h' r' hr').refs_some x hx
      exact sumOf_some hq⟩
  · intro h' r0 hne hr0
    exact ⟨r0, by simp only [St.setRow]; rw [List.getElem?_set_ne (Ne.symm hne)]; exact hr0⟩
  · exact ⟨rfl, rfl, rfl, by omega, fun b hb => hold b hb.1, frz_alloc _ _ _⟩
  · intro h' r0 q hne hr0 hq
    have := h.hrep.rows h' r0 hr0
    rw [hq] at this
    exact hold _ this.lt
  · intro q hq
    rcases hp with hp | ⟨o, c, hp⟩
    · rw [hp] at hq; cases hq
    · rw [hp] at hq; cases hq
      refine ⟨by omega, fun hs => Nat.lt_irrefl _ hs.1, fun h' r0 q' hne hr0 hq' => ?_⟩
      have := h.hrep.rows h' r0 hr0
      rw [hq'] at this
      exact Nat.ne_of_lt this.lt
  · rintro ⟨r0, hr0⟩; rw [hfree] at hr0; simp at hr0
  · intro i a ha
    obtain ⟨v, hv, hr⟩ := h.env i a ha
    exact ⟨v, hv, .inl ⟨a, hr, .inl rfl, fun x hx => by obtain ⟨q, hq⟩ := AVRep.refs_some a v x hr hx; exact sumOf_some hq⟩⟩
  · intro hk
    obtain ⟨_, r0, hr0⟩ := h.io g hk
    rw [hfree] at hr0; simp at hr0
  · intro q hq
    rcases hp with hp | ⟨o, c, hp⟩
    · rw [hp] at hq; cases hq
    · rw [hp] at hq; cases hq
      exact B.new _ h.kept.size

/-- A row is written; it keeps its place and its length. -/
theorem Inv.write (h : Inv B s tmps w ι) {g : Nat} {r0 : Row} (hg : s.heap[g]? = some (some r0)) (r : Row) (hc : r.cells = r0.cells) (hl : r.len = r0.len)
    {b o c : Nat} (hp : ι g = some (b, o, c)) {old : Array Value} {e : TypeId} (hb : w.heap[b]? = some (.cells old e (0, 0))) (cur : Array Value)
    (hrow : Trans w ι s.heap (w.setRow b cur) (setPlc ι g (some (b, o, c))) (s.heap.set g (some r)) (fun x => ∃ r0, s.heap[x]? = some (some r0)) →
      RowRep (w.setRow b cur) (dst B.D (w.setRow b cur) (setPlc ι g (some (b, o, c))) (s.heap.set g (some r))) (sumOf (setPlc ι g (some (b, o, c))) (s.heap.set g (some r))) (some (b, o, c)) r) :
    Inv B (s.setRow g r) tmps (w.setRow b cur) (setPlc ι g (some (b, o, c))) := by
  have hlt : g < s.heap.length := (List.getElem?_eq_some_iff.1 hg).1
  have hns : ¬ stab w ι s.heap b := fun hs => hs.2 g r0 _ hg hp rfl
  refine h.turn (s' := s.setRow g r) (g := g) (r := r) (p := some (b, o, c)) (fun x => ∃ r0, s.heap[x]? = some (some r0)) (by simp [St.setRow, hlt]) ?_ ?_ ?_ ?_ ?_ ?_ (fun x hx => hx) hrow ?_ ?_ ?_
  · intro h' r' hne hr'
    simp only [St.setRow] at hr'
    rw [List.getElem?_set_ne (Ne.symm hne)] at hr'
    exact ⟨r', hr', rfl, rfl, fun _ _ _ _ hh => hh, fun x hx => by
      obtain ⟨q, hq⟩ := (h.hrep.rows h' r' hr').refs_some x hx
      exact sumOf_some hq⟩
  · intro h' r0 hne hr0
    exact ⟨r0, by simp only [St.setRow]; rw [List.getElem?_set_ne (Ne.symm hne)]; exact hr0⟩
  · exact ⟨rfl, rfl, rfl, by simp, fun x hx => setRow_other w b x cur (fun e => hns (e ▸ hx)), frz_setRow _ _ _⟩
  · intro h' r1 q hne hr1 hq
    exact setRow_other w b q.1 cur (fun e => h.hrep.sep h' g r1 r0 q (b, o, c) hr1 hg hq hp hne e)
  · intro q hq
    cases hq
    refine ⟨by simp; exact (Array.getElem?_eq_some_iff.1 hb).1, hns, fun h' r1 q' hne hr1 hq' => ?_⟩
    exact h.hrep.sep h' g r1 r0 q' (b, o, c) hr1 hg hq' hp hne
  · intro _
    simp only [St.setRow]
    rw [sumOf_set_self hlt, sumOf_of hg, hp, hc, hl]
  · intro i a ha
    obtain ⟨v, hv, hr⟩ := h.env i a ha
    exact ⟨v, hv, .inl ⟨a, hr, .inl rfl, fun x hx => by obtain ⟨q, hq⟩ := AVRep.refs_some a v x hr hx; exact sumOf_some hq⟩⟩
  · intro _
    simp only [St.setRow]
    rw [sumOf_set_self hlt, sumOf_of hg, hp, hc, hl]
  · intro q hq
    cases hq
    exact h.hrep.own g r0 _ hg hp

end
end Go.Rv
