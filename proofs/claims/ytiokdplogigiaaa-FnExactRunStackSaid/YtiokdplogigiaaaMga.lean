/-
  Plain mathematics: trees without crossings; connected parts do not alternate. Conditions: none.
-/
import Derived.Test.YtiokdplogigiaaaMs
set_option linter.unusedVariables false
set_option linter.unusedSimpArgs false
namespace Go.Rv

def Betw (a b j : Nat) : Prop := (a < j ∧ j < b) ∨ (b < j ∧ j < a)
def Outs (a b j : Nat) : Prop := (j < a ∧ j < b) ∨ (a < j ∧ b < j)

/-- Arcs of two words cross: just one end of the one is between both ends of the other one. -/
def CrossW (h : List Int) (w v : Nat) : Prop :=
  (Betw w (hd h w) v ∧ Outs w (hd h w) (hd h v)) ∨ (Betw w (hd h w) (hd h v) ∧ Outs w (hd h w) v)

def NoCross (h : List Int) : Prop := ∀ w v, 1 ≤ w → w ≤ h.length → hd h w ≠ 0 → 1 ≤ v → v ≤ h.length → hd h v ≠ 0 → ¬ CrossW h w v

/-- Words that are connected by their heads, up to one of them. -/
structure Conn (h : List Int) (M : Nat → Prop) (r : Nat) : Prop where
  own : M r
  way : ∀ w, M w → Und h w r
  up : ∀ w, M w → w ≠ r → M (hd h w)

theorem Tree.conn_und {h : List Int} (T : Tree h) {k : Nat} (k1 : 1 ≤ k) (k2 : k ≤ h.length) : Conn h (fun w => Und h w k) k := by
  refine ⟨.refl k1 k2, fun w u => u, fun w u hne => ?_⟩
  have r := T.und_rng u
  rcases (T.und_iff r.1.1 r.1.2).1 u with e | ⟨_, u'⟩
  · exact absurd e hne
  · exact u'

theorem Tree.conn_rest {h : List Int} (T : Tree h) {k : Nat} (hk : k ≠ top h) : Conn h (fun w => 1 ≤ w ∧ w ≤ h.length ∧ ¬ Und h w k) (top h) := by
  refine ⟨⟨top_pos h, T.top_le, fun u => hk (T.und_of_top u)⟩, fun w hw => T.und_top hw.1 hw.2.1, fun w hw hne => ?_⟩
  have h0 : hd h w ≠ 0 := (T.hd_ne_top hw.1 hw.2.1).2 hne
  exact ⟨by omega, T.hd_le hw.1 hw.2.1, fun u => hw.2.2 (.step hw.1 hw.2.1 h0 u)⟩

/-- From a word one climbs past what is between it and where one comes to. -/
theorem Conn.over {h : List Int} (T : Tree h) {M : Nat → Prop} {r : Nat} (C : Conn h M r) {x : Nat} (hx : ¬ M x) : ∀ a, M a → Betw a r x → ∃ w, M w ∧ w ≠ r ∧ Betw w (hd h w) x := by
  intro a ha
  have u := C.way a ha
  induction u with
  | refl => intro hb; unfold Betw at hb; omega
  | @step a r h1 h2 h3 u ih =>
    intro hb
    by_cases e : a = r
    · rw [e] at hb; unfold Betw at hb; omega
    · have hm := C.up a ha e
      by_cases hc : Betw a (hd h a) x
      · exact ⟨a, ha, e, hc⟩
      · have hne : x ≠ hd h a := fun e2 => hx (e2 ▸ hm)
        have hne2 : x ≠ a := fun e2 => hx (e2 ▸ ha)
        exact ih C hm (by unfold Betw at hb hc ⊢; omega)

/-- Between two words of a connected part that does not have x, an arc goes over x. -/
theorem Conn.arc {h : List Int} (T : Tree h) {M : Nat → Prop} {r : Nat} (C : Conn h M r) {a b x : Nat} (ha : M a) (hb : M b) (hx : ¬ M x) (h1 : a < x) (h2 : x < b) : ∃ w, M w ∧ w ≠ r ∧ Betw w (hd h w) x := by
  have hne : x ≠ r := fun e => hx (e ▸ C.own)
  by_cases hr : x < r
  · exact C.over T hx a ha (.inl ⟨h1, hr⟩)
  · exact C.over T hx b hb (.inr ⟨by omega, h2⟩)

/-- A connected part lies on one side of an arc that it does not meet. -/
theorem Conn.side {h : List Int} (T : Tree h) (N : NoCross h) {M : Nat → Prop} {r : Nat} (C : Conn h M r) {w : Nat} (w1 : 1 ≤ w) (w2 : w ≤ h.length) (w3 : hd h w ≠ 0) (hw : ¬ M w) (hh : ¬ M (hd h w)) :
    ∀ x, M x → (Betw w (hd h w) x ↔ Betw w (hd h w) r) := by
  intro x hx
  have u := C.way x hx
  induction u with
  | refl => exact Iff.rfl
  | @step x r h1 h2 h3 u ih =>
    by_cases e : x = r
    · rw [e]
    · have hm := C.up x hx e
      refine Iff.trans ?_ (ih C hm)
      have nc := N w x w1 w2 w3 h1 h2 h3
      have e1 : x ≠ w := fun e2 => hw (e2 ▸ hx)
      have e2 : x ≠ hd h w := fun e2 => hh (e2 ▸ hx)
      have e3 : hd h x ≠ w := fun e2 => hw (e2 ▸ hm)
      have e4 : hd h x ≠ hd h w := fun e2 => hh (e2 ▸ hm)
      unfold CrossW Betw Outs at nc
      unfold Betw
      omega

/-- Without crossings two connected parts that are apart do not alternate. -/
theorem no_turns {h : List Int} (T : Tree h) (N : NoCross h) {M M' : Nat → Prop} {r r' : Nat} (C : Conn h M r) (C' : Conn h M' r') (hd' : ∀ x, M x → ¬ M' x) {a x b y : Nat} (ha : M a) (hx : M' x) (hb : M b) (hy : M' y)
    (h1 : a < x) (h2 : x < b) (h3 : b < y) : False := by
  have hxM : ¬ M x := fun e => hd' x e hx
  have hbM : ¬ M' b := hd' b hb
  obtain ⟨w, hw, hwr, cw⟩ := C.arc T ha hb hxM h1 h2
  obtain ⟨v, hv, hvr, cv⟩ := C'.arc T hx hy hbM h2 h3
  have hw' := C.up w hw hwr
  have hv' := C'.up v hv hvr
  have rw_ := T.und_rng (C.way w hw)
  have rv := T.und_rng (C'.way v hv)
  have w3 : hd h w ≠ 0 := by have := (T.und_rng (C.way _ hw')).1; omega
  have v3 : hd h v ≠ 0 := by have := (T.und_rng (C'.way _ hv')).1; omega
  -- all of M' lies under the arc of w, all of M under that of v
  have s1 := C'.side T N rw_.1.1 rw_.1.2 w3 (hd' w hw) (hd' _ hw')
  have s2 := C.side T N rv.1.1 rv.1.2 v3 (fun e => hd' v e hv) (fun e => hd' _ e hv')
  have i1 := (s1 v hv).2 ((s1 x hx).1 cw)
  have i2 := (s1 _ hv').2 ((s1 x hx).1 cw)
  have i3 := (s2 w hw).2 ((s2 b hb).1 cv)
  have i4 := (s2 _ hw').2 ((s2 b hb).1 cv)
  unfold Betw at i1 i2 i3 i4
  omega

end Go.Rv
