/-
  Soundness of the abstract run, a part. Conditions: none.
-/
import Derived.Test.YtenenhmofmdcbabDoorRl
set_option linter.unusedSimpArgs false
set_option linter.unusedVariables false
namespace Go.Rv

abbrev Fun := List AV → Heap → Ans

/-- A function of the program does what `F` reckons. -/
def Sound (P : Program) (f : FuncId) (F : Fun) : Prop :=
  ∀ avs H r H', (F avs H).run = some (r, H') → ∀ (D : Nat → Prop) (w : World) (args : List Value) (ι : Plc), (∀ b, w.heap.size ≤ b → D b) → HRep D w ι H → GlobsOk w (dst D w ι H) → (∀ h, h < H.length → ∃ x, H[h]? = some (some x)) →
    AVsRep w (dst D w ι H) (sumOf ι H) avs args →
    Calls P f args.toArray w (fun e w' => ∃ v ι', e = .returned v ∧ Kept (stab w ι H) w w' ∧ HRep D w' ι' H' ∧ (∀ b, stab w ι H b → stab w' ι' H' b) ∧
      (∀ h, h < H.length → sumOf ι' H' h = sumOf ι H h) ∧ AVRep w' (dst D w' ι' H') (sumOf ι' H') r v)

mutual
theorem refs_ids : ∀ (a : AV) (g : Nat), a.refs g = true → g ∈ a.ids
  | .slc h, g, hg => by simp [AV.refs] at hg; simp [AV.ids, hg]
  | .win h _ _, g, hg => by simp [AV.refs] at hg; simp [AV.ids, hg]
  | .ptr h _, g, hg => by simp [AV.refs] at hg; simp [AV.ids, hg]
  | .elt h _ _, g, hg => by simp [AV.refs] at hg; simp [AV.ids, hg]
  | .agg cs, g, hg => by simp only [AV.ids]; exact refsL_ids cs g (by simpa [AV.refs] using hg)
  | .tup cs, g, hg => by simp only [AV.ids]; exact refsL_ids cs g (by simpa [AV.refs] using hg)
  | .fn _ a b, g, hg => by
    simp only [AV.refs, Bool.or_eq_true] at hg
    simp only [AV.ids, List.mem_append]
    exact hg.imp (refsL_ids a g) (refsL_ids b g)
  | .undef, g, hg => by simp [AV.refs] at hg
  | .dat _ _, g, hg => by simp [AV.refs] at hg
  | .nils, g, hg => by simp [AV.refs] at hg
  | .relt _ _ _, g, hg => by simp [AV.refs] at hg
  | .tab _ _, g, hg => by simp [AV.refs] at hg
  | .raw _, g, hg => by simp [AV.refs] at hg
theorem refsL_ids : ∀ (a : List AV) (g : Nat), refsL a g = true → g ∈ idsL a
  | [], g, hg => by simp [refsL] at hg
  | a :: r, g, hg => by
    simp only [refsL, Bool.or_eq_true] at hg
    simp only [idsL, List.mem_append]
    exact hg.imp (refs_ids a g) (refsL_ids r g)
end

theorem DCells.free {w : World} {S S' : Nat → Prop} : ∀ (t : Ty) (x : t.den) (cs : List Value), t.hasList = false → DCells w S t x cs → DCells w S' t x cs
  | .int _, _, _, _, hd => hd
  | .bool, _, _, _, hd => hd
  | .str, _, _, _, hd => hd
  | .unit, _, _, _, hd => hd
  | .pair a b, _, _, hl, ⟨c1, c2, e, h1, h2⟩ => by
    simp only [Ty.hasList, Bool.or_eq_false_iff] at hl
    exact ⟨c1, c2, e, DCells.free a _ _ hl.1 h1, DCells.free b _ _ hl.2 h2⟩
  | .list t, _, _, hl, _ => by simp [Ty.hasList] at hl

theorem DCells.sub {w : World} {S S' : Nat → Prop} (h : ∀ b, S b → S' b) {t : Ty} {x : t.den} {cs : List Value} (hd : DCells w S t x cs) : DCells w S' t x cs :=
  DCells.mono (Nat.le_refl _) (fun b hb _ => ⟨h b hb, rfl⟩) t x cs hd

mutual
theorem AVRep.ren {w : World} {S S' : Nat → Prop} {σ σ' : Nat → Option Sum} {f : Nat → Nat} : ∀ (a : AV) (v : Value), ((∀ b, S b → S' b) ∨ a.hasList = false) → (∀ g, a.refs g = true → σ' (f g) = σ g) → AVRep w S σ a v → AVRep w S' σ' (a.ren f) v
  | .undef, _, _, _, _ => trivial
  | .dat t x, v, hS, _, hr => by
    rcases hS with hS | hS
    · exact DCells.sub hS hr
    · exact DCells.free t x _ (by simpa [AV.hasList] using hS) hr
  | .nils, _, _, _, hr => hr
  | .slc g, _, _, hg, ⟨s, hs, hw⟩ => ⟨s, (hg g (by simp [AV.refs])).trans hs, hw⟩
  | .win g _ _, _, _, hg, ⟨s, hs, hw⟩ => ⟨s, (hg g (by simp [AV.refs])).trans hs, hw⟩
  | .ptr g _, _, _, hg, ⟨s, b, o, c, hs, hw⟩ => ⟨s, b, o, c, (hg g (by simp [AV.refs])).trans hs, hw⟩
  | .elt g _ _, _, _, hg, ⟨s, b, o, c, hs, hw⟩ => ⟨s, b, o, c, (hg g (by simp [AV.refs])).trans hs, hw⟩
  | .relt t x _, _, hS, _, ⟨b, o, cs, e, hs, hlt, hd, hc⟩ => by
    rcases hS with hS | hS
    · exact ⟨b, o, cs, e, hS b hs, hlt, DCells.sub hS hd, hc⟩
    · simp [AV.hasList] at hS
  | .tab t xs, _, hS, _, ⟨b, e, h1, h2, h3⟩ => by
    rcases hS with hS | hS
    · exact ⟨b, e, hS b h1, h2, fun i x hx => by obtain ⟨c, hc, hh⟩ := h3 i x hx; exact ⟨c, DCells.sub hS hc, hh⟩⟩
    · simp [AV.hasList] at hS
  | .agg cs, _, hS, hg, ⟨vs, e, hr⟩ => ⟨vs, e, AVsRep.ren cs vs (hS.imp id (by simp [AV.hasList])) (fun g hh => hg g (by simpa [AV.refs] using hh)) hr⟩
  | .tup cs, _, hS, hg, ⟨vs, e, hr⟩ => ⟨vs, e, AVsRep.ren cs vs (hS.imp id (by simp [AV.hasList])) (fun g hh => hg g (by simpa [AV.refs] using hh)) hr⟩
  | .fn _ a b, _, hS, hg, ⟨va, vb, e, h1, h2⟩ =>
    ⟨va, vb, e, AVsRep.ren a va (hS.imp id (by simp [AV.hasList]; exact fun h _ => h)) (fun g hh => hg g (by simp [AV.refs, hh])) h1, AVsRep.ren b vb (hS.imp id (by simp [AV.hasList])) (fun g hh => hg g (by simp [AV.refs, hh])) h2⟩
  | .raw _, _, _, _, hr => hr
theorem AVsRep.ren {w : World} {S S' : Nat → Prop} {σ σ' : Nat → Option Sum} {f : Nat → Nat} : ∀ (a : List AV) (v : List Value), ((∀ b, S b → S' b) ∨ hasListL a = false) → (∀ g, refsL a g = true → σ' (f g) = σ g) → AVsRep w S σ a v → AVsRep w S' σ' (renL f a) v
  | [], _, _, _, hr => hr
  | a :: r, _, hS, hg, ⟨v, vr, e, h1, h2⟩ =>
    ⟨v, vr, e, AVRep.ren a v (hS.imp id (by simp [hasListL]; exact fun h _ => h)) (fun g hh => hg g (by simp [refsL, hh])) h1, AVsRep.ren r vr (hS.imp id (by simp [hasListL])) (fun g hh => hg g (by simp [refsL, hh])) h2⟩
end

theorem renL_get {f : Nat → Nat} : ∀ {cs : List AV} {j : Nat} {a : AV}, (renL f cs)[j]? = some a → ∃ a0, cs[j]? = some a0 ∧ a = a0.ren f
  | [], _, _, h => by simp [renL] at h
  | c :: r, 0, a, h => by simp [renL] at h; exact ⟨c, rfl, h.symm⟩
  | c :: r, j + 1, a, h => by simp [renL] at h; simpa using renL_get h

theorem renL_length {f : Nat → Nat} : ∀ (cs : List AV), (renL f cs).length = cs.length
  | [] => rfl
  | c :: r => by simp [renL, renL_length r]

theorem hasListL_get : ∀ {cs : List AV} {j : Nat} {a : AV}, cs[j]? = some a → hasListL cs = false → a.hasList = false
  | [], _, _, h, _ => by simp at h
  | c :: r, 0, a, h, hl => by simp at h; subst h; simp [hasListL] at hl; exact hl.1
  | c :: r, j + 1, a, h, hl => by simp at h; simp [hasListL] at hl; exact hasListL_get h hl.2

theorem RowRep.ren {w : World} {S S' : Nat → Prop} {σ σ' : Nat → Option Sum} {f : Nat → Nat} {p : Option (Nat × Nat × Nat)} {r : Row} (hS : (∀ b, S b → S' b) ∨ r.hasList = false)
    (hg : ∀ g, r.refs g = true → σ' (f g) = σ g) (h : RowRep w S σ p r) : RowRep w S' σ' p (r.ren f) := by
  cases r with
  | seq t xs =>
    cases p with
    | none => exact h
    | some q =>
      obtain ⟨b, o, c⟩ := q
      obtain ⟨cur, e, h1, h2, h3, h4, h5⟩ := h
      refine ⟨cur, e, h1, h2, h3, h4, fun i x hx => ?_⟩
      obtain ⟨cs, hd, hc⟩ := h5 i x hx
      rcases hS with hS | hS
      · exact ⟨cs, DCells.sub hS hd, hc⟩
      · exact ⟨cs, DCells.free t x _ (by simpa [Row.hasList] using hS) hd, hc⟩
  | box cs =>
    obtain ⟨b, o, c, cur, e, hp, h1, h2⟩ := h
    refine ⟨b, o, c, cur, e, hp, h1, fun j a hj => ?_⟩
    obtain ⟨a0, hj0, rfl⟩ := renL_get hj
    obtain ⟨v, hv, h1c, hr⟩ := h2 j a0 hj0
    exact ⟨v, hv, h1c, AVRep.ren a0 v (hS.imp id (fun hl => hasListL_get hj0 (by simpa [Row.hasList] using hl))) (fun g hh => hg g (refsL_get hj0 hh)) hr⟩

theorem Row.ren_cells (f : Nat → Nat) (r : Row) : (r.ren f).cells = r.cells := by cases r <;> rfl
theorem Row.ren_len (f : Nat → Nat) (r : Row) : (r.ren f).len = r.len := by cases r <;> simp [Row.ren, Row.len, renL_length]

theorem nodup_inj : ∀ {l : List Nat}, nodupB l = true → ∀ {i j : Nat} {x : Nat}, l[i]? = some x → l[j]? = some x → i = j
  | [], _, i, _, _, h, _ => by simp at h
  | a :: r, hn, i, j, x, hi, hj => by
    simp only [nodupB, Bool.and_eq_true, Bool.not_eq_true'] at hn
    have hna : ∀ k, r[k]? ≠ some a := fun k hk => by
      have : a ∈ r := List.mem_of_getElem? hk
      have hc := hn.1
      simp [this] at hc
    cases i with
    | zero =>
      cases j with
      | zero => rfl
      | succ j => simp at hi hj; subst hi; exact absurd hj (hna j)
    | succ i =>
      cases j with
      | zero => simp at hi hj; subst hj; exact absurd hi (hna i)
      | succ j => simp at hi hj; rw [nodup_inj hn.2 hi hj]

theorem place_get {ids : List Nat} {h : Nat} (hm : h ∈ ids) : ids[place ids h]? = some h := by
  unfold place
  obtain ⟨i, hi, hx⟩ := List.getElem_of_mem hm
  cases hq : ids.idxOf? h with
  | none =>
    rw [List.idxOf?, List.findIdx?_eq_none_iff] at hq
    exact absurd (hq h hm) (by simp)
  | some j =>
    simp only [Option.getD_some]
    rw [List.idxOf?] at hq
    obtain ⟨hj, he, _⟩ := List.findIdx?_eq_some_iff_getElem.1 hq
    simp at he
    rw [List.getElem?_eq_getElem hj, he]

theorem closed_get {H : Heap} {ids : List Nat} : ∀ {l : List Nat}, closedB H ids l = true → ∀ {h : Nat}, h ∈ l → ∃ r, H[h]? = some (some r) ∧ ∀ g ∈ r.ids, g ∈ ids
  | [], _, _, hm => by cases hm
  | a :: l, hc, h, hm => by
    simp only [closedB, Bool.and_eq_true] at hc
    rcases List.mem_cons.1 hm with rfl | hm
    · have h1 := hc.1
      split at h1
      · rename_i x hx
        exact ⟨x, hx, fun g hg => by
          have := List.all_eq_true.1 h1 g hg
          simpa using this⟩
      · cases h1
    · exact closed_get hc.2 hm

theorem fresh_get {H : Heap} {base : Nat} : ∀ {n : Nat}, freshB H base n = true → ∀ {j : Nat}, j < n → H[base + j]? = some none
  | 0, _, _, hj => by omega
  | n + 1, hf, j, hj => by
    simp only [freshB, Bool.and_eq_true] at hf
    by_cases hjn : j = n
    · subst hjn
      have h1 := hf.1
      split at h1
      · assumption
      · cases h1
    · exact fresh_get hf.2 (by omega)

theorem Row.refs_ids {r : Row} {g : Nat} (h : r.refs g = true) : g ∈ r.ids := by
  cases r with
  | seq t xs => simp [Row.refs] at h
  | box cs => exact refsL_ids cs g h

/-! putRows -/

theorem putRows_length (f : Nat → Nat) : ∀ (Hs : Heap) (n : Nat) (H : Heap), (putRows f n Hs H).length = H.length
  | [], _, _ => rfl
  | r :: rest, n, H => by
    simp only [putRows]
    rw [putRows_length f rest]
    split <;> simp

theorem putRows_miss (f : Nat → Nat) (g : Nat) : ∀ (Hs : Heap) (n : Nat) (H : Heap), (∀ (j : Nat) r, Hs[j]? = some (some r) → f (n + j) ≠ g) → (putRows f n Hs H)[g]? = H[g]?
  | [], _, _, _ => rfl
  | r :: rest, n, H, h => by
    simp only [putRows]
    rw [putRows_miss f g rest (n + 1) _ (fun j x hx => by
      have := h (j + 1) x (by simpa using hx)
      rw [show n + 1 + j = n + (j + 1) by omega]; exact this)]
    split
    · rename_i x
      have := h 0 x rfl
      simp only [Nat.add_zero] at this
      rw [List.getElem?_set_ne this]
    · rfl

theorem putRows_hit (f : Nat → Nat) : ∀ (Hs : Heap) (n : Nat) (H : Heap) (j : Nat) (r : Row), Hs[j]? = some (some r) → f (n + j) < H.length → (∀ (i : Nat) x, Hs[i]? = some (some x) → f (n + i) = f (n + j) → i = j) →
    (putRows f n Hs H)[f (n + j)]? = some (some (r.ren f))
  | [], _, _, _, _, h, _, _ => by simp at h
  | y :: rest, n, H, 0, r, h, hl, hinj => by
    simp at h
    subst h
    simp only [putRows, Nat.add_zero]
    rw [putRows_miss f (f n) rest (n + 1) _ (fun j x hx e => by
      have := hinj (j + 1) x (by simpa using hx) (by rw [show n + (j + 1) = n + 1 + j by omega]; exact e)
      omega)]
    simp at hl
    simp [hl]
  | y :: rest, n, H, j + 1, r, h, hl, hinj => by
    simp at h
    simp only [putRows]
    have e : n + (j + 1) = n + 1 + j := by omega
    rw [e] at hl ⊢
    refine putRows_hit f rest (n + 1) _ j r h (by split <;> simpa using hl) (fun i x hx he => ?_)
    have := hinj (i + 1) x (by simpa using hx) (by rw [show n + (i + 1) = n + 1 + i by omega, e]; exact he)
    omega

end Go.Rv
