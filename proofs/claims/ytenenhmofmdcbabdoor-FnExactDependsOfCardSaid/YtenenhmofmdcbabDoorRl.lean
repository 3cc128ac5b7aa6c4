/-
  Soundness of the abstract run, a part. Conditions: none.
-/
import Derived.Test.YtenenhmofmdcbabDoorRk
set_option linter.unusedSimpArgs false
set_option linter.unusedVariables false
namespace Go.Rv

section
variable {P : Program} {T : TT} {B : Base} {s : St} {tmps : Array Value} {w : World} {ι : Plc}

theorem scrub_refs {h : Nat} {a : AV} {x : Nat} (hx : (scrub h a).refs x = true) : a.refs x = true ∧ x ≠ h := by
  unfold scrub at hx
  cases hc : a.refs h with
  | true => rw [hc] at hx; simp [AV.refs] at hx
  | false =>
    rw [hc] at hx
    simp at hx
    exact ⟨hx, fun e => by subst e; rw [hx] at hc; cases hc⟩

theorem scrub_or (h : Nat) (a : AV) : scrub h a = a ∨ scrub h a = .undef := by
  unfold scrub
  cases a.refs h <;> simp

theorem refsL_map_scrub {h : Nat} {x : Nat} : ∀ {cs : List AV}, refsL (cs.map (scrub h)) x = true → refsL cs x = true ∧ x ≠ h
  | [], hx => by simp [refsL] at hx
  | a :: r, hx => by
    simp only [List.map_cons, refsL, Bool.or_eq_true] at hx
    rcases hx with hx | hx
    · have := scrub_refs hx; exact ⟨by simp [refsL, this.1], this.2⟩
    · have := refsL_map_scrub hx; exact ⟨by simp [refsL, this.1], this.2⟩

theorem scrubRow_rep {w : World} {S : Nat → Prop} {σ : Nat → Option Sum} {q : Option (Nat × Nat × Nat)} {h : Nat} {r : Row} (hr : RowRep w S σ q r) : RowRep w S σ q (scrubRow h r) := by
  cases r with
  | seq u xs => exact hr
  | box cs =>
    obtain ⟨b, o, c, cur, e, hp, hb, hall⟩ := hr
    refine ⟨b, o, c, cur, e, hp, hb, fun j a hj => ?_⟩
    rw [List.getElem?_map] at hj
    cases hc : cs[j]? with
    | none => simp [hc] at hj
    | some a0 =>
      simp [hc] at hj
      obtain ⟨v, h1, h2, h3⟩ := hall j a0 hc
      refine ⟨v, h1, h2, ?_⟩
      rcases scrub_or h a0 with e | e <;> rw [← hj, e]
      · exact h3
      · trivial

/-- A row that has grown: all that referred to it is forgotten. -/
theorem Inv.grow (h : Inv B s tmps w ι) {g : Nat} {r0 : Row} (hg : s.heap[g]? = some (some r0)) (hk : B.k ≤ g) (u : Ty) (ys : List u.den) {w' : World} {p : Option (Nat × Nat × Nat)}
    (hkept : Kept (stab w ι s.heap) w w') (hoth : ∀ (h' : Nat) (r1 : Row) q, h' ≠ g → s.heap[h']? = some (some r1) → ι h' = some q → w'.heap[q.1]? = w.heap[q.1]?)
    (hplace : ∀ q, p = some q → (q.1 < w'.heap.size ∧ ¬ stab w ι s.heap q.1 ∧ ∀ (h' : Nat) (r1 : Row) q', h' ≠ g → s.heap[h']? = some (some r1) → ι h' = some q' → q'.1 ≠ q.1))
    (hown : ∀ q, p = some q → B.D q.1)
    (hrow : Trans w ι s.heap w' (setPlc ι g p) ((s.scrub g).setRow g (.seq u ys)).heap (fun x => x ≠ g ∧ ∃ r1, s.heap[x]? = some (some r1)) →
      RowRep w' (dst B.D w' (setPlc ι g p) ((s.scrub g).setRow g (.seq u ys)).heap) (sumOf (setPlc ι g p) ((s.scrub g).setRow g (.seq u ys)).heap) p (.seq u ys)) :
    Inv B ((s.scrub g).setRow g (.seq u ys)) tmps w' (setPlc ι g p) ∧ sumOf (setPlc ι g p) ((s.scrub g).setRow g (.seq u ys)).heap g = some ⟨p, u.cells, ys.length⟩ := by
  have hlt : g < s.heap.length := (List.getElem?_eq_some_iff.1 hg).1
  refine ⟨h.turn (s' := (s.scrub g).setRow g (.seq u ys)) (g := g) (r := .seq u ys) (p := p) (fun x => x ≠ g ∧ ∃ r1, s.heap[x]? = some (some r1)) (by simp [St.setRow, St.scrub, hlt]) ?_ ?_ hkept hoth hplace ?_ (fun x hx => hx.2) hrow ?_ ?_ hown, ?_⟩
  · intro h' r' hne hr'
    simp only [St.setRow, St.scrub] at hr'
    rw [List.getElem?_set_ne (Ne.symm hne), List.getElem?_map] at hr'
    cases hc : s.heap[h']? with
    | none => simp [hc] at hr'
    | some x =>
      cases x with
      | none => simp [hc] at hr'
      | some r1 =>
        simp [hc] at hr'
        subst hr'
        refine ⟨r1, rfl, by cases r1 <;> rfl, by cases r1 <;> simp [scrubRow, Row.len], fun S σ w q hh => scrubRow_rep hh, fun x hx => ?_⟩
        cases r1 with
        | seq u xs => simp [scrubRow, Row.refs] at hx
        | box cs =>
          simp only [scrubRow, Row.refs] at hx
          have := refsL_map_scrub hx
          refine ⟨this.2, ?_⟩
          obtain ⟨q, hq⟩ := (h.hrep.rows h' _ hc).refs_some x this.1
          exact sumOf_some hq
  · intro h' r1 hne hr1
    exact ⟨scrubRow g r1, by simp only [St.setRow, St.scrub]; rw [List.getElem?_set_ne (Ne.symm hne), List.getElem?_map, hr1]; rfl⟩
  · rintro ⟨hne, _⟩; exact absurd rfl hne
  · intro i a ha
    simp only [St.setRow, St.scrub, List.getElem?_map] at ha
    cases hc : s.env[i]? with
    | none => simp [hc] at ha
    | some a0 =>
      simp [hc] at ha
      obtain ⟨v, hv, hr⟩ := h.env i a0 hc
      refine ⟨v, hv, .inl ⟨a0, hr, by rw [← ha]; exact scrub_or g a0, fun x hx => ?_⟩⟩
      rw [← ha] at hx
      have := scrub_refs hx
      refine ⟨this.2, ?_⟩
      obtain ⟨q, hq⟩ := AVRep.refs_some a0 v x hr this.1
      exact sumOf_some hq
  · intro hk'; omega
  · simp only [St.setRow]
    exact sumOf_set_self (by simp [St.scrub, hlt])

theorem append_grow (hI : Inv B s tmps w ι) {g : Nat} {r0 : Row} (hg : s.heap[g]? = some (some r0)) (hk : B.k ≤ g) {u : Ty} {zs ys : List u.den} {place : Option (Nat × Nat × Nat)}
    (hpl : ∀ b o c, place = some (b, o, c) → ∃ o' c', ι g = some (b, o', c')) (hcm : ∀ b o c, place = some (b, o, c) → c ≤ maxLen) {v' : Value} {w' : World} {p : Option (Nat × Nat × Nat)}
    (h : AppendEnds w (dst B.D w ι s.heap) u zs ys place v' w' p) :
    ∃ ι', Inv B ((s.scrub g).setRow g (.seq u (zs ++ ys))) tmps w' ι' ∧ AVRep w' (dst B.D w' ι' ((s.scrub g).setRow g (.seq u (zs ++ ys))).heap) (sumOf ι' ((s.scrub g).setRow g (.seq u (zs ++ ys))).heap) (.slc g) v' := by
  rcases h with ⟨rfl, rfl, rfl, rfl, a, rfl⟩ | ⟨b, o, c, cur, e, cur', hp, rfl, hb, rfl, rfl, hle, hsz, hseq⟩ | ⟨c, cur, e, rfl, rfl, rfl, hle, hcm', hsz, hseq⟩
  · obtain ⟨h1, h2⟩ := hI.grow hg hk u ([] ++ []) (w' := w') (p := none) (Kept.refl _ _) (fun _ _ _ _ _ _ => rfl) (by intro q hq; cases hq) (by intro q hq; cases hq) (fun _ => by simp [RowRep])
    exact ⟨_, h1, _, h2, by simp, by simp, a, by simp⟩
  · obtain ⟨o', c', hι⟩ := hpl b o c hp
    have hns : ¬ stab w ι s.heap b := fun hs => hs.2 g r0 _ hg hι rfl
    obtain ⟨h1, h2⟩ := hI.grow hg hk u (zs ++ ys) (w' := w.setRow b cur') (p := some (b, o, c)) ⟨rfl, rfl, rfl, by simp, fun x hx => setRow_other w b x cur' (fun e => hns (e ▸ hx)), frz_setRow _ _ _⟩
      (fun h' r1 q hne hr1 hq => setRow_other w b q.1 cur' (fun e => hI.hrep.sep h' g r1 r0 q _ hr1 hg hq hι hne e))
      (by
        intro q hq
        cases hq
        exact ⟨by simp; exact (Array.getElem?_eq_some_iff.1 hb).1, hns, fun h' r1 q' hne hr1 hq' => by
          have := hI.hrep.sep h' g r1 r0 q' (b, o', c') hr1 hg hq' hι hne
          exact this⟩)
      (by intro q hq; cases hq; exact hI.hrep.own g r0 (b, o', c') hg hι)
      (fun ht => ⟨cur', e, setRow_heap w b cur _ e _ hb, hsz, by simpa using hle, hcm b o c hp, fun i x hx => by
        obtain ⟨cs, hd, hc⟩ := hseq i x hx
        exact ⟨cs, ht.dat hd, hc⟩⟩)
    exact ⟨_, h1, _, h2, by simpa using hle, .inl (by simp)⟩
  · have hsz' : (w.drew.alloc (.cells cur e)).heap.size = w.heap.size + 1 := by simp
    obtain ⟨h1, h2⟩ := hI.grow hg hk u (zs ++ ys) (w' := w.drew.alloc (.cells cur e)) (p := some (w.heap.size, 0, c)) ⟨rfl, rfl, rfl, by omega, fun x hx => heap_alloc_old w.drew _ x hx.1, fun a => frz_alloc w.drew _ _ a⟩
      (fun h' r1 q hne hr1 hq => by
        have := hI.hrep.rows h' r1 hr1
        rw [hq] at this
        exact heap_alloc_old w.drew _ _ this.lt)
      (by
        intro q hq
        cases hq
        refine ⟨by omega, fun hs => Nat.lt_irrefl _ hs.1, fun h' r1 q' hne hr1 hq' => ?_⟩
        have := hI.hrep.rows h' r1 hr1
        rw [hq'] at this
        exact Nat.ne_of_lt this.lt)
      (by intro q hq; cases hq; exact B.new _ hI.kept.size)
      (fun ht => ⟨cur, e, heap_alloc_new w.drew _, by simpa using hsz, by simpa using hle, hcm', fun i x hx => by
        obtain ⟨cs, hd, hc⟩ := hseq i x hx
        exact ⟨cs, ht.dat hd, hc⟩⟩)
    exact ⟨_, h1, _, h2, by simpa using hle, .inl (by simp)⟩

theorem room_unit {n : Nat} {β : Type} {f : Unit → Option β} {r : β} (h : (room n).bind f = some r) : room n = some () ∧ f () = some r := by
  cases hr : room n with
  | none => simp [hr] at h
  | some x => cases x; simp [hr] at h; exact ⟨rfl, h⟩

theorem aappend_ok {C : Ctx} (hT : TOk P C.T) (hk : C.k = B.k) (hI : Inv B s tmps w ι) {β : Type} {base : Nat} {t ty : TypeId} {x y : AV} {K : AV → St → Option β} {r : β} (h : aappend (optAlg β) C base s t x y K = some r) {vx vy : Value}
    (hx : AVRep w (dst B.D w ι s.heap) (sumOf ι s.heap) x vx) (hy : AVRep w (dst B.D w ι s.heap) (sumOf ι s.heap) y vy) :
    ∃ a v s' w' ι', K a s' = some r ∧ (Builtin.append_ #[t, t] ty #[vx, vy]).run P w = .ok v w' ∧ Inv B s' tmps w' ι' ∧ AVRep w' (dst B.D w' ι' s'.heap) (sumOf ι' s'.heap) a v := by
  unfold aappend at h
  split at h
  · rename_i ie hie
    split at h
    · rename_i u hu
      split at h
      · rename_i hc
        obtain ⟨hc1, hc2, hc3, hc4⟩ := hc
        have hzl : ie.zero.length = u.cells := by have := zero_len hc4; omega
        split at h
        · rename_i ys hys
          have hyr := elems_rep hI hys hy
          simp only [optAlg] at h
          split at h
          · obtain ⟨hroom, h⟩ := room_unit h
            obtain ⟨hfree, h⟩ := allocRow_opt h
            obtain ⟨v', w', p, hrun, hend⟩ := append_run (ty := ty) (place := none) hT hie hc1 hc2 hc3 hzl (zs := []) (ys := ys) (by simpa using hroom) (.inl ⟨rfl, hx⟩) hyr
            rcases hend with ⟨_, rfl, rfl, rfl, a, rfl⟩ | ⟨b, o, c, cur, e, cur', hp, _⟩ | ⟨c, cur, e, rfl, rfl, rfl, hle, hcm', hsz, hseq⟩
            · refine ⟨_, _, _, _, _, h, hrun, hI.addNil hfree u, _, sumOf_set_self (List.getElem?_eq_some_iff.1 hfree).1, ?_⟩
              exact ⟨rfl, rfl, a, rfl⟩
            · cases hp
            · obtain ⟨hA, hB⟩ := (hI.drew (w.drawn + 1)).newSeq hfree u ys cur e c hsz (by simpa using hle) hcm' (by
                intro i x hx
                obtain ⟨cs, hd, hc⟩ := hseq i x (by simpa using hx)
                exact ⟨cs, DCells.mono (w := w) (w' := { w with drawn := w.drawn + 1 }) (S := dst B.D w ι s.heap) (S' := dst B.D { w with drawn := w.drawn + 1 } ι s.heap) (Nat.le_refl _) (fun b hb _ => ⟨hb, rfl⟩) u x cs hd, hc⟩)
              exact ⟨_, _, _, _, _, h, hrun, hA, by simpa using hB⟩
          · rename_i g
            split at h
            · rename_i u' xs hrow
              have hr := row_eq hrow
              split at h
              · rename_i xs' hcast
                obtain ⟨e, hxs⟩ := castD_some hcast
                cases e
                have hxs : xs' = xs := hxs
                subst hxs
                split at h
                · rename_i hkg
                  obtain ⟨hroom, h⟩ := room_unit h
                  obtain ⟨q, hq, hw⟩ := hx
                  have hq' := sum_of_row hr hq
                  subst hq'
                  have hrr := hI.hrep.rows g _ hr
                  obtain ⟨v', w', p, hrun, hend⟩ := append_run (ty := ty) (place := ι g) (S := dst B.D w ι s.heap) hT hie hc1 hc2 hc3 hzl (zs := xs') (ys := ys) hroom (vx := vx) (by
                    unfold WinAt at hw
                    simp only at hw
                    split at hw
                    · rename_i b o c hp
                      rw [hp] at hrr
                      obtain ⟨cur, e, h1, h2, h3, h4, h5⟩ := hrr
                      obtain ⟨hle, rfl | ⟨hc0, a, rfl⟩⟩ := hw
                      · exact .inr ⟨b, o, c, cur, e, hp, by simp, h1, h3, h4, h2, h5⟩
                      · exact .inl ⟨List.eq_nil_of_length_eq_zero (by omega), a, rfl⟩
                    · obtain ⟨_, hz, a, rfl⟩ := hw
                      exact .inl ⟨List.eq_nil_of_length_eq_zero hz, a, rfl⟩) hyr
                  obtain ⟨ι', hA, hB⟩ := append_grow hI hr (by omega) (fun b o c hp => ⟨o, c, hp⟩) (fun b o c hp => by
                    rw [hp] at hrr
                    obtain ⟨cur, e, h1, h2, h3, h4, h5⟩ := hrr
                    exact h4) hend
                  exact ⟨_, _, _, _, ι', h, hrun, hA, hB⟩
                · cases h
              · cases h
            · cases h
          · rename_i g off len
            split at h
            · rename_i u' xs hrow
              have hr := row_eq hrow
              split at h
              · rename_i xs' hcast
                obtain ⟨e, hxs⟩ := castD_some hcast
                cases e
                have hxs : xs' = xs := hxs
                subst hxs
                split at h
                · rename_i hkg
                  obtain ⟨hroom, h⟩ := room_unit h
                  obtain ⟨q, hq, hl, hw⟩ := hx
                  have hq' := sum_of_row hr hq
                  subst hq'
                  simp only at hl
                  have hrr := hI.hrep.rows g _ hr
                  have hlen : ((xs'.drop off).take len).length = len := by simp; omega
                  obtain ⟨v', w', p, hrun, hend⟩ := append_run (ty := ty) (place := match ι g with | some (b, o, c) => some (b, o + off * u.cells, c - off) | none => none) (S := dst B.D w ι s.heap) hT hie hc1 hc2 hc3 hzl (zs := (xs'.drop off).take len) (ys := ys) (by rw [hlen]; exact hroom) (vx := vx) (by
                    unfold WinAt at hw
                    simp only at hw
                    split at hw
                    · rename_i b o c hp
                      rw [hp] at hrr
                      obtain ⟨cur, e, h1, h2, h3, h4, h5⟩ := hrr
                      obtain ⟨hle, rfl | ⟨hc0, a, rfl⟩⟩ := hw
                      · refine .inr ⟨b, o + off * u.cells, c - off, cur, e, by simp [hp], by rw [hlen], h1, by omega, by omega, ?_, fun i x hx => ?_⟩
                        · rw [h2, Nat.add_assoc, ← Nat.add_mul]; congr 2; omega
                        · have hx' : xs'[off + i]? = some x := by
                            rw [List.getElem?_take] at hx
                            split at hx
                            · rw [List.getElem?_drop] at hx; exact hx
                            · cases hx
                          obtain ⟨cs, hd, hc⟩ := h5 _ x hx'
                          refine ⟨cs, hd, fun j v hv => ?_⟩
                          have := hc j v hv
                          rw [Nat.add_mul] at this
                          rw [← this]; congr 1; omega
                      · exact .inl ⟨List.eq_nil_of_length_eq_zero (by omega), a, rfl⟩
                    · obtain ⟨_, hz, a, rfl⟩ := hw
                      exact .inl ⟨List.eq_nil_of_length_eq_zero (by omega), a, rfl⟩) hyr
                  obtain ⟨ι', hA, hB⟩ := append_grow hI hr (by omega) (fun b o c hp => by
                    cases hι : ι g with
                    | none => rw [hι] at hp; cases hp
                    | some q =>
                      obtain ⟨b0, o0, c0⟩ := q
                      rw [hι] at hp
                      simp at hp
                      exact ⟨o0, c0, by rw [hp.1]⟩) (fun b o c hp => by
                    cases hι : ι g with
                    | none => rw [hι] at hp; cases hp
                    | some q =>
                      obtain ⟨b0, o0, c0⟩ := q
                      rw [hι] at hp hrr
                      obtain ⟨cur, e, h1, h2, h3, h4, h5⟩ := hrr
                      simp at hp
                      omega) hend
                  exact ⟨_, _, _, _, ι', h, hrun, hA, hB⟩
                · cases h
              · cases h
            · cases h
          · cases h
        · cases h
      · cases h
    · cases h
  · cases h

end
end Go.Rv
