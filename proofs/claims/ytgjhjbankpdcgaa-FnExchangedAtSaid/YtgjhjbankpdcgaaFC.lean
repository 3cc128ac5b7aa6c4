/-
  The framework: rows that own rows. Conditions: none.
-/
import Derived.Test.YtgjhjbankpdcgaaFA
set_option linter.unusedSimpArgs false
set_option linter.unusedVariables false
namespace Go.Rv

section
variable {P : Program} {T : TT} {B : Base} {s : St} {tmps : Array Value} {w : World} {ι : Plc}

theorem DCells.list_of {S : Nat → Prop} {u : Ty} {xs : List u.den} {b o c : Nat} (hle : xs.length ≤ c) (hb : S b) (hlt : b < w.heap.size)
    (hall : ∀ (i : Nat) x, xs[i]? = some x → ∃ cs, DCells w S u x cs ∧ HasCells w b (o + i * u.cells) cs) : DCells w S (.list u) xs [.slice (some ⟨b, o, none⟩) xs.length c] :=
  ⟨some ⟨b, o, none⟩, c, rfl, hle, .inr ⟨b, o, rfl, hb, hlt, hall⟩⟩

/-- What a slice of ours shows, as a datum. -/
theorem slc_dat (hH : HRep B.D w ι s.heap) {S1 : Nat → Prop} (hS : ∀ b, dst B.D w ι s.heap b → S1 b) {g : Nat} {u : Ty} {xs : List u.den} (hr : s.heap[g]? = some (some (.seq u xs))) (hown : ∀ p, ι g = some p → S1 p.1)
    {off len : Nat} {q : Sum} (hq : sumOf ι s.heap g = some q) (hl : off + len ≤ q.len) {v : Value} (hw : WinAt q off len v) : DCells w S1 (.list u) ((xs.drop off).take len) [v] := by
  have hq' := sum_of_row hr hq
  subst hq'
  simp only at hl
  have hlen : ((xs.drop off).take len).length = len := by simp; omega
  unfold WinAt at hw
  simp only at hw
  split at hw
  · rename_i b o c hp
    obtain ⟨hle, rfl | ⟨h0, a, rfl⟩⟩ := hw
    · have hrr := hH.rows g _ hr
      rw [hp] at hrr
      have hlt : b < w.heap.size := hrr.lt
      have := DCells.list_of (w := w) (S := S1) (u := u) (xs := (xs.drop off).take len) (b := b) (o := o + off * u.cells) (c := c - off) (by omega) (hown _ hp) hlt (fun i x hx => by
        have hx' : xs[off + i]? = some x := by
          rw [List.getElem?_take] at hx
          split at hx
          · rw [List.getElem?_drop] at hx; exact hx
          · cases hx
        obtain ⟨cs, hd, hc⟩ := seq_cells hH hr hp hx'
        exact ⟨cs, DCells.sub hS hd, by rw [Nat.add_assoc, ← Nat.add_mul]; exact hc⟩)
      rw [hlen] at this
      exact this
    · have hz : len = 0 := by omega
      subst hz
      exact ⟨a, 0, by simp, by simp, .inl (by simp)⟩
  · obtain ⟨_, hz, a, rfl⟩ := hw
    subst hz
    exact ⟨a, 0, by simp, by simp, .inl (by simp)⟩

/-- A slice of a whole row, as append takes it. -/
theorem win_seq {S : Nat → Prop} {σ : Nat → Option Sum} {u : Ty} {xs : List u.den} {p : Option (Nat × Nat × Nat)} {v : Value} (hrr : RowRep w S σ p (.seq u xs)) (hw : WinAt ⟨p, u.cells, xs.length⟩ 0 xs.length v) :
    (xs = [] ∧ ∃ a, v = .slice a 0 0) ∨ (∃ b o c cur e, p = some (b, o, c) ∧ v = .slice (some ⟨b, o, none⟩) xs.length c ∧ w.heap[b]? = some (.cells cur e (0, 0)) ∧ xs.length ≤ c ∧ c ≤ maxLen ∧ cur.size = o + c * u.cells ∧ SeqRep w S u xs cur o) := by
  unfold WinAt at hw
  simp only at hw
  split at hw
  · rename_i b o c
    obtain ⟨cur, e, h1, h2, h3, h4, h5⟩ := hrr
    obtain ⟨hle, rfl | ⟨hc0, a, rfl⟩⟩ := hw
    · exact .inr ⟨b, o, c, cur, e, rfl, by simp, h1, h3, h4, h2, h5⟩
    · exact .inl ⟨List.eq_nil_of_length_eq_zero (by omega), a, rfl⟩
  · obtain ⟨_, hz, a, rfl⟩ := hw
    exact .inl ⟨List.eq_nil_of_length_eq_zero hz, a, rfl⟩

/-- One of its rows, as a datum. -/
theorem nest_cell {D : Nat → Prop} {H : Heap} (hH : HRep D w ι H) {S1 : Nat → Prop} (hS : ∀ b, dst D w ι H b → S1 b) {g : Nat} {t : Ty} {xss : List (List t.den)} {m : Nat} (hr : H[g]? = some (some (.nest t xss m []))) (hown : ∀ b, Occ ι H g b → S1 b)
    {b o c : Nat} (hp : ι g = some (b, o, c)) {i : Nat} {x : List t.den} (hx : xss[i]? = some x) :
    ∃ v, w.cell? ⟨b, o + i, none⟩ = some v ∧ DCells w S1 (.list t) x [v] := by
  have hN := hH.nest g t xss m [] hr
  have hil := (List.getElem?_eq_some_iff.1 hx).1
  obtain ⟨b', o', c', cur, e, v, hp', hb', hc', hwv⟩ := hN.cell _ x hx (by simp; omega)
  rw [hp] at hp'
  cases hp'
  refine ⟨v, by rw [cells_of_block hb']; exact hc', ?_⟩
  have hpart := hN.part _ x hx
  rcases win_seq hpart hwv with ⟨rfl, a, rfl⟩ | ⟨b2, o2, c2, cur2, e2, hp2, rfl, hb2, hxc, hcm, hsz, hseq⟩
  · exact ⟨a, 0, rfl, Nat.le_refl _, .inl rfl⟩
  · refine DCells.list_of hxc (hown _ (.inn t xss m [] _ _ hr hil hp2 rfl)) (Array.getElem?_eq_some_iff.1 hb2).1 (fun j y hy => ?_)
    obtain ⟨cs, hd, hcs⟩ := hseq j y hy
    exact ⟨cs, DCells.sub hS hd, fun k z hz => by rw [cells_of_block hb2]; exact hcs k z hz⟩

/-- What a slice of a row that owns rows shows, as a datum. -/
theorem nest_dat {D : Nat → Prop} {H : Heap} (hH : HRep D w ι H) {S1 : Nat → Prop} (hS : ∀ b, dst D w ι H b → S1 b) {g : Nat} {t : Ty} {xss : List (List t.den)} {m : Nat} (hr : H[g]? = some (some (.nest t xss m []))) (hown : ∀ b, Occ ι H g b → S1 b)
    {off len : Nat} {q : Sum} (hq : sumOf ι H g = some q) (hl : off + len ≤ q.len) {v : Value} (hw : WinAt q off len v) : DCells w S1 (.list (.list t)) ((xss.drop off).take len) [v] := by
  have hq' : q = ⟨ι g, 1, xss.length⟩ := by
    rw [sumOf_of hr] at hq
    cases hq
    rfl
  subst hq'
  simp only at hl
  have hN := hH.nest g t xss m [] hr
  have hlen : ((xss.drop off).take len).length = len := by simp; omega
  unfold WinAt at hw
  simp only at hw
  split at hw
  · rename_i b o c hp
    obtain ⟨hle, rfl | ⟨h0, a, rfl⟩⟩ := hw
    · have hrr := hH.rows g _ hr
      rw [hp] at hrr
      have hlt : b < w.heap.size := hrr.lt
      have := DCells.list_of (w := w) (S := S1) (u := .list t) (xs := (xss.drop off).take len) (b := b) (o := o + off * 1) (c := c - off) (by omega) (hown _ (.out _ _ hr hp rfl)) hlt (fun i x hx => by
        have hx' : xss[off + i]? = some x := by
          rw [List.getElem?_take] at hx
          split at hx
          · rw [List.getElem?_drop] at hx; exact hx
          · cases hx
        obtain ⟨v, hc, hd⟩ := nest_cell hH hS hr hown hp hx'
        refine ⟨[v], hd, fun j y hy => ?_⟩
        cases j with
        | zero =>
          simp at hy
          subst hy
          rw [← hc]
          simp only [Ty.cells]
          congr 2
          omega
        | succ j => simp at hy)
      rw [hlen] at this
      exact this
    · have hz : len = 0 := by omega
      subst hz
      exact ⟨a, 0, by simp, by simp, .inl (by simp)⟩
  · obtain ⟨_, hz, a, rfl⟩ := hw
    subst hz
    exact ⟨a, 0, by simp, by simp, .inl (by simp)⟩

theorem handArg0_rep (hI : Inv B s tmps w ι) {S1 : Nat → Prop} (hS : ∀ b, dst B.D w ι s.heap b → S1 b) {io : Bool} {t : TypeId} {a x : AV} (h : handArg0 s T io t a = some x)
    (hro : ∀ g ∈ roCell a x, ∀ b, Occ ι s.heap g b → S1 b) {v : Value} (hv : AVRep w (dst B.D w ι s.heap) (sumOf ι s.heap) a v) : AVRep w S1 (sumOf ι s.heap) x v := by
  have keep : ∀ a : AV, AVRep w (dst B.D w ι s.heap) (sumOf ι s.heap) a v → AVRep w S1 (sumOf ι s.heap) a v := fun a ha =>
    AVRep.mono (Nat.le_refl _) (fun b hb _ => ⟨hS b hb, rfl⟩) a v (fun _ _ => rfl) ha
  unfold handArg0 at h
  split at h
  · rename_i g
    split at h
    · simp at h; subst h; exact keep _ hv
    · split at h
      · rename_i u xs hrow
        simp at h
        subst h
        obtain ⟨q, hq, hw⟩ := hv
        have hr := row_eq hrow
        have hq' := sum_of_row hr hq
        subst hq'
        have := slc_dat hI.hrep hS hr (fun p hp => hro g (by simp [roCell]) p.1 (.out _ p hr hp rfl)) hq (by simp) hw
        simp only [List.drop_zero, List.take_length] at this
        exact this
      · rename_i u xss m hrow
        simp at h
        subst h
        obtain ⟨q, hq, hw⟩ := hv
        have hr := row_eq hrow
        have hl : q.len = xss.length := by
          rw [sumOf_of hr] at hq
          cases hq
          rfl
        have := nest_dat hI.hrep hS hr (hro g (by simp [roCell])) hq (by omega) hw
        rw [hl] at this
        simp only [List.drop_zero, List.take_length] at this
        exact this
      · cases h
  · rename_i g off len
    split at h
    · cases h
    · split at h
      · rename_i u xs hrow
        simp at h
        subst h
        obtain ⟨q, hq, hl, hw⟩ := hv
        exact slc_dat hI.hrep hS (row_eq hrow) (fun p hp => hro g (by simp [roCell]) p.1 (.out _ p (row_eq hrow) hp rfl)) hq hl hw
      · cases h
  · split at h
    · simp at h; subst h; exact keep _ hv
    · split at h
      · split at h
        · simp at h; subst h
          obtain ⟨a, rfl⟩ := hv
          exact ⟨a, 0, rfl, Nat.le_refl _, .inl rfl⟩
        · cases h
      · cases h
  · cases h
  · cases h
  · cases h
  · cases h
  · simp at h; subst h; exact keep _ hv

theorem handCell_rep (hI : Inv B s tmps w ι) {S1 : Nat → Prop} (hS : ∀ b, dst B.D w ι s.heap b → S1 b) {a x : AV} (h : handCell s a = some x)
    (hro : ∀ g ∈ roCell a x, ∀ b, Occ ι s.heap g b → S1 b) {v : Value} (hv : AVRep w (dst B.D w ι s.heap) (sumOf ι s.heap) a v) : AVRep w S1 (sumOf ι s.heap) x v := by
  unfold handCell at h
  split at h
  · exact handArg0_rep hI hS h hro hv
  · exact handArg0_rep hI hS h hro hv
  · cases h
    exact AVRep.mono (Nat.le_refl _) (fun b hb _ => ⟨hS b hb, rfl⟩) _ _ (fun _ _ => rfl) hv

theorem handCells_rep (hI : Inv B s tmps w ι) {S1 : Nat → Prop} (hS : ∀ b, dst B.D w ι s.heap b → S1 b) : ∀ (as xs : List AV) (vs : List Value), handCells s as = some xs →
    (∀ g ∈ roCells as xs, ∀ b, Occ ι s.heap g b → S1 b) → AVsRep w (dst B.D w ι s.heap) (sumOf ι s.heap) as vs → AVsRep w S1 (sumOf ι s.heap) xs vs
  | [], xs, vs, h, _, hv => by
    simp only [handCells, Option.some.injEq] at h
    subst h
    exact hv
  | a :: r, xs, vs, h, hro, hv => by
    simp only [handCells] at h
    split at h
    · rename_i x l hx hl
      cases h
      obtain ⟨v, vr, rfl, h1, h2⟩ := hv
      simp only [roCells] at hro
      exact ⟨v, vr, rfl, handCell_rep hI hS hx (fun g hg => hro g (List.mem_append_left _ hg)) h1, handCells_rep hI hS r l vr hl (fun g hg => hro g (List.mem_append_right _ hg)) h2⟩
    · cases h

theorem handArg_rep (hI : Inv B s tmps w ι) {S1 : Nat → Prop} (hS : ∀ b, dst B.D w ι s.heap b → S1 b) {io : Bool} {t : TypeId} {a x : AV} (h : handArg s T io t a = some x)
    (hro : ∀ g ∈ roArg a x, ∀ b, Occ ι s.heap g b → S1 b) {v : Value} (hv : AVRep w (dst B.D w ι s.heap) (sumOf ι s.heap) a v) : AVRep w S1 (sumOf ι s.heap) x v := by
  unfold handArg at h
  split at h
  · rename_i cs
    cases io with
    | true =>
      cases h
      exact AVRep.mono (Nat.le_refl _) (fun b hb _ => ⟨hS b hb, rfl⟩) _ _ (fun _ _ => rfl) hv
    | false =>
      simp only [cond_false] at h
      obtain ⟨ds, hd, rfl⟩ := Option.map_eq_some_iff.1 h
      obtain ⟨vs, e, hvs⟩ := hv
      exact ⟨vs, e, handCells_rep hI hS cs ds vs hd hro hvs⟩
  · rename_i hne
    refine handArg0_rep hI hS h (fun g hg => hro g ?_) hv
    unfold roArg
    split
    · rename_i cs ds
      exact absurd rfl (hne cs)
    · exact hg

theorem handArgs_rep (hI : Inv B s tmps w ι) {S1 : Nat → Prop} (hS : ∀ b, dst B.D w ι s.heap b → S1 b) {io : Nat → Bool} : ∀ (as : List AV) (n : Nat) (ts : List TypeId) (xs : List AV) (vs : List Value), handArgs s T io n ts as = some xs →
    (∀ g ∈ roIds as xs, ∀ b, Occ ι s.heap g b → S1 b) → AVsRep w (dst B.D w ι s.heap) (sumOf ι s.heap) as vs → AVsRep w S1 (sumOf ι s.heap) xs vs
  | [], n, ts, xs, vs, h, _, hv => by
    cases ts <;> simp [handArgs] at h <;> subst h <;> exact hv
  | a :: r, n, [], xs, vs, h, _, hv => by simp [handArgs] at h
  | a :: r, n, t :: ts, xs, vs, h, hro, hv => by
    simp only [handArgs] at h
    split at h
    · rename_i x l hx hl
      simp at h
      subst h
      obtain ⟨v, vr, rfl, h1, h2⟩ := hv
      have hsplit : roIds (a :: r) (x :: l) = roArg a x ++ roIds r l := by
        simp [roIds]
      rw [hsplit] at hro
      exact ⟨v, vr, rfl, handArg_rep hI hS hx (fun g hg => hro g (List.mem_append_left _ hg)) h1, handArgs_rep hI hS r (n + 1) ts l vr hl (fun g hg => hro g (List.mem_append_right _ hg)) h2⟩
    · cases h

theorem sub_get {H : Heap} {ids : List Nat} {j : Nat} {r : Row} (h : (subHeap H ids)[j]? = some (some r)) : ∃ g r0, ids[j]? = some g ∧ H[g]? = some (some r0) ∧ r = r0.ren (place ids) := by
  unfold subHeap at h
  rw [List.getElem?_map] at h
  cases hi : ids[j]? with
  | none => simp [hi] at h
  | some g =>
    simp only [hi, Option.map_some] at h
    cases hg : H[g]? with
    | none => simp [hg] at h
    | some x =>
      cases x with
      | none => simp [hg] at h
      | some r0 => simp [hg] at h; exact ⟨g, r0, rfl, hg, h.symm⟩

theorem sub_of {H : Heap} {ids : List Nat} {j g : Nat} {r0 : Row} (hi : ids[j]? = some g) (hg : H[g]? = some (some r0)) : (subHeap H ids)[j]? = some (some (r0.ren (place ids))) := by
  simp [subHeap, hi, hg]

theorem acall_ok {C : Ctx} (horc : ∀ f, Sound P f (C.orc f)) (hkk : C.k = B.k) (hmv : ∀ g, C.mv.contains g = true → B.mv g = true) (hI : Inv B s tmps w ι) {β : Type} {base : Nat} {f : FuncId} {args : List AV} {types : List TypeId} (hso : mvOk C s f args types = true) {K : AV → St → Option β} {r : β}
    (h : acall (optAlg β) C base s f args types K = some r) {vs : List Value} (hv : AVsRep w (dst B.D w ι s.heap) (sumOf ι s.heap) args vs) :
    ∃ a s', K a s' = some r ∧ Calls P f vs.toArray w (fun e w' => ∃ v ι', e = .returned v ∧ Inv B s' tmps w' ι' ∧ AVRep w' (dst B.D w' ι' s'.heap) (sumOf ι' s'.heap) a v) := by
  unfold acall at h
  split at h
  · cases h
  · rename_i avs havs
    simp only at h
    split at h
    · rename_i hchk
      unfold mvOk at hso
      rw [havs] at hso
      simp only at hso
      generalize hids : reach s.heap (s.heap.length + 1) 0 (addNew [] (idsL avs)) = ids at h hchk hso
      generalize hro : roIds args avs = ro at h hchk
      simp only [Bool.and_eq_true] at hchk
      obtain ⟨⟨⟨⟨hnd, hcl⟩, hall⟩, hroi⟩, hfr⟩ := hchk
      simp only [optAlg] at h
      cases horx : (C.orc f (renL (place ids) avs) (subHeap s.heap ids)).o with
      | none => simp [horx] at h
      | some qx =>
        simp only [horx, Option.bind_some, withAns_eq] at h
        generalize hq0 : (C.orc f (renL (place ids) avs) (subHeap s.heap ids)).dec qx = q at h
        obtain ⟨ra, H'⟩ := q
        have horun : (C.orc f (renL (place ids) avs) (subHeap s.heap ids)).run = some (ra, H') := by simp [Ans.run, horx, hq0]
        split at h
        · rename_i hchk2
          simp only [Bool.and_eq_true, decide_eq_true_eq] at hchk2
          obtain ⟨⟨hw1, hw2⟩, halias⟩ := hchk2
          refine ⟨_, _, h, ?_⟩
          -- the callee's view
          let ιs : Plc := ⟨fun j => match ids[j]? with | some g => ι g | none => none, fun j => match ids[j]? with | some g => ι.inn g | none => fun _ => none⟩
          have hoccs : ∀ {j b : Nat}, Occ ιs (subHeap s.heap ids) j b → ∃ g, ids[j]? = some g ∧ Occ ι s.heap g b := fun {j b} o => by
            cases o with
            | out r p hr hp e =>
              obtain ⟨g, r0, hi, hg, _⟩ := sub_get hr
              simp only [ιs, hi] at hp
              exact ⟨g, hi, .out r0 p hg hp e⟩
            | inn t xss m cs i p hr hx hp e =>
              obtain ⟨g, r0, hi, hg, h3⟩ := sub_get hr
              simp only [ιs, hi] at hp
              obtain ⟨cs0, rfl, _⟩ := Row.ren_nest h3.symm
              exact ⟨g, hi, .inn t xss m cs0 i p hg hx hp e⟩
          have hidx : ∀ g, g ∈ ids → ids[place ids g]? = some g := fun g hg => place_get hg
          have hsum : ∀ g, g ∈ ids → sumOf ιs (subHeap s.heap ids) (place ids g) = sumOf ι s.heap g := fun g hg => by
            obtain ⟨r0, hr0, _⟩ := closed_get hcl hg
            have := sub_of (hidx g hg) hr0
            simp [sumOf, this, hr0, ιs, hidx g hg, Row.ren_cells, Row.ren_len]
          have hstab : ∀ b, stab w ι s.heap b → stab w ιs (subHeap s.heap ids) b := fun b hb => by
            refine ⟨hb.1, fun j o => ?_⟩
            obtain ⟨g, _, o'⟩ := hoccs o
            exact hb.2 g o'
          have hother : ∀ g b, g ∉ ids → Occ ι s.heap g b → stab w ιs (subHeap s.heap ids) b := fun g b hng oc => by
            refine ⟨oc.lt hI.hrep, fun j o => ?_⟩
            obtain ⟨g', hi, o'⟩ := hoccs o
            have := hI.hrep.one g' g b o' oc
            exact hng (this ▸ List.mem_of_getElem? hi)
          let D1 : Nat → Prop := fun b => dst B.D w ι s.heap b ∨ (∃ g ∈ ro, Occ ι s.heap g b) ∨ w.heap.size ≤ b ∨ (∃ g ∈ ids, Occ ι s.heap g b)
          have hS : ∀ b, dst B.D w ι s.heap b → dst D1 w ιs (subHeap s.heap ids) b := fun b hb => ⟨.inl hb, hstab b hb.2⟩
          have hrorow : ∀ g ∈ ro, ∃ r0, s.heap[g]? = some (some r0) := fun g hg => by
              -- a row that was handed over is there
              have key : ∀ (as xs : List AV) (vs : List Value), AVsRep w (dst B.D w ι s.heap) (sumOf ι s.heap) as vs → g ∈ roIds as xs → ∃ r0, s.heap[g]? = some (some r0) := by
                intro as
                induction as with
                | nil => intro xs vs _ hg; cases xs <;> simp [roIds] at hg
                | cons a r ih =>
                  intro xs vs hvs hg
                  obtain ⟨v, vr, rfl, h1, h2⟩ := hvs
                  cases xs with
                  | nil => simp [roIds] at hg
                  | cons x xr =>
                    simp only [roIds, List.mem_append] at hg
                    rcases hg with hg | hg
                    · have : a.refs g = true := roArg_refs hg
                      obtain ⟨q, hq⟩ := AVRep.refs_some a v g h1 this
                      exact sumOf_some hq
                    · exact ih xr vr h2 hg
              exact key args avs vs hv (by rw [hro]; exact hg)
          have hroS : ∀ g ∈ roIds args avs, ∀ b, Occ ι s.heap g b → dst D1 w ιs (subHeap s.heap ids) b := fun g hg b oc => by
            rw [hro] at hg
            have hng : g ∉ ids := by
              have := List.all_eq_true.1 hroi g hg
              simpa using this
            exact ⟨.inr (.inl ⟨g, hg, oc⟩), hother g b hng oc⟩
          have hargs : AVsRep w (dst D1 w ιs (subHeap s.heap ids)) (sumOf ιs (subHeap s.heap ids)) (renL (place ids) avs) vs := by
            have h1 := handArgs_rep hI hS args 0 types avs vs havs hroS hv
            refine AVsRep.ren avs vs (.inl fun b hb => hb) (fun g hg => ?_) h1
            have hm : g ∈ ids := by
              have := List.all_eq_true.1 hall g (refsL_ids avs g hg)
              simpa using this
            exact hsum g hm
          have hHs : HRep D1 w ιs (subHeap s.heap ids) := by
            refine ⟨fun j r hj => ?_, fun j1 j2 b o1 o2 => ?_, fun j b o => ?_, fun j u xss m cs hj => ?_⟩
            · obtain ⟨g, r0, hi, hg, rfl⟩ := sub_get hj
              have hι : ιs j = ι g := by simp [ιs, hi]
              rw [hι]
              refine RowRep.ren (.inl hS) (fun x hx => ?_) (hI.hrep.rows g r0 hg)
              obtain ⟨r1, hr1, hin⟩ := closed_get hcl (List.mem_of_getElem? hi)
              have : r1 = r0 := by rw [hg] at hr1; simpa using hr1.symm
              subst this
              exact hsum x (hin x (Row.refs_ids hx))
            · obtain ⟨g1, hi1, o1'⟩ := hoccs o1
              obtain ⟨g2, hi2, o2'⟩ := hoccs o2
              have := hI.hrep.one g1 g2 b o1' o2'
              exact nodup_inj hnd hi1 (this ▸ hi2)
            · obtain ⟨g, hi, o'⟩ := hoccs o
              exact .inr (.inr (.inr ⟨g, List.mem_of_getElem? hi, o'⟩))
            · obtain ⟨g, r0, hi, hg, h3⟩ := sub_get hj
              obtain ⟨cs0, rfl, hl⟩ := Row.ren_nest h3.symm
              have e1 : ιs j = ι g := by simp [ιs, hi]
              have e2 : ιs.inn j = ι.inn g := by simp [ιs, hi]
              rw [e1, e2]
              exact (NestRep.ren (.inl hS) (hI.hrep.nest g u xss m cs0 hg)).like hl
          have hglob : GlobsOk w (dst D1 w ιs (subHeap s.heap ids)) := hI.glob.mono (Nat.le_refl _) (fun b hb _ => ⟨hS b hb, rfl⟩)
          have hpres : ∀ j, j < (subHeap s.heap ids).length → ∃ x, (subHeap s.heap ids)[j]? = some (some x) := fun j hj => by
            have hj' : j < ids.length := by simpa [subHeap] using hj
            obtain ⟨r0, hr0, _⟩ := closed_get hcl (List.getElem_mem hj')
            exact ⟨_, sub_of (List.getElem?_eq_getElem hj') hr0⟩
          refine (horc f _ _ _ _ horun D1 w vs ιs (fun b hb => .inr (.inr (.inl hb))) hHs hglob hpres hargs).mono fun e w' hpost => ?_
          obtain ⟨v, ιc, rfl, hk, hHc, hst, hsumc, hres⟩ := hpost
          let moved : Nat → Prop := fun g => ∃ j : Nat, (C.orc f (renL (place ids) avs) (subHeap s.heap ids)).mv.contains j = true ∧ ids[j]? = some g
          have hmoved : ∀ g, moved g → (B.k ≤ g ∨ B.mv g = true) ∧ (∀ a ∈ s.env, a.refs g = false) ∧ ∀ x r0, x ∉ ids → s.heap[x]? = some (some r0) → r0.refs g = false := fun g ⟨j, hj, hjg⟩ => by
            have h1 := List.all_eq_true.1 hso j (by simpa using hj)
            rw [hjg] at h1
            simp only [Bool.and_eq_true, Bool.or_eq_true] at h1
            obtain ⟨⟨h2, h3⟩, h4⟩ := h1
            refine ⟨h2.imp (fun h => hkk ▸ Nat.le_of_ble_eq_true h) (hmv g), fun a ha => ?_, fun x r0 hx hr0 => ?_⟩
            · have := List.all_eq_true.1 h3 a ha
              simpa using this
            · have := List.all_eq_true.1 h4 x (List.mem_range.2 (List.getElem?_eq_some_iff.1 hr0).1)
              rw [hr0] at this
              simp only [Bool.or_eq_true] at this
              rcases this with h5 | h5
              · exact absurd (by simpa using h5) hx
              · simpa using h5
          -- what comes back
          let bk := backTo ids base
          have hbk1 : ∀ j g, ids[j]? = some g → bk j = g := fun j g hj => by simp [bk, backTo, hj]
          have hbk2 : ∀ j, ids.length ≤ j → bk j = base + (j - ids.length) := fun j hj => by
            simp [bk, backTo, List.getElem?_eq_none hj]
          have hbkrow : ∀ j, j < H'.length → (j < ids.length ∧ ∃ r0, s.heap[bk j]? = some (some r0) ∧ bk j ∈ ids) ∨ (ids.length ≤ j ∧ s.heap[bk j]? = some none) := fun j hj => by
            by_cases hji : j < ids.length
            · obtain ⟨r0, hr0, _⟩ := closed_get hcl (List.getElem_mem hji)
              have := hbk1 j _ (List.getElem?_eq_getElem hji)
              exact .inl ⟨hji, r0, by rw [this]; exact hr0, by rw [this]; exact List.getElem_mem hji⟩
            · refine .inr ⟨by omega, ?_⟩
              rw [hbk2 j (by omega)]
              exact fresh_get hfr (by omega)
          have hinj : ∀ i j, i < H'.length → j < H'.length → bk i = bk j → i = j := fun i j hi hj e => by
            by_cases hii : i < ids.length
            · by_cases hjj : j < ids.length
              · have h1 := hbk1 i _ (List.getElem?_eq_getElem hii)
                have h2 := hbk1 j _ (List.getElem?_eq_getElem hjj)
                refine nodup_inj hnd (List.getElem?_eq_getElem hii) ?_
                rw [List.getElem?_eq_getElem hjj, ← h1, ← h2, e]
              · rcases hbkrow i hi with ⟨_, r0, h1, _⟩ | ⟨h1, _⟩
                · rcases hbkrow j hj with ⟨h2, _⟩ | ⟨_, h2⟩
                  · omega
                  · rw [e, h2] at h1; simp at h1
                · omega
            · by_cases hjj : j < ids.length
              · rcases hbkrow j hj with ⟨_, r0, h1, _⟩ | ⟨h1, _⟩
                · rcases hbkrow i hi with ⟨h2, _⟩ | ⟨_, h2⟩
                  · omega
                  · rw [← e, h2] at h1; simp at h1
                · omega
              · rw [hbk2 i (by omega), hbk2 j (by omega)] at e
                omega
          let H2 := putRows bk 0 H' s.heap
          let isB : Nat → Nat → Prop := fun g j => j < H'.length ∧ bk j = g
          let ι2 : Plc := ⟨fun g => match (List.range H'.length).find? (fun j => bk j == g) with | some j => ιc j | none => ι g, fun g => match (List.range H'.length).find? (fun j => bk j == g) with | some j => ιc.inn j | none => ι.inn g⟩
          have hι2B : ∀ j, j < H'.length → ι2 (bk j) = ιc j ∧ ι2.inn (bk j) = ιc.inn j := fun j hj => by
            have : (List.range H'.length).find? (fun i => bk i == bk j) = some j := by
              cases hf : (List.range H'.length).find? (fun i => bk i == bk j) with
              | none =>
                have := List.find?_eq_none.1 hf j (List.mem_range.2 hj)
                simp at this
              | some i =>
                have h1 := List.find?_some hf
                have h2 := List.mem_of_find?_eq_some hf
                simp at h1 h2
                rw [hinj i j h2 hj h1]
            simp [ι2, this]
          have hι2b : ∀ j, j < H'.length → ι2 (bk j) = ιc j := fun j hj => (hι2B j hj).1
          have hι2O : ∀ g, (∀ j, j < H'.length → bk j ≠ g) → ι2 g = ι g ∧ ι2.inn g = ι.inn g := fun g hg => by
            have : (List.range H'.length).find? (fun i => bk i == g) = none := by
              rw [List.find?_eq_none]
              intro i hi
              simp at hi ⊢
              exact hg i hi
            simp [ι2, this]
          have hι2o : ∀ g, (∀ j, j < H'.length → bk j ≠ g) → ι2 g = ι g := fun g hg => (hι2O g hg).1
          have hlenH : ∀ j, j < H'.length → bk j < s.heap.length := fun j hj => by
            rcases hbkrow j hj with ⟨_, r0, h1, _⟩ | ⟨_, h1⟩ <;> exact (List.getElem?_eq_some_iff.1 h1).1
          have hH2b : ∀ (j : Nat) r, H'[j]? = some (some r) → H2[bk j]? = some (some (r.ren bk)) := fun j r hj => by
            have hjl := (List.getElem?_eq_some_iff.1 hj).1
            have := putRows_hit bk H' 0 s.heap j r hj (by simpa using hlenH j hjl) (fun i x hx he => hinj i j (List.getElem?_eq_some_iff.1 hx).1 hjl (by simpa using he))
            simpa [H2] using this
          have hH2m : ∀ g, (∀ (j : Nat) r, H'[j]? = some (some r) → bk j ≠ g) → H2[g]? = s.heap[g]? := fun g hg => by
            exact putRows_miss bk g H' 0 s.heap (fun j r hj => by simpa using hg j r hj)
          have hH2 : ∀ g r, H2[g]? = some (some r) → (∃ j r0, H'[j]? = some (some r0) ∧ bk j = g ∧ r = r0.ren bk ∧ ι2 g = ιc j) ∨ ((∀ j, j < H'.length → bk j ≠ g) ∧ s.heap[g]? = some (some r) ∧ ι2 g = ι g ∧ g ∉ ids) := fun g r hg => by
            by_cases hex : ∃ j, j < H'.length ∧ bk j = g
            · obtain ⟨j, hj, rfl⟩ := hex
              left
              cases hjr : H'[j]? with
              | none => rw [List.getElem?_eq_none_iff] at hjr; omega
              | some x =>
                cases x with
                | some r0 =>
                  have := hH2b j r0 hjr
                  rw [hg] at this
                  simp at this
                  exact ⟨j, r0, hjr, rfl, this, hι2b j hj⟩
                | none =>
                  -- no row there: what stood before must have been none
                  have hm : H2[bk j]? = s.heap[bk j]? := hH2m _ (fun i x hi e => by
                    have := hinj i j (List.getElem?_eq_some_iff.1 hi).1 hj e
                    subst this
                    rw [hjr] at hi; simp at hi)
                  rcases hbkrow j hj with ⟨hji, r0, h1, _⟩ | ⟨_, h1⟩
                  · obtain ⟨_, r1, hr1⟩ := hsumc j (by simpa [subHeap] using hji)
                    rw [hjr] at hr1; simp at hr1
                  · rw [hm, h1] at hg; simp at hg
            · right
              have hno : ∀ j, j < H'.length → bk j ≠ g := fun j hj e => hex ⟨j, hj, e⟩
              refine ⟨hno, ?_, hι2o g hno, fun hgi => ?_⟩
              · rw [← hH2m g (fun j r hj => hno j (List.getElem?_eq_some_iff.1 hj).1)]; exact hg
              · have h1 := hidx g hgi
                have h2 := (List.getElem?_eq_some_iff.1 h1).1
                exact hno (place ids g) (by omega) (hbk1 _ _ h1)
          have hH2n : ∀ g t xss m cs, H2[g]? = some (some (.nest t xss m cs)) → (∃ j cs0, H'[j]? = some (some (.nest t xss m cs0)) ∧ cs0.length = cs.length ∧ bk j = g ∧ ι2 g = ιc j ∧ ι2.inn g = ιc.inn j) ∨ ((∀ j, j < H'.length → bk j ≠ g) ∧ s.heap[g]? = some (some (.nest t xss m cs)) ∧ ι2 g = ι g ∧ ι2.inn g = ι.inn g ∧ g ∉ ids) := fun g t xss m cs hg => by
            rcases hH2 g _ hg with ⟨j, r0, hj, rfl, h3, hι⟩ | ⟨hno, hr0, hι, hgi⟩
            · obtain ⟨cs0, rfl, hl⟩ := Row.ren_nest h3.symm
              exact .inl ⟨j, cs0, hj, hl, rfl, hι, (hι2B j (List.getElem?_eq_some_iff.1 hj).1).2⟩
            · exact .inr ⟨hno, hr0, hι, (hι2O g hno).2, hgi⟩
          have hocc2 : ∀ {g b : Nat}, Occ ι2 H2 g b → (∃ j, bk j = g ∧ Occ ιc H' j b) ∨ (g ∉ ids ∧ (∀ j, j < H'.length → bk j ≠ g) ∧ Occ ι s.heap g b) := fun {g b} o => by
            cases o with
            | out r p hr hp e =>
              rcases hH2 g r hr with ⟨j, r0, hj, hb, _, hι⟩ | ⟨hno, hr0, hι, hgi⟩
              · rw [hι] at hp
                exact .inl ⟨j, hb, .out r0 p hj hp e⟩
              · rw [hι] at hp
                exact .inr ⟨hgi, hno, .out r p hr0 hp e⟩
            | inn t xss m cs i p hr hx hp e =>
              rcases hH2n g t xss m cs hr with ⟨j, cs0, hj, _, hb, _, hι⟩ | ⟨hno, hr0, _, hι, hgi⟩
              · rw [hι] at hp
                exact .inl ⟨j, hb, .inn t xss m cs0 i p hj hx hp e⟩
              · rw [hι] at hp
                exact .inr ⟨hgi, hno, .inn t xss m cs i p hr0 hx hp e⟩
          have hsum2 : ∀ j r, H'[j]? = some (some r) → sumOf ι2 H2 (bk j) = sumOf ιc H' j := fun j r hj => by
            have hjl := (List.getElem?_eq_some_iff.1 hj).1
            rw [sumOf_of (hH2b j r hj), sumOf_of hj, hι2b j hjl, Row.ren_cells, Row.ren_len]
          have hst2 : ∀ b, stab w ι s.heap b → stab w' ι2 H2 b := fun b hb => by
            have h1 := hst b (hstab b hb)
            refine ⟨h1.1, fun g o => ?_⟩
            rcases hocc2 o with ⟨j, _, o'⟩ | ⟨_, _, o'⟩
            · exact h1.2 j o'
            · exact hb.2 g o'
          have ht : Trans w ι s.heap w' ι2 H2 (fun x => (∃ r0, s.heap[x]? = some (some r0)) ∧ ¬ moved x) := by
            refine ⟨hk.size, fun b hb => ⟨hst2 b hb, hk.block b (hstab b hb)⟩, fun g ⟨⟨r0, hr0⟩, hnm⟩ => ?_⟩
            by_cases hgi : g ∈ ids
            · have h1 := hidx g hgi
              have h2 := (List.getElem?_eq_some_iff.1 h1).1
              have h3 := (hsumc (place ids g) (by simpa [subHeap] using h2)).1.resolve_left (fun hc => hnm ⟨_, hc, h1⟩)
              rw [hsum g hgi, sumOf_of hr0] at h3
              obtain ⟨r1, hr1⟩ := sumOf_some h3
              have h4 := hsum2 _ r1 hr1
              rw [hbk1 _ _ h1] at h4
              rw [h4, h3, sumOf_of hr0]
            · have hno : ∀ j, j < H'.length → bk j ≠ g := fun j hj e => by
                rcases hbkrow j hj with ⟨_, r1, _, h2⟩ | ⟨_, h2⟩
                · exact hgi (e ▸ h2)
                · rw [e, hr0] at h2; simp at h2
              have hm := hH2m g (fun j r hj => hno j (List.getElem?_eq_some_iff.1 hj).1)
              simp [sumOf, hm, hr0, hι2o g hno]
          have hDst : ro = [] → ∀ b, dst D1 w' ιc H' b → dst B.D w' ι2 H2 b := fun hro0 b hb => by
            obtain ⟨hd, hs⟩ := hb
            rcases hd with hd | ⟨g, hg, _⟩ | hd | ⟨g, hg, oc⟩
            · exact ⟨hd.1, hst2 b hd.2⟩
            · rw [hro0] at hg; cases hg
            rotate_left
            · refine ⟨hI.hrep.has g b oc, hs.1, fun g2 o => ?_⟩
              rcases hocc2 o with ⟨j, _, o'⟩ | ⟨hng, _, o'⟩
              · exact hs.2 j o'
              · exact hng ((hI.hrep.one g2 g b o' oc) ▸ hg)
            · refine ⟨B.new b (Nat.le_trans hI.kept.size hd), hs.1, fun g o => ?_⟩
              rcases hocc2 o with ⟨j, _, o'⟩ | ⟨_, _, o'⟩
              · exact hs.2 j o'
              · have := o'.lt hI.hrep
                omega
          have hfreeR : (∀ b, dst D1 w' ιc H' b → dst B.D w' ι2 H2 b) ∨ ra.hasList = false := by
            cases hroe : ro with
            | nil => exact .inl (hDst hroe)
            | cons a r =>
              right
              rw [hroe] at halias
              simp only [List.isEmpty_cons, Bool.false_or, Bool.not_eq_true', Bool.or_eq_false_iff] at halias
              exact halias.1
          have hfreeH : ∀ (j : Nat) r0, H'[j]? = some (some r0) → (∀ b, dst D1 w' ιc H' b → dst B.D w' ι2 H2 b) ∨ r0.hasList = false := fun j r0 hj => by
            cases hroe : ro with
            | nil => exact .inl (hDst hroe)
            | cons a r =>
              right
              rw [hroe] at halias
              simp only [List.isEmpty_cons, Bool.false_or, Bool.not_eq_true', Bool.or_eq_false_iff] at halias
              have := List.any_eq_false.1 halias.2 _ (List.mem_of_getElem? hj)
              simpa using this
          have hrefR : ∀ (a : AV) (u : Value), AVRep w' (dst D1 w' ιc H') (sumOf ιc H') a u → ∀ g, a.refs g = true → sumOf ι2 H2 (bk g) = sumOf ιc H' g := fun a u ha g hg => by
            obtain ⟨q, hq⟩ := AVRep.refs_some a u g ha hg
            obtain ⟨r1, hr1⟩ := sumOf_some hq
            exact hsum2 g r1 hr1
          refine ⟨v, ι2, rfl, ⟨hI.kept.trans hk (fun b hb => hstab b (hI.stay b hb)), ⟨fun g r hg => ?_, fun g1 g2 b o1 o2 => ?_, fun g b o => ?_, fun g u xss m cs hg => ?_⟩, fun b hb => hst2 b (hI.stay b hb), fun g hg => ?_, fun i a ha => ?_, ht.globs hI.glob⟩, ?_⟩
          · rcases hH2 g r hg with ⟨j, r0, hj, _, rfl, hι⟩ | ⟨hno, hr0, hι, hgi⟩
            · rw [hι]
              refine RowRep.ren (hfreeH j r0 hj) (fun x hx => ?_) (hHc.rows j r0 hj)
              obtain ⟨q, hq⟩ := (hHc.rows j r0 hj).refs_some x hx
              obtain ⟨r1, hr1⟩ := sumOf_some hq
              exact hsum2 x r1 hr1
            · rw [hι]
              refine ht.row (fun x hx => ?_) (fun b o c hp => hk.block b (hother g b hgi (.out r (b, o, c) hr0 hp rfl))) (hI.hrep.rows g r hr0)
              obtain ⟨q, hq⟩ := (hI.hrep.rows g r hr0).refs_some x hx
              exact ⟨sumOf_some hq, fun hm => by rw [(hmoved x hm).2.2 g r hgi hr0] at hx; cases hx⟩
          · rcases hocc2 o1 with ⟨j1, hb1, o1'⟩ | ⟨hgi1, _, o1'⟩ <;> rcases hocc2 o2 with ⟨j2, hb2, o2'⟩ | ⟨hgi2, _, o2'⟩
            · rw [← hb1, ← hb2, hHc.one j1 j2 b o1' o2']
            · exact absurd o1' ((hst _ (hother g2 b hgi2 o2')).2 j1)
            · exact absurd o2' ((hst _ (hother g1 b hgi1 o1')).2 j2)
            · exact hI.hrep.one g1 g2 b o1' o2'
          · rcases hocc2 o with ⟨j, _, o'⟩ | ⟨_, _, o'⟩
            · rcases hHc.has j b o' with hd | ⟨g', hg', oc⟩ | hd | ⟨g', hg', oc⟩
              · exact hd.1
              · exact hI.hrep.has g' b oc
              · exact B.new _ (Nat.le_trans hI.kept.size hd)
              · exact hI.hrep.has g' b oc
            · exact hI.hrep.has g b o'
          · rcases hH2n g u xss m cs hg with ⟨j, cs0, hj, hl, _, hι, hιi⟩ | ⟨hno, hr0, hι, hιi, hgi⟩
            · rw [hι, hιi]
              exact (NestRep.ren ((hfreeH j _ hj).imp id (by simp only [Row.hasList, Bool.or_eq_false_iff]; exact fun h => h.1)) (hHc.nest j u xss m cs0 hj)).like hl
            · rw [hι, hιi]
              exact ht.nest (fun b o c hp => hk.block b (hother g b hgi (.out _ (b, o, c) hr0 hp rfl))) (fun i b o c hi hp => hk.block b (hother g b hgi (.inn u xss m cs i (b, o, c) hr0 hi hp rfl))) (hI.hrep.nest g u xss m cs hr0)
          · obtain ⟨h1, r0, hr0⟩ := hI.io g hg
            by_cases hm : moved g
            · refine ⟨.inl ((hmoved g hm).1.resolve_left (by omega)), ?_⟩
              obtain ⟨j, hj, hjg⟩ := hm
              have hlt := (List.getElem?_eq_some_iff.1 hjg).1
              obtain ⟨_, r1, hr1⟩ := hsumc j (by simpa [subHeap] using hlt)
              have h3 := hH2b j r1 hr1
              rw [hbk1 j g hjg] at h3
              exact ⟨_, h3⟩
            · have h2 := ht.sum g ⟨⟨r0, hr0⟩, hm⟩
              refine ⟨h1.imp id h2.trans, ?_⟩
              rw [sumOf_of hr0] at h2
              exact sumOf_some h2
          · obtain ⟨u, hu, hr⟩ := hI.env i a ha
            refine ⟨u, hu, ht.av (fun x hx => ?_) hr⟩
            obtain ⟨q, hq⟩ := AVRep.refs_some a u x hr hx
            exact ⟨sumOf_some hq, fun hm => by rw [(hmoved x hm).2.1 a (List.mem_of_getElem? ha)] at hx; cases hx⟩
          · exact AVRep.ren ra v hfreeR (hrefR ra v hres) hres
        · cases h
    · cases h

end
end Go.Rv

set_option linter.unusedSimpArgs false
set_option linter.unusedVariables false
namespace Go.Rv

section
variable {B : Base} {s : St} {tmps : Array Value} {w : World} {ι : Plc}

theorem beq_ne {g h : Nat} (e : g ≠ h) : Nat.beq g h = false := by
  cases hb : Nat.beq g h with
  | false => rfl
  | true => exact absurd (Nat.eq_of_beq_eq_true hb) e

mutual
theorem frz_rep {h : Nat} {t : Ty} {xs : List t.den} {S S' : Nat → Prop} {σ σ' : Nat → Option Sum} (hS : ∀ b, S b → S' b) (hσ : ∀ g, g ≠ h → σ' g = σ g)
    (hrow : ∀ {off len : Nat} {q : Sum} {v : Value}, σ h = some q → off + len ≤ q.len → WinAt q off len v → DCells w S' (.list t) ((xs.drop off).take len) [v])
    (hlen : ∀ q, σ h = some q → q.len = xs.length) :
    ∀ (a : AV) (v : Value), AVRep w S σ a v → AVRep w S' σ' (frz h t xs a) v
  | .undef, _, _ => trivial
  | .dat t x, v, hr => DCells.sub hS hr
  | .nils, _, hr => hr
  | .slc g, v, ⟨q, hq, hw⟩ => by
    by_cases e : g = h
    · subst e
      simp only [frz, Nat.beq_refl, cond_true]
      have := hrow (off := 0) (len := q.len) hq (by simp) hw
      rw [hlen q hq] at this
      simp only [List.drop_zero, List.take_length] at this
      exact this
    · simp only [frz, beq_ne e, cond_false]
      exact ⟨q, (hσ g e).trans hq, hw⟩
  | .win g o l, v, ⟨q, hq, hl, hw⟩ => by
    by_cases e : g = h
    · subst e
      simp only [frz, Nat.beq_refl, cond_true]
      exact hrow hq hl hw
    · simp only [frz, beq_ne e, cond_false]
      exact ⟨q, (hσ g e).trans hq, hl, hw⟩
  | .ptr g o, v, ⟨q, b, o', c, hq, hr⟩ => by
    by_cases e : g = h
    · subst e
      simp only [frz, Nat.beq_refl, cond_true]
      trivial
    · simp only [frz, beq_ne e, cond_false]
      exact ⟨q, b, o', c, (hσ g e).trans hq, hr⟩
  | .elt g i o, v, ⟨q, b, o', c, hq, hr⟩ => by
    by_cases e : g = h
    · subst e
      simp only [frz, Nat.beq_refl, cond_true]
      trivial
    · simp only [frz, beq_ne e, cond_false]
      exact ⟨q, b, o', c, (hσ g e).trans hq, hr⟩
  | .relt t x _, _, ⟨b, o, cs, e, hs, hlt, hd, hc⟩ => ⟨b, o, cs, e, hS b hs, hlt, DCells.sub hS hd, hc⟩
  | .tab t xs, _, ⟨b, e, ht⟩ => ⟨b, e, ht.mono (Nat.le_refl _) (fun b hb _ => ⟨hS b hb, rfl⟩)⟩
  | .agg cs, _, ⟨vs, e, hr⟩ => ⟨vs, e, frzL_rep hS hσ hrow hlen cs vs hr⟩
  | .tup cs, _, ⟨vs, e, hr⟩ => ⟨vs, e, frzL_rep hS hσ hrow hlen cs vs hr⟩
  | .fn _ a b, _, ⟨va, vb, e, h1, h2⟩ => ⟨va, vb, e, frzL_rep hS hσ hrow hlen a va h1, frzL_rep hS hσ hrow hlen b vb h2⟩
  | .raw _, _, hr => hr
  | .fmap _, _, ⟨b, es, c, e, hs, hlt, hb, hk⟩ => ⟨b, es, c, e, hS b hs, hlt, hb, hk⟩
theorem frzL_rep {h : Nat} {t : Ty} {xs : List t.den} {S S' : Nat → Prop} {σ σ' : Nat → Option Sum} (hS : ∀ b, S b → S' b) (hσ : ∀ g, g ≠ h → σ' g = σ g)
    (hrow : ∀ {off len : Nat} {q : Sum} {v : Value}, σ h = some q → off + len ≤ q.len → WinAt q off len v → DCells w S' (.list t) ((xs.drop off).take len) [v])
    (hlen : ∀ q, σ h = some q → q.len = xs.length) :
    ∀ (a : List AV) (v : List Value), AVsRep w S σ a v → AVsRep w S' σ' (frzL h t xs a) v
  | [], _, hr => hr
  | a :: r, _, ⟨v, vr, e, h1, h2⟩ => ⟨v, vr, e, frz_rep hS hσ hrow hlen a v h1, frzL_rep hS hσ hrow hlen r vr h2⟩
end

theorem frzL_get {h : Nat} {t : Ty} {xs : List t.den} : ∀ {cs : List AV} {j : Nat} {a : AV}, (frzL h t xs cs)[j]? = some a → ∃ a0, cs[j]? = some a0 ∧ a = frz h t xs a0
  | [], _, _, hh => by simp [frzL] at hh
  | c :: r, 0, a, hh => by simp [frzL] at hh; exact ⟨c, rfl, hh.symm⟩
  | c :: r, j + 1, a, hh => by simp [frzL] at hh; simpa using frzL_get hh

theorem frzL_length {h : Nat} {t : Ty} {xs : List t.den} : ∀ (cs : List AV), (frzL h t xs cs).length = cs.length
  | [] => rfl
  | c :: r => by simp [frzL, frzL_length r]

theorem RowRep.sub {S S' : Nat → Prop} {σ : Nat → Option Sum} (hS : ∀ b, S b → S' b) {p : Option (Nat × Nat × Nat)} {r : Row} (h : RowRep w S σ p r) : RowRep w S' σ p r := by
  cases r with
  | seq u ys =>
    cases p with
    | none => exact h
    | some p =>
      obtain ⟨b, o, c⟩ := p
      obtain ⟨cur, e, h1, h2, h3, h4, h5⟩ := h
      refine ⟨cur, e, h1, h2, h3, h4, fun i x hx => ?_⟩
      obtain ⟨cs, hd, hc⟩ := h5 i x hx
      exact ⟨cs, DCells.sub hS hd, hc⟩
  | box cs =>
    obtain ⟨b, o, c, cur, e, hp, h1, h2⟩ := h
    refine ⟨b, o, c, cur, e, hp, h1, fun j a hj => ?_⟩
    obtain ⟨v, hv, h1c, hr⟩ := h2 j a hj
    exact ⟨v, hv, h1c, AVRep.mono (Nat.le_refl _) (fun b hb _ => ⟨hS b hb, rfl⟩) _ v (fun _ _ => rfl) hr⟩
  | nest t xss m cs =>
    cases p with
    | none => exact h
    | some p =>
      obtain ⟨b, o, c⟩ := p
      obtain ⟨cur, e, h1, h2, h3, h4, h5⟩ := h
      refine ⟨cur, e, h1, h2, h3, h4, fun j a hj => ?_⟩
      obtain ⟨v, hv, h1c, hr⟩ := h5 j a hj
      exact ⟨v, hv, h1c, AVRep.mono (Nat.le_refl _) (fun b hb _ => ⟨hS b hb, rfl⟩) _ v (fun _ _ => rfl) hr⟩

theorem NestRep.sub {S S' : Nat → Prop} {σ σ' : Nat → Option Sum} (hS : ∀ b, S b → S' b) {p : Option (Nat × Nat × Nat)} {q : Nat → Option (Nat × Nat × Nat)} {t : Ty} {xss : List (List t.den)} {m : Nat} {cs : List AV} (h : NestRep w S σ p q t xss m cs) : NestRep w S' σ' p q t xss m cs :=
  NestRep.ren (.inl hS) h

theorem freeze_ok (hI : Inv B s tmps w ι) {h : Nat} (hk : B.k ≤ h) {t : Ty} {xs : List t.den} (hr : s.heap[h]? = some (some (.seq t xs))) :
    Inv B ⟨frzL h t xs s.env, (s.heap.map (Option.map (frzRow h t xs))).set h none⟩ tmps w ι := by
  have hlt : h < s.heap.length := (List.getElem?_eq_some_iff.1 hr).1
  generalize hH : (s.heap.map (Option.map (frzRow h t xs))).set h none = H'
  have hget : ∀ g r', H'[g]? = some (some r') → g ≠ h ∧ ∃ r, s.heap[g]? = some (some r) ∧ r' = frzRow h t xs r := fun g r' hg => by
    subst hH
    by_cases e : g = h
    · subst e
      rw [List.getElem?_set_self (by simpa using hlt)] at hg
      cases hg
    · refine ⟨e, ?_⟩
      rw [List.getElem?_set_ne (Ne.symm e), List.getElem?_map] at hg
      cases hc : s.heap[g]? with
      | none => rw [hc] at hg; simp at hg
      | some x =>
        cases x with
        | none => rw [hc] at hg; simp at hg
        | some r => rw [hc] at hg; simp at hg; exact ⟨r, rfl, hg.symm⟩
  have hback : ∀ g r, g ≠ h → s.heap[g]? = some (some r) → H'[g]? = some (some (frzRow h t xs r)) := fun g r e hg => by
    subst hH
    rw [List.getElem?_set_ne (Ne.symm e), List.getElem?_map, hg]
    rfl
  have hrc : ∀ r : Row, (frzRow h t xs r).cells = r.cells := fun r => by cases r <;> rfl
  have hrl : ∀ r : Row, (frzRow h t xs r).len = r.len := fun r => by cases r <;> simp [frzRow, Row.len, frzL_length]
  have hnest : ∀ (g : Nat) (u : Ty) (xss : List (List u.den)) m cs, H'[g]? = some (some (.nest u xss m cs)) → g ≠ h ∧ ∃ cs0, s.heap[g]? = some (some (.nest u xss m cs0)) ∧ cs0.length = cs.length := fun g u xss m cs hg => by
    obtain ⟨hne, r, hg', e⟩ := hget g _ hg
    cases r with
    | seq _ _ => cases e
    | box _ => cases e
    | nest u' yss m' cs' =>
      simp only [frzRow] at e
      cases e
      exact ⟨hne, _, hg', (frzL_length _).symm⟩
  have hocc : ∀ {g b : Nat}, Occ ι H' g b → g ≠ h ∧ Occ ι s.heap g b := fun {g b} o => by
    cases o with
    | out r' p hr' hp e =>
      obtain ⟨hne, r, hg', _⟩ := hget g r' hr'
      exact ⟨hne, .out r p hg' hp e⟩
    | inn u xss m cs i p hr' hi hp e =>
      obtain ⟨hne, cs0, hg', _⟩ := hnest g u xss m cs hr'
      exact ⟨hne, .inn u xss m cs0 i p hg' hi hp e⟩
  have hst : ∀ b, stab w ι s.heap b → stab w ι H' b := fun b hb => ⟨hb.1, fun g o => hb.2 g (hocc o).2⟩
  have hS : ∀ b, dst B.D w ι s.heap b → dst B.D w ι H' b := fun b hb => ⟨hb.1, hst b hb.2⟩
  have hblk : ∀ p, ι h = some p → dst B.D w ι H' p.1 := fun p hp => by
    refine ⟨hI.hrep.own h _ p hr hp, ?_, fun g o => ?_⟩
    · have := hI.hrep.rows h _ hr
      rw [hp] at this
      exact this.lt
    · obtain ⟨hne, o'⟩ := hocc o
      exact hne (hI.hrep.one g h p.1 o' (.out _ p hr hp rfl))
  have hσ : ∀ g, g ≠ h → sumOf ι H' g = sumOf ι s.heap g := fun g e => by
    cases hc : s.heap[g]? with
    | none =>
      have : H'[g]? = none := by
        subst hH
        rw [List.getElem?_set_ne (Ne.symm e), List.getElem?_map, hc]; rfl
      simp [sumOf, this, hc]
    | some x =>
      cases x with
      | none =>
        have : H'[g]? = some none := by
          subst hH
          rw [List.getElem?_set_ne (Ne.symm e), List.getElem?_map, hc]; rfl
        simp [sumOf, this, hc]
      | some r => simp [sumOf, hback g r e hc, hc, hrc, hrl]
  have hrow : ∀ {off len : Nat} {q : Sum} {v : Value}, sumOf ι s.heap h = some q → off + len ≤ q.len → WinAt q off len v → DCells w (dst B.D w ι H') (.list t) ((xs.drop off).take len) [v] :=
    fun hq hl hw => slc_dat hI.hrep hS hr hblk hq hl hw
  have hlen : ∀ q, sumOf ι s.heap h = some q → q.len = xs.length := fun q hq => by
    rw [sumOf_of hr] at hq
    cases hq
    rfl
  refine ⟨hI.kept, ⟨fun g r' hg => ?_, fun g1 g2 b o1 o2 => hI.hrep.one g1 g2 b (hocc o1).2 (hocc o2).2, fun g b o => hI.hrep.has g b (hocc o).2, fun g u xss m cs hg => by
    obtain ⟨_, cs0, hg', hl⟩ := hnest g u xss m cs hg
    exact (NestRep.sub hS (hI.hrep.nest g u xss m cs0 hg')).like hl⟩, fun b hb => hst b (hI.stay b hb), fun g hg => ?_, fun i a ha => ?_, hI.glob.mono (Nat.le_refl _) (fun b hb _ => ⟨hS b hb, rfl⟩)⟩
  · obtain ⟨hne, r, hg', rfl⟩ := hget g r' hg
    have h0 := hI.hrep.rows g r hg'
    cases r with
    | seq u ys =>
      cases hp : ι g with
      | none => rw [hp] at h0; exact h0
      | some p =>
        rw [hp] at h0
        obtain ⟨b, o, c⟩ := p
        obtain ⟨cur, e, h1, h2, h3, h4, h5⟩ := h0
        refine ⟨cur, e, h1, h2, h3, h4, fun i x hx => ?_⟩
        obtain ⟨cs, hd, hc⟩ := h5 i x hx
        exact ⟨cs, DCells.sub hS hd, hc⟩
    | box cs =>
      obtain ⟨b, o, c, cur, e, hp, h1, h2⟩ := h0
      refine ⟨b, o, c, cur, e, hp, h1, fun j a hj => ?_⟩
      obtain ⟨a0, hj0, rfl⟩ := frzL_get hj
      obtain ⟨v, hv, h1c, hr'⟩ := h2 j a0 hj0
      exact ⟨v, hv, h1c, frz_rep hS hσ hrow hlen a0 v hr'⟩
    | nest u xss m cs =>
      cases hp : ι g with
      | none =>
        rw [hp] at h0
        obtain ⟨h1, rfl⟩ := h0
        exact ⟨h1, rfl⟩
      | some p =>
        rw [hp] at h0
        obtain ⟨b, o, c⟩ := p
        obtain ⟨cur, e, h1, h3, h4, h5, h2⟩ := h0
        refine ⟨cur, e, h1, h3, h4, h5, fun j a hj => ?_⟩
        obtain ⟨a0, hj0, rfl⟩ := frzL_get hj
        obtain ⟨v, hv, h1c, hr'⟩ := h2 j a0 hj0
        exact ⟨v, hv, h1c, frz_rep hS hσ hrow hlen a0 v hr'⟩
  · obtain ⟨h1, r, h2⟩ := hI.io g hg
    have hne : g ≠ h := by omega
    exact ⟨h1.imp id (hσ g hne).trans, _, hback g r hne h2⟩
  · obtain ⟨a0, h0, rfl⟩ := frzL_get ha
    obtain ⟨v, hv, hr'⟩ := hI.env i a0 h0
    exact ⟨v, hv, frz_rep hS hσ hrow hlen a0 v hr'⟩

theorem winify_rep {S : Nat → Prop} {a : AV} {v : Value} (hr : AVRep w S (sumOf ι s.heap) a v) : AVRep w S (sumOf ι s.heap) (winify s a) v := by
  unfold winify
  split
  · rename_i h
    split
    · rename_i t xs hrow
      obtain ⟨q, hq, hw⟩ := hr
      have hq' := sum_of_row (row_eq hrow) hq
      subst hq'
      exact ⟨_, hq, by simp, hw⟩
    · exact hr
  · exact hr

theorem winify_refs {a : AV} {x : Nat} (h : (winify s a).refs x = true) : a.refs x = true := by
  unfold winify at h
  split at h
  · split at h
    · simpa [AV.refs] using h
    · exact h
  · exact h

theorem AVsRep.setTo {w : World} {S : Nat → Prop} {σ : Nat → Option Sum} {a x : AV} (hb : ∀ v, AVRep w S σ a v → AVRep w S σ x v) : ∀ (cs : List AV) (c : Nat) (vs : List Value), cs[c]? = some a → AVsRep w S σ cs vs → AVsRep w S σ (cs.set c x) vs
  | [], _, _, hc, _ => by simp at hc
  | y :: r, 0, _, hc, ⟨v, vr, e, h1, h2⟩ => by
    simp only [List.getElem?_cons_zero, Option.some.injEq] at hc
    subst hc
    exact ⟨v, vr, e, hb v h1, h2⟩
  | y :: r, c + 1, _, hc, ⟨v, vr, e, h1, h2⟩ => ⟨v, vr, e, h1, AVsRep.setTo hb r c vr (by simpa using hc) h2⟩

theorem Inv.setEnvTo (hI : Inv B s tmps w ι) {t : Nat} {a x : AV} (ha : s.env[t]? = some a) (hx : ∀ v, AVRep w (dst B.D w ι s.heap) (sumOf ι s.heap) a v → AVRep w (dst B.D w ι s.heap) (sumOf ι s.heap) x v) : Inv B { s with env := s.env.set t x } tmps w ι := by
  refine ⟨hI.kept, hI.hrep, hI.stay, hI.io, fun i b hb => ?_, hI.glob⟩
  simp only at hb
  rw [List.getElem?_set] at hb
  split at hb
  · rename_i hit
    subst hit
    split at hb
    · obtain ⟨v, hv, hr⟩ := hI.env t a ha
      cases hb
      exact ⟨v, hv, hx v hr⟩
    · cases hb
  · exact hI.env i b hb

theorem Inv.putEnv (hI : Inv B s tmps w ι) {t : Nat} {a : AV} (ha : s.env[t]? = some a) : Inv B { s with env := s.env.set t (winify s a) } tmps w ι := by
  refine ⟨hI.kept, hI.hrep, hI.stay, hI.io, fun i b hb => ?_, hI.glob⟩
  simp only at hb
  rw [List.getElem?_set] at hb
  split at hb
  · rename_i hit
    subst hit
    split at hb
    · obtain ⟨v, hv, hr⟩ := hI.env t a ha
      cases hb
      exact ⟨v, hv, winify_rep hr⟩
    · cases hb
  · exact hI.env i b hb

theorem Inv.setCellTo (hI : Inv B s tmps w ι) {h c : Nat} {cs : List AV} {a x : AV} (hrow : s.heap[h]? = some (some (.box cs))) (ha : cs[c]? = some a) (hb : ∀ v, AVRep w (dst B.D w ι s.heap) (sumOf ι s.heap) a v → AVRep w (dst B.D w ι s.heap) (sumOf ι s.heap) x v) :
    Inv B (s.setRow h (.box (cs.set c x))) tmps w ι := by
  have hlt : h < s.heap.length := (List.getElem?_eq_some_iff.1 hrow).1
  have hσ : sumOf ι (s.setRow h (.box (cs.set c x))).heap = sumOf ι s.heap := by
    funext g
    by_cases e : g = h
    · subst e
      have h1 : (s.setRow g (.box (cs.set c x))).heap[g]? = some (some (.box (cs.set c x))) := by simp [St.setRow, hlt]
      rw [sumOf_of h1, sumOf_of hrow]
      simp [Row.cells, Row.len]
    · simp [sumOf, St.setRow, List.getElem?_set_ne (Ne.symm e)]
  have hget : ∀ g r, (s.setRow h (.box (cs.set c x))).heap[g]? = some (some r) → ∃ r0, s.heap[g]? = some (some r0) ∧ (g ≠ h → r = r0) ∧ (g = h → r = .box (cs.set c x) ∧ r0 = .box cs) := fun g r hg => by
    by_cases e : g = h
    · subst e
      simp [St.setRow, hlt] at hg
      exact ⟨_, hrow, fun hh => absurd rfl hh, fun _ => ⟨hg.symm, rfl⟩⟩
    · simp only [St.setRow] at hg
      rw [List.getElem?_set_ne (Ne.symm e)] at hg
      exact ⟨r, hg, fun _ => rfl, fun hh => absurd hh e⟩
  have hnest : ∀ (g : Nat) (u : Ty) (xss : List (List u.den)) m ds, (s.setRow h (.box (cs.set c x))).heap[g]? = some (some (.nest u xss m ds)) → s.heap[g]? = some (some (.nest u xss m ds)) := fun g u xss m ds hg => by
    obtain ⟨r0, h0, h1, h2⟩ := hget g _ hg
    by_cases e : g = h
    · cases (h2 e).1
    · exact (h1 e) ▸ h0
  have hocc : ∀ {g b : Nat}, Occ ι (s.setRow h (.box (cs.set c x))).heap g b → Occ ι s.heap g b := fun {g b} o => by
    cases o with
    | out r p hr hp e =>
      obtain ⟨r0, h0, _⟩ := hget g r hr
      exact .out r0 p h0 hp e
    | inn u xss m ds i p hr hi hp e => exact .inn u xss m ds i p (hnest g u xss m ds hr) hi hp e
  have hst : ∀ b, stab w ι s.heap b → stab w ι (s.setRow h (.box (cs.set c x))).heap b := fun b hb => ⟨hb.1, fun g o => hb.2 g (hocc o)⟩
  have hS : ∀ b, dst B.D w ι s.heap b → dst B.D w ι (s.setRow h (.box (cs.set c x))).heap b := fun b hb => ⟨hb.1, hst b hb.2⟩
  refine ⟨hI.kept, ⟨fun g r hg => ?_, fun g1 g2 b o1 o2 => hI.hrep.one g1 g2 b (hocc o1) (hocc o2), fun g b o => hI.hrep.has g b (hocc o), fun g u xss m ds hg => NestRep.sub hS (hI.hrep.nest g u xss m ds (hnest g u xss m ds hg))⟩, fun b hb => hst b (hI.stay b hb), fun g hg => ?_, fun i b hb => ?_, hI.glob.mono (Nat.le_refl _) (fun b hb' _ => ⟨hS b hb', rfl⟩)⟩
  · obtain ⟨r0, h0, h1, h2⟩ := hget g r hg
    rw [hσ]
    have hrr := hI.hrep.rows g r0 h0
    by_cases e : g = h
    · obtain ⟨rfl, rfl⟩ := h2 e
      obtain ⟨b, o, cc, cur, e', hp, h3, h4⟩ := hrr
      refine ⟨b, o, cc, cur, e', hp, h3, fun j z hj => ?_⟩
      rw [List.getElem?_set] at hj
      split at hj
      · rename_i hcj
        subst hcj
        split at hj
        · cases hj
          obtain ⟨v, hv, h1c, hr⟩ := h4 c a ha
          exact ⟨v, hv, h1c, AVRep.mono (Nat.le_refl _) (fun b hb' _ => ⟨hS b hb', rfl⟩) _ v (fun _ _ => rfl) (hb v hr)⟩
        · cases hj
      · obtain ⟨v, hv, h1c, hr⟩ := h4 j z hj
        exact ⟨v, hv, h1c, AVRep.mono (Nat.le_refl _) (fun b hb' _ => ⟨hS b hb', rfl⟩) _ v (fun _ _ => rfl) hr⟩
    · have := h1 e
      subst this
      exact RowRep.sub hS hrr
  · rw [hσ]
    obtain ⟨h1, r, h2⟩ := hI.io g hg
    refine ⟨h1, ?_⟩
    rw [← hσ] at h1
    have : sumOf ι (s.setRow h (.box (cs.set c x))).heap g = some ⟨ι g, r.cells, r.len⟩ := by rw [hσ]; exact sumOf_of h2
    exact sumOf_some this
  · obtain ⟨v, hv, hr⟩ := hI.env i b hb
    rw [hσ]
    exact ⟨v, hv, AVRep.mono (Nat.le_refl _) (fun b hb' _ => ⟨hS b hb', rfl⟩) _ v (fun _ _ => rfl) hr⟩


theorem Inv.setCell (hI : Inv B s tmps w ι) {h c : Nat} {cs : List AV} {a : AV} (hrow : s.heap[h]? = some (some (.box cs))) (ha : cs[c]? = some a) :
    Inv B (s.setRow h (.box (cs.set c (winify s a)))) tmps w ι := hI.setCellTo hrow ha (fun v hr => winify_rep hr)


end
end Go.Rv

set_option linter.unusedSimpArgs false
set_option linter.unusedVariables false
namespace Go.Rv

section
variable {B : Base} {s : St} {tmps : Array Value} {w : World} {ι : Plc}

theorem Rep.freeze {s : St} {a : Act} {w : World} (hR : Rep B s a w) (h : Nat) : Rep B (s.freeze B.k h) a w := by
  unfold St.freeze
  cases hb : Nat.ble B.k h with
  | false => exact hR
  | true =>
    simp only [cond_true]
    split
    · rename_i t xs hrow
      obtain ⟨hd, ι, hI⟩ := hR
      exact ⟨hd, ι, freeze_ok hI (Nat.le_of_ble_eq_true hb) (row_eq hrow)⟩
    · exact hR

theorem Rep.frzAV {s : St} {a : Act} {w : World} (hR : Rep B s a w) (x : AV) : Rep B (s.frzAV B.k x) a w := by
  unfold St.frzAV
  split
  · exact hR.freeze _
  · exact hR.freeze _
  · exact hR

theorem Inv.moreNil (h : Inv B s tmps w ι) (u : Ty) : Inv B { s with heap := s.heap ++ [some (.seq u [])] } tmps w (setPlc ι s.heap.length none) := by
  have hget : ∀ x, x ≠ s.heap.length → (s.heap ++ [some (Row.seq u [])])[x]? = s.heap[x]? := fun x hx => by
    by_cases hl : x < s.heap.length
    · exact List.getElem?_append_left hl
    · rw [List.getElem?_append_right (by omega), List.getElem?_eq_none (by simp; omega), List.getElem?_eq_none (by omega)]
  have hself : (s.heap ++ [some (Row.seq u [])])[s.heap.length]? = some (some (.seq u [])) := by simp
  refine h.turn (s' := { s with heap := s.heap ++ [some (.seq u [])] }) (g := s.heap.length) (r := .seq u []) (p := none) (fun x => ∃ r0, s.heap[x]? = some (some r0)) hself rfl ?_ ?_ (Kept.refl _ _) (fun _ _ _ _ => rfl) ?_ ?_ (fun x hx => hx) (fun _ => rfl) ?_ ?_ (fun q hq => by cases hq)
  · intro h' r' hne hr'
    simp only at hr'
    rw [hget h' hne] at hr'
    exact ⟨r', hr', .rfl, rfl, rfl, fun _ _ _ _ hh => hh, fun x hx => by
      obtain ⟨q, hq⟩ := (h.hrep.rows h' r' hr').refs_some x hx
      exact sumOf_some hq⟩
  · intro h' r0 hne hr0
    exact ⟨r0, by simp only; rw [hget h' hne]; exact hr0⟩
  · intro q hq; cases hq
  · rintro ⟨r0, hr0⟩; simp at hr0
  · intro i a ha
    obtain ⟨v, hv, hr⟩ := h.env i a ha
    exact ⟨v, hv, .inl ⟨a, hr, .inl rfl, fun x hx => by obtain ⟨q, hq⟩ := AVRep.refs_some a v x hr hx; exact sumOf_some hq⟩⟩
  · intro hk
    obtain ⟨_, r0, hr0⟩ := h.io _ hk
    simp at hr0

theorem Rep.nilRow {a : Act} {w : World} (r : Row) (slot c : Nat) {s : St} (hR : Rep B s a w) (hmore : ∀ ι, Inv B s a.tmps w ι → ∃ ι', Inv B { s with heap := s.heap ++ [some r] } a.tmps w ι' ∧ ∃ k, sumOf ι' (s.heap ++ [some r]) s.heap.length = some ⟨none, k, 0⟩) : Rep B (Rv.nilRow r slot c s) a w := by
  unfold Rv.nilRow
  split
  · rename_i hs
    obtain ⟨hd, ι, hI⟩ := hR
    obtain ⟨ι', h1, k, hk⟩ := hmore ι hI
    exact ⟨hd, ι', h1.setEnvTo (t := slot) (a := .nils) (x := .slc s.heap.length) hs (fun v ⟨b, hv⟩ => ⟨⟨none, k, 0⟩, hk, rfl, rfl, b, hv⟩)⟩
  · rename_i cs hs
    split
    · rename_i hc
      obtain ⟨hd, ι, hI⟩ := hR
      obtain ⟨ι', h1, k, hk⟩ := hmore ι hI
      exact ⟨hd, ι', h1.setEnvTo (t := slot) (a := .agg cs) hs (fun v ⟨vs, e, hv⟩ => ⟨vs, e, AVsRep.setTo (a := .nils) (x := .slc s.heap.length) (fun v ⟨b, hv⟩ => ⟨⟨none, k, 0⟩, hk, rfl, rfl, b, hv⟩) cs c vs hc hv⟩)⟩
    · exact hR
  · rename_i h o hs
    split
    · rename_i cs hrow
      split
      · rename_i hc
        obtain ⟨hd, ι, hI⟩ := hR
        have hr := row_eq hrow
        have hlt := (List.getElem?_eq_some_iff.1 hr).1
        obtain ⟨ι', h0, k, hk⟩ := hmore ι hI
        have h1 := h0.setCellTo (h := h) (c := c) (cs := cs) (a := .nils) (x := .slc s.heap.length) (by simp only; rw [List.getElem?_append_left hlt]; exact hr) hc (fun v ⟨b, hv⟩ => ⟨⟨none, k, 0⟩, hk, rfl, rfl, b, hv⟩)
        refine ⟨hd, ι', ?_⟩
        have e : (St.setRow { s with heap := s.heap ++ [some r] } h (.box (cs.set c (.slc s.heap.length)))) = { s with heap := s.heap.set h (some (.box (cs.set c (.slc s.heap.length)))) ++ [some r] } := by
          simp only [St.setRow]
          rw [List.set_append_left _ _ hlt]
        rw [e] at h1
        exact h1
      · exact hR
    · exact hR
  · exact hR

theorem Rep.nilSeq {a : Act} {w : World} (t : Ty) (slot c : Nat) {s : St} (hR : Rep B s a w) : Rep B (Rv.nilRow (.seq t []) slot c s) a w :=
  hR.nilRow _ _ _ fun ι hI => ⟨setPlc ι s.heap.length none, hI.moreNil t, t.cells, by simp [sumOf, setPlc, Row.cells, Row.len]⟩

theorem Rep.turnOne {a : Act} {w : World} (p : Turn) {s : St} (hR : Rep B s a w) : Rep B (turnOne B.k p s) a w := by
  unfold Rv.turnOne
  split
  · split
    · cases p.win with
      | true => exact hR
      | false => exact hR.nilSeq _ _ _
    · exact hR
  split
  · split
    · rename_i x hx
      cases p.win with
      | true =>
        obtain ⟨hd, ι, hI⟩ := hR
        exact ⟨hd, ι, hI.putEnv hx⟩
      | false => exact hR.frzAV x
    · exact hR
  · split
    · split
      · rename_i hrow
        split
        · rename_i x hx
          cases p.win with
          | true =>
            obtain ⟨hd, ι, hI⟩ := hR
            exact ⟨hd, ι, hI.setCell (row_eq hrow) hx⟩
          | false => exact hR.frzAV x
        · exact hR
      · exact hR
    · rename_i cs hx
      split
      · rename_i x hc
        cases p.win with
        | true =>
          obtain ⟨hd, ι, hI⟩ := hR
          exact ⟨hd, ι, hI.setEnvTo hx (fun v ⟨vs, e, hv⟩ => ⟨vs, e, AVsRep.setTo (fun v hr => winify_rep hr) cs _ vs hc hv⟩)⟩
        | false => exact hR.frzAV x
      · exact hR
    · exact hR

theorem Rep.freezeAt {a : Act} {w : World} (i : Nat) : ∀ (fr : List Turn) {s : St}, Rep B s a w → Rep B (freezeAt B.k i fr s) a w
  | [], _, hR => hR
  | p :: r, s, hR => by
    unfold Rv.freezeAt
    cases Nat.beq p.at_ i with
    | false => exact Rep.freezeAt i r hR
    | true => exact Rep.freezeAt i r (hR.turnOne p)

end
end Go.Rv
