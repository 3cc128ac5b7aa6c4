/-
  Soundness of the abstract run, a part. Conditions: none.
-/
import Derived.Test.YtenenhmofmdcbabDoorRm
set_option linter.unusedSimpArgs false
set_option linter.unusedVariables false
namespace Go.Rv

section
variable {P : Program} {T : TT} {B : Base} {s : St} {tmps : Array Value} {w : World} {ι : Plc}

theorem DCells.list_of {S : Nat → Prop} {u : Ty} {xs : List u.den} {b o c : Nat} (hle : xs.length ≤ c) (hb : S b) (hlt : b < w.heap.size)
    (hall : ∀ (i : Nat) x, xs[i]? = some x → ∃ cs, DCells w S u x cs ∧ HasCells w b (o + i * u.cells) cs) : DCells w S (.list u) xs [.slice (some ⟨b, o, none⟩) xs.length c] :=
  ⟨some ⟨b, o, none⟩, c, rfl, hle, .inr ⟨b, o, rfl, hb, hlt, hall⟩⟩

/-- What a slice of ours shows, as a datum. -/
theorem slc_dat (hH : HRep B.D w ι s.heap) {S1 : Nat → Prop} (hS : ∀ b, dst B.D w ι s.heap b → S1 b) {g : Nat} {u : Ty} {xs : List u.den} (hr : s.heap[g]? = some (some (.seq u xs))) (hown : ∀ p, ι g = some p → S1 p.1)
    {off len : Nat} {q : Sum} (hq : sumOf ι s.heap g = some q) (hl : off + len ≤ q.len) {v : Value} (hw : WinAt q off len v) : DCells w S1 (.list u) ((xs.drop off).take len) [v] := by
  have hq' := sum_of_row hr hq
  subst hq'
  simp only at hl
  have hlen : ((xs.drop off).take len).length = len := by simp; omega
  unfold WinAt at hw
  simp only at hw
  split at hw
  · rename_i b o c hp
    obtain ⟨hle, rfl | ⟨h0, a, rfl⟩⟩ := hw
    · have hrr := hH.rows g _ hr
      rw [hp] at hrr
      have hlt : b < w.heap.size := hrr.lt
      have := DCells.list_of (w := w) (S := S1) (u := u) (xs := (xs.drop off).take len) (b := b) (o := o + off * u.cells) (c := c - off) (by omega) (hown _ hp) hlt (fun i x hx => by
        have hx' : xs[off + i]? = some x := by
          rw [List.getElem?_take] at hx
          split at hx
          · rw [List.getElem?_drop] at hx; exact hx
          · cases hx
        obtain ⟨cs, hd, hc⟩ := seq_cells hH hr hp hx'
        exact ⟨cs, DCells.sub hS hd, by rw [Nat.add_assoc, ← Nat.add_mul]; exact hc⟩)
      rw [hlen] at this
      exact this
    · have hz : len = 0 := by omega
      subst hz
      exact ⟨a, 0, by simp, by simp, .inl (by simp)⟩
  · obtain ⟨_, hz, a, rfl⟩ := hw
    subst hz
    exact ⟨a, 0, by simp, by simp, .inl (by simp)⟩

theorem handArg_rep (hI : Inv B s tmps w ι) {S1 : Nat → Prop} (hS : ∀ b, dst B.D w ι s.heap b → S1 b) {io : Bool} {t : TypeId} {a x : AV} (h : handArg s T io t a = some x)
    (hro : ∀ g ∈ roIds [a] [x], ∀ p, ι g = some p → S1 p.1) {v : Value} (hv : AVRep w (dst B.D w ι s.heap) (sumOf ι s.heap) a v) : AVRep w S1 (sumOf ι s.heap) x v := by
  have keep : ∀ a : AV, AVRep w (dst B.D w ι s.heap) (sumOf ι s.heap) a v → AVRep w S1 (sumOf ι s.heap) a v := fun a ha =>
    AVRep.mono (Nat.le_refl _) (fun b hb _ => ⟨hS b hb, rfl⟩) a v (fun _ _ => rfl) ha
  unfold handArg at h
  split at h
  · rename_i g
    split at h
    · simp at h; subst h; exact keep _ hv
    · split at h
      · rename_i u xs hrow
        simp at h
        subst h
        obtain ⟨q, hq, hw⟩ := hv
        have hr := row_eq hrow
        have hq' := sum_of_row hr hq
        subst hq'
        have := slc_dat hI.hrep hS hr (fun p hp => hro g (by simp [roIds]) p hp) hq (by simp) hw
        simp only [List.drop_zero, List.take_length] at this
        exact this
      · cases h
  · rename_i g off len
    split at h
    · cases h
    · split at h
      · rename_i u xs hrow
        simp at h
        subst h
        obtain ⟨q, hq, hl, hw⟩ := hv
        exact slc_dat hI.hrep hS (row_eq hrow) (fun p hp => hro g (by simp [roIds]) p hp) hq hl hw
      · cases h
  · split at h
    · split at h
      · simp at h; subst h
        obtain ⟨a, rfl⟩ := hv
        exact ⟨a, 0, rfl, Nat.le_refl _, .inl rfl⟩
      · cases h
    · cases h
  · cases h
  · cases h
  · cases h
  · cases h
  · simp at h; subst h; exact keep _ hv

theorem handArgs_rep (hI : Inv B s tmps w ι) {S1 : Nat → Prop} (hS : ∀ b, dst B.D w ι s.heap b → S1 b) {io : Nat → Bool} : ∀ (as : List AV) (n : Nat) (ts : List TypeId) (xs : List AV) (vs : List Value), handArgs s T io n ts as = some xs →
    (∀ g ∈ roIds as xs, ∀ p, ι g = some p → S1 p.1) → AVsRep w (dst B.D w ι s.heap) (sumOf ι s.heap) as vs → AVsRep w S1 (sumOf ι s.heap) xs vs
  | [], n, ts, xs, vs, h, _, hv => by
    cases ts <;> simp [handArgs] at h <;> subst h <;> exact hv
  | a :: r, n, [], xs, vs, h, _, hv => by simp [handArgs] at h
  | a :: r, n, t :: ts, xs, vs, h, hro, hv => by
    simp only [handArgs] at h
    split at h
    · rename_i x l hx hl
      simp at h
      subst h
      obtain ⟨v, vr, rfl, h1, h2⟩ := hv
      have hsplit : roIds (a :: r) (x :: l) = roIds [a] [x] ++ roIds r l := by
        simp [roIds]
      rw [hsplit] at hro
      exact ⟨v, vr, rfl, handArg_rep hI hS hx (fun g hg => hro g (List.mem_append_left _ hg)) h1, handArgs_rep hI hS r (n + 1) ts l vr hl (fun g hg => hro g (List.mem_append_right _ hg)) h2⟩
    · cases h

theorem sub_get {H : Heap} {ids : List Nat} {j : Nat} {r : Row} (h : (subHeap H ids)[j]? = some (some r)) : ∃ g r0, ids[j]? = some g ∧ H[g]? = some (some r0) ∧ r = r0.ren (place ids) := by
  unfold subHeap at h
  rw [List.getElem?_map] at h
  cases hi : ids[j]? with
  | none => simp [hi] at h
  | some g =>
    simp only [hi, Option.map_some] at h
    cases hg : H[g]? with
    | none => simp [hg] at h
    | some x =>
      cases x with
      | none => simp [hg] at h
      | some r0 => simp [hg] at h; exact ⟨g, r0, rfl, hg, h.symm⟩

theorem sub_of {H : Heap} {ids : List Nat} {j g : Nat} {r0 : Row} (hi : ids[j]? = some g) (hg : H[g]? = some (some r0)) : (subHeap H ids)[j]? = some (some (r0.ren (place ids))) := by
  simp [subHeap, hi, hg]

theorem acall_ok {C : Ctx} (horc : ∀ f, Sound P f (C.orc f)) (hI : Inv B s tmps w ι) {β : Type} {base : Nat} {f : FuncId} {args : List AV} {types : List TypeId} {K : AV → St → Option β} {r : β}
    (h : acall (optAlg β) C base s f args types K = some r) {vs : List Value} (hv : AVsRep w (dst B.D w ι s.heap) (sumOf ι s.heap) args vs) :
    ∃ a s', K a s' = some r ∧ Calls P f vs.toArray w (fun e w' => ∃ v ι', e = .returned v ∧ Inv B s' tmps w' ι' ∧ AVRep w' (dst B.D w' ι' s'.heap) (sumOf ι' s'.heap) a v) := by
  unfold acall at h
  split at h
  · cases h
  · rename_i avs havs
    simp only at h
    split at h
    · rename_i hchk
      generalize hids : reach s.heap (s.heap.length + 1) 0 (addNew [] (idsL avs)) = ids at h hchk
      generalize hro : roIds args avs = ro at h hchk
      simp only [Bool.and_eq_true] at hchk
      obtain ⟨⟨⟨⟨hnd, hcl⟩, hall⟩, hroi⟩, hfr⟩ := hchk
      simp only [optAlg] at h
      cases horx : (C.orc f (renL (place ids) avs) (subHeap s.heap ids)).o with
      | none => simp [horx] at h
      | some qx =>
        simp only [horx, Option.bind_some] at h
        generalize hq0 : (C.orc f (renL (place ids) avs) (subHeap s.heap ids)).enc qx = q at h
        obtain ⟨ra, H'⟩ := q
        have horun : (C.orc f (renL (place ids) avs) (subHeap s.heap ids)).run = some (ra, H') := by simp [Ans.run, horx, hq0]
        split at h
        · rename_i hchk2
          simp only [Bool.and_eq_true, decide_eq_true_eq] at hchk2
          obtain ⟨⟨hw1, hw2⟩, halias⟩ := hchk2
          refine ⟨_, _, h, ?_⟩
          -- the callee's view
          let ιs : Plc := fun j => match ids[j]? with | some g => ι g | none => none
          have hidx : ∀ g, g ∈ ids → ids[place ids g]? = some g := fun g hg => place_get hg
          have hsum : ∀ g, g ∈ ids → sumOf ιs (subHeap s.heap ids) (place ids g) = sumOf ι s.heap g := fun g hg => by
            obtain ⟨r0, hr0, _⟩ := closed_get hcl hg
            have := sub_of (hidx g hg) hr0
            simp [sumOf, this, hr0, ιs, hidx g hg, Row.ren_cells, Row.ren_len]
          have hstab : ∀ b, stab w ι s.heap b → stab w ιs (subHeap s.heap ids) b := fun b hb => by
            refine ⟨hb.1, fun j r p hj hp => ?_⟩
            obtain ⟨g, r0, hi, hg, _⟩ := sub_get hj
            simp only [ιs, hi] at hp
            exact hb.2 g r0 p hg hp
          have hother : ∀ g r0 p, g ∉ ids → s.heap[g]? = some (some r0) → ι g = some p → stab w ιs (subHeap s.heap ids) p.1 := fun g r0 p hng hr0 hp => by
            have hrr := hI.hrep.rows g r0 hr0
            rw [hp] at hrr
            refine ⟨hrr.lt, fun j r p' hj hp' => ?_⟩
            obtain ⟨g', r', hi, hg', _⟩ := sub_get hj
            simp only [ιs, hi] at hp'
            exact hI.hrep.sep g' g r' r0 p' p hg' hr0 hp' hp (fun e => hng (e ▸ List.mem_of_getElem? hi))
          let D1 : Nat → Prop := fun b => dst B.D w ι s.heap b ∨ (∃ g ∈ ro, ∃ p, ι g = some p ∧ p.1 = b) ∨ w.heap.size ≤ b ∨ (∃ g ∈ ids, ∃ p, ι g = some p ∧ p.1 = b)
          have hS : ∀ b, dst B.D w ι s.heap b → dst D1 w ιs (subHeap s.heap ids) b := fun b hb => ⟨.inl hb, hstab b hb.2⟩
          have hrorow : ∀ g ∈ ro, ∃ r0, s.heap[g]? = some (some r0) := fun g hg => by
              -- a row that was handed over is there
              have key : ∀ (as xs : List AV) (vs : List Value), AVsRep w (dst B.D w ι s.heap) (sumOf ι s.heap) as vs → g ∈ roIds as xs → ∃ r0, s.heap[g]? = some (some r0) := by
                intro as
                induction as with
                | nil => intro xs vs _ hg; cases xs <;> simp [roIds] at hg
                | cons a r ih =>
                  intro xs vs hvs hg
                  obtain ⟨v, vr, rfl, h1, h2⟩ := hvs
                  cases xs with
                  | nil => simp [roIds] at hg
                  | cons x xr =>
                    simp only [roIds, List.mem_append] at hg
                    rcases hg with hg | hg
                    · have : a.refs g = true := by
                        split at hg
                        · simp at hg; subst hg; simp [AV.refs]
                        · simp at hg; subst hg; simp [AV.refs]
                        · cases hg
                      obtain ⟨q, hq⟩ := AVRep.refs_some a v g h1 this
                      exact sumOf_some hq
                    · exact ih xr vr h2 hg
              exact key args avs vs hv (by rw [hro]; exact hg)
          have hroS : ∀ g ∈ roIds args avs, ∀ p, ι g = some p → dst D1 w ιs (subHeap s.heap ids) p.1 := fun g hg p hp => by
            rw [hro] at hg
            have hng : g ∉ ids := by
              have := List.all_eq_true.1 hroi g hg
              simpa using this
            have hrow : ∃ r0, s.heap[g]? = some (some r0) := hrorow g hg
            obtain ⟨r0, hr0⟩ := hrow
            exact ⟨.inr (.inl ⟨g, hg, p, hp, rfl⟩), hother g r0 p hng hr0 hp⟩
          have hargs : AVsRep w (dst D1 w ιs (subHeap s.heap ids)) (sumOf ιs (subHeap s.heap ids)) (renL (place ids) avs) vs := by
            have h1 := handArgs_rep hI hS args 0 types avs vs havs hroS hv
            refine AVsRep.ren avs vs (.inl fun b hb => hb) (fun g hg => ?_) h1
            have hm : g ∈ ids := by
              have := List.all_eq_true.1 hall g (refsL_ids avs g hg)
              simpa using this
            exact hsum g hm
          have hHs : HRep D1 w ιs (subHeap s.heap ids) := by
            refine ⟨fun j r hj => ?_, fun j1 j2 r1 r2 p1 p2 e1 e2 q1 q2 hne => ?_, fun j r p hj hp => ?_⟩
            · obtain ⟨g, r0, hi, hg, rfl⟩ := sub_get hj
              have hι : ιs j = ι g := by simp [ιs, hi]
              rw [hι]
              refine RowRep.ren (.inl hS) (fun x hx => ?_) (hI.hrep.rows g r0 hg)
              obtain ⟨r1, hr1, hin⟩ := closed_get hcl (List.mem_of_getElem? hi)
              have : r1 = r0 := by rw [hg] at hr1; simpa using hr1.symm
              subst this
              exact hsum x (hin x (Row.refs_ids hx))
            · obtain ⟨g1, r1', hi1, hg1, _⟩ := sub_get e1
              obtain ⟨g2, r2', hi2, hg2, _⟩ := sub_get e2
              simp only [ιs, hi1] at q1
              simp only [ιs, hi2] at q2
              exact hI.hrep.sep g1 g2 r1' r2' p1 p2 hg1 hg2 q1 q2 (fun e => hne (nodup_inj hnd hi1 (e ▸ hi2)))
            · obtain ⟨g, r0, hi, hg, _⟩ := sub_get hj
              simp only [ιs, hi] at hp
              exact .inr (.inr (.inr ⟨g, List.mem_of_getElem? hi, p, hp, rfl⟩))
          have hglob : GlobsOk w (dst D1 w ιs (subHeap s.heap ids)) := hI.glob.mono (Nat.le_refl _) (fun b hb _ => ⟨hS b hb, rfl⟩)
          have hpres : ∀ j, j < (subHeap s.heap ids).length → ∃ x, (subHeap s.heap ids)[j]? = some (some x) := fun j hj => by
            have hj' : j < ids.length := by simpa [subHeap] using hj
            obtain ⟨r0, hr0, _⟩ := closed_get hcl (List.getElem_mem hj')
            exact ⟨_, sub_of (List.getElem?_eq_getElem hj') hr0⟩
          refine (horc f _ _ _ _ horun D1 w vs ιs (fun b hb => .inr (.inr (.inl hb))) hHs hglob hpres hargs).mono fun e w' hpost => ?_
          obtain ⟨v, ιc, rfl, hk, hHc, hst, hsumc, hres⟩ := hpost
          -- what comes back
          let bk := backTo ids base
          have hbk1 : ∀ j g, ids[j]? = some g → bk j = g := fun j g hj => by simp [bk, backTo, hj]
          have hbk2 : ∀ j, ids.length ≤ j → bk j = base + (j - ids.length) := fun j hj => by
            simp [bk, backTo, List.getElem?_eq_none hj]
          have hbkrow : ∀ j, j < H'.length → (j < ids.length ∧ ∃ r0, s.heap[bk j]? = some (some r0) ∧ bk j ∈ ids) ∨ (ids.length ≤ j ∧ s.heap[bk j]? = some none) := fun j hj => by
            by_cases hji : j < ids.length
            · obtain ⟨r0, hr0, _⟩ := closed_get hcl (List.getElem_mem hji)
              have := hbk1 j _ (List.getElem?_eq_getElem hji)
              exact .inl ⟨hji, r0, by rw [this]; exact hr0, by rw [this]; exact List.getElem_mem hji⟩
            · refine .inr ⟨by omega, ?_⟩
              rw [hbk2 j (by omega)]
              exact fresh_get hfr (by omega)
          have hinj : ∀ i j, i < H'.length → j < H'.length → bk i = bk j → i = j := fun i j hi hj e => by
            by_cases hii : i < ids.length
            · by_cases hjj : j < ids.length
              · have h1 := hbk1 i _ (List.getElem?_eq_getElem hii)
                have h2 := hbk1 j _ (List.getElem?_eq_getElem hjj)
                refine nodup_inj hnd (List.getElem?_eq_getElem hii) ?_
                rw [List.getElem?_eq_getElem hjj, ← h1, ← h2, e]
              · rcases hbkrow i hi with ⟨_, r0, h1, _⟩ | ⟨h1, _⟩
                · rcases hbkrow j hj with ⟨h2, _⟩ | ⟨_, h2⟩
                  · omega
                  · rw [e, h2] at h1; simp at h1
                · omega
            · by_cases hjj : j < ids.length
              · rcases hbkrow j hj with ⟨_, r0, h1, _⟩ | ⟨h1, _⟩
                · rcases hbkrow i hi with ⟨h2, _⟩ | ⟨_, h2⟩
                  · omega
                  · rw [← e, h2] at h1; simp at h1
                · omega
              · rw [hbk2 i (by omega), hbk2 j (by omega)] at e
                omega
          let H2 := putRows bk 0 H' s.heap
          let isB : Nat → Nat → Prop := fun g j => j < H'.length ∧ bk j = g
          let ι2 : Plc := fun g => match (List.range H'.length).find? (fun j => bk j == g) with | some j => ιc j | none => ι g
          have hι2b : ∀ j, j < H'.length → ι2 (bk j) = ιc j := fun j hj => by
            have : (List.range H'.length).find? (fun i => bk i == bk j) = some j := by
              cases hf : (List.range H'.length).find? (fun i => bk i == bk j) with
              | none =>
                have := List.find?_eq_none.1 hf j (List.mem_range.2 hj)
                simp at this
              | some i =>
                have h1 := List.find?_some hf
                have h2 := List.mem_of_find?_eq_some hf
                simp at h1 h2
                rw [hinj i j h2 hj h1]
            simp [ι2, this]
          have hι2o : ∀ g, (∀ j, j < H'.length → bk j ≠ g) → ι2 g = ι g := fun g hg => by
            have : (List.range H'.length).find? (fun i => bk i == g) = none := by
              rw [List.find?_eq_none]
              intro i hi
              simp at hi ⊢
              exact hg i hi
            simp [ι2, this]
          have hlenH : ∀ j, j < H'.length → bk j < s.heap.length := fun j hj => by
            rcases hbkrow j hj with ⟨_, r0, h1, _⟩ | ⟨_, h1⟩ <;> exact (List.getElem?_eq_some_iff.1 h1).1
          have hH2b : ∀ (j : Nat) r, H'[j]? = some (some r) → H2[bk j]? = some (some (r.ren bk)) := fun j r hj => by
            have hjl := (List.getElem?_eq_some_iff.1 hj).1
            have := putRows_hit bk H' 0 s.heap j r hj (by simpa using hlenH j hjl) (fun i x hx he => hinj i j (List.getElem?_eq_some_iff.1 hx).1 hjl (by simpa using he))
            simpa [H2] using this
          have hH2m : ∀ g, (∀ (j : Nat) r, H'[j]? = some (some r) → bk j ≠ g) → H2[g]? = s.heap[g]? := fun g hg => by
            exact putRows_miss bk g H' 0 s.heap (fun j r hj => by simpa using hg j r hj)
          have hH2 : ∀ g r, H2[g]? = some (some r) → (∃ j r0, H'[j]? = some (some r0) ∧ bk j = g ∧ r = r0.ren bk ∧ ι2 g = ιc j) ∨ ((∀ j, j < H'.length → bk j ≠ g) ∧ s.heap[g]? = some (some r) ∧ ι2 g = ι g ∧ g ∉ ids) := fun g r hg => by
            by_cases hex : ∃ j, j < H'.length ∧ bk j = g
            · obtain ⟨j, hj, rfl⟩ := hex
              left
              cases hjr : H'[j]? with
              | none => rw [List.getElem?_eq_none_iff] at hjr; omega
              | some x =>
                cases x with
                | some r0 =>
                  have := hH2b j r0 hjr
                  rw [hg] at this
                  simp at this
                  exact ⟨j, r0, hjr, rfl, this, hι2b j hj⟩
                | none =>
                  -- no row there: what stood before must have been none
                  have hm : H2[bk j]? = s.heap[bk j]? := hH2m _ (fun i x hi e => by
                    have := hinj i j (List.getElem?_eq_some_iff.1 hi).1 hj e
                    subst this
                    rw [hjr] at hi; simp at hi)
                  rcases hbkrow j hj with ⟨hji, r0, h1, _⟩ | ⟨_, h1⟩
                  · have hs := hsumc j (by simpa [subHeap] using hji)
                    obtain ⟨x, hx⟩ := hpres j (by simpa [subHeap] using hji)
                    rw [sumOf_of hx] at hs
                    obtain ⟨r1, hr1⟩ := sumOf_some hs
                    rw [hjr] at hr1; simp at hr1
                  · rw [hm, h1] at hg; simp at hg
            · right
              have hno : ∀ j, j < H'.length → bk j ≠ g := fun j hj e => hex ⟨j, hj, e⟩
              refine ⟨hno, ?_, hι2o g hno, fun hgi => ?_⟩
              · rw [← hH2m g (fun j r hj => hno j (List.getElem?_eq_some_iff.1 hj).1)]; exact hg
              · have h1 := hidx g hgi
                have h2 := (List.getElem?_eq_some_iff.1 h1).1
                exact hno (place ids g) (by omega) (hbk1 _ _ h1)
          have hsum2 : ∀ j r, H'[j]? = some (some r) → sumOf ι2 H2 (bk j) = sumOf ιc H' j := fun j r hj => by
            have hjl := (List.getElem?_eq_some_iff.1 hj).1
            rw [sumOf_of (hH2b j r hj), sumOf_of hj, hι2b j hjl, Row.ren_cells, Row.ren_len]
          have hst2 : ∀ b, stab w ι s.heap b → stab w' ι2 H2 b := fun b hb => by
            have h1 := hst b (hstab b hb)
            refine ⟨h1.1, fun g r p hg hp => ?_⟩
            rcases hH2 g r hg with ⟨j, r0, hj, _, _, hι⟩ | ⟨_, hr0, hι, _⟩
            · rw [hι] at hp; exact h1.2 j r0 p hj hp
            · rw [hι] at hp; exact hb.2 g r p hr0 hp
          have ht : Trans w ι s.heap w' ι2 H2 (fun x => ∃ r0, s.heap[x]? = some (some r0)) := by
            refine ⟨hk.size, fun b hb => ⟨hst2 b hb, hk.block b (hstab b hb)⟩, fun g ⟨r0, hr0⟩ => ?_⟩
            by_cases hgi : g ∈ ids
            · have h1 := hidx g hgi
              have h2 := (List.getElem?_eq_some_iff.1 h1).1
              have h3 := hsumc (place ids g) (by simpa [subHeap] using h2)
              rw [hsum g hgi, sumOf_of hr0] at h3
              obtain ⟨r1, hr1⟩ := sumOf_some h3
              have h4 := hsum2 _ r1 hr1
              rw [hbk1 _ _ h1] at h4
              rw [h4, h3, sumOf_of hr0]
            · have hno : ∀ j, j < H'.length → bk j ≠ g := fun j hj e => by
                rcases hbkrow j hj with ⟨_, r1, _, h2⟩ | ⟨_, h2⟩
                · exact hgi (e ▸ h2)
                · rw [e, hr0] at h2; simp at h2
              have hm := hH2m g (fun j r hj => hno j (List.getElem?_eq_some_iff.1 hj).1)
              simp [sumOf, hm, hr0, hι2o g hno]
          have hDst : ro = [] → ∀ b, dst D1 w' ιc H' b → dst B.D w' ι2 H2 b := fun hro0 b hb => by
            obtain ⟨hd, hs⟩ := hb
            rcases hd with hd | ⟨g, hg, _⟩ | hd | ⟨g, hg, p0, hp0, hb0⟩
            · exact ⟨hd.1, hst2 b hd.2⟩
            · rw [hro0] at hg; cases hg
            rotate_left
            · obtain ⟨r0, hr0, _⟩ := closed_get hcl hg
              refine ⟨by rw [← hb0]; exact hI.hrep.own g r0 p0 hr0 hp0, hs.1, fun g2 r p hg2 hp => ?_⟩
              rcases hH2 g2 r hg2 with ⟨j, r1, hj, _, _, hι⟩ | ⟨_, hr1, hι, hng⟩
              · rw [hι] at hp; exact hs.2 j r1 p hj hp
              · rw [hι] at hp
                rw [← hb0]
                exact hI.hrep.sep g2 g r r0 p p0 hr1 hr0 hp hp0 (fun e => hng (e ▸ hg))
            · refine ⟨B.new b (Nat.le_trans hI.kept.size hd), hs.1, fun g r p hg hp => ?_⟩
              rcases hH2 g r hg with ⟨j, r0, hj, _, _, hι⟩ | ⟨_, hr0, hι, _⟩
              · rw [hι] at hp; exact hs.2 j r0 p hj hp
              · rw [hι] at hp
                have hrr := hI.hrep.rows g r hr0
                rw [hp] at hrr
                have := hrr.lt
                omega
          have hfreeR : (∀ b, dst D1 w' ιc H' b → dst B.D w' ι2 H2 b) ∨ ra.hasList = false := by
            cases hroe : ro with
            | nil => exact .inl (hDst hroe)
            | cons a r =>
              right
              rw [hroe] at halias
              simp only [List.isEmpty_cons, Bool.false_or, Bool.not_eq_true', Bool.or_eq_false_iff] at halias
              exact halias.1
          have hfreeH : ∀ (j : Nat) r0, H'[j]? = some (some r0) → (∀ b, dst D1 w' ιc H' b → dst B.D w' ι2 H2 b) ∨ r0.hasList = false := fun j r0 hj => by
            cases hroe : ro with
            | nil => exact .inl (hDst hroe)
            | cons a r =>
              right
              rw [hroe] at halias
              simp only [List.isEmpty_cons, Bool.false_or, Bool.not_eq_true', Bool.or_eq_false_iff] at halias
              have := List.any_eq_false.1 halias.2 _ (List.mem_of_getElem? hj)
              simpa using this
          have hrefR : ∀ (a : AV) (u : Value), AVRep w' (dst D1 w' ιc H') (sumOf ιc H') a u → ∀ g, a.refs g = true → sumOf ι2 H2 (bk g) = sumOf ιc H' g := fun a u ha g hg => by
            obtain ⟨q, hq⟩ := AVRep.refs_some a u g ha hg
            obtain ⟨r1, hr1⟩ := sumOf_some hq
            exact hsum2 g r1 hr1
          refine ⟨v, ι2, rfl, ⟨hI.kept.trans hk (fun b hb => hstab b (hI.stay b hb)), ⟨fun g r hg => ?_, fun g1 g2 r1 r2 p1 p2 e1 e2 q1 q2 hne => ?_, fun g r p hg hp => ?_⟩, fun b hb => hst2 b (hI.stay b hb), fun g hg => ?_, fun i a ha => ?_, ht.globs hI.glob⟩, ?_⟩
          · rcases hH2 g r hg with ⟨j, r0, hj, _, rfl, hι⟩ | ⟨hno, hr0, hι, hgi⟩
            · rw [hι]
              refine RowRep.ren (hfreeH j r0 hj) (fun x hx => ?_) (hHc.rows j r0 hj)
              obtain ⟨q, hq⟩ := (hHc.rows j r0 hj).refs_some x hx
              obtain ⟨r1, hr1⟩ := sumOf_some hq
              exact hsum2 x r1 hr1
            · rw [hι]
              refine ht.row (fun x hx => ?_) (fun b o c hp => hk.block b (hother g r (b, o, c) hgi hr0 hp)) (hI.hrep.rows g r hr0)
              obtain ⟨q, hq⟩ := (hI.hrep.rows g r hr0).refs_some x hx
              exact sumOf_some hq
          · rcases hH2 g1 r1 e1 with ⟨j1, s1, hj1, hb1, _, hι1⟩ | ⟨_, hr1, hι1, hgi1⟩ <;> rcases hH2 g2 r2 e2 with ⟨j2, s2, hj2, hb2, _, hι2⟩ | ⟨_, hr2, hι2, hgi2⟩
            · rw [hι1] at q1; rw [hι2] at q2
              exact hHc.sep j1 j2 s1 s2 p1 p2 hj1 hj2 q1 q2 (fun e => hne (by rw [← hb1, ← hb2, e]))
            · rw [hι1] at q1; rw [hι2] at q2
              exact (hst _ (hother g2 r2 p2 hgi2 hr2 q2)).2 j1 s1 p1 hj1 q1
            · rw [hι1] at q1; rw [hι2] at q2
              exact fun e => (hst _ (hother g1 r1 p1 hgi1 hr1 q1)).2 j2 s2 p2 hj2 q2 e.symm
            · rw [hι1] at q1; rw [hι2] at q2
              exact hI.hrep.sep g1 g2 r1 r2 p1 p2 hr1 hr2 q1 q2 hne
          · rcases hH2 g r hg with ⟨j, r0, hj, _, _, hι⟩ | ⟨_, hr0, hι, _⟩
            · rw [hι] at hp
              rcases hHc.own j r0 p hj hp with hd | ⟨g', hg', p', hp', hb'⟩ | hd | ⟨g', hg', p', hp', hb'⟩
              · exact hd.1
              · rw [← hb']
                obtain ⟨r1, hr1⟩ := hrorow g' hg'
                exact hI.hrep.own g' r1 p' hr1 hp'
              · exact B.new _ (Nat.le_trans hI.kept.size hd)
              · rw [← hb']
                obtain ⟨r1, hr1, _⟩ := closed_get hcl hg'
                exact hI.hrep.own g' r1 p' hr1 hp'
            · rw [hι] at hp
              exact hI.hrep.own g r p hr0 hp
          · obtain ⟨h1, r0, hr0⟩ := hI.io g hg
            have h2 := ht.sum g ⟨r0, hr0⟩
            refine ⟨h2.trans h1, ?_⟩
            rw [sumOf_of hr0] at h2
            exact sumOf_some h2
          · obtain ⟨u, hu, hr⟩ := hI.env i a ha
            refine ⟨u, hu, ht.av (fun x hx => ?_) hr⟩
            obtain ⟨q, hq⟩ := AVRep.refs_some a u x hr hx
            exact sumOf_some hq
          · exact AVRep.ren ra v hfreeR (hrefR ra v hres) hres
        · cases h
    · cases h

end
end Go.Rv
