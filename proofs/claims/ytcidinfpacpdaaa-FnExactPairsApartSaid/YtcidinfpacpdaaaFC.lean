/-
  The framework: rows that own rows. Conditions: none.
-/
import Derived.Test.YtcidinfpacpdaaaFA
import Derived.Laws.BytesString
import Derived.Laws.StructEq
import Derived.Lib.SliceRun
set_option linter.unusedSimpArgs false
set_option linter.unusedVariables false
namespace Go.Rv

section
variable {P : Program} {T : TT} {B : Base} {s : St} {tmps : Array Value} {w : World} {ι : Plc}

theorem DCells.list_of {S : Nat → Prop} {u : Ty} {xs : List u.den} {b o c : Nat} (hle : xs.length ≤ c) (hb : S b) (hlt : b < w.heap.size)
    (hall : ∀ (i : Nat) x, xs[i]? = some x → ∃ cs, DCells w S u x cs ∧ HasCells w b (o + i * u.cells) cs) : DCells w S (.list u) xs [.slice (some ⟨b, o, none⟩) xs.length c] :=
  ⟨some ⟨b, o, none⟩, c, rfl, hle, .inr ⟨b, o, rfl, hb, hlt, hall⟩⟩

/-- What a slice of ours shows, as a datum. -/
theorem slc_dat (hH : HRep B.D w ι s.heap) {S1 : Nat → Prop} (hS : ∀ b, dst B.D w ι s.heap b → S1 b) {g : Nat} {u : Ty} {xs : List u.den} (hr : s.heap[g]? = some (some (.seq u xs))) (hown : ∀ p, ι g = some p → S1 p.1)
    {off len : Nat} {q : Sum} (hq : sumOf ι s.heap g = some q) (hl : off + len ≤ q.len) {v : Value} (hw : WinAt q off len v) : DCells w S1 (.list u) ((xs.drop off).take len) [v] := by
  have hq' := sum_of_row hr hq
  subst hq'
  simp only at hl
  have hlen : ((xs.drop off).take len).length = len := by simp; omega
  unfold WinAt at hw
  simp only at hw
  split at hw
  · rename_i b o c hp
    obtain ⟨hle, rfl | ⟨h0, a, rfl⟩⟩ := hw
    · have hrr := hH.rows g _ hr
      rw [hp] at hrr
      have hlt : b < w.heap.size := hrr.lt
      have := DCells.list_of (w := w) (S := S1) (u := u) (xs := (xs.drop off).take len) (b := b) (o := o + off * u.cells) (c := c - off) (by omega) (hown _ hp) hlt (fun i x hx => by
        have hx' : xs[off + i]? = some x := by
          rw [List.getElem?_take] at hx
          split at hx
          · rw [List.getElem?_drop] at hx; exact hx
          · cases hx
        obtain ⟨cs, hd, hc⟩ := seq_cells hH hr hp hx'
        exact ⟨cs, DCells.sub hS hd, by rw [Nat.add_assoc, ← Nat.add_mul]; exact hc⟩)
      rw [hlen] at this
      exact this
    · have hz : len = 0 := by omega
      subst hz
      exact ⟨a, 0, by simp, by simp, .inl (by simp)⟩
  · obtain ⟨_, hz, a, rfl⟩ := hw
    subst hz
    exact ⟨a, 0, by simp, by simp, .inl (by simp)⟩

/-- A slice of a whole row, as append takes it. -/
theorem win_seq {S : Nat → Prop} {σ : Nat → Option Sum} {u : Ty} {xs : List u.den} {p : Option (Nat × Nat × Nat)} {v : Value} (hrr : RowRep w S σ p (.seq u xs)) (hw : WinAt ⟨p, u.cells, xs.length⟩ 0 xs.length v) :
    (xs = [] ∧ ∃ a, v = .slice a 0 0) ∨ (∃ b o c cur e, p = some (b, o, c) ∧ v = .slice (some ⟨b, o, none⟩) xs.length c ∧ w.heap[b]? = some (.cells cur e (0, 0)) ∧ xs.length ≤ c ∧ c ≤ maxLen ∧ cur.size = o + c * u.cells ∧ SeqRep w S u xs cur o) := by
  unfold WinAt at hw
  simp only at hw
  split at hw
  · rename_i b o c
    obtain ⟨cur, e, h1, h2, h3, h4, h5⟩ := hrr
    obtain ⟨hle, rfl | ⟨hc0, a, rfl⟩⟩ := hw
    · exact .inr ⟨b, o, c, cur, e, rfl, by simp, h1, h3, h4, h2, h5⟩
    · exact .inl ⟨List.eq_nil_of_length_eq_zero (by omega), a, rfl⟩
  · obtain ⟨_, hz, a, rfl⟩ := hw
    exact .inl ⟨List.eq_nil_of_length_eq_zero hz, a, rfl⟩

/-- One of its rows, as a datum. -/
theorem nest_cell {D : Nat → Prop} {H : Heap} (hH : HRep D w ι H) {S1 : Nat → Prop} (hS : ∀ b, dst D w ι H b → S1 b) {g : Nat} {t : Ty} {xss : List (List t.den)} {m : Nat} (hr : H[g]? = some (some (.nest t xss m []))) (hown : ∀ b, Occ ι H g b → S1 b)
    {b o c : Nat} (hp : ι g = some (b, o, c)) {i : Nat} {x : List t.den} (hx : xss[i]? = some x) :
    ∃ v, w.cell? ⟨b, o + i, none⟩ = some v ∧ DCells w S1 (.list t) x [v] := by
  have hN := hH.nest g t xss m [] hr
  have hil := (List.getElem?_eq_some_iff.1 hx).1
  obtain ⟨b', o', c', cur, e, v, hp', hb', hc', hwv⟩ := hN.cell _ x hx (by simp; omega)
  rw [hp] at hp'
  cases hp'
  refine ⟨v, by rw [cells_of_block hb']; exact hc', ?_⟩
  have hpart := hN.part _ x hx
  rcases win_seq hpart hwv with ⟨rfl, a, rfl⟩ | ⟨b2, o2, c2, cur2, e2, hp2, rfl, hb2, hxc, hcm, hsz, hseq⟩
  · exact ⟨a, 0, rfl, Nat.le_refl _, .inl rfl⟩
  · refine DCells.list_of hxc (hown _ (.inn t xss m [] _ _ hr hil hp2 rfl)) (Array.getElem?_eq_some_iff.1 hb2).1 (fun j y hy => ?_)
    obtain ⟨cs, hd, hcs⟩ := hseq j y hy
    exact ⟨cs, DCells.sub hS hd, fun k z hz => by rw [cells_of_block hb2]; exact hcs k z hz⟩

/-- What a slice of a row that owns rows shows, as a datum. -/
theorem nest_dat {D : Nat → Prop} {H : Heap} (hH : HRep D w ι H) {S1 : Nat → Prop} (hS : ∀ b, dst D w ι H b → S1 b) {g : Nat} {t : Ty} {xss : List (List t.den)} {m : Nat} (hr : H[g]? = some (some (.nest t xss m []))) (hown : ∀ b, Occ ι H g b → S1 b)
    {off len : Nat} {q : Sum} (hq : sumOf ι H g = some q) (hl : off + len ≤ q.len) {v : Value} (hw : WinAt q off len v) : DCells w S1 (.list (.list t)) ((xss.drop off).take len) [v] := by
  have hq' : q = ⟨ι g, 1, xss.length⟩ := by
    rw [sumOf_of hr] at hq
    cases hq
    rfl
  subst hq'
  simp only at hl
  have hN := hH.nest g t xss m [] hr
  have hlen : ((xss.drop off).take len).length = len := by simp; omega
  unfold WinAt at hw
  simp only at hw
  split at hw
  · rename_i b o c hp
    obtain ⟨hle, rfl | ⟨h0, a, rfl⟩⟩ := hw
    · have hrr := hH.rows g _ hr
      rw [hp] at hrr
      have hlt : b < w.heap.size := hrr.lt
      have := DCells.list_of (w := w) (S := S1) (u := .list t) (xs := (xss.drop off).take len) (b := b) (o := o + off * 1) (c := c - off) (by omega) (hown _ (.out _ _ hr hp rfl)) hlt (fun i x hx => by
        have hx' : xss[off + i]? = some x := by
          rw [List.getElem?_take] at hx
          split at hx
          · rw [List.getElem?_drop] at hx; exact hx
          · cases hx
        obtain ⟨v, hc, hd⟩ := nest_cell hH hS hr hown hp hx'
        refine ⟨[v], hd, fun j y hy => ?_⟩
        cases j with
        | zero =>
          simp at hy
          subst hy
          rw [← hc]
          simp only [Ty.cells]
          congr 2
          omega
        | succ j => simp at hy)
      rw [hlen] at this
      exact this
    · have hz : len = 0 := by omega
      subst hz
      exact ⟨a, 0, by simp, by simp, .inl (by simp)⟩
  · obtain ⟨_, hz, a, rfl⟩ := hw
    subst hz
    exact ⟨a, 0, by simp, by simp, .inl (by simp)⟩

theorem handArg0_rep (hI : Inv B s tmps w ι) {S1 : Nat → Prop} (hS : ∀ b, dst B.D w ι s.heap b → S1 b) {io : Bool} {t : TypeId} {a x : AV} (h : handArg0 s T io t a = some x)
    (hro : ∀ g ∈ roCell a x, ∀ b, Occ ι s.heap g b → S1 b) {v : Value} (hv : AVRep w (dst B.D w ι s.heap) (sumOf ι s.heap) a v) : AVRep w S1 (sumOf ι s.heap) x v := by
  have keep : ∀ a : AV, AVRep w (dst B.D w ι s.heap) (sumOf ι s.heap) a v → AVRep w S1 (sumOf ι s.heap) a v := fun a ha =>
    AVRep.mono (Nat.le_refl _) (fun b hb _ => ⟨hS b hb, rfl⟩) a v (fun _ _ => rfl) ha
  unfold handArg0 at h
  split at h
  · rename_i g
    split at h
    · simp at h; subst h; exact keep _ hv
    · split at h
      · rename_i u xs hrow
        simp at h
        subst h
        obtain ⟨q, hq, hw⟩ := hv
        have hr := row_eq hrow
        have hq' := sum_of_row hr hq
        subst hq'
        have := slc_dat hI.hrep hS hr (fun p hp => hro g (by simp [roCell]) p.1 (.out _ p hr hp rfl)) hq (by simp) hw
        simp only [List.drop_zero, List.take_length] at this
        exact this
      · rename_i u xss m hrow
        simp at h
        subst h
        obtain ⟨q, hq, hw⟩ := hv
        have hr := row_eq hrow
        have hl : q.len = xss.length := by
          rw [sumOf_of hr] at hq
          cases hq
          rfl
        have := nest_dat hI.hrep hS hr (hro g (by simp [roCell])) hq (by omega) hw
        rw [hl] at this
        simp only [List.drop_zero, List.take_length] at this
        exact this
      · cases h
  · rename_i g off len
    split at h
    · cases h
    · split at h
      · rename_i u xs hrow
        simp at h
        subst h
        obtain ⟨q, hq, hl, hw⟩ := hv
        exact slc_dat hI.hrep hS (row_eq hrow) (fun p hp => hro g (by simp [roCell]) p.1 (.out _ p (row_eq hrow) hp rfl)) hq hl hw
      · cases h
  · split at h
    · simp at h; subst h; exact keep _ hv
    · split at h
      · split at h
        · simp at h; subst h
          obtain ⟨a, rfl⟩ := hv
          exact ⟨a, 0, rfl, Nat.le_refl _, .inl rfl⟩
        · cases h
      · cases h
  · cases h
  · cases h
  · cases h
  · simp at h; subst h; exact keep _ hv

theorem handCell_rep (hI : Inv B s tmps w ι) {S1 : Nat → Prop} (hS : ∀ b, dst B.D w ι s.heap b → S1 b) {a x : AV} (h : handCell s a = some x)
    (hro : ∀ g ∈ roCell a x, ∀ b, Occ ι s.heap g b → S1 b) {v : Value} (hv : AVRep w (dst B.D w ι s.heap) (sumOf ι s.heap) a v) : AVRep w S1 (sumOf ι s.heap) x v := by
  unfold handCell at h
  split at h
  · exact handArg0_rep hI hS h hro hv
  · exact handArg0_rep hI hS h hro hv
  · cases h
    exact AVRep.mono (Nat.le_refl _) (fun b hb _ => ⟨hS b hb, rfl⟩) _ _ (fun _ _ => rfl) hv

theorem handCells_rep (hI : Inv B s tmps w ι) {S1 : Nat → Prop} (hS : ∀ b, dst B.D w ι s.heap b → S1 b) : ∀ (as xs : List AV) (vs : List Value), handCells s as = some xs →
    (∀ g ∈ roCells as xs, ∀ b, Occ ι s.heap g b → S1 b) → AVsRep w (dst B.D w ι s.heap) (sumOf ι s.heap) as vs → AVsRep w S1 (sumOf ι s.heap) xs vs
  | [], xs, vs, h, _, hv => by
    simp only [handCells, Option.some.injEq] at h
    subst h
    exact hv
  | a :: r, xs, vs, h, hro, hv => by
    simp only [handCells] at h
    split at h
    · rename_i x l hx hl
      cases h
      obtain ⟨v, vr, rfl, h1, h2⟩ := hv
      simp only [roCells] at hro
      exact ⟨v, vr, rfl, handCell_rep hI hS hx (fun g hg => hro g (List.mem_append_left _ hg)) h1, handCells_rep hI hS r l vr hl (fun g hg => hro g (List.mem_append_right _ hg)) h2⟩
    · cases h

theorem handArg_rep (hI : Inv B s tmps w ι) {S1 : Nat → Prop} (hS : ∀ b, dst B.D w ι s.heap b → S1 b) {io : Bool} {t : TypeId} {a x : AV} (h : handArg s T io t a = some x)
    (hro : ∀ g ∈ roArg a x, ∀ b, Occ ι s.heap g b → S1 b) {v : Value} (hv : AVRep w (dst B.D w ι s.heap) (sumOf ι s.heap) a v) : AVRep w S1 (sumOf ι s.heap) x v := by
  unfold handArg at h
  split at h
  · rename_i cs
    cases io with
    | true =>
      cases h
      exact AVRep.mono (Nat.le_refl _) (fun b hb _ => ⟨hS b hb, rfl⟩) _ _ (fun _ _ => rfl) hv
    | false =>
      simp only [cond_false] at h
      obtain ⟨ds, hd, rfl⟩ := Option.map_eq_some_iff.1 h
      obtain ⟨vs, e, hvs⟩ := hv
      exact ⟨vs, e, handCells_rep hI hS cs ds vs hd hro hvs⟩
  · rename_i hne
    refine handArg0_rep hI hS h (fun g hg => hro g ?_) hv
    unfold roArg
    split
    · rename_i cs ds
      exact absurd rfl (hne cs)
    · simp [roCell] at hg
    · exact hg

theorem capAV_rep (hI : Inv B s tmps w ι) {S1 : Nat → Prop} (hS : ∀ b, dst B.D w ι s.heap b → S1 b) {a x : AV} (h : capAV s a = some x)
    (hro : ∀ g ∈ roCell a x, ∀ b, Occ ι s.heap g b → S1 b) {v : Value} (hv : AVRep w (dst B.D w ι s.heap) (sumOf ι s.heap) a v) : AVRep w S1 (sumOf ι s.heap) x v := by
  unfold capAV at h
  split at h
  · rename_i g off
    split at h
    · rename_i c hrow
      cases ho : (Nat.beq off 0 && c.ids.isEmpty) with
      | false => rw [ho] at h; cases h
      | true =>
        rw [ho] at h
        cases h
        simp only [Bool.and_eq_true] at ho
        have h0 := Nat.eq_of_beq_eq_true ho.1
        subst h0
        have hr := row_eq hrow
        obtain ⟨q, b, o, k, hq, hp, rfl⟩ := hv
        have hs := sumOf_of (ι := ι) hr
        rw [hq] at hs
        have hs := Option.some.inj hs
        subst hs
        obtain ⟨b', o', c', cur, e, he, hb, hall⟩ := hI.hrep.rows g _ hr
        simp only at hp
        rw [hp] at he
        cases he
        obtain ⟨u, hu, _, hcr⟩ := hall 0 c rfl
        refine ⟨b, o, u, rfl, hro g (by simp [roCell]) b (.out _ _ hr hp rfl), (Array.getElem?_eq_some_iff.1 hb).1, fun j y hy => ?_, AVRep.mono (Nat.le_refl _) (fun b hb _ => ⟨hS b hb, rfl⟩) _ _ (fun _ _ => rfl) hcr⟩
        have hj : j = 0 := by
          have := (List.getElem?_eq_some_iff.1 hy).1
          simp at this
          exact this
        subst hj
        simp at hy
        subst hy
        rw [cells_of_block hb]
        exact hu
    · cases h
  · cases h
    exact AVRep.mono (Nat.le_refl _) (fun b hb _ => ⟨hS b hb, rfl⟩) _ _ (fun _ _ => rfl) hv
  · cases h

theorem capsAV_rep (hI : Inv B s tmps w ι) {S1 : Nat → Prop} (hS : ∀ b, dst B.D w ι s.heap b → S1 b) : ∀ (as xs : List AV) (vs : List Value), capsAV s as = some xs →
    (∀ g ∈ roCells as xs, ∀ b, Occ ι s.heap g b → S1 b) → AVsRep w (dst B.D w ι s.heap) (sumOf ι s.heap) as vs → AVsRep w S1 (sumOf ι s.heap) xs vs
  | [], xs, vs, h, _, hv => by
    simp only [capsAV, Option.some.injEq] at h
    subst h
    exact hv
  | a :: r, xs, vs, h, hro, hv => by
    simp only [capsAV] at h
    split at h
    · rename_i x l hx hl
      cases h
      obtain ⟨v, vr, rfl, h1, h2⟩ := hv
      simp only [roCells] at hro
      exact ⟨v, vr, rfl, capAV_rep hI hS hx (fun g hg => hro g (List.mem_append_left _ hg)) h1, capsAV_rep hI hS r l vr hl (fun g hg => hro g (List.mem_append_right _ hg)) h2⟩
    · cases h

theorem tabArg_rep (hI : Inv B s tmps w ι) {S1 : Nat → Prop} (hS : ∀ b, dst B.D w ι s.heap b → S1 b) {a x : AV} (h : tabArg s a = some x)
    (hro : ∀ g ∈ roArg a x, ∀ b, Occ ι s.heap g b → S1 b) {v : Value} (hv : AVRep w (dst B.D w ι s.heap) (sumOf ι s.heap) a v) : AVRep w S1 (sumOf ι s.heap) x v := by
  unfold tabArg at h
  split at h
  · rename_i g a b
    split at h
    · rename_i l hl
      cases ho : (idsL a).isEmpty with
      | false => rw [ho] at h; cases h
      | true =>
        rw [ho] at h
        cases h
        obtain ⟨va, vb, rfl, h1, h2⟩ := hv
        exact ⟨va, vb, rfl, AVsRep.mono (Nat.le_refl _) (fun b hb _ => ⟨hS b hb, rfl⟩) _ _ (fun _ _ => rfl) h1, capsAV_rep hI hS b l vb hl (by simpa [roArg] using hro) h2⟩
    · cases h
  · rename_i g off
    split at h
    · rename_i u xs hrow
      cases ho : Nat.beq off 0 with
      | false => rw [ho] at h; cases h
      | true =>
        rw [ho] at h
        cases h
        have h0 := Nat.eq_of_beq_eq_true ho
        subst h0
        have hr := row_eq hrow
        obtain ⟨q, b, o, c, hq, hp, rfl⟩ := hv
        have hq' := sum_of_row hr hq
        subst hq'
        simp only at hp
        have hrr := hI.hrep.rows g _ hr
        rw [hp] at hrr
        refine ⟨b, o, rfl, hro g (by simp [roArg, roCell]) b (.out _ _ hr hp rfl), hrr.lt, fun i x hx => ?_⟩
        obtain ⟨cs, hd, hc⟩ := seq_cells hI.hrep hr hp hx
        exact ⟨cs, DCells.sub hS hd, hc⟩
    · cases h
  · cases h
    exact AVRep.mono (Nat.le_refl _) (fun b hb _ => ⟨hS b hb, rfl⟩) _ _ (fun _ _ => rfl) hv
  · cases h

theorem handArgs_rep (hI : Inv B s tmps w ι) {S1 : Nat → Prop} (hS : ∀ b, dst B.D w ι s.heap b → S1 b) {io : Nat → Bool} : ∀ (as : List AV) (n : Nat) (ts : List TypeId) (xs : List AV) (vs : List Value), handArgs s T io n ts as = some xs →
    (∀ g ∈ roIds as xs, ∀ b, Occ ι s.heap g b → S1 b) → AVsRep w (dst B.D w ι s.heap) (sumOf ι s.heap) as vs → AVsRep w S1 (sumOf ι s.heap) xs vs
  | [], n, ts, xs, vs, h, _, hv => by
    cases ts <;> simp [handArgs] at h <;> subst h <;> exact hv
  | a :: r, n, [], xs, vs, h, _, hv => by simp [handArgs] at h
  | a :: r, n, t :: ts, xs, vs, h, hro, hv => by
    simp only [handArgs] at h
    split at h
    · rename_i x l hx hl
      simp at h
      subst h
      obtain ⟨v, vr, rfl, h1, h2⟩ := hv
      have hsplit : roIds (a :: r) (x :: l) = roArg a x ++ roIds r l := by
        simp [roIds]
      rw [hsplit] at hro
      have hx' : AVRep w S1 (sumOf ι s.heap) x v := by
        cases hio : io (n + tabAt) with
        | true => rw [hio] at hx; exact tabArg_rep hI hS hx (fun g hg => hro g (List.mem_append_left _ hg)) h1
        | false => rw [hio] at hx; exact handArg_rep hI hS hx (fun g hg => hro g (List.mem_append_left _ hg)) h1
      exact ⟨v, vr, rfl, hx', handArgs_rep hI hS r (n + 1) ts l vr hl (fun g hg => hro g (List.mem_append_right _ hg)) h2⟩
    · cases h

theorem sub_get {H : Heap} {ids : List Nat} {j : Nat} {r : Row} (h : (subHeap H ids)[j]? = some (some r)) : ∃ g r0, ids[j]? = some g ∧ H[g]? = some (some r0) ∧ r = r0.ren (place ids) := by
  unfold subHeap at h
  rw [List.getElem?_map] at h
  cases hi : ids[j]? with
  | none => simp [hi] at h
  | some g =>
    simp only [hi, Option.map_some] at h
    cases hg : H[g]? with
    | none => simp [hg] at h
    | some x =>
      cases x with
      | none => simp [hg] at h
      | some r0 => simp [hg] at h; exact ⟨g, r0, rfl, hg, h.symm⟩

theorem sub_of {H : Heap} {ids : List Nat} {j g : Nat} {r0 : Row} (hi : ids[j]? = some g) (hg : H[g]? = some (some r0)) : (subHeap H ids)[j]? = some (some (r0.ren (place ids))) := by
  simp [subHeap, hi, hg]

theorem acall_ok {C : Ctx} (horc : ∀ f, Sound P f (C.orc f)) (hkk : C.k = B.k) (hmv : ∀ g, C.mv.contains g = true → B.mv g = true) (hI : Inv B s tmps w ι) {β : Type} {base : Nat} {f : FuncId} {args : List AV} {types : List TypeId} (hso : mvOk C s f args types = true) {K : AV → St → Option β} {r : β}
    (h : acall (optAlg β) C base s f args types K = some r) {vs : List Value} (hv : AVsRep w (dst B.D w ι s.heap) (sumOf ι s.heap) args vs) :
    ∃ a s', K a s' = some r ∧ Calls P f vs.toArray w (fun e w' => ∃ v ι', e = .returned v ∧ Inv B s' tmps w' ι' ∧ AVRep w' (dst B.D w' ι' s'.heap) (sumOf ι' s'.heap) a v) := by
  unfold acall at h
  split at h
  · cases h
  · rename_i avs havs
    simp only at h
    split at h
    · rename_i hchk
      unfold mvOk at hso
      rw [havs] at hso
      simp only at hso
      generalize hids : reach s.heap (s.heap.length + 1) 0 (addNew [] (idsL avs)) = ids at h hchk hso
      generalize hro : roIds args avs = ro at h hchk
      simp only [Bool.and_eq_true] at hchk
      obtain ⟨⟨⟨⟨hnd, hcl⟩, hall⟩, hroi⟩, hfr⟩ := hchk
      simp only [optAlg] at h
      cases horx : (C.orc f (renL (place ids) avs) (subHeap s.heap ids)).o with
      | none => simp [horx] at h
      | some qx =>
        simp only [horx, Option.bind_some, withAns_eq] at h
        generalize hq0 : (C.orc f (renL (place ids) avs) (subHeap s.heap ids)).dec qx = q at h
        obtain ⟨ra, H'⟩ := q
        have horun : (C.orc f (renL (place ids) avs) (subHeap s.heap ids)).run = some (ra, H') := by simp [Ans.run, horx, hq0]
        split at h
        · rename_i hchk2
          simp only [Bool.and_eq_true, decide_eq_true_eq] at hchk2
          obtain ⟨⟨hw1, hw2⟩, halias⟩ := hchk2
          refine ⟨_, _, h, ?_⟩
          -- the callee's view
          let ιs : Plc := ⟨fun j => match ids[j]? with | some g => ι g | none => none, fun j => match ids[j]? with | some g => ι.inn g | none => fun _ => none⟩
          have hoccs : ∀ {j b : Nat}, Occ ιs (subHeap s.heap ids) j b → ∃ g, ids[j]? = some g ∧ Occ ι s.heap g b := fun {j b} o => by
            cases o with
            | out r p hr hp e =>
              obtain ⟨g, r0, hi, hg, _⟩ := sub_get hr
              simp only [ιs, hi] at hp
              exact ⟨g, hi, .out r0 p hg hp e⟩
            | inn t xss m cs i p hr hx hp e =>
              obtain ⟨g, r0, hi, hg, h3⟩ := sub_get hr
              simp only [ιs, hi] at hp
              obtain ⟨cs0, rfl, _⟩ := Row.ren_nest h3.symm
              exact ⟨g, hi, .inn t xss m cs0 i p hg hx hp e⟩
          have hidx : ∀ g, g ∈ ids → ids[place ids g]? = some g := fun g hg => place_get hg
          have hsum : ∀ g, g ∈ ids → sumOf ιs (subHeap s.heap ids) (place ids g) = sumOf ι s.heap g := fun g hg => by
            obtain ⟨r0, hr0, _⟩ := closed_get hcl hg
            have := sub_of (hidx g hg) hr0
            simp [sumOf, this, hr0, ιs, hidx g hg, Row.ren_cells, Row.ren_len]
          have hstab : ∀ b, stab w ι s.heap b → stab w ιs (subHeap s.heap ids) b := fun b hb => by
            refine ⟨hb.1, fun j o => ?_⟩
            obtain ⟨g, _, o'⟩ := hoccs o
            exact hb.2 g o'
          have hother : ∀ g b, g ∉ ids → Occ ι s.heap g b → stab w ιs (subHeap s.heap ids) b := fun g b hng oc => by
            refine ⟨oc.lt hI.hrep, fun j o => ?_⟩
            obtain ⟨g', hi, o'⟩ := hoccs o
            have := hI.hrep.one g' g b o' oc
            exact hng (this ▸ List.mem_of_getElem? hi)
          let D1 : Nat → Prop := fun b => dst B.D w ι s.heap b ∨ (∃ g ∈ ro, Occ ι s.heap g b) ∨ w.heap.size ≤ b ∨ (∃ g ∈ ids, Occ ι s.heap g b)
          have hS : ∀ b, dst B.D w ι s.heap b → dst D1 w ιs (subHeap s.heap ids) b := fun b hb => ⟨.inl hb, hstab b hb.2⟩
          have hrorow : ∀ g ∈ ro, ∃ r0, s.heap[g]? = some (some r0) := fun g hg => by
              -- a row that was handed over is there
              have key : ∀ (as xs : List AV) (vs : List Value), AVsRep w (dst B.D w ι s.heap) (sumOf ι s.heap) as vs → g ∈ roIds as xs → ∃ r0, s.heap[g]? = some (some r0) := by
                intro as
                induction as with
                | nil => intro xs vs _ hg; cases xs <;> simp [roIds] at hg
                | cons a r ih =>
                  intro xs vs hvs hg
                  obtain ⟨v, vr, rfl, h1, h2⟩ := hvs
                  cases xs with
                  | nil => simp [roIds] at hg
                  | cons x xr =>
                    simp only [roIds, List.mem_append] at hg
                    rcases hg with hg | hg
                    · have : a.refs g = true := roArg_refs hg
                      obtain ⟨q, hq⟩ := AVRep.refs_some a v g h1 this
                      exact sumOf_some hq
                    · exact ih xr vr h2 hg
              exact key args avs vs hv (by rw [hro]; exact hg)
          have hroS : ∀ g ∈ roIds args avs, ∀ b, Occ ι s.heap g b → dst D1 w ιs (subHeap s.heap ids) b := fun g hg b oc => by
            rw [hro] at hg
            have hng : g ∉ ids := by
              have := List.all_eq_true.1 hroi g hg
              simpa using this
            exact ⟨.inr (.inl ⟨g, hg, oc⟩), hother g b hng oc⟩
          have hargs : AVsRep w (dst D1 w ιs (subHeap s.heap ids)) (sumOf ιs (subHeap s.heap ids)) (renL (place ids) avs) vs := by
            have h1 := handArgs_rep hI hS args 0 types avs vs havs hroS hv
            refine AVsRep.ren avs vs (.inl fun b hb => hb) (fun g hg => ?_) h1
            have hm : g ∈ ids := by
              have := List.all_eq_true.1 hall g (refsL_ids avs g hg)
              simpa using this
            exact hsum g hm
          have hHs : HRep D1 w ιs (subHeap s.heap ids) := by
            refine ⟨fun j r hj => ?_, fun j1 j2 b o1 o2 => ?_, fun j b o => ?_, fun j u xss m cs hj => ?_⟩
            · obtain ⟨g, r0, hi, hg, rfl⟩ := sub_get hj
              have hι : ιs j = ι g := by simp [ιs, hi]
              rw [hι]
              refine RowRep.ren (.inl hS) (fun x hx => ?_) (hI.hrep.rows g r0 hg)
              obtain ⟨r1, hr1, hin⟩ := closed_get hcl (List.mem_of_getElem? hi)
              have : r1 = r0 := by rw [hg] at hr1; simpa using hr1.symm
              subst this
              exact hsum x (hin x (Row.refs_ids hx))
            · obtain ⟨g1, hi1, o1'⟩ := hoccs o1
              obtain ⟨g2, hi2, o2'⟩ := hoccs o2
              have := hI.hrep.one g1 g2 b o1' o2'
              exact nodup_inj hnd hi1 (this ▸ hi2)
            · obtain ⟨g, hi, o'⟩ := hoccs o
              exact .inr (.inr (.inr ⟨g, List.mem_of_getElem? hi, o'⟩))
            · obtain ⟨g, r0, hi, hg, h3⟩ := sub_get hj
              obtain ⟨cs0, rfl, hl⟩ := Row.ren_nest h3.symm
              have e1 : ιs j = ι g := by simp [ιs, hi]
              have e2 : ιs.inn j = ι.inn g := by simp [ιs, hi]
              rw [e1, e2]
              exact (NestRep.ren (.inl hS) (hI.hrep.nest g u xss m cs0 hg)).like hl
          have hglob : GlobsOk w (dst D1 w ιs (subHeap s.heap ids)) := hI.glob.mono (Nat.le_refl _) (fun b hb _ => ⟨hS b hb, rfl⟩)
          have hpres : ∀ j, j < (subHeap s.heap ids).length → ∃ x, (subHeap s.heap ids)[j]? = some (some x) := fun j hj => by
            have hj' : j < ids.length := by simpa [subHeap] using hj
            obtain ⟨r0, hr0, _⟩ := closed_get hcl (List.getElem_mem hj')
            exact ⟨_, sub_of (List.getElem?_eq_getElem hj') hr0⟩
          refine (horc f _ _ _ _ horun D1 w vs ιs (fun b hb => .inr (.inr (.inl hb))) hHs hglob hpres hargs).mono fun e w' hpost => ?_
          obtain ⟨v, ιc, rfl, hk, hHc, hst, hsumc, hres⟩ := hpost
          let moved : Nat → Prop := fun g => ∃ j : Nat, (C.orc f (renL (place ids) avs) (subHeap s.heap ids)).mv.contains j = true ∧ ids[j]? = some g
          have hmoved : ∀ g, moved g → (B.k ≤ g ∨ B.mv g = true) ∧ (∀ a ∈ s.env, a.refs g = false) ∧ ∀ x r0, x ∉ ids → s.heap[x]? = some (some r0) → r0.refs g = false := fun g ⟨j, hj, hjg⟩ => by
            have h1 := List.all_eq_true.1 hso j (by simpa using hj)
            rw [hjg] at h1
            simp only [Bool.and_eq_true, Bool.or_eq_true] at h1
            obtain ⟨⟨h2, h3⟩, h4⟩ := h1
            refine ⟨h2.imp (fun h => hkk ▸ Nat.le_of_ble_eq_true h) (hmv g), fun a ha => ?_, fun x r0 hx hr0 => ?_⟩
            · have := List.all_eq_true.1 h3 a ha
              simpa using this
            · have := List.all_eq_true.1 h4 x (List.mem_range.2 (List.getElem?_eq_some_iff.1 hr0).1)
              rw [hr0] at this
              simp only [Bool.or_eq_true] at this
              rcases this with h5 | h5
              · exact absurd (by simpa using h5) hx
              · simpa using h5
          -- what comes back
          let bk := backTo ids base
          have hbk1 : ∀ j g, ids[j]? = some g → bk j = g := fun j g hj => by simp [bk, backTo, hj]
          have hbk2 : ∀ j, ids.length ≤ j → bk j = base + (j - ids.length) := fun j hj => by
            simp [bk, backTo, List.getElem?_eq_none hj]
          have hbkrow : ∀ j, j < H'.length → (j < ids.length ∧ ∃ r0, s.heap[bk j]? = some (some r0) ∧ bk j ∈ ids) ∨ (ids.length ≤ j ∧ s.heap[bk j]? = some none) := fun j hj => by
            by_cases hji : j < ids.length
            · obtain ⟨r0, hr0, _⟩ := closed_get hcl (List.getElem_mem hji)
              have := hbk1 j _ (List.getElem?_eq_getElem hji)
              exact .inl ⟨hji, r0, by rw [this]; exact hr0, by rw [this]; exact List.getElem_mem hji⟩
            · refine .inr ⟨by omega, ?_⟩
              rw [hbk2 j (by omega)]
              exact fresh_get hfr (by omega)
          have hinj : ∀ i j, i < H'.length → j < H'.length → bk i = bk j → i = j := fun i j hi hj e => by
            by_cases hii : i < ids.length
            · by_cases hjj : j < ids.length
              · have h1 := hbk1 i _ (List.getElem?_eq_getElem hii)
                have h2 := hbk1 j _ (List.getElem?_eq_getElem hjj)
                refine nodup_inj hnd (List.getElem?_eq_getElem hii) ?_
                rw [List.getElem?_eq_getElem hjj, ← h1, ← h2, e]
              · rcases hbkrow i hi with ⟨_, r0, h1, _⟩ | ⟨h1, _⟩
                · rcases hbkrow j hj with ⟨h2, _⟩ | ⟨_, h2⟩
                  · omega
                  · rw [e, h2] at h1; simp at h1
                · omega
            · by_cases hjj : j < ids.length
              · rcases hbkrow j hj with ⟨_, r0, h1, _⟩ | ⟨h1, _⟩
                · rcases hbkrow i hi with ⟨h2, _⟩ | ⟨_, h2⟩
                  · omega
                  · rw [← e, h2] at h1; simp at h1
                · omega
              · rw [hbk2 i (by omega), hbk2 j (by omega)] at e
                omega
          let H2 := putRows bk 0 H' s.heap
          let isB : Nat → Nat → Prop := fun g j => j < H'.length ∧ bk j = g
          let ι2 : Plc := ⟨fun g => match (List.range H'.length).find? (fun j => bk j == g) with | some j => ιc j | none => ι g, fun g => match (List.range H'.length).find? (fun j => bk j == g) with | some j => ιc.inn j | none => ι.inn g⟩
          have hι2B : ∀ j, j < H'.length → ι2 (bk j) = ιc j ∧ ι2.inn (bk j) = ιc.inn j := fun j hj => by
            have : (List.range H'.length).find? (fun i => bk i == bk j) = some j := by
              cases hf : (List.range H'.length).find? (fun i => bk i == bk j) with
              | none =>
                have := List.find?_eq_none.1 hf j (List.mem_range.2 hj)
                simp at this
              | some i =>
                have h1 := List.find?_some hf
                have h2 := List.mem_of_find?_eq_some hf
                simp at h1 h2
                rw [hinj i j h2 hj h1]
            simp [ι2, this]
          have hι2b : ∀ j, j < H'.length → ι2 (bk j) = ιc j := fun j hj => (hι2B j hj).1
          have hι2O : ∀ g, (∀ j, j < H'.length → bk j ≠ g) → ι2 g = ι g ∧ ι2.inn g = ι.inn g := fun g hg => by
            have : (List.range H'.length).find? (fun i => bk i == g) = none := by
              rw [List.find?_eq_none]
              intro i hi
              simp at hi ⊢
              exact hg i hi
            simp [ι2, this]
          have hι2o : ∀ g, (∀ j, j < H'.length → bk j ≠ g) → ι2 g = ι g := fun g hg => (hι2O g hg).1
          have hlenH : ∀ j, j < H'.length → bk j < s.heap.length := fun j hj => by
            rcases hbkrow j hj with ⟨_, r0, h1, _⟩ | ⟨_, h1⟩ <;> exact (List.getElem?_eq_some_iff.1 h1).1
          have hH2b : ∀ (j : Nat) r, H'[j]? = some (some r) → H2[bk j]? = some (some (r.ren bk)) := fun j r hj => by
            have hjl := (List.getElem?_eq_some_iff.1 hj).1
            have := putRows_hit bk H' 0 s.heap j r hj (by simpa using hlenH j hjl) (fun i x hx he => hinj i j (List.getElem?_eq_some_iff.1 hx).1 hjl (by simpa using he))
            simpa [H2] using this
          have hH2m : ∀ g, (∀ (j : Nat) r, H'[j]? = some (some r) → bk j ≠ g) → H2[g]? = s.heap[g]? := fun g hg => by
            exact putRows_miss bk g H' 0 s.heap (fun j r hj => by simpa using hg j r hj)
          have hH2 : ∀ g r, H2[g]? = some (some r) → (∃ j r0, H'[j]? = some (some r0) ∧ bk j = g ∧ r = r0.ren bk ∧ ι2 g = ιc j) ∨ ((∀ j, j < H'.length → bk j ≠ g) ∧ s.heap[g]? = some (some r) ∧ ι2 g = ι g ∧ g ∉ ids) := fun g r hg => by
            by_cases hex : ∃ j, j < H'.length ∧ bk j = g
            · obtain ⟨j, hj, rfl⟩ := hex
              left
              cases hjr : H'[j]? with
              | none => rw [List.getElem?_eq_none_iff] at hjr; omega
              | some x =>
                cases x with
                | some r0 =>
                  have := hH2b j r0 hjr
                  rw [hg] at this
                  simp at this
                  exact ⟨j, r0, hjr, rfl, this, hι2b j hj⟩
                | none =>
                  -- no row there: what stood before must have been none
                  have hm : H2[bk j]? = s.heap[bk j]? := hH2m _ (fun i x hi e => by
                    have := hinj i j (List.getElem?_eq_some_iff.1 hi).1 hj e
                    subst this
                    rw [hjr] at hi; simp at hi)
                  rcases hbkrow j hj with ⟨hji, r0, h1, _⟩ | ⟨_, h1⟩
                  · obtain ⟨_, r1, hr1⟩ := hsumc j (by simpa [subHeap] using hji)
                    rw [hjr] at hr1; simp at hr1
                  · rw [hm, h1] at hg; simp at hg
            · right
              have hno : ∀ j, j < H'.length → bk j ≠ g := fun j hj e => hex ⟨j, hj, e⟩
              refine ⟨hno, ?_, hι2o g hno, fun hgi => ?_⟩
              · rw [← hH2m g (fun j r hj => hno j (List.getElem?_eq_some_iff.1 hj).1)]; exact hg
              · have h1 := hidx g hgi
                have h2 := (List.getElem?_eq_some_iff.1 h1).1
                exact hno (place ids g) (by omega) (hbk1 _ _ h1)
          have hH2n : ∀ g t xss m cs, H2[g]? = some (some (.nest t xss m cs)) → (∃ j cs0, H'[j]? = some (some (.nest t xss m cs0)) ∧ cs0.length = cs.length ∧ bk j = g ∧ ι2 g = ιc j ∧ ι2.inn g = ιc.inn j) ∨ ((∀ j, j < H'.length → bk j ≠ g) ∧ s.heap[g]? = some (some (.nest t xss m cs)) ∧ ι2 g = ι g ∧ ι2.inn g = ι.inn g ∧ g ∉ ids) := fun g t xss m cs hg => by
            rcases hH2 g _ hg with ⟨j, r0, hj, rfl, h3, hι⟩ | ⟨hno, hr0, hι, hgi⟩
            · obtain ⟨cs0, rfl, hl⟩ := Row.ren_nest h3.symm
              exact .inl ⟨j, cs0, hj, hl, rfl, hι, (hι2B j (List.getElem?_eq_some_iff.1 hj).1).2⟩
            · exact .inr ⟨hno, hr0, hι, (hι2O g hno).2, hgi⟩
          have hocc2 : ∀ {g b : Nat}, Occ ι2 H2 g b → (∃ j, bk j = g ∧ Occ ιc H' j b) ∨ (g ∉ ids ∧ (∀ j, j < H'.length → bk j ≠ g) ∧ Occ ι s.heap g b) := fun {g b} o => by
            cases o with
            | out r p hr hp e =>
              rcases hH2 g r hr with ⟨j, r0, hj, hb, _, hι⟩ | ⟨hno, hr0, hι, hgi⟩
              · rw [hι] at hp
                exact .inl ⟨j, hb, .out r0 p hj hp e⟩
              · rw [hι] at hp
                exact .inr ⟨hgi, hno, .out r p hr0 hp e⟩
            | inn t xss m cs i p hr hx hp e =>
              rcases hH2n g t xss m cs hr with ⟨j, cs0, hj, _, hb, _, hι⟩ | ⟨hno, hr0, _, hι, hgi⟩
              · rw [hι] at hp
                exact .inl ⟨j, hb, .inn t xss m cs0 i p hj hx hp e⟩
              · rw [hι] at hp
                exact .inr ⟨hgi, hno, .inn t xss m cs i p hr0 hx hp e⟩
          have hsum2 : ∀ j r, H'[j]? = some (some r) → sumOf ι2 H2 (bk j) = sumOf ιc H' j := fun j r hj => by
            have hjl := (List.getElem?_eq_some_iff.1 hj).1
            rw [sumOf_of (hH2b j r hj), sumOf_of hj, hι2b j hjl, Row.ren_cells, Row.ren_len]
          have hst2 : ∀ b, stab w ι s.heap b → stab w' ι2 H2 b := fun b hb => by
            have h1 := hst b (hstab b hb)
            refine ⟨h1.1, fun g o => ?_⟩
            rcases hocc2 o with ⟨j, _, o'⟩ | ⟨_, _, o'⟩
            · exact h1.2 j o'
            · exact hb.2 g o'
          have ht : Trans w ι s.heap w' ι2 H2 (fun x => (∃ r0, s.heap[x]? = some (some r0)) ∧ ¬ moved x) := by
            refine ⟨hk.size, fun b hb => ⟨hst2 b hb, hk.block b (hstab b hb)⟩, fun g ⟨⟨r0, hr0⟩, hnm⟩ => ?_⟩
            by_cases hgi : g ∈ ids
            · have h1 := hidx g hgi
              have h2 := (List.getElem?_eq_some_iff.1 h1).1
              have h3 := (hsumc (place ids g) (by simpa [subHeap] using h2)).1.resolve_left (fun hc => hnm ⟨_, hc, h1⟩)
              rw [hsum g hgi, sumOf_of hr0] at h3
              obtain ⟨r1, hr1⟩ := sumOf_some h3
              have h4 := hsum2 _ r1 hr1
              rw [hbk1 _ _ h1] at h4
              rw [h4, h3, sumOf_of hr0]
            · have hno : ∀ j, j < H'.length → bk j ≠ g := fun j hj e => by
                rcases hbkrow j hj with ⟨_, r1, _, h2⟩ | ⟨_, h2⟩
                · exact hgi (e ▸ h2)
                · rw [e, hr0] at h2; simp at h2
              have hm := hH2m g (fun j r hj => hno j (List.getElem?_eq_some_iff.1 hj).1)
              simp [sumOf, hm, hr0, hι2o g hno]
          have hDst : ro = [] → ∀ b, dst D1 w' ιc H' b → dst B.D w' ι2 H2 b := fun hro0 b hb => by
            obtain ⟨hd, hs⟩ := hb
            rcases hd with hd | ⟨g, hg, _⟩ | hd | ⟨g, hg, oc⟩
            · exact ⟨hd.1, hst2 b hd.2⟩
            · rw [hro0] at hg; cases hg
            rotate_left
            · refine ⟨hI.hrep.has g b oc, hs.1, fun g2 o => ?_⟩
              rcases hocc2 o with ⟨j, _, o'⟩ | ⟨hng, _, o'⟩
              · exact hs.2 j o'
              · exact hng ((hI.hrep.one g2 g b o' oc) ▸ hg)
            · refine ⟨B.new b (Nat.le_trans hI.kept.size hd), hs.1, fun g o => ?_⟩
              rcases hocc2 o with ⟨j, _, o'⟩ | ⟨_, _, o'⟩
              · exact hs.2 j o'
              · have := o'.lt hI.hrep
                omega
          have hfreeR : (∀ b, dst D1 w' ιc H' b → dst B.D w' ι2 H2 b) ∨ ra.hasList = false := by
            cases hroe : ro with
            | nil => exact .inl (hDst hroe)
            | cons a r =>
              right
              rw [hroe] at halias
              simp only [List.isEmpty_cons, Bool.false_or, Bool.not_eq_true', Bool.or_eq_false_iff] at halias
              exact halias.1
          have hfreeH : ∀ (j : Nat) r0, H'[j]? = some (some r0) → (∀ b, dst D1 w' ιc H' b → dst B.D w' ι2 H2 b) ∨ r0.hasList = false := fun j r0 hj => by
            cases hroe : ro with
            | nil => exact .inl (hDst hroe)
            | cons a r =>
              right
              rw [hroe] at halias
              simp only [List.isEmpty_cons, Bool.false_or, Bool.not_eq_true', Bool.or_eq_false_iff] at halias
              have := List.any_eq_false.1 halias.2 _ (List.mem_of_getElem? hj)
              simpa using this
          have hrefR : ∀ (a : AV) (u : Value), AVRep w' (dst D1 w' ιc H') (sumOf ιc H') a u → ∀ g, a.refs g = true → sumOf ι2 H2 (bk g) = sumOf ιc H' g := fun a u ha g hg => by
            obtain ⟨q, hq⟩ := AVRep.refs_some a u g ha hg
            obtain ⟨r1, hr1⟩ := sumOf_some hq
            exact hsum2 g r1 hr1
          refine ⟨v, ι2, rfl, ⟨hI.kept.trans hk (fun b hb => hstab b (hI.stay b hb)), ⟨fun g r hg => ?_, fun g1 g2 b o1 o2 => ?_, fun g b o => ?_, fun g u xss m cs hg => ?_⟩, fun b hb => hst2 b (hI.stay b hb), fun g hg => ?_, fun i a ha => ?_, ht.globs hI.glob⟩, ?_⟩
          · rcases hH2 g r hg with ⟨j, r0, hj, _, rfl, hι⟩ | ⟨hno, hr0, hι, hgi⟩
            · rw [hι]
              refine RowRep.ren (hfreeH j r0 hj) (fun x hx => ?_) (hHc.rows j r0 hj)
              obtain ⟨q, hq⟩ := (hHc.rows j r0 hj).refs_some x hx
              obtain ⟨r1, hr1⟩ := sumOf_some hq
              exact hsum2 x r1 hr1
            · rw [hι]
              refine ht.row (fun x hx => ?_) (fun b o c hp => hk.block b (hother g b hgi (.out r (b, o, c) hr0 hp rfl))) (hI.hrep.rows g r hr0)
              obtain ⟨q, hq⟩ := (hI.hrep.rows g r hr0).refs_some x hx
              exact ⟨sumOf_some hq, fun hm => by rw [(hmoved x hm).2.2 g r hgi hr0] at hx; cases hx⟩
          · rcases hocc2 o1 with ⟨j1, hb1, o1'⟩ | ⟨hgi1, _, o1'⟩ <;> rcases hocc2 o2 with ⟨j2, hb2, o2'⟩ | ⟨hgi2, _, o2'⟩
            · rw [← hb1, ← hb2, hHc.one j1 j2 b o1' o2']
            · exact absurd o1' ((hst _ (hother g2 b hgi2 o2')).2 j1)
            · exact absurd o2' ((hst _ (hother g1 b hgi1 o1')).2 j2)
            · exact hI.hrep.one g1 g2 b o1' o2'
          · rcases hocc2 o with ⟨j, _, o'⟩ | ⟨_, _, o'⟩
            · rcases hHc.has j b o' with hd | ⟨g', hg', oc⟩ | hd | ⟨g', hg', oc⟩
              · exact hd.1
              · exact hI.hrep.has g' b oc
              · exact B.new _ (Nat.le_trans hI.kept.size hd)
              · exact hI.hrep.has g' b oc
            · exact hI.hrep.has g b o'
          · rcases hH2n g u xss m cs hg with ⟨j, cs0, hj, hl, _, hι, hιi⟩ | ⟨hno, hr0, hι, hιi, hgi⟩
            · rw [hι, hιi]
              exact (NestRep.ren ((hfreeH j _ hj).imp id (by simp only [Row.hasList, Bool.or_eq_false_iff]; exact fun h => h.1)) (hHc.nest j u xss m cs0 hj)).like hl
            · rw [hι, hιi]
              exact ht.nest (fun b o c hp => hk.block b (hother g b hgi (.out _ (b, o, c) hr0 hp rfl))) (fun i b o c hi hp => hk.block b (hother g b hgi (.inn u xss m cs i (b, o, c) hr0 hi hp rfl))) (hI.hrep.nest g u xss m cs hr0)
          · obtain ⟨h1, r0, hr0⟩ := hI.io g hg
            by_cases hm : moved g
            · refine ⟨.inl ((hmoved g hm).1.resolve_left (by omega)), ?_⟩
              obtain ⟨j, hj, hjg⟩ := hm
              have hlt := (List.getElem?_eq_some_iff.1 hjg).1
              obtain ⟨_, r1, hr1⟩ := hsumc j (by simpa [subHeap] using hlt)
              have h3 := hH2b j r1 hr1
              rw [hbk1 j g hjg] at h3
              exact ⟨_, h3⟩
            · have h2 := ht.sum g ⟨⟨r0, hr0⟩, hm⟩
              refine ⟨h1.imp id h2.trans, ?_⟩
              rw [sumOf_of hr0] at h2
              exact sumOf_some h2
          · obtain ⟨u, hu, hr⟩ := hI.env i a ha
            refine ⟨u, hu, ht.av (fun x hx => ?_) hr⟩
            obtain ⟨q, hq⟩ := AVRep.refs_some a u x hr hx
            exact ⟨sumOf_some hq, fun hm => by rw [(hmoved x hm).2.1 a (List.mem_of_getElem? ha)] at hx; cases hx⟩
          · exact AVRep.ren ra v hfreeR (hrefR ra v hres) hres
        · cases h
    · cases h

end
end Go.Rv

set_option linter.unusedSimpArgs false
set_option linter.unusedVariables false
namespace Go.Rv

section
variable {B : Base} {s : St} {tmps : Array Value} {w : World} {ι : Plc}

theorem beq_ne {g h : Nat} (e : g ≠ h) : Nat.beq g h = false := by
  cases hb : Nat.beq g h with
  | false => rfl
  | true => exact absurd (Nat.eq_of_beq_eq_true hb) e

mutual
theorem frz_rep {h : Nat} {t : Ty} {xs : List t.den} {S S' : Nat → Prop} {σ σ' : Nat → Option Sum} (hS : ∀ b, S b → S' b) (hσ : ∀ g, g ≠ h → σ' g = σ g)
    (hrow : ∀ {off len : Nat} {q : Sum} {v : Value}, σ h = some q → off + len ≤ q.len → WinAt q off len v → DCells w S' (.list t) ((xs.drop off).take len) [v])
    (hlen : ∀ q, σ h = some q → q.len = xs.length) (htab : ∀ q b o c, σ h = some q → q.place = some (b, o, c) → TabAt w S' b o t xs) :
    ∀ (a : AV) (v : Value), AVRep w S σ a v → AVRep w S' σ' (frz h t xs a) v
  | .undef, _, _ => trivial
  | .dat t x, v, hr => DCells.sub hS hr
  | .nils, _, hr => hr
  | .slc g, v, ⟨q, hq, hw⟩ => by
    by_cases e : g = h
    · subst e
      simp only [frz, Nat.beq_refl, cond_true]
      have := hrow (off := 0) (len := q.len) hq (by simp) hw
      rw [hlen q hq] at this
      simp only [List.drop_zero, List.take_length] at this
      exact this
    · simp only [frz, beq_ne e, cond_false]
      exact ⟨q, (hσ g e).trans hq, hw⟩
  | .win g o l, v, ⟨q, hq, hl, hw⟩ => by
    by_cases e : g = h
    · subst e
      simp only [frz, Nat.beq_refl, cond_true]
      exact hrow hq hl hw
    · simp only [frz, beq_ne e, cond_false]
      exact ⟨q, (hσ g e).trans hq, hl, hw⟩
  | .ptr g o, v, ⟨q, b, o', c, hq, hr⟩ => by
    by_cases e : g = h
    · subst e
      simp only [frz, Nat.beq_refl, cond_true]
      cases ho : Nat.beq o 0 with
      | false => trivial
      | true =>
        have h0 := Nat.eq_of_beq_eq_true ho
        subst h0
        exact ⟨b, o', hr.2, htab q b o' c hq hr.1⟩
    · simp only [frz, beq_ne e, cond_false]
      exact ⟨q, b, o', c, (hσ g e).trans hq, hr⟩
  | .elt g i o, v, ⟨q, b, o', c, hq, hr⟩ => by
    by_cases e : g = h
    · subst e
      simp only [frz, Nat.beq_refl, cond_true]
      trivial
    · simp only [frz, beq_ne e, cond_false]
      exact ⟨q, b, o', c, (hσ g e).trans hq, hr⟩
  | .relt t x _, _, ⟨b, o, cs, e, hs, hlt, hd, hc⟩ => ⟨b, o, cs, e, hS b hs, hlt, DCells.sub hS hd, hc⟩
  | .tab t xs, _, ⟨b, o, e, ht⟩ => ⟨b, o, e, ht.mono (Nat.le_refl _) (fun b hb _ => ⟨hS b hb, rfl⟩)⟩
  | .agg cs, _, ⟨vs, e, hr⟩ => ⟨vs, e, frzL_rep hS hσ hrow hlen htab cs vs hr⟩
  | .tup cs, _, ⟨vs, e, hr⟩ => ⟨vs, e, frzL_rep hS hσ hrow hlen htab cs vs hr⟩
  | .fn _ a b, _, ⟨va, vb, e, h1, h2⟩ => ⟨va, vb, e, frzL_rep hS hσ hrow hlen htab a va h1, frzL_rep hS hσ hrow hlen htab b vb h2⟩
  | .raw _, _, hr => hr
  | .fmap _, _, ⟨b, es, c, e, hs, hlt, hb, hk⟩ => ⟨b, es, c, e, hS b hs, hlt, hb, hk⟩
  | .pcell c, _, ⟨b, o, u, e, hs, hlt, hc, hr⟩ => ⟨b, o, u, e, hS b hs, hlt, hc, frz_rep hS hσ hrow hlen htab c u hr⟩
theorem frzL_rep {h : Nat} {t : Ty} {xs : List t.den} {S S' : Nat → Prop} {σ σ' : Nat → Option Sum} (hS : ∀ b, S b → S' b) (hσ : ∀ g, g ≠ h → σ' g = σ g)
    (hrow : ∀ {off len : Nat} {q : Sum} {v : Value}, σ h = some q → off + len ≤ q.len → WinAt q off len v → DCells w S' (.list t) ((xs.drop off).take len) [v])
    (hlen : ∀ q, σ h = some q → q.len = xs.length) (htab : ∀ q b o c, σ h = some q → q.place = some (b, o, c) → TabAt w S' b o t xs) :
    ∀ (a : List AV) (v : List Value), AVsRep w S σ a v → AVsRep w S' σ' (frzL h t xs a) v
  | [], _, hr => hr
  | a :: r, _, ⟨v, vr, e, h1, h2⟩ => ⟨v, vr, e, frz_rep hS hσ hrow hlen htab a v h1, frzL_rep hS hσ hrow hlen htab r vr h2⟩
end

theorem frzL_get {h : Nat} {t : Ty} {xs : List t.den} : ∀ {cs : List AV} {j : Nat} {a : AV}, (frzL h t xs cs)[j]? = some a → ∃ a0, cs[j]? = some a0 ∧ a = frz h t xs a0
  | [], _, _, hh => by simp [frzL] at hh
  | c :: r, 0, a, hh => by simp [frzL] at hh; exact ⟨c, rfl, hh.symm⟩
  | c :: r, j + 1, a, hh => by simp [frzL] at hh; simpa using frzL_get hh

theorem frzL_length {h : Nat} {t : Ty} {xs : List t.den} : ∀ (cs : List AV), (frzL h t xs cs).length = cs.length
  | [] => rfl
  | c :: r => by simp [frzL, frzL_length r]

theorem RowRep.sub {S S' : Nat → Prop} {σ : Nat → Option Sum} (hS : ∀ b, S b → S' b) {p : Option (Nat × Nat × Nat)} {r : Row} (h : RowRep w S σ p r) : RowRep w S' σ p r := by
  cases r with
  | seq u ys =>
    cases p with
    | none => exact h
    | some p =>
      obtain ⟨b, o, c⟩ := p
      obtain ⟨cur, e, h1, h2, h3, h4, h5⟩ := h
      refine ⟨cur, e, h1, h2, h3, h4, fun i x hx => ?_⟩
      obtain ⟨cs, hd, hc⟩ := h5 i x hx
      exact ⟨cs, DCells.sub hS hd, hc⟩
  | box cs =>
    obtain ⟨b, o, c, cur, e, hp, h1, h2⟩ := h
    refine ⟨b, o, c, cur, e, hp, h1, fun j a hj => ?_⟩
    obtain ⟨v, hv, h1c, hr⟩ := h2 j a hj
    exact ⟨v, hv, h1c, AVRep.mono (Nat.le_refl _) (fun b hb _ => ⟨hS b hb, rfl⟩) _ v (fun _ _ => rfl) hr⟩
  | nest t xss m cs =>
    cases p with
    | none => exact h
    | some p =>
      obtain ⟨b, o, c⟩ := p
      obtain ⟨cur, e, h1, h2, h3, h4, h5⟩ := h
      refine ⟨cur, e, h1, h2, h3, h4, fun j a hj => ?_⟩
      obtain ⟨v, hv, h1c, hr⟩ := h5 j a hj
      exact ⟨v, hv, h1c, AVRep.mono (Nat.le_refl _) (fun b hb _ => ⟨hS b hb, rfl⟩) _ v (fun _ _ => rfl) hr⟩

theorem NestRep.sub {S S' : Nat → Prop} {σ σ' : Nat → Option Sum} (hS : ∀ b, S b → S' b) {p : Option (Nat × Nat × Nat)} {q : Nat → Option (Nat × Nat × Nat)} {t : Ty} {xss : List (List t.den)} {m : Nat} {cs : List AV} (h : NestRep w S σ p q t xss m cs) : NestRep w S' σ' p q t xss m cs :=
  NestRep.ren (.inl hS) h

theorem freeze_ok (hI : Inv B s tmps w ι) {h : Nat} (hk : B.k ≤ h) {t : Ty} {xs : List t.den} (hr : s.heap[h]? = some (some (.seq t xs))) :
    Inv B ⟨frzL h t xs s.env, (s.heap.map (Option.map (frzRow h t xs))).set h none⟩ tmps w ι := by
  have hlt : h < s.heap.length := (List.getElem?_eq_some_iff.1 hr).1
  generalize hH : (s.heap.map (Option.map (frzRow h t xs))).set h none = H'
  have hget : ∀ g r', H'[g]? = some (some r') → g ≠ h ∧ ∃ r, s.heap[g]? = some (some r) ∧ r' = frzRow h t xs r := fun g r' hg => by
    subst hH
    by_cases e : g = h
    · subst e
      rw [List.getElem?_set_self (by simpa using hlt)] at hg
      cases hg
    · refine ⟨e, ?_⟩
      rw [List.getElem?_set_ne (Ne.symm e), List.getElem?_map] at hg
      cases hc : s.heap[g]? with
      | none => rw [hc] at hg; simp at hg
      | some x =>
        cases x with
        | none => rw [hc] at hg; simp at hg
        | some r => rw [hc] at hg; simp at hg; exact ⟨r, rfl, hg.symm⟩
  have hback : ∀ g r, g ≠ h → s.heap[g]? = some (some r) → H'[g]? = some (some (frzRow h t xs r)) := fun g r e hg => by
    subst hH
    rw [List.getElem?_set_ne (Ne.symm e), List.getElem?_map, hg]
    rfl
  have hrc : ∀ r : Row, (frzRow h t xs r).cells = r.cells := fun r => by cases r <;> rfl
  have hrl : ∀ r : Row, (frzRow h t xs r).len = r.len := fun r => by cases r <;> simp [frzRow, Row.len, frzL_length]
  have hnest : ∀ (g : Nat) (u : Ty) (xss : List (List u.den)) m cs, H'[g]? = some (some (.nest u xss m cs)) → g ≠ h ∧ ∃ cs0, s.heap[g]? = some (some (.nest u xss m cs0)) ∧ cs0.length = cs.length := fun g u xss m cs hg => by
    obtain ⟨hne, r, hg', e⟩ := hget g _ hg
    cases r with
    | seq _ _ => cases e
    | box _ => cases e
    | nest u' yss m' cs' =>
      simp only [frzRow] at e
      cases e
      exact ⟨hne, _, hg', (frzL_length _).symm⟩
  have hocc : ∀ {g b : Nat}, Occ ι H' g b → g ≠ h ∧ Occ ι s.heap g b := fun {g b} o => by
    cases o with
    | out r' p hr' hp e =>
      obtain ⟨hne, r, hg', _⟩ := hget g r' hr'
      exact ⟨hne, .out r p hg' hp e⟩
    | inn u xss m cs i p hr' hi hp e =>
      obtain ⟨hne, cs0, hg', _⟩ := hnest g u xss m cs hr'
      exact ⟨hne, .inn u xss m cs0 i p hg' hi hp e⟩
  have hst : ∀ b, stab w ι s.heap b → stab w ι H' b := fun b hb => ⟨hb.1, fun g o => hb.2 g (hocc o).2⟩
  have hS : ∀ b, dst B.D w ι s.heap b → dst B.D w ι H' b := fun b hb => ⟨hb.1, hst b hb.2⟩
  have hblk : ∀ p, ι h = some p → dst B.D w ι H' p.1 := fun p hp => by
    refine ⟨hI.hrep.own h _ p hr hp, ?_, fun g o => ?_⟩
    · have := hI.hrep.rows h _ hr
      rw [hp] at this
      exact this.lt
    · obtain ⟨hne, o'⟩ := hocc o
      exact hne (hI.hrep.one g h p.1 o' (.out _ p hr hp rfl))
  have hσ : ∀ g, g ≠ h → sumOf ι H' g = sumOf ι s.heap g := fun g e => by
    cases hc : s.heap[g]? with
    | none =>
      have : H'[g]? = none := by
        subst hH
        rw [List.getElem?_set_ne (Ne.symm e), List.getElem?_map, hc]; rfl
      simp [sumOf, this, hc]
    | some x =>
      cases x with
      | none =>
        have : H'[g]? = some none := by
          subst hH
          rw [List.getElem?_set_ne (Ne.symm e), List.getElem?_map, hc]; rfl
        simp [sumOf, this, hc]
      | some r => simp [sumOf, hback g r e hc, hc, hrc, hrl]
  have hrow : ∀ {off len : Nat} {q : Sum} {v : Value}, sumOf ι s.heap h = some q → off + len ≤ q.len → WinAt q off len v → DCells w (dst B.D w ι H') (.list t) ((xs.drop off).take len) [v] :=
    fun hq hl hw => slc_dat hI.hrep hS hr hblk hq hl hw
  have hlen : ∀ q, sumOf ι s.heap h = some q → q.len = xs.length := fun q hq => by
    rw [sumOf_of hr] at hq
    cases hq
    rfl
  have htab : ∀ q b o c, sumOf ι s.heap h = some q → q.place = some (b, o, c) → TabAt w (dst B.D w ι H') b o t xs := fun q b o c hq hp => by
    rw [sumOf_of hr] at hq
    cases hq
    simp only at hp
    have hrr := hI.hrep.rows h _ hr
    rw [hp] at hrr
    refine ⟨hblk _ hp, hrr.lt, fun i x hx => ?_⟩
    obtain ⟨cs, hd, hc⟩ := seq_cells hI.hrep hr hp hx
    exact ⟨cs, DCells.sub hS hd, hc⟩
  refine ⟨hI.kept, ⟨fun g r' hg => ?_, fun g1 g2 b o1 o2 => hI.hrep.one g1 g2 b (hocc o1).2 (hocc o2).2, fun g b o => hI.hrep.has g b (hocc o).2, fun g u xss m cs hg => by
    obtain ⟨_, cs0, hg', hl⟩ := hnest g u xss m cs hg
    exact (NestRep.sub hS (hI.hrep.nest g u xss m cs0 hg')).like hl⟩, fun b hb => hst b (hI.stay b hb), fun g hg => ?_, fun i a ha => ?_, hI.glob.mono (Nat.le_refl _) (fun b hb _ => ⟨hS b hb, rfl⟩)⟩
  · obtain ⟨hne, r, hg', rfl⟩ := hget g r' hg
    have h0 := hI.hrep.rows g r hg'
    cases r with
    | seq u ys =>
      cases hp : ι g with
      | none => rw [hp] at h0; exact h0
      | some p =>
        rw [hp] at h0
        obtain ⟨b, o, c⟩ := p
        obtain ⟨cur, e, h1, h2, h3, h4, h5⟩ := h0
        refine ⟨cur, e, h1, h2, h3, h4, fun i x hx => ?_⟩
        obtain ⟨cs, hd, hc⟩ := h5 i x hx
        exact ⟨cs, DCells.sub hS hd, hc⟩
    | box cs =>
      obtain ⟨b, o, c, cur, e, hp, h1, h2⟩ := h0
      refine ⟨b, o, c, cur, e, hp, h1, fun j a hj => ?_⟩
      obtain ⟨a0, hj0, rfl⟩ := frzL_get hj
      obtain ⟨v, hv, h1c, hr'⟩ := h2 j a0 hj0
      exact ⟨v, hv, h1c, frz_rep hS hσ hrow hlen htab a0 v hr'⟩
    | nest u xss m cs =>
      cases hp : ι g with
      | none =>
        rw [hp] at h0
        obtain ⟨h1, rfl⟩ := h0
        exact ⟨h1, rfl⟩
      | some p =>
        rw [hp] at h0
        obtain ⟨b, o, c⟩ := p
        obtain ⟨cur, e, h1, h3, h4, h5, h2⟩ := h0
        refine ⟨cur, e, h1, h3, h4, h5, fun j a hj => ?_⟩
        obtain ⟨a0, hj0, rfl⟩ := frzL_get hj
        obtain ⟨v, hv, h1c, hr'⟩ := h2 j a0 hj0
        exact ⟨v, hv, h1c, frz_rep hS hσ hrow hlen htab a0 v hr'⟩
  · obtain ⟨h1, r, h2⟩ := hI.io g hg
    have hne : g ≠ h := by omega
    exact ⟨h1.imp id (hσ g hne).trans, _, hback g r hne h2⟩
  · obtain ⟨a0, h0, rfl⟩ := frzL_get ha
    obtain ⟨v, hv, hr'⟩ := hI.env i a0 h0
    exact ⟨v, hv, frz_rep hS hσ hrow hlen htab a0 v hr'⟩

theorem winify_rep {S : Nat → Prop} {a : AV} {v : Value} (hr : AVRep w S (sumOf ι s.heap) a v) : AVRep w S (sumOf ι s.heap) (winify s a) v := by
  unfold winify
  split
  · rename_i h
    split
    · rename_i t xs hrow
      obtain ⟨q, hq, hw⟩ := hr
      have hq' := sum_of_row (row_eq hrow) hq
      subst hq'
      exact ⟨_, hq, by simp, hw⟩
    · exact hr
  · exact hr

theorem winify_refs {a : AV} {x : Nat} (h : (winify s a).refs x = true) : a.refs x = true := by
  unfold winify at h
  split at h
  · split at h
    · simpa [AV.refs] using h
    · exact h
  · exact h

theorem AVsRep.setTo {w : World} {S : Nat → Prop} {σ : Nat → Option Sum} {a x : AV} (hb : ∀ v, AVRep w S σ a v → AVRep w S σ x v) : ∀ (cs : List AV) (c : Nat) (vs : List Value), cs[c]? = some a → AVsRep w S σ cs vs → AVsRep w S σ (cs.set c x) vs
  | [], _, _, hc, _ => by simp at hc
  | y :: r, 0, _, hc, ⟨v, vr, e, h1, h2⟩ => by
    simp only [List.getElem?_cons_zero, Option.some.injEq] at hc
    subst hc
    exact ⟨v, vr, e, hb v h1, h2⟩
  | y :: r, c + 1, _, hc, ⟨v, vr, e, h1, h2⟩ => ⟨v, vr, e, h1, AVsRep.setTo hb r c vr (by simpa using hc) h2⟩

theorem Inv.setEnvTo (hI : Inv B s tmps w ι) {t : Nat} {a x : AV} (ha : s.env[t]? = some a) (hx : ∀ v, AVRep w (dst B.D w ι s.heap) (sumOf ι s.heap) a v → AVRep w (dst B.D w ι s.heap) (sumOf ι s.heap) x v) : Inv B { s with env := s.env.set t x } tmps w ι := by
  refine ⟨hI.kept, hI.hrep, hI.stay, hI.io, fun i b hb => ?_, hI.glob⟩
  simp only at hb
  rw [List.getElem?_set] at hb
  split at hb
  · rename_i hit
    subst hit
    split at hb
    · obtain ⟨v, hv, hr⟩ := hI.env t a ha
      cases hb
      exact ⟨v, hv, hx v hr⟩
    · cases hb
  · exact hI.env i b hb

theorem Inv.putEnv (hI : Inv B s tmps w ι) {t : Nat} {a : AV} (ha : s.env[t]? = some a) : Inv B { s with env := s.env.set t (winify s a) } tmps w ι := by
  refine ⟨hI.kept, hI.hrep, hI.stay, hI.io, fun i b hb => ?_, hI.glob⟩
  simp only at hb
  rw [List.getElem?_set] at hb
  split at hb
  · rename_i hit
    subst hit
    split at hb
    · obtain ⟨v, hv, hr⟩ := hI.env t a ha
      cases hb
      exact ⟨v, hv, winify_rep hr⟩
    · cases hb
  · exact hI.env i b hb

theorem Inv.setCellTo (hI : Inv B s tmps w ι) {h c : Nat} {cs : List AV} {a x : AV} (hrow : s.heap[h]? = some (some (.box cs))) (ha : cs[c]? = some a) (hb : ∀ v, AVRep w (dst B.D w ι s.heap) (sumOf ι s.heap) a v → AVRep w (dst B.D w ι s.heap) (sumOf ι s.heap) x v) :
    Inv B (s.setRow h (.box (cs.set c x))) tmps w ι := by
  have hlt : h < s.heap.length := (List.getElem?_eq_some_iff.1 hrow).1
  have hσ : sumOf ι (s.setRow h (.box (cs.set c x))).heap = sumOf ι s.heap := by
    funext g
    by_cases e : g = h
    · subst e
      have h1 : (s.setRow g (.box (cs.set c x))).heap[g]? = some (some (.box (cs.set c x))) := by simp [St.setRow, hlt]
      rw [sumOf_of h1, sumOf_of hrow]
      simp [Row.cells, Row.len]
    · simp [sumOf, St.setRow, List.getElem?_set_ne (Ne.symm e)]
  have hget : ∀ g r, (s.setRow h (.box (cs.set c x))).heap[g]? = some (some r) → ∃ r0, s.heap[g]? = some (some r0) ∧ (g ≠ h → r = r0) ∧ (g = h → r = .box (cs.set c x) ∧ r0 = .box cs) := fun g r hg => by
    by_cases e : g = h
    · subst e
      simp [St.setRow, hlt] at hg
      exact ⟨_, hrow, fun hh => absurd rfl hh, fun _ => ⟨hg.symm, rfl⟩⟩
    · simp only [St.setRow] at hg
      rw [List.getElem?_set_ne (Ne.symm e)] at hg
      exact ⟨r, hg, fun _ => rfl, fun hh => absurd hh e⟩
  have hnest : ∀ (g : Nat) (u : Ty) (xss : List (List u.den)) m ds, (s.setRow h (.box (cs.set c x))).heap[g]? = some (some (.nest u xss m ds)) → s.heap[g]? = some (some (.nest u xss m ds)) := fun g u xss m ds hg => by
    obtain ⟨r0, h0, h1, h2⟩ := hget g _ hg
    by_cases e : g = h
    · cases (h2 e).1
    · exact (h1 e) ▸ h0
  have hocc : ∀ {g b : Nat}, Occ ι (s.setRow h (.box (cs.set c x))).heap g b → Occ ι s.heap g b := fun {g b} o => by
    cases o with
    | out r p hr hp e =>
      obtain ⟨r0, h0, _⟩ := hget g r hr
      exact .out r0 p h0 hp e
    | inn u xss m ds i p hr hi hp e => exact .inn u xss m ds i p (hnest g u xss m ds hr) hi hp e
  have hst : ∀ b, stab w ι s.heap b → stab w ι (s.setRow h (.box (cs.set c x))).heap b := fun b hb => ⟨hb.1, fun g o => hb.2 g (hocc o)⟩
  have hS : ∀ b, dst B.D w ι s.heap b → dst B.D w ι (s.setRow h (.box (cs.set c x))).heap b := fun b hb => ⟨hb.1, hst b hb.2⟩
  refine ⟨hI.kept, ⟨fun g r hg => ?_, fun g1 g2 b o1 o2 => hI.hrep.one g1 g2 b (hocc o1) (hocc o2), fun g b o => hI.hrep.has g b (hocc o), fun g u xss m ds hg => NestRep.sub hS (hI.hrep.nest g u xss m ds (hnest g u xss m ds hg))⟩, fun b hb => hst b (hI.stay b hb), fun g hg => ?_, fun i b hb => ?_, hI.glob.mono (Nat.le_refl _) (fun b hb' _ => ⟨hS b hb', rfl⟩)⟩
  · obtain ⟨r0, h0, h1, h2⟩ := hget g r hg
    rw [hσ]
    have hrr := hI.hrep.rows g r0 h0
    by_cases e : g = h
    · obtain ⟨rfl, rfl⟩ := h2 e
      obtain ⟨b, o, cc, cur, e', hp, h3, h4⟩ := hrr
      refine ⟨b, o, cc, cur, e', hp, h3, fun j z hj => ?_⟩
      rw [List.getElem?_set] at hj
      split at hj
      · rename_i hcj
        subst hcj
        split at hj
        · cases hj
          obtain ⟨v, hv, h1c, hr⟩ := h4 c a ha
          exact ⟨v, hv, h1c, AVRep.mono (Nat.le_refl _) (fun b hb' _ => ⟨hS b hb', rfl⟩) _ v (fun _ _ => rfl) (hb v hr)⟩
        · cases hj
      · obtain ⟨v, hv, h1c, hr⟩ := h4 j z hj
        exact ⟨v, hv, h1c, AVRep.mono (Nat.le_refl _) (fun b hb' _ => ⟨hS b hb', rfl⟩) _ v (fun _ _ => rfl) hr⟩
    · have := h1 e
      subst this
      exact RowRep.sub hS hrr
  · rw [hσ]
    obtain ⟨h1, r, h2⟩ := hI.io g hg
    refine ⟨h1, ?_⟩
    rw [← hσ] at h1
    have : sumOf ι (s.setRow h (.box (cs.set c x))).heap g = some ⟨ι g, r.cells, r.len⟩ := by rw [hσ]; exact sumOf_of h2
    exact sumOf_some this
  · obtain ⟨v, hv, hr⟩ := hI.env i b hb
    rw [hσ]
    exact ⟨v, hv, AVRep.mono (Nat.le_refl _) (fun b hb' _ => ⟨hS b hb', rfl⟩) _ v (fun _ _ => rfl) hr⟩


theorem Inv.setCell (hI : Inv B s tmps w ι) {h c : Nat} {cs : List AV} {a : AV} (hrow : s.heap[h]? = some (some (.box cs))) (ha : cs[c]? = some a) :
    Inv B (s.setRow h (.box (cs.set c (winify s a)))) tmps w ι := hI.setCellTo hrow ha (fun v hr => winify_rep hr)


end
end Go.Rv

set_option linter.unusedSimpArgs false
set_option linter.unusedVariables false
namespace Go.Rv

section
variable {B : Base} {s : St} {tmps : Array Value} {w : World} {ι : Plc}

theorem Rep.freeze {s : St} {a : Act} {w : World} (hR : Rep B s a w) (h : Nat) : Rep B (s.freeze B.k h) a w := by
  unfold St.freeze
  cases hb : Nat.ble B.k h with
  | false => exact hR
  | true =>
    simp only [cond_true]
    split
    · rename_i t xs hrow
      obtain ⟨hd, ι, hI⟩ := hR
      exact ⟨hd, ι, freeze_ok hI (Nat.le_of_ble_eq_true hb) (row_eq hrow)⟩
    · exact hR

theorem Rep.frzAV {s : St} {a : Act} {w : World} (hR : Rep B s a w) (x : AV) : Rep B (s.frzAV B.k x) a w := by
  unfold St.frzAV
  split
  · exact hR.freeze _
  · exact hR.freeze _
  · exact hR.freeze _
  · exact hR

theorem Inv.moreNil (h : Inv B s tmps w ι) (u : Ty) : Inv B { s with heap := s.heap ++ [some (.seq u [])] } tmps w (setPlc ι s.heap.length none) := by
  have hget : ∀ x, x ≠ s.heap.length → (s.heap ++ [some (Row.seq u [])])[x]? = s.heap[x]? := fun x hx => by
    by_cases hl : x < s.heap.length
    · exact List.getElem?_append_left hl
    · rw [List.getElem?_append_right (by omega), List.getElem?_eq_none (by simp; omega), List.getElem?_eq_none (by omega)]
  have hself : (s.heap ++ [some (Row.seq u [])])[s.heap.length]? = some (some (.seq u [])) := by simp
  refine h.turn (s' := { s with heap := s.heap ++ [some (.seq u [])] }) (g := s.heap.length) (r := .seq u []) (p := none) (fun x => ∃ r0, s.heap[x]? = some (some r0)) hself rfl ?_ ?_ (Kept.refl _ _) (fun _ _ _ _ => rfl) ?_ ?_ (fun x hx => hx) (fun _ => rfl) ?_ ?_ (fun q hq => by cases hq)
  · intro h' r' hne hr'
    simp only at hr'
    rw [hget h' hne] at hr'
    exact ⟨r', hr', .rfl, rfl, rfl, fun _ _ _ _ hh => hh, fun x hx => by
      obtain ⟨q, hq⟩ := (h.hrep.rows h' r' hr').refs_some x hx
      exact sumOf_some hq⟩
  · intro h' r0 hne hr0
    exact ⟨r0, by simp only; rw [hget h' hne]; exact hr0⟩
  · intro q hq; cases hq
  · rintro ⟨r0, hr0⟩; simp at hr0
  · intro i a ha
    obtain ⟨v, hv, hr⟩ := h.env i a ha
    exact ⟨v, hv, .inl ⟨a, hr, .inl rfl, fun x hx => by obtain ⟨q, hq⟩ := AVRep.refs_some a v x hr hx; exact sumOf_some hq⟩⟩
  · intro hk
    obtain ⟨_, r0, hr0⟩ := h.io _ hk
    simp at hr0

theorem Rep.nilRow {a : Act} {w : World} (r : Row) (slot c : Nat) {s : St} (hR : Rep B s a w) (hmore : ∀ ι, Inv B s a.tmps w ι → ∃ ι', Inv B { s with heap := s.heap ++ [some r] } a.tmps w ι' ∧ ∃ k, sumOf ι' (s.heap ++ [some r]) s.heap.length = some ⟨none, k, 0⟩) : Rep B (Rv.nilRow r slot c s) a w := by
  unfold Rv.nilRow
  split
  · rename_i hs
    obtain ⟨hd, ι, hI⟩ := hR
    obtain ⟨ι', h1, k, hk⟩ := hmore ι hI
    exact ⟨hd, ι', h1.setEnvTo (t := slot) (a := .nils) (x := .slc s.heap.length) hs (fun v ⟨b, hv⟩ => ⟨⟨none, k, 0⟩, hk, rfl, rfl, b, hv⟩)⟩
  · rename_i cs hs
    split
    · rename_i hc
      obtain ⟨hd, ι, hI⟩ := hR
      obtain ⟨ι', h1, k, hk⟩ := hmore ι hI
      exact ⟨hd, ι', h1.setEnvTo (t := slot) (a := .agg cs) hs (fun v ⟨vs, e, hv⟩ => ⟨vs, e, AVsRep.setTo (a := .nils) (x := .slc s.heap.length) (fun v ⟨b, hv⟩ => ⟨⟨none, k, 0⟩, hk, rfl, rfl, b, hv⟩) cs c vs hc hv⟩)⟩
    · exact hR
  · rename_i h o hs
    split
    · rename_i cs hrow
      split
      · rename_i hc
        obtain ⟨hd, ι, hI⟩ := hR
        have hr := row_eq hrow
        have hlt := (List.getElem?_eq_some_iff.1 hr).1
        obtain ⟨ι', h0, k, hk⟩ := hmore ι hI
        have h1 := h0.setCellTo (h := h) (c := c) (cs := cs) (a := .nils) (x := .slc s.heap.length) (by simp only; rw [List.getElem?_append_left hlt]; exact hr) hc (fun v ⟨b, hv⟩ => ⟨⟨none, k, 0⟩, hk, rfl, rfl, b, hv⟩)
        refine ⟨hd, ι', ?_⟩
        have e : (St.setRow { s with heap := s.heap ++ [some r] } h (.box (cs.set c (.slc s.heap.length)))) = { s with heap := s.heap.set h (some (.box (cs.set c (.slc s.heap.length)))) ++ [some r] } := by
          simp only [St.setRow]
          rw [List.set_append_left _ _ hlt]
        rw [e] at h1
        exact h1
      · exact hR
    · exact hR
  · exact hR

theorem Rep.nilSeq {a : Act} {w : World} (t : Ty) (slot c : Nat) {s : St} (hR : Rep B s a w) : Rep B (Rv.nilRow (.seq t []) slot c s) a w :=
  hR.nilRow _ _ _ fun ι hI => ⟨setPlc ι s.heap.length none, hI.moreNil t, t.cells, by simp [sumOf, setPlc, Row.cells, Row.len]⟩

theorem Rep.turnOne {a : Act} {w : World} (p : Turn) {s : St} (hR : Rep B s a w) : Rep B (turnOne B.k p s) a w := by
  unfold Rv.turnOne
  split
  · split
    · cases p.win with
      | true => exact hR
      | false => exact hR.nilSeq _ _ _
    · exact hR
  split
  · split
    · rename_i x hx
      cases p.win with
      | true =>
        obtain ⟨hd, ι, hI⟩ := hR
        exact ⟨hd, ι, hI.putEnv hx⟩
      | false => exact hR.frzAV x
    · exact hR
  · split
    · split
      · rename_i hrow
        split
        · rename_i x hx
          cases p.win with
          | true =>
            obtain ⟨hd, ι, hI⟩ := hR
            exact ⟨hd, ι, hI.setCell (row_eq hrow) hx⟩
          | false => exact hR.frzAV x
        · exact hR
      · exact hR
    · rename_i cs hx
      split
      · rename_i x hc
        cases p.win with
        | true =>
          obtain ⟨hd, ι, hI⟩ := hR
          exact ⟨hd, ι, hI.setEnvTo hx (fun v ⟨vs, e, hv⟩ => ⟨vs, e, AVsRep.setTo (fun v hr => winify_rep hr) cs _ vs hc hv⟩)⟩
        | false => exact hR.frzAV x
      · exact hR
    · exact hR

theorem Rep.freezeAt {a : Act} {w : World} (i : Nat) : ∀ (fr : List Turn) {s : St}, Rep B s a w → Rep B (freezeAt B.k i fr s) a w
  | [], _, hR => hR
  | p :: r, s, hR => by
    unfold Rv.freezeAt
    cases Nat.beq p.at_ i with
    | false => exact Rep.freezeAt i r hR
    | true => exact Rep.freezeAt i r (hR.turnOne p)

end
end Go.Rv

set_option linter.unusedSimpArgs false
set_option linter.unusedVariables false
namespace Go.Rv

section
variable {P : Program} {B : Base} {s : St} {a : Act} {w : World} {ι : Plc} {C : Ctx}

theorem finish_value {o : Oper} {Q : Exit → Act → World → Prop} {v : Value} {w' : World} {s2 : St} {ι' : Plc} {x : AV} (hd : a.defers = []) (hrun : (execOp a.eval o).run P w = .ok (.value v) w')
    (hI : Inv B s2 a.tmps w' ι') (hv : AVRep w' (dst B.D w' ι' s2.heap) (sumOf ι' s2.heap) x v) : o.wp P a w (fun a' w' => Rep B (s2.put o.dst x) a' w') Q := by
  unfold Oper.wp
  rw [hrun, Oper.upon_value]
  exact ⟨by cases o.dst <;> exact hd, ι', hI.put o.dst hv a.defers⟩

theorem finish_skip {o : Oper} {Q : Exit → Act → World → Prop} {w' : World} {s2 : St} {ι' : Plc} (hd : a.defers = []) (hrun : (execOp a.eval o).run P w = .ok .skip w')
    (hI : Inv B s2 a.tmps w' ι') : o.wp P a w (fun a' w' => Rep B (s2.put o.dst .undef) a' w') Q := by
  unfold Oper.wp
  rw [hrun, Oper.upon_skip]
  exact ⟨by cases o.dst <;> exact hd, ι', hI.put o.dst (a := .undef) (v := undef) trivial a.defers⟩

theorem lift_opt {α β : Type} {x : Option α} {k : α → Option β} {r : β} (h : lift (optAlg β) x k = some r) : ∃ a, x = some a ∧ k a = some r := by
  cases x with
  | none => cases h
  | some a => exact ⟨a, rfl, h⟩

theorem act_eta : (⟨a.tmps, a.defers⟩ : Act) = a := rfl

theorem foldInt_ok {S : Nat → Prop} {σ : Nat → Option Sum} {f : Int → Int → Int} {g : Value → Value → Sem Value} {k : IntKind} (hg : ∀ n m, g (.int k n) (.int k m) = pure (.int k (f n m))) :
    ∀ (l : List AV) (n m : Int) (vs : List Value), foldInt f k n l = some m → AVsRep w S σ l vs → (vs.foldlM g (.int k n)).run P w = .ok (.int k m) w
  | [], n, m, vs, h, hv => by
    simp [foldInt] at h; subst h
    have e : vs = [] := hv
    subst e
    simp
  | x :: r, n, m, vs, h, hv => by
    obtain ⟨v, vr, rfl, h1, h2⟩ := hv
    cases x with
    | dat t y =>
      cases t with
      | int k' =>
        simp only [foldInt] at h
        split at h
        · rename_i hk
          subst hk
          have e := dat_int h1
          subst e
          simp only [List.foldlM_cons, hg]
          simp only [Sem.run_bind, Sem.run_pure, Result.andThen_ok]
          exact foldInt_ok hg r _ m vr h h2
        · cases h
      | _ => simp [foldInt] at h
    | _ => simp [foldInt] at h

theorem zero_box {S : Nat → Prop} {σ : Nat → Option Sum} : ∀ (vs : List Value), AVsRep w S σ (vs.map constAV) vs
  | [] => rfl
  | v :: r => ⟨v, r, rfl, constAV_rep v, zero_box r⟩

theorem evalOp_ok (hI : Inv B s a.tmps w ι) {x : Option Operand} {l : Option AV} (h : evalOp s x = some l) :
    (∀ b, l = some b → ∃ v, x.map a.eval = some v ∧ AVRep w (dst B.D w ι s.heap) (sumOf ι s.heap) b v) ∧ (l = none → x.map a.eval = none) := by
  cases x with
  | none => simp [evalOp] at h; subst h; simp
  | some y =>
    simp only [evalOp] at h
    split at h
    · rename_i b hb
      simp at h; subst h
      exact ⟨fun b' e => by cases e; exact ⟨_, rfl, evalO_rep hI hb a.defers⟩, by simp⟩
    · cases h

theorem abuild_ok {T : TT} (hT : TOk P T) {S : Nat → Prop} {σ : Nat → Option Sum} {fs : List (Nat × TypeId)} {fields : Array Field} (hmap : fields.toList.map (fun x => (x.offset, x.type)) = fs)
    {places : Array (Nat × Nat)} (hpl : ∀ (i : Nat) off ft fi, fs[i]? = some (off, ft) → T ft = some fi → places[i]? = some (off, fi.size)) :
    ∀ (l : List (Nat × AV)) (cs out : List AV) (vs : List (Nat × Value)) (cells : Array Value), abuildCells T fs l cs = some out → vs.length = l.length →
      (∀ (j : Nat) (x : Nat × AV), l[j]? = some x → ∃ v, vs[j]? = some (x.1, v) ∧ AVRep w S σ x.2 v) → AVsRep w S σ cs cells.toList →
      ∃ res : Array Value, Instr.fill (places[·]?) cells vs = some res ∧ AVsRep w S σ out res.toList
  | [], cs, out, vs, cells, h, hl, _, hc => by
    simp [abuildCells] at h; subst h
    have : vs = [] := List.eq_nil_of_length_eq_zero (by simpa using hl)
    subst this
    exact ⟨cells, rfl, hc⟩
  | (f, b) :: r, cs, out, vs, cells, h, hl, hr, hc => by
    cases vs with
    | nil => simp at hl
    | cons y vr =>
      obtain ⟨v, hv, hrep⟩ := hr 0 (f, b) rfl
      simp at hv
      subst hv
      have hrest : ∀ (j : Nat) (x : Nat × AV), r[j]? = some x → ∃ v, vr[j]? = some (x.1, v) ∧ AVRep w S σ x.2 v := fun j x hx => by simpa using hr (j + 1) x (by simpa using hx)
      have hlen : cells.size = cs.length := by have := hc.length; simpa using this
      simp only [abuildCells] at h
      split at h
      · rename_i off ft hf
        split at h
        · rename_i fi hfi
          have hp := hpl f off ft fi hf hfi
          split at h
          · rename_i new
            split at h
            · rename_i hcond
              simp only [Bool.and_eq_true, beq_iff_eq, decide_eq_true_eq] at hcond
              obtain ⟨⟨_, h1⟩, h2⟩ := hcond
              obtain ⟨us, rfl, hus⟩ := hrep
              have hul := hus.length
              have hstep : ∃ c2 : Array Value, (us.toArray.zipIdx.foldl (fun cs (x : Value × Nat) => cs.setIfInBounds (off + x.2) x.1) cells) = c2 ∧ AVsRep w S σ (overwrite cs off new) c2.toList := by
                refine ⟨_, rfl, ?_⟩
                have key : ∀ (us : List Value) (new : List AV) (k : Nat) (cells : Array Value) (cs : List AV), AVsRep w S σ new us → AVsRep w S σ cs cells.toList → k + new.length ≤ cs.length →
                    AVsRep w S σ (cs.take k ++ new ++ cs.drop (k + new.length)) ((us.zipIdx (k - off)).foldl (fun cs (x : Value × Nat) => cs.setIfInBounds (off + x.2) x.1) cells).toList ∨ k < off := by
                  intro us
                  induction us with
                  | nil =>
                    intro new k cells cs hn hc hk
                    have : new = [] := by
                      cases new with
                      | nil => rfl
                      | cons a r => obtain ⟨_, _, e, _⟩ := hn; cases e
                    subst this
                    left
                    simpa using hc
                  | cons u ur ih =>
                    intro new k cells cs hn hc hk
                    cases new with
                    | nil => have e : u :: ur = [] := hn; cases e
                    | cons x xr =>
                      obtain ⟨v, vr, e, h1, h2⟩ := hn
                      cases e
                      by_cases hko : k < off
                      · exact .inr hko
                      · left
                        simp only [List.length_cons] at hk
                        have hc' : AVsRep w S σ (cs.set k x) (cells.setIfInBounds k u).toList := by
                          rw [Array.toList_setIfInBounds]; exact hc.set k h1
                        have := (ih xr (k + 1) (cells.setIfInBounds k u) (cs.set k x) h2 hc' (by simp; omega)).resolve_right (by omega)
                        have e1 : (cs.set k x).take (k + 1) ++ xr ++ (cs.set k x).drop (k + 1 + xr.length) = cs.take k ++ (x :: xr) ++ cs.drop (k + (xr.length + 1)) := by
                          rw [List.take_set, List.drop_set_of_lt (by omega)]
                          have hkl : k < cs.length := by omega
                          have : (List.take (k + 1) cs).set k x = cs.take k ++ [x] := by
                            rw [List.take_add_one, List.getElem?_eq_getElem hkl]
                            have hl : (List.take k cs).length = k := by simp; omega
                            rw [List.set_append_right _ _ (by omega), hl]
                            simp
                          rw [this]
                          simp [Nat.add_assoc, Nat.add_comm 1]
                        rw [e1] at this
                        simp only [List.zipIdx_cons, List.foldl_cons, List.length_cons]
                        have e2 : off + (k - off) = k := by omega
                        have e3 : k - off + 1 = k + 1 - off := by omega
                        rw [e2, e3]
                        exact this
                have := (key us new off cells cs hus hc h2).resolve_right (by omega)
                rw [← Array.foldl_toList]
                simpa [overwrite] using this
              obtain ⟨c2, he, hc2⟩ := hstep
              obtain ⟨res, h3, h4⟩ := abuild_ok hT hmap hpl r _ out vr c2 h (by simpa using hl) hrest hc2
              refine ⟨res, ?_, h4⟩
              have hsz : (Value.agg us.toArray).cells.size = us.length := by simp [Value.cells]
              have hcell : (Value.agg us.toArray).cells = us.toArray := rfl
              simp only [Instr.fill, hp]
              have hcn : ¬ ((decide ((Value.agg us.toArray).cells.size ≠ fi.size) || decide (off + (Value.agg us.toArray).cells.size > cells.size)) = true) := by
                rw [hsz]
                simp
                omega
              rw [if_neg hcn, hcell, he]
              exact h3
            · cases h
          · rename_i b hb
            split at h
            · rename_i hcond
              simp only [Bool.and_eq_true, beq_iff_eq, decide_eq_true_eq] at hcond
              obtain ⟨⟨⟨_, h1⟩, h2⟩, h3⟩ := hcond
              have hone := oneCell_cells (single_one h2 hrep)
              obtain ⟨res, h4, h5⟩ := abuild_ok hT hmap hpl r _ out vr (cells.setIfInBounds off v) h (by simpa using hl) hrest (by
                rw [Array.toList_setIfInBounds]; exact hc.set off hrep)
              refine ⟨res, ?_, h5⟩
              simp only [Instr.fill, hp, hone]
              rw [if_neg (by simp; omega)]
              simpa using h4
            · cases h
        · cases h
      · cases h

end
end Go.Rv

set_option linter.unusedSimpArgs false
set_option linter.unusedVariables false
namespace Go.Rv

def Callable (P : Program) (f : FuncId) : Prop := ∀ args w, (callFunc f args).run P w = .ok (.enter f args) w

structure COk (P : Program) (C : Ctx) : Prop where
  types : TOk P C.T
  orc : ∀ f, Sound P f (C.orc f)
  call : ∀ f avs H, (C.orc f avs H).o.isSome = true → Callable P f
  mixed : P.follows .mixedOrders = true

section
variable {P : Program} {B : Base} {s : St} {a : Act} {w : World} {ι : Plc} {C : Ctx}

theorem map_toArr (xs : Array Operand) (ρ : Operand → Value) : xs.map ρ = (xs.toList.map ρ).toArray := by
  apply Array.ext'; simp

theorem arr2 {α : Type} {xs : Array α} {x y : α} (h : xs.toList = [x, y]) : xs = #[x, y] := by
  apply Array.ext'; simpa using h
theorem arr1 {α : Type} {xs : Array α} {x : α} (h : xs.toList = [x]) : xs = #[x] := by
  apply Array.ext'; simpa using h

def keyDesc (d : TypeDesc) : AV → Prop
  | .dat (.int _) _ => ∃ i, d = .int i
  | .dat .str _ => d = .string
  | _ => False

theorem keyOk_desc {kt : TypeId} {kk : TK} {k : AV} (hkd : kindOk P kt kk) (h : keyOk kk k = true) : ∃ d, P.underlying kt = some d ∧ keyDesc d k := by
  unfold keyOk at h
  split at h
  · exact ⟨_, hkd, _, rfl⟩
  · exact ⟨_, hkd, rfl⟩
  · cases h

theorem keyDesc_or {d : TypeDesc} {k : AV} (h : keyDesc d k) : (∃ i, d = .int i) ∨ d = .string := by
  unfold keyDesc at h
  split at h
  · exact .inl h
  · exact .inr h
  · exact h.elim

/-- What a list of bytes tells as a text. -/
theorem bytes_ok {S : Nat → Prop} {σ : Nat → Option Sum} {src dst e : TypeId} (hs : P.underlying src = some (.slice e)) (he : P.underlying e = some (.int .u8)) (hd : P.underlying dst = some .string)
    {ns : List Int} {v : Value} (hr : AVRep w S σ (.dat (.list (.int .u8)) ns) v) : (convert src dst v).run P w = .ok (.string (bytesOf ns)) w := by
  obtain ⟨a, cap, e1, hle, hall⟩ := hr
  simp only [List.cons.injEq, and_true] at e1
  subst e1
  rw [run_convert_bytes_string w src dst e a ns.length cap hs he hd]
  rcases hall with rfl | ⟨b, o, rfl, _, _, hall⟩
  · cases a with
    | none => simp [Conv.bytesToString, bytesOf]
    | some a =>
      exact run_bytesToString w a 0 cap [] (by simp [loadCells, loadCellsFrom])
  · refine run_bytesToString w _ ns.length cap ns ?_
    have := run_loadCells_list (P := P) w ⟨b, o, none⟩ (ns.map (Value.int .u8)) (fun j v hj => by
      rw [List.getElem?_map] at hj
      cases hx : ns[j]? with
      | none => rw [hx] at hj; simp at hj
      | some n =>
        rw [hx] at hj
        simp only [Option.map_some, Option.some.injEq] at hj
        subst hj
        obtain ⟨c, hc, hh⟩ := hall j n hx
        have hc : c = [.int .u8 n] := hc
        subst hc
        have h2 := hh 0 _ rfl
        rw [addr_add]
        simpa [Ty.cells] using h2)
    simpa using this

theorem alook_ok {S : Nat → Prop} {σ : Nat → Option Sum} {β : Type} {k : AV} {kv : Value} {d : TypeDesc} (hk : AVRep w S σ k kv) (hd : keyDesc d k) {hit : Go.Fn → Option β} {miss : Option β} {r : β} :
    ∀ (kvs : List (Value × Go.Fn)) (es : List MapEntry) (i : Nat), alook (optAlg β) k hit miss kvs = some r → es.map (fun e => (e.key, e.val)) = kvs.map (fun p => (p.1, Value.func p.2 #[] #[])) →
      (∃ n f, Instr.findNow d kv es i = some (some (n, .func f #[] #[])) ∧ hit f = some r) ∨ (Instr.findNow d kv es i = some none ∧ miss = some r)
  | [], es, i, h, he => by
    have : es = [] := by simpa using he
    subst this
    exact .inr ⟨rfl, h⟩
  | (c, f) :: kvs, es, i, h, he => by
    cases es with
    | nil => simp at he
    | cons e es =>
      simp only [List.map_cons, List.cons.injEq, Prod.mk.injEq] at he
      obtain ⟨⟨h1, h2⟩, h3⟩ := he
      unfold alook at h
      split at h
      · rename_i i1 n j m
        have hkv := dat_int hk
        subst hkv
        obtain ⟨ik, rfl⟩ := hd
        split at h
        · rename_i hij
          subst hij
          cases hc : (n == m) with
          | true =>
            rw [hc] at h
            refine .inl ⟨i, f, ?_, h⟩
            simp [Instr.findNow, h1, Instr.sameNow, hc, h2]
          | false =>
            rw [hc] at h
            have := alook_ok hk ⟨ik, rfl⟩ kvs es (i + 1) h h3
            simpa [Instr.findNow, h1, Instr.sameNow, hc] using this
        · cases h
      · rename_i x y
        have hkv := dat_str hk
        subst hkv
        have hd : d = .string := hd
        subst hd
        cases hc : (x == y) with
        | true =>
          rw [hc] at h
          refine .inl ⟨i, f, ?_, h⟩
          simp [Instr.findNow, h1, Instr.sameNow, hc, h2]
        | false =>
          rw [hc] at h
          have := alook_ok (d := .string) hk rfl kvs es (i + 1) h h3
          simpa [Instr.findNow, h1, Instr.sameNow, hc] using this
      · cases h

theorem fnAV_rep {S : Nat → Prop} {σ : Nat → Option Sum} (f : Go.Fn) : AVRep w S σ (fnAV f) (.func f #[] #[]) := by
  cases f with
  | func f => exact ⟨[], [], rfl, rfl, rfl⟩
  | _ => rfl

theorem struct_places {T : TT} (hT : TOk P T) : ∀ (l : List Field), (∀ f ∈ l, ∃ fi, T f.type = some fi) → ∃ pl : List (Nat × Nat), l.mapM (fun f => (P.info? f.type).map fun i => (f.offset, i.size)) = some pl ∧
      ∀ (i : Nat) f fi, l[i]? = some f → T f.type = some fi → pl[i]? = some (f.offset, fi.size)
  | [], _ => ⟨[], rfl, by simp⟩
  | f :: r, h => by
    obtain ⟨fi, hfi⟩ := h f (by simp)
    obtain ⟨pl, h1, h2⟩ := struct_places hT r (fun g hg => h g (by simp [hg]))
    obtain ⟨inf, hinf, hs, _⟩ := (hT _ _ hfi).info
    refine ⟨(f.offset, fi.size) :: pl, by simp [List.mapM_cons, hinf, hs, h1], fun i g gi hg hgi => ?_⟩
    cases i with
    | zero => simp at hg; subst hg; rw [hfi] at hgi; cases hgi; rfl
    | succ i => simp at hg; simpa using h2 i g gi hg hgi

theorem cstep_sound (hC : COk P C) (hk : C.k = B.k) (hmv : ∀ g, C.mv.contains g = true → B.mv g = true) {base : Nat} {o : Oper} {s' : St} (hR : Rep B s a w) (hso : stepOk C o s = true) (h : cstep (optAlg St) C base o s some = some s') (Q : Exit → Act → World → Prop) :
    o.wp P a w (fun a' w' => Rep B s' a' w') Q := by
  obtain ⟨hd, ι, hI⟩ := hR
  have hI0 : Inv B s a.tmps w ι := hI
  obtain ⟨odst, oop, otype, opos, oafter, oguard⟩ := o
  unfold cstep at h
  cases oop <;> simp only at h
  case move x =>
    obtain ⟨x1, hx, h⟩ := lift_opt h
    cases h
    exact finish_value hd (by simp [execOp]) hI (evalO_rep hI hx a.defers)
  case assign x =>
    obtain ⟨x1, hx, h⟩ := lift_opt h
    have hv := evalO_rep hI hx a.defers
    split at h
    · split at h
      · split at h
        · rename_i ie hie u hu
          obtain ⟨hfree, h⟩ := allocRow_opt h
          cases h
          refine finish_value hd (v := a.eval x) (w' := w) (by simp [execOp]) (hI.addNil hfree u) ⟨_, sumOf_set_self (List.getElem?_eq_some_iff.1 hfree).1, ?_⟩
          obtain ⟨q, hq⟩ := hv
          exact ⟨rfl, rfl, q, hq⟩
        · cases h
      · cases h
    · cases h
      exact finish_value hd (by simp [execOp]) hI hv
  case pick c x y =>
    obtain ⟨c1, hc, h⟩ := lift_opt h
    have hcv := evalO_rep hI hc a.defers
    split at h
    · rename_i g
      obtain ⟨x1, hx, h⟩ := lift_opt h
      obtain ⟨y1, hy, h⟩ := lift_opt h
      cases h
      have e := dat_bool hcv
      have hrun : (execOp a.eval ⟨odst, .pick c x y, otype, opos, oafter, oguard⟩).run P w = .ok (.value (if g then a.eval x else a.eval y)) w := by
        have e' : a.eval c = .bool g := e
        simp [execOp, e', asBool]
      refine finish_value hd hrun hI ?_
      cases g
      · exact evalO_rep hI hy a.defers
      · exact evalO_rep hI hx a.defers
    · cases h
  case alloc e =>
    split at h
    · rename_i ti hti
      have hti := hC.types _ _ hti
      obtain ⟨inf, hinf, hsz, hby, z, hz, hzc⟩ := hti.info
      have hrun : (execOp a.eval ⟨odst, .alloc e, otype, opos, oafter, oguard⟩).run P w = .ok (.value (.pointer (some ⟨w.heap.size, 0, none⟩))) (w.alloc (.cells ti.zero.toArray e)) := by
        have : z.cells = ti.zero.toArray := by apply Array.ext'; simpa using hzc
        simp [execOp, Instr.alloc, zeroValue, typeInfo, hinf, hz, newVar, newRow, this]
      split at h
      · rename_i n e' hkk
        split at h
        · split at h
          · rename_i ie hie u hu
            split at h
            · rename_i hcond
              obtain ⟨hc1, hc2, hc3, hc4, hc5⟩ := hcond
              obtain ⟨hfree, h⟩ := allocRow_opt h
              cases h
              obtain ⟨hA, hB⟩ := hI.newSeq hfree u (List.replicate n u.zero) ti.zero.toArray e n (by simp [hc3, hc1]) (by simp) (by simp only [maxLen]; omega) (by
                intro i x hx
                have hi := (List.getElem?_eq_some_iff.1 hx).1
                simp at hi
                have hx0 : x = u.zero := by rw [List.getElem?_replicate] at hx; split at hx <;> simp_all
                subst hx0
                have hit : i < ti.zero.length := by omega
                refine ⟨[ti.zero[i]], zero_cells (by simpa using List.all_eq_true.1 hc5 _ (List.getElem_mem hit)) _, fun j v hv => ?_⟩
                have hj : j = 0 := by have := (List.getElem?_eq_some_iff.1 hv).1; simpa using this
                subst hj
                simp at hv
                simp [hc1, hit, hv])
              refine finish_value hd hrun hA ?_
              obtain ⟨q, hq, hw⟩ := hB
              have hlt : base < s.heap.length := (List.getElem?_eq_some_iff.1 hfree).1
              exact ⟨_, w.heap.size, 0, n, sumOf_set_self hlt, rfl, by simp⟩
            · cases h
          · cases h
        · cases h
      · split at h
        · rename_i hall
          obtain ⟨hfree, h⟩ := allocRow_opt h
          cases h
          obtain ⟨hA, hB⟩ := hI.newBox hfree (ti.zero.map constAV) ti.zero e (zero_box _) (list_cells (zero_box (w := w) (S := fun _ => True) (σ := fun _ => none) _) hall)
          exact finish_value hd hrun hA hB
        · cases h
    · cases h
  case box e x =>
    obtain ⟨x1, hx, h⟩ := lift_opt h
    have hv := evalO_rep hI hx a.defers
    have hrun : ∀ vs : List Value, (a.eval x).cells = vs.toArray → (execOp a.eval ⟨odst, .box e x, otype, opos, oafter, oguard⟩).run P w = .ok (.value (.pointer (some ⟨w.heap.size, 0, none⟩))) (w.alloc (.cells vs.toArray e)) := by
      intro vs hvs
      simp [execOp, Instr.box, newVar, newRow, hvs]
    split at h
    · rename_i cs
      split at h
      · rename_i hall
        obtain ⟨hfree, h⟩ := allocRow_opt h
        cases h
        obtain ⟨vs, he, hvs⟩ := hv
        obtain ⟨hA, hB⟩ := hI.newBox hfree cs vs e hvs (list_cells hvs hall)
        exact finish_value hd (hrun vs (by have e' : a.eval x = .agg vs.toArray := he; rw [e']; rfl)) hA hB
      · cases h
    · split at h
      · rename_i hs
        obtain ⟨hfree, h⟩ := allocRow_opt h
        cases h
        have h1 := single_one hs hv
        obtain ⟨hA, hB⟩ := hI.newBox hfree [x1] [a.eval x] e ⟨_, _, rfl, hv, rfl⟩ (by intro v hv'; simp at hv'; subst hv'; exact h1)
        exact finish_value hd (hrun [a.eval x] (oneCell_cells h1)) hA hB
      · cases h
  case build t ps =>
    split at h
    · rename_i ti l hti hl
      have hti := hC.types _ _ hti
      split at h
      · rename_i fs hfs
        split at h
        · rename_i hall
          obtain ⟨cs, hcs, h⟩ := lift_opt h
          cases h
          have hkd := hti.kind
          rw [hfs] at hkd
          obtain ⟨fields, hu, hmap⟩ := hkd
          obtain ⟨inf, hinf, hsz, hby, z, hz, hzc⟩ := hti.info
          obtain ⟨pl, hpl1, hpl2⟩ := struct_places hC.types fields.toList (fun f hf => by
            have hm : (f.offset, f.type) ∈ fs := by rw [← hmap]; exact List.mem_map.2 ⟨f, hf, rfl⟩
            have := List.all_eq_true.1 hall _ hm
            exact Option.isSome_iff_exists.1 this)
          obtain ⟨h1, h2⟩ := partsAV_rep hI a.defers ps.toList l hl
          obtain ⟨res, hfill, hres⟩ := abuild_ok hC.types hmap (places := pl.toArray) (fun i off ft fi hf hfi => by
            rw [← hmap, List.getElem?_map] at hf
            cases hg : fields.toList[i]? with
            | none => simp [hg] at hf
            | some f =>
              simp only [hg, Option.map_some, Option.some.injEq, Prod.mk.injEq] at hf
              obtain ⟨rfl, rfl⟩ := hf
              simpa using hpl2 i f fi hg hfi) l _ cs _ z.cells hcs h1 h2 (by rw [hzc]; exact zero_box _)
          have hbuilt : P.built t (ps.toList.map fun (p : Nat × Operand) => (p.1, a.eval p.2)) = some res := by
            unfold Program.built
            simp only [hinf, hu, hz, hpl1]
            exact hfill
          refine finish_value hd (v := .agg res) (w' := w) ?_ hI ⟨res.toList, by simp, hres⟩
          have e : (ps.map fun (p : Nat × Operand) => (p.1, a.eval p.2)).toList = (ps.toList.map fun (p : Nat × Operand) => (p.1, a.eval p.2)) := by simp
          have hrun := run_build (P := P) w t (ps.map fun (p : Nat × Operand) => (p.1, a.eval p.2)) res (by rw [e]; exact hbuilt)
          simp only [execOp]
          simp [Sem.run_bind, hrun]
        · cases h
      · cases h
    · cases h
  case buildSlice t n ps =>
    split at h
    · rename_i ie l hie hl
      split at h
      · rename_i u hu
        split at h
        · rename_i xs hxs
          split at h
          · rename_i hcond
            obtain ⟨hc1, hc2, hc3, hc4, hc5⟩ := hcond
            obtain ⟨h1, h2⟩ := partsAV_rep hI a.defers ps.toList l hl
            have e : (ps.map fun (p : Nat × Operand) => (p.1, a.eval p.2)) = (ps.toList.map fun (p : Nat × Operand) => (p.1, a.eval p.2)).toArray := by apply Array.ext'; simp
            split at h
            · cases h
              obtain ⟨v, w', hrun, hA, hB⟩ := buildDat_ok hC.types hI hie hxs hc1 hc2 hc3 hc4 hc5 h1 h2
              refine finish_value hd (v := v) (w' := w') ?_ hA hB
              have hrun' : (Instr.buildSlice t n (ps.map fun (p : Nat × Operand) => (p.1, a.eval p.2))).run P w = .ok v w' := by rw [e]; exact hrun
              simp only [execOp]
              simp [Sem.run_bind, hrun']
            · obtain ⟨hfree, h⟩ := allocRow_opt h
              cases h
              obtain ⟨v, w', ι', hrun, hA, hB⟩ := buildSlice_ok hC.types hI hie hxs hc1 hc2 hc3 hc4 hc5 hfree h1 h2
              refine finish_value hd (v := v) (w' := w') ?_ hA hB
              have hrun' : (Instr.buildSlice t n (ps.map fun (p : Nat × Operand) => (p.1, a.eval p.2))).run P w = .ok v w' := by rw [e]; exact hrun
              simp only [execOp]
              simp [Sem.run_bind, hrun']
          · cases h
        · cases h
      · cases h
    · cases h
  case makeSlice t l c =>
    split at h
    · rename_i ie k1 n k2 m hie hl hc
      split at h
      · rename_i u hu
        split at h
        · rename_i hcond
          obtain ⟨hc1, hc2, hc3, hc4⟩ := hcond
          simp only [optAlg] at h
          cases hm : mk n m with
          | none => simp [hm] at h
          | some q =>
            simp only [hm, Option.bind_some] at h
            obtain ⟨hfree, h⟩ := allocRow_opt h
            cases h
            have e1 := dat_int (evalO_rep hI hl a.defers)
            have e2 := dat_int (evalO_rep hI hc a.defers)
            have e1' : a.eval l = .int k1 n := e1
            have e2' : a.eval c = .int k2 m := e2
            obtain ⟨v, w', ι', hrun, hA, hB⟩ := makeSlice_ok hC.types hI hie (k1 := k1) (k2 := k2) hm hc1 hc2 hc3 hc4 hfree
            refine finish_value hd (v := v) (w' := w') ?_ hA hB
            simp [execOp, e1', e2', Sem.run_bind, hrun]
        · cases h
      · cases h
    · cases h
  case load t p =>
    obtain ⟨p1, hp, h⟩ := lift_opt h
    obtain ⟨x, v, h1, h2, h3⟩ := aload_ok hC.types hI h (evalO_rep hI hp a.defers)
    cases h1
    refine finish_value hd (v := v) (w' := w) ?_ hI h2
    have h3' : (Instr.loadAt t (a.eval p)).run P w = .ok v w := h3
    simp [execOp, Sem.run_bind, h3']
  case store t p v =>
    obtain ⟨p1, hp, h⟩ := lift_opt h
    obtain ⟨v1, hv, h⟩ := lift_opt h
    obtain ⟨s2, w', ι', h1, h2, h3⟩ := astore_ok hC.types hI h (evalO_rep hI hp a.defers) (evalO_rep hI hv a.defers)
    cases h1
    refine finish_skip hd ?_ h2
    have h3' : (Instr.storeAt t (a.eval p) (a.eval v)).run P w = .ok () w' := h3
    simp [execOp, Sem.run_bind, h3']
  case nilCheck x =>
    obtain ⟨x1, hx, h⟩ := lift_opt h
    have hv := evalO_rep hI hx a.defers
    have hrun : ∀ b, a.eval x = .pointer (some b) → (execOp a.eval ⟨odst, .nilCheck x, otype, opos, oafter, oguard⟩).run P w = .ok (.value (a.eval x)) w := by
      intro b hb
      simp [execOp, hb]
    split at h
    · cases h
      have hv' := hv
      obtain ⟨_, _, _, _, _, _, e⟩ := hv
      exact finish_value hd (hrun _ e) hI hv'
    · cases h
      have hv' := hv
      obtain ⟨_, _, _, _, _, _, _, e⟩ := hv
      exact finish_value hd (hrun _ e) hI hv'
    · cases h
      have hv' := hv
      obtain ⟨_, _, _, e, _⟩ := hv
      exact finish_value hd (hrun _ e) hI hv'
    · cases h
      have hv' := hv
      obtain ⟨_, _, e, _⟩ := hv
      exact finish_value hd (hrun _ e) hI hv'
    · cases h
      have hv' := hv
      obtain ⟨_, _, _, e, _⟩ := hv
      exact finish_value hd (hrun _ e) hI hv'
    · cases h
  case binOp op t x y yt =>
    obtain ⟨x1, hx, h⟩ := lift_opt h
    obtain ⟨y1, hy, h⟩ := lift_opt h
    obtain ⟨z, v, h1, h2, h3⟩ := abin_ok (P := P) (w1 := w) t (isBool_ok hC.types) h (evalO_rep hI hx a.defers) (evalO_rep hI hy a.defers) x y
    cases h1
    refine finish_value hd (v := v) (w' := w) ?_ hI h2
    have h3' : (do eqGuard op t x y (a.eval x) (a.eval y); binOp op t (a.eval x) (a.eval y) : Sem Value).run P w = .ok v w := h3
    simp only [Sem.run_bind] at h3'
    simp only [execOp, Sem.run_bind, h3', Result.andThen_ok, Sem.run_pure]
  case unOp op t x =>
    obtain ⟨x1, hx, h⟩ := lift_opt h
    obtain ⟨z, v, h1, h2, h3⟩ := aun_ok (P := P) (w1 := w) h (evalO_rep hI hx a.defers)
    cases h1
    refine finish_value hd (v := v) (w' := w) ?_ hI h2
    have h3' : (Op.unary op (a.eval x)).run P w = .ok v w := h3
    simp [execOp, Sem.run_bind, h3']
  case convert st dt x =>
    obtain ⟨x1, hx, h⟩ := lift_opt h
    split at h
    · rename_i t1 ti k n h1 h2
      split at h
      · rename_i k' hk'
        cases h
        have e := dat_int (evalO_rep hI hx a.defers)
        have e' : a.eval x = .int k n := e
        have hu2 : P.underlying dt = some (.int k') := by have := (hC.types _ _ h2).kind; rw [hk'] at this; exact this
        have hu1 : ∃ d, P.underlying st = some d := by
          have := (hC.types _ _ h1).kind
          cases hkk : t1.kind <;> rw [hkk] at this
          · obtain ⟨d, hd, _⟩ := this; exact ⟨d, hd⟩
          · exact ⟨_, this⟩
          · exact ⟨_, this⟩
          · exact ⟨_, this⟩
          · exact ⟨_, this⟩
          · exact ⟨_, this⟩
          · obtain ⟨f, hf, _⟩ := this; exact ⟨_, hf⟩
          · exact ⟨_, this⟩
          · obtain ⟨⟨e, hd⟩, _⟩ := this; exact ⟨_, hd⟩
        obtain ⟨d, hu1⟩ := hu1
        refine finish_value hd (v := .int k' (k'.wrap n)) (w' := w) ?_ hI (rep_int _ _)
        simp [execOp, e', convert, Sem.run_bind, run_underlying hu1, run_underlying hu2, Conv.intToInt]
      · cases h
    · rename_i si ti ys hsi hti
      split at h
      · rename_i e hsk htk
        split at h
        · rename_i ie hie
          split at h
          · rename_i hik
            cases h
            have hu1 : P.underlying st = some (.slice e) := by have := (hC.types _ _ hsi).kind; rw [hsk] at this; exact this
            have hu2 : P.underlying dt = some .string := by have := (hC.types _ _ hti).kind; rw [htk] at this; exact this
            have hu3 : P.underlying e = some (.int .u8) := by have := (hC.types _ _ hie).kind; rw [hik] at this; exact this
            have hrun := bytes_ok (P := P) hu1 hu3 hu2 (evalO_rep hI hx a.defers)
            have hrun' : (convert st dt (a.eval x)).run P w = .ok (.string (bytesOf ys)) w := hrun
            refine finish_value hd (v := .string (bytesOf ys)) (w' := w) ?_ hI (rep_str _)
            simp [execOp, Sem.run_bind, hrun']
          · cases h
        · cases h
      · cases h
    · cases h
  case lookup t x k ok =>
    obtain ⟨x1, hx, h⟩ := lift_opt h
    obtain ⟨k1, hkk, h⟩ := lift_opt h
    split at h
    · rename_i kvs ti hti _
      split at h
      · rename_i kt et hmk
        split at h
        · rename_i ki ei hki hei
          split at h
          · rename_i hko
            have hut : P.underlying t = some (.map kt et) := by have := (hC.types _ _ hti).kind; rw [hmk] at this; exact this
            obtain ⟨b, es, c, hv, _, _, hb, hes⟩ := evalO_rep hI hx a.defers
            have hv' : a.eval x = .map (some b) := hv
            have hkr := evalO_rep hI hkk a.defers
            obtain ⟨inf, hinf, _, _, z, hzz, hzc⟩ := (hC.types _ _ hei).info
            have hd : ∃ d, P.underlying kt = some d ∧ keyDesc d k1 := keyOk_desc (hC.types _ _ hki).kind hko
            obtain ⟨d, hud, hdk⟩ := hd
            have hck : ∀ e : Bool, (Instr.checkKey e 10000 kt (a.eval k)).run P w = .ok () w := fun e => by
              unfold Instr.checkKey
              simp only [Sem.run_bind, run_underlying hud, Result.andThen_ok]
              rcases keyDesc_or hdk with ⟨i, rfl⟩ | rfl <;> rfl
            have hgo : (getObj b).run P w = .ok (.map es c) w := by simp [getObj, Sem.run, hb]
            rcases alook_ok hkr hdk kvs es.toList 0 h hes with ⟨n, f, hf, hr⟩ | ⟨hf, hr⟩
            · have hf' : Instr.findNow d (a.eval k) es.toList 0 = some (some (n, .func f #[] #[])) := hf
              cases ok with
              | true =>
                cases hr
                refine finish_value hd (v := .tuple #[.func f #[] #[], .bool true]) (w' := w) ?_ hI ⟨[_, _], rfl, _, _, rfl, fnAV_rep f, _, _, rfl, rep_bool _, rfl⟩
                simp [execOp, Instr.lookup, hv', Sem.run_bind, run_underlying hut, hgo, hck, Instr.findKey, run_underlying hud, hf']
              | false =>
                cases hr
                refine finish_value hd (v := .func f #[] #[]) (w' := w) ?_ hI (fnAV_rep f)
                simp [execOp, Instr.lookup, hv', Sem.run_bind, run_underlying hut, hgo, hck, Instr.findKey, run_underlying hud, hf']
            · have hf' : Instr.findNow d (a.eval k) es.toList 0 = some none := hf
              cases ok with
              | true =>
                cases hr
                refine finish_value hd (v := .tuple #[z, .bool false]) (w' := w) ?_ hI ⟨[_, _], rfl, _, _, rfl, trivial, _, _, rfl, rep_bool _, rfl⟩
                simp [execOp, Instr.lookup, hv', Sem.run_bind, run_underlying hut, hgo, hck, Instr.findKey, run_underlying hud, hf', zeroValue, typeInfo, hinf, hzz]
              | false =>
                cases hr
                refine finish_value hd (v := z) (w' := w) ?_ hI trivial
                simp [execOp, Instr.lookup, hv', Sem.run_bind, run_underlying hut, hgo, hck, Instr.findKey, run_underlying hud, hf', zeroValue, typeInfo, hinf, hzz]
          · cases h
        · cases h
      · cases h
    · cases h
  case makeFunc fn first caps =>
    cases fn <;> (try simp only at h)
    case func f =>
      split at h
      · rename_i xa xb hfa hfb
        cases h
        have h1 := argsAV_rep hI a.defers first.toList xa hfa
        have h2 := argsAV_rep hI a.defers caps.toList xb hfb
        refine finish_value hd (v := .func (.func f) (first.map a.eval) (caps.map a.eval)) (w' := w) (by simp [execOp, Instr.makeFunc]) hI ?_
        rw [map_toArr, map_toArr]
        exact ⟨_, _, rfl, h1, h2⟩
      · cases h
    all_goals cases h
  case slice t x lo hi mx =>
    cases mx with
    | some m => cases h
    | none =>
      simp only at h
      split at h
      · rename_i b l hh hx hl hh'
        obtain ⟨hl1, hl2⟩ := evalOp_ok hI hl
        obtain ⟨hh1, hh2⟩ := evalOp_ok hI hh'
        obtain ⟨z, v, h1, h2, h3⟩ := aslice_ok hC.types hI h (evalO_rep hI hx a.defers) hl1 hh1 hl2 hh2
        cases h1
        refine finish_value hd (v := v) (w' := w) ?_ hI h2
        have h3' : (Instr.sliceAt t (a.eval x) (lo.map a.eval) (hi.map a.eval) none).run P w = .ok v w := h3
        simp [execOp, Sem.run_bind, h3']
      · cases h
  case fieldAddr t x f =>
    obtain ⟨x1, hx, h⟩ := lift_opt h
    obtain ⟨z, v, h1, h2, h3⟩ := afieldAddr_ok (w := w) hC.types h (evalO_rep hI hx a.defers)
    cases h1
    refine finish_value hd (v := v) (w' := w) ?_ hI h2
    have h3' : (Instr.fieldAt t (a.eval x) f).run P w = .ok v w := h3
    simp [execOp, Sem.run_bind, h3']
  case field t x f =>
    obtain ⟨x1, hx, h⟩ := lift_opt h
    obtain ⟨z, v, h1, h2, h3⟩ := afield_ok (w := w) hC.types h (evalO_rep hI hx a.defers)
    cases h1
    refine finish_value hd (v := v) (w' := w) ?_ hI h2
    have h3' : (Instr.field t (a.eval x) f).run P w = .ok v w := h3
    simp [execOp, Sem.run_bind, h3']
  case indexAddr t x i =>
    obtain ⟨x1, hx, h⟩ := lift_opt h
    obtain ⟨i1, hi, h⟩ := lift_opt h
    obtain ⟨z, v, h1, h2, h3⟩ := aindexAddr_ok hC.types hI h (evalO_rep hI hx a.defers) (evalO_rep hI hi a.defers)
    cases h1
    refine finish_value hd (v := v) (w' := w) ?_ hI h2
    have h3' : (Instr.indexAt t (a.eval x) (a.eval i)).run P w = .ok v w := h3
    simp [execOp, Sem.run_bind, h3']
  case index t x i =>
    split at h
    · rename_i ti b k n hti hx hi
      split at h
      · rename_i hks
        simp only [optAlg, bidx] at h
        split at h
        · rename_i h0
          cases hb : b[Int.toNat n]? with
          | none => simp [hb] at h
          | some y =>
            simp only [hb, Option.map_some, Option.bind_some] at h
            cases h
            have e1 := dat_str (evalO_rep hI hx a.defers)
            have e2 := dat_int (evalO_rep hI hi a.defers)
            have e1' : a.eval x = .string b := e1
            have e2' : a.eval i = .int k n := e2
            have hu : P.underlying t = some .string := by have := (hC.types _ _ hti).kind; rw [hks] at this; exact this
            refine finish_value hd (v := .int .u8 y.toNat) (w' := w) ?_ hI (rep_int _ _)
            have h0' : (0 : Int) ≤ n := h0
            simp [execOp, e1', e2', Instr.index, asIntOf, Sem.run_bind, run_underlying hu, h0', hb]
        · simp at h
      · cases h
    · rename_i ti cs k n hti hx hi
      split at h
      · rename_i c e hke
        obtain ⟨q, hq, h⟩ := lift_opt h
        simp only [optAlg, idx] at h
        split at h
        · rename_i h0
          cases hy : q.2[Int.toNat n]? with
          | none => rw [hy] at h; simp at h
          | some y =>
            rw [hy] at h
            simp only [Option.bind_some] at h
            cases h
            obtain ⟨vs, e1, hvs⟩ := evalO_rep hI hx a.defers
            have e2 := dat_int (evalO_rep hI hi a.defers)
            have e2' : a.eval i = .int k n := e2
            have e1' : a.eval x = .agg vs.toArray := e1
            unfold arrDat at hq
            split at hq
            · rename_i ie u hie hhd
              split at hq
              · rename_i hc
                obtain ⟨hc1, hc2, hc3, hc4⟩ := hc
                cases hq
                obtain ⟨z, hz, hzy⟩ := prefDat_get hy
                obtain ⟨v, hv, hr⟩ := hvs.get _ _ _ _ hz
                have hlt : n.toNat < c := by rw [← hc3]; exact (List.getElem?_eq_some_iff.1 hz).1
                have hu : P.underlying t = some (.array c e) := by have := (hC.types _ _ hti).kind; rw [hke] at this; exact this
                have hie := hC.types _ _ hie
                refine finish_value hd (v := v) (w' := w) ?_ hI (toDat_rep hzy hr)
                have h0' : (0 : Int) ≤ n := h0
                have h1' : n < (c : Int) := (Int.toNat_lt h0').1 hlt
                simp [execOp, e1', e2', Instr.index, asIntOf, Sem.run_bind, run_underlying hu, h0', h1', run_sizeOf hie, hc1]
                simp [part, Sem.run_bind, run_isAgg hie, hc2, hv]
              · cases hq
            · cases hq
        · simp at h
      · cases h
    · cases h
  case extract x i =>
    obtain ⟨x1, hx, h⟩ := lift_opt h
    split at h
    · rename_i cs
      obtain ⟨y, hy, h⟩ := lift_opt h
      cases h
      obtain ⟨vs, he, hvs⟩ := evalO_rep hI hx a.defers
      have he' : a.eval x = .tuple vs.toArray := he
      obtain ⟨v, hv, hr⟩ := hvs.get _ _ i y hy
      refine finish_value hd (v := v) (w' := w) ?_ hI hr
      simp [execOp, he', Instr.extract, hv]
    · cases h
  case call c =>
    obtain ⟨callee, cargs, ctypes⟩ := c
    simp only at h
    cases callee <;> (try simp only at h)
    case invoke r m => cases h
    case value f =>
      obtain ⟨f1, hf, h⟩ := lift_opt h
      split at h
      · rename_i g first caps
        split at h
        · rename_i args hargs
          obtain ⟨va, vb, he, h1, h2⟩ := evalO_rep hI hf a.defers
          have he' : a.eval f = .func (.func g) va.toArray vb.toArray := he
          have h3 := argsAV_rep hI a.defers cargs.toList args hargs
          have hso' : mvOk C s g (first ++ args ++ caps) (first.map (fun _ => 0) ++ ctypes.toList ++ caps.map (fun _ => 0)) = true := by
            simp only [stepOk, hf, hargs] at hso
            exact hso
          obtain ⟨r, s2, hk2, hcalls⟩ := acall_ok hC.orc hk hmv hI hso' h (vs := va ++ cargs.toList.map a.eval ++ vb) ((h1.append h3).append h2)
          cases hk2
          have horc : Callable P g := by
            unfold acall at h
            split at h
            · cases h
            · simp only at h
              split at h
              · simp only [optAlg] at h
                cases hq : (C.orc g _ _).o with
                | none => rw [hq] at h; simp at h
                | some q => exact hC.call g _ _ (by rw [hq]; rfl)
              · cases h
          unfold Oper.wp
          have hrun : (execOp a.eval ⟨odst, .call ⟨.value f, cargs, ctypes⟩, otype, opos, oafter, oguard⟩).run P w = .ok (.enter g (va ++ cargs.toList.map a.eval ++ vb).toArray) w := by
            have e : va.toArray ++ cargs.map a.eval ++ vb.toArray = (va ++ cargs.toList.map a.eval ++ vb).toArray := by apply Array.ext'; simp
            simp [execOp, resolve, he', Deferred.ofValue, invoke, e, horc _ w]
          rw [hrun, Oper.upon_enter]
          refine hcalls.mono fun e w' hpost => ?_
          obtain ⟨v, ι', rfl, hI', hv'⟩ := hpost
          exact ⟨by cases odst <;> exact hd, ι', hI'.put odst hv' a.defers⟩
        · cases h
      · cases h
    case builtin b =>
      cases b <;> (try simp only at h)
      case len =>
        split at h
        · rename_i x t hxs hts
          obtain ⟨x1, hx, h⟩ := lift_opt h
          have e1 := arr1 hxs
          have e2 := arr1 hts
          subst e1 e2
          split at h
          · rename_i ti hti
            have hkd := (hC.types _ _ hti).kind
            have hv := evalO_rep hI hx a.defers
            have hstr : ∀ b : ByteArray, a.eval x = .string b → ti.kind = .str → (execOp a.eval ⟨odst, .call ⟨.builtin .len, #[x], #[t]⟩, otype, opos, oafter, oguard⟩).run P w = .ok (.value (.int .i64 b.size)) w := by
              intro b hb hks
              rw [hks] at hkd
              simp [execOp, resolve, invoke, builtin, Builtin.len_, hb, Sem.run_bind, run_underlying hkd, goInt]
            have hslc : ∀ e n aa cc, a.eval x = .slice aa n cc → ti.kind = .slice e → (execOp a.eval ⟨odst, .call ⟨.builtin .len, #[x], #[t]⟩, otype, opos, oafter, oguard⟩).run P w = .ok (.value (.int .i64 n)) w := by
              intro e n aa cc hb hks
              rw [hks] at hkd
              simp [execOp, resolve, invoke, builtin, Builtin.len_, hb, Sem.run_bind, run_underlying hkd, goInt]
            split at h
            · cases h
            · cases h
            · rename_i b hks
              obtain ⟨n, hn, h⟩ := lift_opt h
              cases h
              rcases alen_ok hI hn hv with ⟨b', e1, e2, rfl⟩ | ⟨hne, _⟩
              · exact finish_value hd (hstr b' e2 hks) hI (rep_int _ _)
              · exact absurd rfl (hne _)
            · rename_i hks hne
              obtain ⟨n, hn, h⟩ := lift_opt h
              cases h
              rcases alen_ok hI hn hv with ⟨b', e1, e2, rfl⟩ | ⟨_, aa, cc, e⟩
              · exact absurd e1 (hne b')
              · exact finish_value hd (hslc _ n aa cc e hks) hI (rep_int _ _)
            · cases h
          · cases h
        · cases h
      case append =>
        split at h
        · rename_i x y t t2 hxs hts
          have e1 := arr2 hxs
          have e2 := arr2 hts
          subst e1 e2
          split at h
          · rename_i htt
            subst htt
            obtain ⟨x1, hx, h⟩ := lift_opt h
            obtain ⟨y1, hy, h⟩ := lift_opt h
            obtain ⟨z, v, s2, w', ι', h1, h2, h3, h4⟩ := aappend_ok (ty := otype) hC.types hk hmv hI h (evalO_rep hI hx a.defers) (evalO_rep hI hy a.defers)
            cases h1
            refine finish_value hd (v := v) (w' := w') ?_ h3 h4
            have h2' : (Builtin.append_ #[t, t] otype #[a.eval x, a.eval y]).run P w = .ok v w' := h2
            simp [execOp, resolve, invoke, builtin, Sem.run_bind, h2']
          · cases h
        · cases h
      case copy =>
        split at h
        · rename_i x y t t2 hxs hts
          have e1 := arr2 hxs
          have e2 := arr2 hts
          subst e1 e2
          obtain ⟨x1, hx, h⟩ := lift_opt h
          obtain ⟨y1, hy, h⟩ := lift_opt h
          obtain ⟨n, s2, w', ι', h1, h2, h3⟩ := acopy_ok (t2 := t2) (ty := otype) hC.types hI h (evalO_rep hI hx a.defers) (evalO_rep hI hy a.defers)
          cases h1
          refine finish_value hd (v := .int .i64 n) (w' := w') ?_ h3 (rep_int _ _)
          have h2' : (Builtin.copy_ #[t, t2] otype #[a.eval x, a.eval y]).run P w = .ok (.int .i64 n) w' := h2
          simp [execOp, resolve, invoke, builtin, Sem.run_bind, h2']
        · cases h
      case max =>
        split at h
        · rename_i k n r hargs
          obtain ⟨m, hm, h⟩ := lift_opt h
          cases h
          have h3 := argsAV_rep hI a.defers cargs.toList _ hargs
          obtain ⟨v, vr, he, h4, h5⟩ := h3
          have e := dat_int h4
          subst e
          simp only [Option.map_eq_some_iff] at hm
          obtain ⟨m', hm, rfl⟩ := hm
          have hfold := foldInt_ok (P := P) (w := w) (g := Builtin.max2) (fun n m => by simp [Builtin.max2, imax]) r n m' vr hm h5
          refine finish_value hd (v := .int k m') (w' := w) ?_ hI (rep_int _ _)
          have he' : cargs.map a.eval = (Value.int k n :: vr).toArray := by rw [map_toArr]; exact congrArg List.toArray he
          simp [execOp, resolve, invoke, builtin, Builtin.max_, he', Sem.run_bind, hfold]
        · cases h
      case min =>
        split at h
        · rename_i k n r hargs
          obtain ⟨m, hm, h⟩ := lift_opt h
          cases h
          have h3 := argsAV_rep hI a.defers cargs.toList _ hargs
          obtain ⟨v, vr, he, h4, h5⟩ := h3
          have e := dat_int h4
          subst e
          simp only [Option.map_eq_some_iff] at hm
          obtain ⟨m', hm, rfl⟩ := hm
          have hfold := foldInt_ok (P := P) (w := w) (g := Builtin.min2) (fun n m => by simp [Builtin.min2, imin]) r n m' vr hm h5
          refine finish_value hd (v := .int k m') (w' := w) ?_ hI (rep_int _ _)
          have he' : cargs.map a.eval = (Value.int k n :: vr).toArray := by rw [map_toArr]; exact congrArg List.toArray he
          simp [execOp, resolve, invoke, builtin, Builtin.min_, he', Sem.run_bind, hfold]
        · cases h
      all_goals cases h
  all_goals cases h

end
end Go.Rv

set_option linter.unusedSimpArgs false
set_option linter.unusedVariables false
namespace Go.Rv

theorem cond_opt {β : Type} {c : Bool} {x : Option β} {r : β} (h : cond c x none = some r) : c = true ∧ x = some r := by
  cases c with
  | true => exact ⟨rfl, h⟩
  | false => cases h

section
variable {P : Program} {B : Base} {s : St} {a : Act} {w : World} {ι : Plc} {C : Ctx}

theorem free_opt {β : Type} {base : Nat} {x : Option β} {r : β} (h : (match s.heap[base]? with | some none => x | _ => none) = some r) : s.heap[base]? = some none ∧ x = some r := by
  split at h
  · rename_i h0; exact ⟨h0, h⟩
  · cases h

theorem within_opt {β : Type} {i n : Nat} {f : Unit → Option β} {r : β} (h : (within i n).bind f = some r) : i < n ∧ f () = some r := by
  unfold within at h
  split at h
  · rename_i h0; exact ⟨h0, h⟩
  · cases h

/-- The slice of a whole row of one cell each. -/
theorem win_len {p : Option (Nat × Nat × Nat)} {n c : Nat} {v : Value} (hw : WinAt ⟨p, c, n⟩ 0 n v) : ∃ a k, v = .slice a n k := by
  unfold WinAt at hw
  simp only at hw
  split at hw
  · obtain ⟨h1, rfl | ⟨h2, a, rfl⟩⟩ := hw
    · exact ⟨_, _, rfl⟩
    · exact ⟨a, 0, by congr 1; omega⟩
  · obtain ⟨_, h2, a, rfl⟩ := hw
    exact ⟨a, 0, by rw [h2]⟩

theorem dstep0_sound (hC : COk P C) (hk : C.k = B.k) (hmv : ∀ g, C.mv.contains g = true → B.mv g = true) {base : Nat} {o : Oper} {s' : St} (hR : Rep B s a w) (hso : stepOk C o s = true) (h : dstep0 (optAlg St) C base o s some = some s') (Q : Exit → Act → World → Prop) :
    o.wp P a w (fun a' w' => Rep B s' a' w') Q :=
  cstep_sound hC hk hmv hR hso h Q

theorem find_mem {α : Type} {p : α → Bool} : ∀ {l : List α} {x : α}, l.find? p = some x → x ∈ l ∧ p x = true
  | y :: l, x, h => by
    rw [List.find?_cons] at h
    cases hp : p y with
    | true =>
      rw [hp] at h
      cases h
      exact ⟨List.mem_cons_self .., hp⟩
    | false =>
      rw [hp] at h
      have := find_mem h
      exact ⟨List.mem_cons_of_mem _ this.1, this.2⟩

theorem methCall_some {o : Oper} {g : FuncId} {args : List AV} {types : List TypeId} (h : methCall C.T s o = some (g, args, types)) :
    ∃ f cargs ts t name ti hp off r l, o.op = .call ⟨.value f, cargs, ts⟩ ∧ evalO s f = some (.raw (.func (.methodOf t name) #[] #[])) ∧ C.T t = some ti ∧ argsAV s cargs.toList = some args ∧ args = .ptr hp off :: r ∧ ti.kind = .meths l ∧ (name, g) ∈ l ∧ types = ts.toList := by
  obtain ⟨odst, oop, otype, opos, oafter, oguard⟩ := o
  unfold methCall at h
  split at h
  · rename_i c hop
    obtain ⟨callee, cargs, ts⟩ := c
    split at h
    · rename_i f hcal
      split at h
      · rename_i v hv
        split at h
        · rename_i t name hm
          split at h
          · rename_i ti hp off r hti hargs
            split at h
            · rename_i l hl
              split at h
              · rename_i p hf
                cases h
                have := find_mem hf
                have e : p.1 = name := by simpa using this.2
                have hvv : v = .func (.methodOf t name) #[] #[] := by
                  unfold methOf at hm
                  split at hm
                  · rename_i t' n' a b
                    split at hm
                    · rename_i ha hb
                      cases hm
                      have ea : a = #[] := by apply Array.ext'; simpa using ha
                      have eb : b = #[] := by apply Array.ext'; simpa using hb
                      rw [ea, eb]
                    · cases hm
                  · cases hm
                subst hvv
                simp only at hcal
                subst hcal
                exact ⟨f, cargs, ts, t, name, ti, hp, off, r, l, hop, hv, hti, hargs, rfl, hl, by rw [← e]; exact this.1, rfl⟩
              · cases h
            · cases h
          · cases h
        · cases h
      · cases h
    · cases h
  · cases h

/-- The method that is called by its name is that function, and takes the pointer. -/
theorem meth_run {t : TypeId} {name : String} {g : FuncId} (hb : methB P t name g = true) (ad : Addr) (n : Nat) : (method (n + 1) t (.pointer (some ad)) name).run P w = .ok (g, .pointer (some ad)) w := by
  unfold methB at hb
  split at hb
  · rename_i i hi
    split at hb
    · rename_i m hm
      split at hb
      · rename_i st f hp hf
        simp only [Bool.and_eq_true, Nat.beq_eq] at hb
        obtain ⟨⟨hd, rfl⟩, hb⟩ := hb
        split at hb
        · rename_i fields hu
          split at hb
          · rename_i fd hfd
            simp only [Bool.and_eq_true, Nat.beq_eq] at hb
            obtain ⟨⟨ho, hs⟩, hz⟩ := hb
            have hm' : i.methods.find? (fun m => m.name == name) = some m := by rw [← Array.find?_toList]; exact hm
            obtain ⟨z, hz1⟩ : ∃ d, P.underlying fd.type = some (.struct d) := by
              split at hs
              · rename_i d hd; exact ⟨d, hd⟩
              · cases hs
            obtain ⟨j, hj, hjs⟩ : ∃ j, P.info? fd.type = some j ∧ j.size ≠ 0 := by
              split at hz
              · rename_i j hj
                refine ⟨j, hj, fun e => ?_⟩
                rw [e] at hz
                cases hz
              · cases hz
            have r1 : (typeInfo t).run P w = .ok i w := by simp [typeInfo, hi]
            have r2 : (fieldPlace ad fd).run P w = .ok ad w := by
              have : (typeInfo fd.type).run P w = .ok j w := by simp [typeInfo, hj]
              simp [fieldPlace, sizeOf, Sem.run_bind, this, hjs, ho, Addr.add]
            have r3 : (follow m.path.toList t (.val (.pointer (some ad)))).run P w = .ok (fd.type, .var ad) w := by
              rw [hp]
              simp [follow, Sem.run_bind, run_underlying hu, hfd, hd, Place.get, asAddr, r2]
            have r4 : ∀ x, (receiverAt fd.type (.var ad) true x).run P w = .ok (.pointer (some ad)) w := fun x => by
              simp [receiverAt, Sem.run_bind, run_underlying hz1]
            unfold method
            rw [Sem.run_bind, r1]
            simp only [Result.andThen_ok]
            rw [hm']
            simp only [Sem.run_bind, r3, Result.andThen_ok, hf, r4]
            rfl
          · cases hb
        · cases hb
      · cases hb
    · cases hb
  · cases hb

theorem partStore_some {o : Oper} {p : PStore} (h : partStore C.T s o = some p) :
    ∃ t pa va ti a, o.op = .store t pa va ∧ evalO s pa = some (.elt p.h p.i p.off) ∧ evalO s va = some a ∧ C.T t = some ti ∧ s.row p.h = some (.seq p.u p.xs) ∧
      ((isStruct ti.kind = true ∧ a = .agg p.new ∧ p.new.length = ti.size) ∨ (isStruct ti.kind = false ∧ p.new = [a] ∧ ti.size = 1)) := by
  unfold partStore at h
  split at h
  · rename_i t pa va hop
    split at h
    · rename_i g i off a ti h1 h2 h3
      split at h
      · rename_i u xs hrow
        split at h
        · rename_i new hst
          obtain ⟨hc, h⟩ := cond_opt h
          cases h
          exact ⟨t, pa, va, ti, _, hop, h1, h2, h3, hrow, .inl ⟨hst, rfl, Nat.eq_of_beq_eq_true hc⟩⟩
        · rename_i hst
          obtain ⟨hc, h⟩ := cond_opt h
          cases h
          simp only [Bool.and_eq_true] at hc
          exact ⟨t, pa, va, ti, _, hop, h1, h2, h3, hrow, .inr ⟨hst, rfl, Nat.eq_of_beq_eq_true hc.1⟩⟩
        · cases h
      · cases h
    · cases h
  · cases h

theorem aput_ok (hT : TOk P C.T) (hI : Inv B s a.tmps w ι) {β : Type} {o : Oper} {p : PStore} (hp : partStore C.T s o = some p) {K : St → Option β} {r : β} (h : aput (optAlg β) s p K = some r) :
    ∃ t pa va s' w' ι', o.op = .store t pa va ∧ K s' = some r ∧ Inv B s' a.tmps w' ι' ∧ (Instr.storeAt t (a.eval pa) (a.eval va)).run P w = .ok () w' := by
  obtain ⟨t, pa, va, ti, av, hop, hpa, hva, hti, hrow, hcase⟩ := partStore_some hp
  obtain ⟨g, i, off, u, xs, new⟩ := p
  simp only at hpa hrow hcase
  unfold aput at h
  obtain ⟨hc, h⟩ := cond_opt h
  simp only [Bool.and_eq_true] at hc
  obtain ⟨⟨hc0, hc2⟩, hc3⟩ := hc
  have hc0 : 0 < new.length := Nat.le_of_ble_eq_true hc0
  have hc2 : off + new.length ≤ u.cells := Nat.le_of_ble_eq_true hc2
  have hr := row_eq hrow
  obtain ⟨q, b, o', c, hq, hpl, hlt, hvp⟩ := evalO_rep hI hpa a.defers
  have hv := evalO_rep hI hva a.defers
  have hq' := sum_of_row hr hq
  subst hq'
  simp only at hpl hlt hvp
  have hrr := hI.hrep.rows g _ hr
  rw [hpl] at hrr
  obtain ⟨cur, e, hb, hcs, hxc, hcm, hseq⟩ := hrr
  have hx : xs[i]? = some xs[i] := List.getElem?_eq_getElem hlt
  rw [hx] at h
  simp only [optAlg, Option.bind_some] at h
  split at h
  · rename_i x' hun
    have hti' := hT t ti hti
    -- the cells that are stored
    obtain ⟨vs, hvs, hcells, hsz⟩ : ∃ vs, AVsRep w (dst B.D w ι s.heap) (sumOf ι s.heap) new vs ∧ (a.eval va).cells = vs.toArray ∧ vs.length = ti.size := by
      rcases hcase with ⟨_, rfl, hsz⟩ | ⟨_, rfl, hsz⟩
      · obtain ⟨vs, e1, h1⟩ := hv
        have e1 : a.eval va = .agg vs.toArray := e1
        exact ⟨vs, h1, by rw [e1]; rfl, by rw [h1.length]; exact hsz⟩
      · have h1 : AVsRep w (dst B.D w ι s.heap) (sumOf ι s.heap) [av] [a.eval va] := ⟨_, _, rfl, hv, rfl⟩
        have := list_cells h1 hc3 _ (List.mem_singleton.2 rfl)
        exact ⟨[a.eval va], h1, by rw [oneCell_cells this], by simp [hsz]⟩
    have hvl := hvs.length
    have h1 := list_cells hvs hc3
    have hmul : i * u.cells + u.cells ≤ c * u.cells := by
      have : (i + 1) * u.cells ≤ c * u.cells := Nat.mul_le_mul_right _ (by omega)
      rwa [Nat.succ_mul] at this
    have hfit : o' + i * u.cells + off + vs.length ≤ cur.size := by omega
    have hrun := run_storeVar (v := a.eval va) (o := o' + i * u.cells + off) hti' hb (by rw [hcells]; simpa using hsz) (by rw [hcells]; simpa using hfit) (by rw [hcells]; simpa using h1)
    rw [hcells] at hrun
    simp only [List.toList_toArray] at hrun
    refine ⟨t, pa, va, _, _, _, hop, h, hI.write hr (.seq u (xs.set i x')) rfl rfl (by simp [Row.len]) hpl hb (cur.toList.take (o' + i * u.cells + off) ++ vs ++ cur.toList.drop (o' + i * u.cells + off + vs.length)).toArray ?_, ?_⟩
    · intro ht
      refine ⟨_, e, setRow_heap w b cur _ e _ hb, ?_, by simpa using hxc, hcm, ?_⟩
      · simp; omega
      · intro j y hy
        rw [List.getElem?_set] at hy
        have hget : ∀ m, (cur.toList.take (o' + i * u.cells + off) ++ vs ++ cur.toList.drop (o' + i * u.cells + off + vs.length)).toArray[m]? = if o' + i * u.cells + off ≤ m ∧ m < o' + i * u.cells + off + vs.length then vs[m - (o' + i * u.cells + off)]? else cur[m]? := by
          intro m
          have := splice_get cur.toList (o' + i * u.cells + off) vs (by simpa using hfit) m
          rw [List.getElem?_toArray, this]
          simp
        split at hy
        · rename_i hij
          subst hij
          have hy := Option.some.inj hy
          subst hy
          obtain ⟨cs0, hd0, hc0'⟩ := hseq i _ hx
          have hl0 := DCells.length _ _ _ hd0
          have hlv := leaves_rep (σ := sumOf ι s.heap) u xs[i] cs0 hd0
          have hov : AVsRep w (dst B.D w ι s.heap) (sumOf ι s.heap) (overwrite (leaves u xs[i]) off new) (cs0.take off ++ vs ++ cs0.drop (off + vs.length)) := by
            unfold overwrite
            rw [hvl]
            exact ((hlv.take off).append hvs).append (hlv.drop _)
          obtain ⟨v1, v2, e1, hd1, hr2⟩ := unleaf_rep u _ x' [] _ hun hov
          have hv2 : v2 = [] := hr2
          subst hv2
          rw [List.append_nil] at e1
          subst e1
          refine ⟨_, ht.dat hd1, fun m z hz => ?_⟩
          have hm := splice_get cs0 off vs (by omega) m
          rw [hm] at hz
          rw [hget]
          split at hz
          · rename_i hmr
            rw [if_pos (by omega)]
            rw [← hz]
            congr 1
            omega
          · rename_i hmr
            have hml := (List.getElem?_eq_some_iff.1 hz).1
            rw [if_neg (by omega)]
            exact hc0' m z hz
        · rename_i hij
          obtain ⟨cs, hd', hc'⟩ := hseq j y hy
          refine ⟨cs, ht.dat hd', fun m z hz => ?_⟩
          have hcl := DCells.length _ _ _ hd'
          have hml := (List.getElem?_eq_some_iff.1 hz).1
          have hne : j < i ∨ i < j := by omega
          have hap : j * u.cells + u.cells ≤ i * u.cells ∨ i * u.cells + u.cells ≤ j * u.cells := by
            rcases hne with hne | hne
            · left
              have : (j + 1) * u.cells ≤ i * u.cells := Nat.mul_le_mul_right _ hne
              rwa [Nat.succ_mul] at this
            · right
              have : (i + 1) * u.cells ≤ j * u.cells := Nat.mul_le_mul_right _ hne
              rwa [Nat.succ_mul] at this
          rw [hget, if_neg (by omega)]
          exact hc' m z hz
    · have hvp' : a.eval pa = .pointer (some ⟨b, o' + i * u.cells + off, none⟩) := hvp
      rw [hvp']
      simpa [Instr.storeAt, Instr.sureAddr, Sem.run_bind] using hrun
  · cases h

theorem eqFields_run {T : TT} (hT : TOk P T) {S : Nat → Prop} {σ : Nat → Option Sum} {d : Nat} {ax ay : List AV} {vx vy : List Value} (hx : AVsRep w S σ ax vx) (hy : AVsRep w S σ ay vy) :
    ∀ (F : List Field) (b : Bool), (∀ f ∈ F, f.name ≠ "_") → intsEq T (F.map fun f => (f.offset, f.type)) ax ay = some b → (Op.eqFields (d + 1) vx.toArray vy.toArray F).run P w = .ok b w
  | [], b, _, h => by
    simp only [List.map_nil, intsEq, Option.some.injEq] at h
    subst h
    simp [Op.eqFields]
  | f :: F, b, hn, h => by
    simp only [List.map_cons, intsEq] at h
    split at h
    · rename_i fi k n k' m hfi h1 h2
      split at h
      · rename_i kk hkk
        split at h
        · rename_i hk
          subst hk
          obtain ⟨b', hb', rfl⟩ := Option.map_eq_some_iff.1 h
          have ih := eqFields_run (d := d) hT hx hy F b' (fun g hg => hn g (List.mem_cons_of_mem _ hg)) hb'
          have hti := hT _ _ hfi
          have hu : P.underlying f.type = some (.int kk) := by have := hti.kind; rw [hkk] at this; exact this
          obtain ⟨v1, e1, r1⟩ := hx.get _ _ _ _ h1
          obtain ⟨v2, e2, r2⟩ := hy.get _ _ _ _ h2
          have r1 := dat_int r1
          have r2 := dat_int r2
          subst r1 r2
          have hs : isStruct fi.kind = false := by rw [hkk]; rfl
          have p1 : (part f.type vx.toArray f.offset).run P w = .ok (.int k n) w := by simp [part, Sem.run_bind, run_isAgg hti, hs, e1]
          have p2 : (part f.type vy.toArray f.offset).run P w = .ok (.int k m) w := by simp [part, Sem.run_bind, run_isAgg hti, hs, e2]
          have p3 := run_equalIn_int w d f.type k kk n m hu
          simp only [Op.eqFields]
          rw [if_pos (hn f (List.mem_cons_self ..))]
          simp only [Sem.run_bind, p1, p2, p3, Result.andThen_ok]
          cases hc : (n == m) with
          | true => simpa using ih
          | false => simp
        · cases h
      · cases h
    · cases h

theorem structEq_run (hT : TOk P C.T) (hI : Inv B s a.tmps w ι) {o : Oper} {b : Bool} (h : structEq C.T s o = some b) : (execOp a.eval o).run P w = .ok (.value (.bool b)) w := by
  unfold structEq at h
  split at h
  · rename_i op t x y ty hop
    split at h
    · rename_i xs ys ti hx hy hti
      have hti := hT _ _ hti
      obtain ⟨vx, ex, rx⟩ := evalO_rep hI hx a.defers
      obtain ⟨vy, ey, ry⟩ := evalO_rep hI hy a.defers
      have ex : a.eval x = .agg vx.toArray := ex
      have ey : a.eval y = .agg vy.toArray := ey
      have key : ∀ (fs : List (Nat × TypeId)) (b : Bool), ti.kind = .strct fs → ti.eq = true → intsEq C.T fs xs ys = some b →
          (Op.equalIn 10000 t (.agg vx.toArray) (.agg vy.toArray)).run P w = .ok b w ∧ P.eqGuardType P.depth t = false := fun fs b hfs hc h => by
        have he := hti.eq hc
        have hk := hti.kind
        rw [hfs] at hk
        obtain ⟨F, hu, hmap⟩ := hk
        unfold eqB at he
        rw [hu] at he
        simp only [Bool.and_eq_true, Bool.not_eq_true'] at he
        obtain ⟨⟨he1, he2⟩, he3⟩ := he
        have hF : P.fieldsOf t = F := by simp [Program.fieldsOf, hu]
        have hn : ∀ f ∈ F.toList, f.name ≠ "_" := fun f hf => by
          have := List.all_eq_true.1 he3 f hf
          simpa using this
        rw [← hmap] at h
        have r1 := eqFields_run (w := w) (d := 9998) hT rx ry F.toList b hn h
        have r2 := run_equalIn_agg w 9999 t vx.toArray vy.toArray (by rw [hF]; exact hu) he1
        rw [hF, r1] at r2
        exact ⟨r2, he2⟩
      split at h
      · rename_i fs hfs
        obtain ⟨hc, h⟩ := cond_opt h
        obtain ⟨r2, he2⟩ := key fs b hfs hc h
        have r3 := run_eql_struct (P := P) w t vx.toArray vy.toArray
        rw [r2] at r3
        have r4 := run_eqGuard_agg (P := P) w .eql t x y vx.toArray vy.toArray he2
        simp only [execOp, hop, ex, ey]
        simp only [Sem.run_bind, r4, Result.andThen_ok, r3]
        rfl
      · rename_i fs hfs
        obtain ⟨hc, h1⟩ := cond_opt h
        obtain ⟨b0, h2, rfl⟩ := Option.map_eq_some_iff.1 h1
        obtain ⟨r2, he2⟩ := key fs b0 hfs hc h2
        have r3 := run_neq_struct (P := P) w t vx.toArray vy.toArray
        rw [r2] at r3
        have r4 := run_eqGuard_agg (P := P) w .neq t x y vx.toArray vy.toArray he2
        simp only [execOp, hop, ex, ey]
        simp only [Sem.run_bind, r4, Result.andThen_ok, r3]
        rfl
      · cases h
    · cases h
  · cases h

theorem sliceKind_some {T : TT} {t e : TypeId} (h : sliceKind (T t) = some e) : ∃ ti, T t = some ti ∧ ti.kind = .slice e := by
  unfold sliceKind at h
  split at h
  · rename_i ti hti
    split at h
    · rename_i e' hk
      cases h
      exact ⟨ti, hti, hk⟩
    · cases h
  · cases h

theorem sure_bind {b : Bool} {β : Type} {f : Unit → Option β} {r : β} (h : (sure b).bind f = some r) : b = true ∧ f () = some r := by
  cases b with
  | false => simp [sure] at h
  | true => exact ⟨rfl, by simpa [sure] using h⟩

theorem mkz_bind {n : Int} {β : Type} {f : Nat → Option β} {r : β} (h : (mkz n).bind f = some r) : ∃ q : Nat, n = (q : Int) ∧ 0 < q ∧ q ≤ 1099511627776 ∧ f q = some r := by
  unfold mkz at h
  split at h
  · rename_i hn
    simp only [Option.bind_some] at h
    exact ⟨n.toNat, by omega, by omega, by omega, h⟩
  · simp at h

theorem isNilO_some {y : Operand} (h : isNilO y = true) : y = .const (.slice none 0 0) := by
  unfold isNilO at h
  split at h
  · rfl
  · cases h

theorem isNils_some {a : Option AV} (h : isNils a = true) : a = some .nils := by
  unfold isNils at h
  split at h
  · rfl
  · cases h

/-- What holds something is not nil. -/
theorem notNil_ok (hI : Inv B s a.tmps w ι) {x : AV} {v : Value} (h : notNil s x = some true) (hv : AVRep w (dst B.D w ι s.heap) (sumOf ι s.heap) x v) : ∃ b l c, v = .slice (some b) l c := by
  unfold notNil at h
  split at h
  · rename_i t xs
    simp at h
    obtain ⟨aa, cap, e1, hle, hr⟩ := hv
    simp at e1
    rcases hr with hr | ⟨b, o, ha, _⟩
    · rw [hr] at h
      simp at h
    · exact ⟨_, _, _, by rw [e1, ha]⟩
  · rename_i g
    split at h
    · rename_i t xs hrow
      simp at h
      obtain ⟨q, hq, hw⟩ := hv
      have hq' := sum_of_row (row_eq hrow) hq
      subst hq'
      have hpos : 0 < xs.length := by
        cases xs with
        | nil => simp at h
        | cons x r => simp
      unfold WinAt at hw
      simp only at hw
      split at hw
      · obtain ⟨hle, rfl | ⟨h0, aa, rfl⟩⟩ := hw
        · exact ⟨_, _, _, rfl⟩
        · omega
      · obtain ⟨_, hz, aa, rfl⟩ := hw
        omega
    · cases h
  · cases h

theorem seq_zeros {u : Ty} {zs : List Value} {z : Value} (hz : zeroOk u zs = true) (hzc : z.cells.toList = zs) (n : Nat) (rest : Array Value) (S : Nat → Prop) : SeqRep w S u (List.replicate n u.zero) (Builtin.zeroCells z.cells n ++ rest) 0 := by
  have hz1 := zero_len hz
  have hzs : z.cells.size = u.cells := by
    have : z.cells.toList.length = u.cells := by rw [hzc]; exact hz1
    simpa using this
  have hzd : DCells w S u u.zero z.cells.toList := by rw [hzc]; exact zero_cells hz _
  intro i x hx
  have hi := (List.getElem?_eq_some_iff.1 hx).1
  simp at hi
  have hx0 : x = u.zero := by rw [List.getElem?_replicate] at hx; split at hx <;> simp_all
  subst hx0
  refine ⟨z.cells.toList, hzd, fun j v hv => ?_⟩
  have hj : j < u.cells := by have := (List.getElem?_eq_some_iff.1 hv).1; simp at this; omega
  have hlt : i * u.cells + j < n * u.cells := by
    have : (i + 1) * u.cells ≤ n * u.cells := Nat.mul_le_mul_right _ hi
    rw [Nat.add_mul] at this
    omega
  have hmod : (i * u.cells + j) % u.cells = j := by rw [Nat.mul_comm, Nat.mul_add_mod, Nat.mod_eq_of_lt hj]
  have hvj : z.cells[j]? = some v := by simpa using hv
  have hjz : j < z.cells.size := by omega
  rw [Nat.zero_add, Array.getElem?_append_left (by rw [size_zeroCells, hzs]; exact hlt)]
  unfold Builtin.zeroCells
  simp [hlt, hzs, hmod, hvj, getElem!_pos z.cells j hjz]
  rw [Array.getElem?_eq_getElem hjz] at hvj
  exact Option.some.inj hvj

theorem zeros_ok {T : TT} (hT : TOk P T) (hI : Inv B s a.tmps w ι) {t t2 ty : TypeId} {ie : TI} {kk : IntKind} (he : elemOf T t = some ie) (ht2 : P.underlying t2 = some (.int kk)) {u : Ty} {q : Nat} (hq0 : 0 < q) (hq : q ≤ 1099511627776)
    (hu : u.cells = ie.size) (h0 : 0 < ie.size) (hb : ie.bytes ≤ 128) (hz : zeroOk u ie.zero = true) {base : Nat} (hfree : s.heap[base]? = some none) (aa : Option Addr) :
    ∃ v w' ι', (Builtin.append_ #[t, t2] ty #[.slice aa 0 0, .int .i64 q]).run P w = .ok v w' ∧ Inv B (s.setRow base (.seq u (List.replicate q u.zero))) a.tmps w' ι' ∧
      AVRep w' (dst B.D w' ι' (s.setRow base (.seq u (List.replicate q u.zero))).heap) (sumOf ι' (s.setRow base (.seq u (List.replicate q u.zero))).heap) (.slc base) v := by
  obtain ⟨ti, e, hti, hke, hie⟩ := elemOf_some he
  have hti := hT _ _ hti
  have hie := hT _ _ hie
  have hun : P.underlying t = some (.slice e) := by have := hti.kind; rw [hke] at this; exact this
  obtain ⟨inf, hinf, hsz, hby, z, hzz, hzc⟩ := hie.info
  have hz1 := zero_len hz
  have hsu : inf.size = u.cells := by omega
  have hu0 : 0 < u.cells := by omega
  have hbytes : q * inf.bytes ≤ 140737488355328 := by
    have : q * inf.bytes ≤ 1099511627776 * 128 := Nat.mul_le_mul hq (by omega)
    omega
  have hwn : IntKind.i64.wrap (q : Int) = q := by
    simp only [IntKind.wrap, IntKind.bits, IntKind.signed]
    simp [Int.bmod]; omega
  have hzs : z.cells.size = u.cells := by
    have : z.cells.toList.length = u.cells := by rw [hzc]; exact hz1
    simpa using this
  have hge := grownCap_ge w q 0 e
  have hcm := grownCap_le_maxLen w q 0 e (by simp only [maxLen]; omega)
  have hn : ¬ (q = 0) := by omega
  have hneg : ¬ ((q : Int) < 0) := by omega
  have h63 : ¬ (9223372036854775807 < (q : Int)) := by omega
  have h47 : ¬ (281474976710656 < (q : Int) * (inf.bytes : Int)) := by
    have : ((q * inf.bytes : Nat) : Int) = (q : Int) * (inf.bytes : Int) := Int.natCast_mul _ _
    omega
  have h48 : ¬ (281474976710656 < Builtin.nextslicecap q 0 * inf.bytes) := by
    rw [nextslicecap_zero (by omega)]; omega
  have hqu : ¬ (q * u.cells = 0) := by
    intro h
    rcases Nat.mul_eq_zero.1 h with h | h <;> omega
  obtain ⟨hA, hB⟩ := (hI.drew (w.drawn + 1)).newSeq hfree u (List.replicate q u.zero) (Builtin.zeroCells z.cells q ++ Builtin.zeroCells z.cells (grownCap w q 0 e - q)) e (grownCap w q 0 e)
    (by simp only [Array.size_append, size_zeroCells, hzs, ← Nat.add_mul]; congr 1; omega) (by simpa using hge) hcm (seq_zeros hz hzc q _ _)
  refine ⟨_, _, _, ?_, hA, by simpa using hB⟩
  have hf0 : ∀ w1 : World, (Builtin.firstCells u.cells 0 (.slice aa 0 0)).run P w1 = .ok #[] w1 := fun w1 => by
    cases aa <;> simp [Builtin.firstCells, loadCells, loadCellsFrom]
  simp [Builtin.append_, run_underlying hun, run_underlying ht2, asInt, asIntOf, sizeOf, typeInfo, zeroValue, hinf, hzz, Builtin.lenOf, hn, hneg, hwn, h63, h47, h48, hsu, hqu, hun, Question.forced, hf0, hf0, newRow, grownCap]

/-- The zeros of so many data, one after another. -/
theorem zeroRows_seq {u : Ty} {S : Nat → Prop} : ∀ (n : Nat) (vs : List Value), zeroRows u n vs = true → vs.length = n * u.cells ∧ ∀ i, i < n → ∃ cs, DCells w S u u.zero cs ∧ ∀ (j : Nat) v, cs[j]? = some v → vs[i * u.cells + j]? = some v
  | 0, vs, h => by
    simp only [zeroRows, List.isEmpty_iff] at h
    subst h
    exact ⟨by simp, fun i hi => by omega⟩
  | n + 1, vs, h => by
    simp only [zeroRows, Bool.and_eq_true] at h
    obtain ⟨h1, h2⟩ := h
    obtain ⟨hl, hr⟩ := zeroRows_seq n _ h2
    have hd := zero_cells (w := w) h1 S
    have hl1 := DCells.length _ _ _ hd
    rw [List.length_take] at hl1
    rw [List.length_drop] at hl
    have hc : u.cells ≤ vs.length := by omega
    refine ⟨by rw [Nat.add_mul]; omega, fun i hi => ?_⟩
    cases i with
    | zero =>
      refine ⟨_, hd, fun j v hj => ?_⟩
      rw [List.getElem?_take] at hj
      split at hj
      · rw [Nat.zero_mul, Nat.zero_add]; exact hj
      · cases hj
    | succ i =>
      obtain ⟨cs, hd2, hall⟩ := hr i (by omega)
      refine ⟨cs, hd2, fun j v hj => ?_⟩
      have := hall j v hj
      rw [List.getElem?_drop] at this
      rw [← this]
      congr 1
      rw [Nat.add_mul]
      omega

theorem newArr_some {T : TT} {e : TypeId} {q : Ty × Nat} (h : newArr T e = some q) : ∃ ti, T e = some ti ∧ zeroRows q.1 q.2 ti.zero = true ∧ q.2 ≤ 1024 := by
  unfold newArr at h
  split at h
  · rename_i ti hti
    split at h
    · split at h
      · split at h
        · rename_i q0 _
          obtain ⟨hc, h⟩ := cond_opt h
          cases h
          simp only [Bool.and_eq_true] at hc
          exact ⟨ti, hti, hc.1.1, Nat.le_of_ble_eq_true hc.1.2⟩
        · cases h
      · cases h
    · cases h
  · cases h

theorem aodd_ok (hT : TOk P C.T) (hI : Inv B s a.tmps w ι) {base : Nat} {o : Oper} {q : Odd} {s' : St} (hq : oddOp C.T s o = some q) (h : aodd (optAlg St) base o s some q = some s') :
    ∃ v w' ι' s2 x, (execOp a.eval o).run P w = .ok (.value v) w' ∧ Inv B s2 a.tmps w' ι' ∧ AVRep w' (dst B.D w' ι' s2.heap) (sumOf ι' s2.heap) x v ∧ s' = s2.put o.dst x := by
  unfold oddOp at hq
  split at hq
  · rename_i e hop
    obtain ⟨q0, hq0, rfl⟩ := Option.map_eq_some_iff.1 hq
    obtain ⟨ti, hti, hz0, hn⟩ := newArr_some hq0
    have hti := hT _ _ hti
    obtain ⟨inf, hinf, hsz, hby, z, hz, hzc⟩ := hti.info
    have hrun : (execOp a.eval o).run P w = .ok (.value (.pointer (some ⟨w.heap.size, 0, none⟩))) (w.alloc (.cells ti.zero.toArray e)) := by
      have : z.cells = ti.zero.toArray := by apply Array.ext'; simpa using hzc
      simp [execOp, hop, Instr.alloc, zeroValue, typeInfo, hinf, hz, newVar, newRow, this]
    have h : allocRow (optAlg St) s base (.seq q0.1 (List.replicate q0.2 q0.1.zero)) (fun s' => some (s'.put o.dst (.ptr base 0))) = some s' := h
    obtain ⟨hfree, h⟩ := allocRow_opt h
    cases h
    obtain ⟨hA, hB⟩ := hI.newSeq hfree q0.1 (List.replicate q0.2 q0.1.zero) ti.zero.toArray e q0.2 (by simpa using (zeroRows_seq (w := w) (S := fun _ => True) _ _ hz0).1) (by simp) (by simp only [maxLen]; omega) (by
      intro i x hx
      have hi := (List.getElem?_eq_some_iff.1 hx).1
      simp at hi
      have hx0 : x = q0.1.zero := by rw [List.getElem?_replicate] at hx; split at hx <;> simp_all
      subst hx0
      obtain ⟨cs, hd, hall⟩ := (zeroRows_seq _ _ hz0).2 i hi
      exact ⟨cs, hd, fun j v hv => by simpa using hall j v hv⟩)
    obtain ⟨q, hq, hw⟩ := hB
    have hlt : base < s.heap.length := (List.getElem?_eq_some_iff.1 hfree).1
    exact ⟨_, _, _, _, .ptr base 0, hrun, hA, ⟨_, w.heap.size, 0, q0.2, sumOf_set_self hlt, rfl, by simp⟩, rfl⟩
  · rename_i t x y ty hop
    obtain ⟨hy, hq⟩ := cond_opt hq
    have hy := isNilO_some hy
    subst hy
    split at hq
    · rename_i e x1 hk hx
      obtain ⟨b, hb, rfl⟩ := Option.map_eq_some_iff.1 hq
      obtain ⟨rfl, h⟩ := sure_bind h
      cases h
      obtain ⟨ti, hti, hke⟩ := sliceKind_some hk
      have hti := hT _ _ hti
      have hun : P.underlying t = some (.slice e) := by have := hti.kind; rw [hke] at this; exact this
      obtain ⟨bb, l, c, hv⟩ := notNil_ok hI hb (evalO_rep hI hx a.defers)
      have hv : a.eval x = .slice (some bb) l c := hv
      refine ⟨.bool false, w, ι, s, _, ?_, hI, rep_bool _, rfl⟩
      have hg : (eqGuard .eql t x (.const (.slice none 0 0)) (.slice (some bb) l c) (.slice none 0 0)).run P w = .ok () w := by
        unfold eqGuard; simp
      have he0 : a.eval (.const (.slice none 0 0)) = .slice none 0 0 := rfl
      simp only [execOp, hop, hv, he0, Sem.run_bind, hg, Result.andThen_ok, Lib.run_eql_slice_nil w t e (some bb) l c 0 0 hun, Sem.run_pure]
      rfl
    · cases hq
  · rename_i t x hi hop
    obtain ⟨hx, hq⟩ := cond_opt hq
    have hx := isNils_some hx
    split at hq
    · rename_i e kk n hk hhi
      obtain ⟨hie, hq⟩ := cond_opt hq
      cases hq
      obtain ⟨hn, h⟩ := sure_bind h
      cases h
      have hn : n = 0 := by simpa using hn
      subst hn
      obtain ⟨ti, hti, hke⟩ := sliceKind_some hk
      have hti := hT _ _ hti
      obtain ⟨ie, hie⟩ := Option.isSome_iff_exists.1 hie
      have hie := hT _ _ hie
      obtain ⟨aa, hv⟩ := evalO_rep hI hx a.defers
      have hv : a.eval x = .slice aa 0 0 := hv
      have hh : a.eval hi = .int kk 0 := dat_int (evalO_rep hI hhi a.defers)
      have hb := (run_sliceBound (P := P) (w := w) (k := kk) (c := .sliceAcap) (n := 0) (i := 0) (y := 0) (by simp [inc]) (Nat.le_refl 0)).2
      have hb2 : (Instr.sliceBounds true 0 0 none (some (.int kk 0)) none).run P w = .ok (0, 0, 0) w := by
        simp [Instr.sliceBounds, Sem.run_bind, hb]
      have hr := run_slice (a := aa) (len := 0) (cap := 0) hti hke hie hb2
      refine ⟨.slice aa 0 0, w, ι, s, .nils, ?_, hI, ⟨aa, rfl⟩, rfl⟩
      have hr' : (Instr.sliceAt t (a.eval x) none (some (a.eval hi)) none).run P w = .ok (.slice aa 0 0) w := by rw [hv, hh, hr]; simp
      simp only [execOp, hop, Option.map_none, Option.map_some, Sem.run_bind, hr', Result.andThen_ok]
      rfl
    · cases hq
  · rename_i c hop
    obtain ⟨odst, oop, otype, opos, oafter, oguard⟩ := o
    obtain ⟨callee, cargs, ctypes⟩ := c
    simp only at hop hq
    subst hop
    split at hq
    · skip
      split at hq
      · rename_i x t hxs hts
        have e1 := arr1 hxs
        have e2 := arr1 hts
        subst e1 e2
        obtain ⟨hx, hq⟩ := cond_opt hq
        have hx := isNils_some hx
        obtain ⟨e, hk, rfl⟩ := Option.map_eq_some_iff.1 hq
        replace h : (sure true).bind (fun _ => some (s.put odst (.dat (.int .i64) (0 : Int)))) = some s' := h
        obtain ⟨_, h3⟩ := sure_bind h
        cases h3
        obtain ⟨ti, hti, hke⟩ := sliceKind_some hk
        have hti := hT _ _ hti
        have hun : P.underlying t = some (.slice e) := by have := hti.kind; rw [hke] at this; exact this
        obtain ⟨aa, hv⟩ := evalO_rep hI hx a.defers
        have hv : a.eval x = .slice aa 0 0 := hv
        refine ⟨.int .i64 0, w, ι, s, _, ?_, hI, rep_int _ _, rfl⟩
        simp [execOp, resolve, invoke, builtin, Builtin.cap_, hv, Sem.run_bind, run_underlying hun, goInt]
      · cases hq
    · skip
      split at hq
      · rename_i x y t t2 hxs hts
        have e1 := arr2 hxs
        have e2 := arr2 hts
        subst e1 e2
        split at hq
        · rename_i n ti2 hy hti2
          split at hq
          · rename_i kk ie hk2 hie
            split at hq
            · rename_i u hu
              obtain ⟨hc, hq⟩ := cond_opt hq
              cases hq
              simp only [Bool.and_eq_true] at hc
              obtain ⟨⟨⟨⟨hx, hc1⟩, hc2⟩, hc3⟩, hc4⟩ := hc
              have hx := isNils_some hx
              obtain ⟨q, rfl, hq0, hq1, h⟩ := mkz_bind h
              obtain ⟨hfree, h⟩ := allocRow_opt h
              cases h
              have hti2 := hT _ _ hti2
              have hun2 : P.underlying t2 = some (.int kk) := by have := hti2.kind; rw [hk2] at this; exact this
              obtain ⟨aa, hv⟩ := evalO_rep hI hx a.defers
              have hv : a.eval x = .slice aa 0 0 := hv
              have hn : a.eval y = .int .i64 (q : Int) := dat_int (evalO_rep hI hy a.defers)
              obtain ⟨v, w', ι', hrun, hA, hB⟩ := zeros_ok (ty := otype) hT hI hie hun2 hq0 hq1 (by simpa using hc1) (by simpa using hc2) (Nat.le_of_ble_eq_true hc3) hc4 hfree aa
              refine ⟨v, w', ι', _, _, ?_, hA, hB, rfl⟩
              simp [execOp, resolve, invoke, builtin, Sem.run_bind, hv, hn, hrun]
            · cases hq
          · cases hq
        · cases hq
      · cases hq
    · cases hq
  · cases hq

theorem dstep1_sound (hC : COk P C) (hk : C.k = B.k) (hmv : ∀ g, C.mv.contains g = true → B.mv g = true) {base : Nat} {o : Oper} {s' : St} (hR : Rep B s a w) (hso : stepOk C o s = true) (h : dstep1 (optAlg St) C base o s some = some s') (Q : Exit → Act → World → Prop) :
    o.wp P a w (fun a' w' => Rep B s' a' w') Q := by
  unfold dstep1 at h
  split at h
  · rename_i g args types hmc
    obtain ⟨f, cargs, ts, t, name, ti, hp, off, r, l, hop, hf, hti, hargs, hargs2, hl, hmem, rfl⟩ := methCall_some hmc
    obtain ⟨hc, h⟩ := cond_opt h
    obtain ⟨hd, ι, hI⟩ := hR
    obtain ⟨odst, oop, otype, opos, oafter, oguard⟩ := o
    simp only at hop
    subst hop
    have he' : a.eval f = .func (.methodOf t name) #[] #[] := evalO_rep hI hf a.defers
    have h3 := argsAV_rep hI a.defers cargs.toList args hargs
    have hk1 := (hC.types _ _ hti).kind
    rw [hl] at hk1
    obtain ⟨⟨el, hu⟩, hall⟩ := hk1
    have hb := List.all_eq_true.1 hall _ hmem
    simp only at hb
    obtain ⟨q, s2, hk2, hcalls⟩ := acall_ok hC.orc hk hmv hI hc h (vs := cargs.toList.map a.eval) h3
    cases hk2
    have horc : Callable P g := by
      unfold acall at h
      split at h
      · cases h
      · simp only at h
        split at h
        · simp only [optAlg] at h
          cases hq : (C.orc g _ _).o with
          | none => rw [hq] at h; simp at h
          | some q => exact hC.call g _ _ (by rw [hq]; rfl)
        · cases h
    obtain ⟨ad, vr, hvs⟩ : ∃ ad vr, cargs.toList.map a.eval = .pointer (some ad) :: vr := by
      rw [hargs2] at h3
      obtain ⟨v, vr, e, ⟨su, b, of, cc, _, _, rfl⟩, _⟩ := h3
      exact ⟨_, vr, e⟩
    unfold Oper.wp
    have hrun : (execOp a.eval ⟨odst, .call ⟨.value f, cargs, ts⟩, otype, opos, oafter, oguard⟩).run P w = .ok (.enter g (cargs.toList.map a.eval).toArray) w := by
      have e : cargs.map a.eval = (.pointer (some ad) :: vr).toArray := by rw [map_toArr, hvs]
      have hm := meth_run (w := w) hb ad (P.types.size + Made.depth - 1)
      have hdep : 0 < Made.depth := by decide
      have hpos : P.types.size + Made.depth - 1 + 1 = P.types.size + Made.depth := by omega
      rw [hpos] at hm
      rw [hvs]
      simp [execOp, resolve, he', Deferred.ofValue, invoke, e, Sem.run_bind, run_underlying hu, callMethod, run_program, hm, horc _ w]
    rw [hrun, Oper.upon_enter]
    refine hcalls.mono fun e w' hpost => ?_
    obtain ⟨v, ι', rfl, hI', hv'⟩ := hpost
    exact ⟨by cases odst <;> exact hd, ι', hI'.put odst hv' a.defers⟩
  · split at h
    · rename_i p hp
      obtain ⟨hd, ι, hI⟩ := hR
      obtain ⟨t, pa, va, s2, w', ι', hop, h1, h2, h3⟩ := aput_ok hC.types hI hp h
      cases h1
      refine finish_skip hd ?_ h2
      simp [execOp, hop, Sem.run_bind, h3]
    · split at h
      · rename_i b hb
        cases h
        obtain ⟨hd, ι, hI⟩ := hR
        exact finish_value hd (v := .bool b) (w' := w) (structEq_run hC.types hI hb) hI (rep_bool b)
      · split at h
        · rename_i q hq
          obtain ⟨hd, ι, hI⟩ := hR
          obtain ⟨v, w', ι', s2, x, hrun, hA, hB, rfl⟩ := aodd_ok hC.types hI hq h
          exact finish_value hd (v := v) (w' := w') hrun hA hB
        · exact dstep0_sound hC hk hmv hR hso h Q

theorem Inv.blind (hI : Inv B s a.tmps w ι) (ids : List Nat) : Inv B (blind ids s) a.tmps w ι := by
  refine ⟨hI.kept, hI.hrep, hI.stay, hI.io, fun i x hx => ?_, hI.glob⟩
  simp only [Rv.blind, List.getElem?_map] at hx
  cases hc : s.env[i]? with
  | none => simp [hc] at hx
  | some y =>
    obtain ⟨v, hv, hr⟩ := hI.env i y hc
    simp only [hc, Option.map_some, Option.some.injEq] at hx
    refine ⟨v, hv, ?_⟩
    cases hh : ids.any y.refs with
    | true =>
      rw [hh] at hx
      subst hx
      trivial
    | false =>
      rw [hh] at hx
      subst hx
      exact hr

theorem dstep_sound (hC : COk P C) (hk : C.k = B.k) (hmv : ∀ g, C.mv.contains g = true → B.mv g = true) {base : Nat} {o : Oper} {s' : St} (hR : Rep B s a w) (h : dstep (optAlg St) C base o s some = some s') (Q : Exit → Act → World → Prop) :
    o.wp P a w (fun a' w' => Rep B s' a' w') Q := by
  unfold dstep at h
  cases hso : stepOk C o s with
  | true =>
    rw [hso] at h
    exact dstep1_sound hC hk hmv hR hso h Q
  | false =>
    rw [hso] at h
    simp only [cond_false] at h
    split at h
    · rename_i c hop
      split at h
      · rename_i f hcal
        split at h
        · rename_i g first caps hf
          split at h
          · rename_i args hargs
            unfold bcall at h
            replace h := cond_opt h
            obtain ⟨hm, h⟩ := h
            obtain ⟨hd, ι, hI⟩ := hR
            obtain ⟨odst, oop, otype, opos, oafter, oguard⟩ := o
            obtain ⟨callee, cargs, ctypes⟩ := c
            simp only at hop hcal hf hargs h hm
            subst hop hcal
            obtain ⟨va, vb, he, h1, h2⟩ := evalO_rep hI hf a.defers
            have he' : a.eval f = .func (.func g) va.toArray vb.toArray := he
            have h3 := argsAV_rep hI a.defers cargs.toList args hargs
            obtain ⟨r, s2, hk2, hcalls⟩ := acall_ok hC.orc hk hmv (hI.blind _) hm h (vs := va ++ cargs.toList.map a.eval ++ vb) ((h1.append h3).append h2)
            cases hk2
            have horc : Callable P g := by
              unfold acall at h
              split at h
              · cases h
              · simp only at h
                split at h
                · simp only [optAlg] at h
                  cases hq : (C.orc g _ _).o with
                  | none => rw [hq] at h; simp at h
                  | some q => exact hC.call g _ _ (by rw [hq]; rfl)
                · cases h
            unfold Oper.wp
            have hrun : (execOp a.eval ⟨odst, .call ⟨.value f, cargs, ctypes⟩, otype, opos, oafter, oguard⟩).run P w = .ok (.enter g (va ++ cargs.toList.map a.eval ++ vb).toArray) w := by
              have e : va.toArray ++ cargs.map a.eval ++ vb.toArray = (va ++ cargs.toList.map a.eval ++ vb).toArray := by apply Array.ext'; simp
              simp [execOp, resolve, he', Deferred.ofValue, invoke, e, horc _ w]
            rw [hrun, Oper.upon_enter]
            refine hcalls.mono fun e w' hpost => ?_
            obtain ⟨v, ι', rfl, hI', hv'⟩ := hpost
            exact ⟨by cases odst <;> exact hd, ι', hI'.put odst hv' a.defers⟩
          · cases h
        · cases h
      · cases h
    · cases h

theorem estep_sound (hC : COk P C) (hk : C.k = B.k) (hmv : ∀ g, C.mv.contains g = true → B.mv g = true) {calm : List Nat} {i base : Nat} {o : Oper} {s' : St} (hR : Rep B s a w) (hso : calm.contains (i + wildAt) = true ∨ stepOk C o s = true) (h : estep (optAlg St) C calm i base o s some = some s') (Q : Exit → Act → World → Prop) :
    o.wp P a w (fun a' w' => Rep B s' a' w') Q := by
  unfold estep at h
  cases hw : calm.contains (i + wildAt) with
  | true =>
    rw [hw] at h
    exact dstep_sound hC hk hmv hR h Q
  | false =>
    rw [hw] at h hso
    have hso := hso.resolve_left (by simp)
    simp only [cond_false] at h
    cases hdp : C.deep with
    | false =>
      rw [hdp] at h
      exact cstep_sound hC hk hmv hR hso h Q
    | true =>
      rw [hdp] at h
      simp only [cond_true] at h
      split at h
      · rename_i g hb
        cases hb
      · exact cstep_sound hC hk hmv hR hso h Q

end
end Go.Rv
