/-
  Soundness of the abstract run, a part. Conditions: none.
-/
import Derived.Test.YtenenhmofmdcbabDoorRi
set_option linter.unusedSimpArgs false
set_option linter.unusedVariables false
namespace Go.Rv

section
variable {P : Program} {T : TT} {B : Base} {s : St} {tmps : Array Value} {w : World} {ι : Plc}

theorem allocRow_opt {β : Type} {base : Nat} {r : Row} {K : St → Option β} {x : β} (h : allocRow (optAlg β) s base r K = some x) : s.heap[base]? = some none ∧ K (s.setRow base r) = some x := by
  unfold allocRow at h
  split at h
  · exact ⟨by assumption, h⟩
  · cases h

theorem elemOf_some {t : TypeId} {ie : TI} (h : elemOf T t = some ie) : ∃ ti e, T t = some ti ∧ ti.kind = .slice e ∧ T e = some ie := by
  unfold elemOf at h
  split at h
  · rename_i ti hti
    split at h
    · rename_i e he
      exact ⟨ti, e, hti, he, h⟩
    · cases h
  · cases h

/-- A row without a place. -/
theorem Inv.addNil (h : Inv B s tmps w ι) {g : Nat} (hfree : s.heap[g]? = some none) (u : Ty) : Inv B (s.setRow g (.seq u [])) tmps w (setPlc ι g none) := by
  have hlt : g < s.heap.length := (List.getElem?_eq_some_iff.1 hfree).1
  refine h.turn (s' := s.setRow g (.seq u [])) (g := g) (r := .seq u []) (p := none) (fun x => ∃ r0, s.heap[x]? = some (some r0)) (by simp [St.setRow, hlt]) ?_ ?_ (Kept.refl _ _) (fun _ _ _ _ _ _ => rfl) ?_ ?_ (fun x hx => hx) (fun _ => rfl) ?_ ?_ (fun q hq => by cases hq)
  · intro h' r' hne hr'
    simp only [St.setRow] at hr'
    rw [List.getElem?_set_ne (Ne.symm hne)] at hr'
    exact ⟨r', hr', rfl, rfl, fun _ _ _ _ hh => hh, fun x hx => by
      obtain ⟨q, hq⟩ := (h.hrep.rows h' r' hr').refs_some x hx
      exact sumOf_some hq⟩
  · intro h' r0 hne hr0
    exact ⟨r0, by simp only [St.setRow]; rw [List.getElem?_set_ne (Ne.symm hne)]; exact hr0⟩
  · intro q hq; cases hq
  · rintro ⟨r0, hr0⟩; rw [hfree] at hr0; simp at hr0
  · intro i a ha
    obtain ⟨v, hv, hr⟩ := h.env i a ha
    exact ⟨v, hv, .inl ⟨a, hr, .inl rfl, fun x hx => by obtain ⟨q, hq⟩ := AVRep.refs_some a v x hr hx; exact sumOf_some hq⟩⟩
  · intro hk
    obtain ⟨_, r0, hr0⟩ := h.io g hk
    rw [hfree] at hr0; simp at hr0

/-- A slice of a row that lies in a new block of its own. -/
theorem Inv.newSeq (h : Inv B s tmps w ι) {g : Nat} (hfree : s.heap[g]? = some none) (u : Ty) (xs : List u.den) (cur : Array Value) (e : TypeId) (c : Nat)
    (hcur : cur.size = c * u.cells) (hxc : xs.length ≤ c) (hcm : c ≤ maxLen)
    (hseq : SeqRep w (dst B.D w ι s.heap) u xs cur 0) :
    Inv B (s.setRow g (.seq u xs)) tmps (w.alloc (.cells cur e)) (setPlc ι g (some (w.heap.size, 0, c))) ∧
    AVRep (w.alloc (.cells cur e)) (dst B.D (w.alloc (.cells cur e)) (setPlc ι g (some (w.heap.size, 0, c))) (s.setRow g (.seq u xs)).heap) (sumOf (setPlc ι g (some (w.heap.size, 0, c))) (s.setRow g (.seq u xs)).heap)
      (.slc g) (.slice (some ⟨w.heap.size, 0, none⟩) xs.length c) := by
  have hlt : g < s.heap.length := (List.getElem?_eq_some_iff.1 hfree).1
  refine ⟨h.alloc hfree (.seq u xs) cur e _ (.inr ⟨0, c, rfl⟩) fun ht => ⟨cur, e, heap_alloc_new w _, by simpa using hcur, hxc, hcm, fun i x hx => ?_⟩, ⟨_, sumOf_set_self hlt, ?_⟩⟩
  · obtain ⟨cs, hd, hc⟩ := hseq i x hx
    exact ⟨cs, ht.dat hd, hc⟩
  · exact ⟨by simpa [Row.len] using hxc, .inl (by simp [Row.len, Row.cells])⟩

theorem Inv.newBox (h : Inv B s tmps w ι) {g : Nat} (hfree : s.heap[g]? = some none) (cs : List AV) (vs : List Value) (e : TypeId)
    (hrep : AVsRep w (dst B.D w ι s.heap) (sumOf ι s.heap) cs vs) (h1 : ∀ v ∈ vs, v.oneCell' = true) :
    Inv B (s.setRow g (.box cs)) tmps (w.alloc (.cells vs.toArray e)) (setPlc ι g (some (w.heap.size, 0, 0))) ∧
    AVRep (w.alloc (.cells vs.toArray e)) (dst B.D (w.alloc (.cells vs.toArray e)) (setPlc ι g (some (w.heap.size, 0, 0))) (s.setRow g (.box cs)).heap) (sumOf (setPlc ι g (some (w.heap.size, 0, 0))) (s.setRow g (.box cs)).heap)
      (.ptr g 0) (.pointer (some ⟨w.heap.size, 0, none⟩)) := by
  have hlt : g < s.heap.length := (List.getElem?_eq_some_iff.1 hfree).1
  have hgd := refsL_good h hrep
  refine ⟨h.alloc hfree (.box cs) vs.toArray e _ (.inr ⟨0, 0, rfl⟩) fun ht => ⟨_, _, _, vs.toArray, e, rfl, heap_alloc_new w _, fun j a hj => ?_⟩, ⟨_, _, _, _, sumOf_set_self hlt, rfl, by simp⟩⟩
  obtain ⟨v, hv, hr⟩ := hrep.get _ _ j a hj
  exact ⟨v, by simpa using hv, h1 v (List.mem_of_getElem? hv), ht.av (fun x hx => hgd x (refsL_get hj hx)) hr⟩

theorem run_newRow (e : TypeId) (cur : Array Value) : (newRow e cur).run P w = .ok ⟨w.heap.size, 0, none⟩ (w.alloc (.cells cur e)) := by
  simp [newRow]

theorem fill_one (l : List (Nat × Value)) : ∀ (k : Nat) (cells : Array Value), (∀ j x, l[j]? = some x → x.1 = k + j ∧ x.2.oneCell' = true) → k + l.length ≤ cells.size →
    ∃ out, Instr.fill (fun i => some (i * 1, 1)) cells l = some out ∧ out.size = cells.size ∧ ∀ m, out[m]? = if k ≤ m ∧ m < k + l.length then (l[m - k]?).map (·.2) else cells[m]? := by
  induction l with
  | nil => intro k cells _ _; exact ⟨cells, rfl, rfl, fun m => by rw [if_neg (by simp)]⟩
  | cons x r ih =>
    intro k cells h hl
    obtain ⟨hx1, hx2⟩ := h 0 x rfl
    obtain ⟨i, v⟩ := x
    simp only [Nat.add_zero] at hx1
    subst hx1
    simp only at hx2
    have hc := oneCell_cells hx2
    simp only [List.length_cons] at hl
    obtain ⟨out, h1, h2, h3⟩ := ih (i + 1) (cells.setIfInBounds i v) (fun j y hy => by
      have := h (j + 1) y (by simpa using hy)
      exact ⟨by rw [this.1]; omega, this.2⟩) (by simp; omega)
    refine ⟨out, ?_, by simpa using h2, fun m => ?_⟩
    · have hne : ¬ (v.cells.size ≠ 1 ∨ i + v.cells.size > cells.size) := by rw [hc]; simp; omega
      simp only [Instr.fill, Nat.mul_one, hc]
      simp only [hc, List.size_toArray, List.length_singleton] at hne
      rw [if_neg (by simpa using hne)]
      simpa using h1
    · rw [h3]
      simp only [List.length_cons]
      by_cases hm : i + 1 ≤ m ∧ m < i + 1 + r.length
      · rw [if_pos hm, if_pos (by omega)]
        have : m - i = (m - (i + 1)) + 1 := by omega
        rw [this]; simp
      · rw [if_neg hm]
        by_cases hmi : m = i
        · subst hmi
          rw [if_pos (by omega)]
          have : m < cells.size := by omega
          simp [this]
        · rw [if_neg (by omega), Array.getElem?_setIfInBounds_ne (Ne.symm hmi)]

theorem partsAV_rep (hI : Inv B s tmps w ι) (ds : List Deferred) : ∀ (ps : List (Nat × Operand)) (l : List (Nat × AV)), partsAV s ps = some l →
    (ps.map fun (p : Nat × Operand) => (p.1, Act.eval ⟨tmps, ds⟩ p.2)).length = l.length ∧
    ∀ (j : Nat) (x : Nat × AV), l[j]? = some x → ∃ v, (ps.map fun (p : Nat × Operand) => (p.1, Act.eval ⟨tmps, ds⟩ p.2))[j]? = some (x.1, v) ∧ AVRep w (dst B.D w ι s.heap) (sumOf ι s.heap) x.2 v
  | [], l, h => by simp [partsAV] at h; subst h; simp
  | (i, x) :: r, l, h => by
    simp only [partsAV] at h
    split at h
    · rename_i a l' ha hl'
      simp at h; subst h
      obtain ⟨h1, h2⟩ := partsAV_rep hI ds r l' hl'
      refine ⟨by simpa using h1, fun j y hy => ?_⟩
      cases j with
      | zero => simp at hy; subst hy; exact ⟨_, rfl, evalO_rep hI ha ds⟩
      | succ j => simp at hy; simpa using h2 j y hy
    · cases h

theorem argsAV_rep (hI : Inv B s tmps w ι) (ds : List Deferred) : ∀ (xs : List Operand) (l : List AV), argsAV s xs = some l →
    AVsRep w (dst B.D w ι s.heap) (sumOf ι s.heap) l (xs.map (Act.eval ⟨tmps, ds⟩))
  | [], l, h => by simp [argsAV] at h; subst h; rfl
  | x :: r, l, h => by
    simp only [argsAV] at h
    split at h
    · rename_i a l' ha hl'
      simp at h; subst h
      exact ⟨_, _, rfl, evalO_rep hI ha ds, argsAV_rep hI ds r l' hl'⟩
    · cases h

theorem listDat_rep {S : Nat → Prop} {σ : Nat → Option Sum} (u : Ty) : ∀ (l : List (Nat × AV)) (n : Nat) (xs : List u.den) (vs : List (Nat × Value)), listDat u n l = some xs → vs.length = l.length →
    (∀ (j : Nat) (x : Nat × AV), l[j]? = some x → ∃ v, vs[j]? = some (x.1, v) ∧ AVRep w S σ x.2 v) →
    xs.length = l.length ∧ (∀ j y, vs[j]? = some y → y.1 = n + j ∧ y.2.oneCell' = true) ∧ ∀ (j : Nat) x, xs[j]? = some x → ∃ y, vs[j]? = some y ∧ DCells w S u x [y.2]
  | [], n, xs, vs, h, hl, _ => by
    simp [listDat] at h; subst h
    have : vs = [] := List.eq_nil_of_length_eq_zero (by simpa using hl)
    subst this
    simp
  | (i, a) :: r, n, xs, vs, h, hl, hr => by
    simp only [listDat] at h
    split at h
    · rename_i hin
      subst hin
      split at h
      · rename_i x l' hx hl'
        simp at h; subst h
        cases vs with
        | nil => simp at hl
        | cons y vr =>
          obtain ⟨v, hv, hrep⟩ := hr 0 (i, a) rfl
          simp at hv
          subst hv
          obtain ⟨h1, h2, h3⟩ := listDat_rep u r (i + 1) l' vr hl' (by simpa using hl) (fun j x hx => by simpa using hr (j + 1) x (by simpa using hx))
          have hd := toDat_rep hx hrep
          refine ⟨by simpa using h1, fun j y hy => ?_, fun j z hz => ?_⟩
          · cases j with
            | zero => simp at hy; subst hy; exact ⟨rfl, DCells.one u x [v] hd v (by simp)⟩
            | succ j => simp at hy; have := h2 j y hy; exact ⟨by rw [this.1]; omega, this.2⟩
          · cases j with
            | zero => simp at hz; subst hz; exact ⟨_, rfl, hd⟩
            | succ j => simp at hz; obtain ⟨y, hy, hyd⟩ := h3 j z hz; exact ⟨y, by simpa using hy, hyd⟩
      · cases h
    · cases h

theorem buildSlice_ok (hT : TOk P T) (hI : Inv B s tmps w ι) {t : TypeId} {ie : TI} (he : elemOf T t = some ie) {u : Ty} {n : Nat} {l : List (Nat × AV)} {xs : List u.den} (hl : listDat u 0 l = some xs)
    (hn : l.length = n) (hn2 : n ≤ 1024) (hu : u.cells = 1) (hs : ie.size = 1) {base : Nat} (hfree : s.heap[base]? = some none) {vs : List (Nat × Value)} (hvl : vs.length = l.length)
    (hvs : ∀ (j : Nat) (x : Nat × AV), l[j]? = some x → ∃ v, vs[j]? = some (x.1, v) ∧ AVRep w (dst B.D w ι s.heap) (sumOf ι s.heap) x.2 v) :
    ∃ v w' ι', (Instr.buildSlice t n vs.toArray).run P w = .ok v w' ∧ Inv B (s.setRow base (.seq u xs)) tmps w' ι' ∧ AVRep w' (dst B.D w' ι' (s.setRow base (.seq u xs)).heap) (sumOf ι' (s.setRow base (.seq u xs)).heap) (.slc base) v := by
  obtain ⟨ti, e, hti, hke, hie⟩ := elemOf_some he
  have hti := hT _ _ hti
  have hie := hT _ _ hie
  have hun : P.underlying t = some (.slice e) := by have := hti.kind; rw [hke] at this; exact this
  obtain ⟨h1, h2, h3⟩ := listDat_rep u l 0 xs vs hl hvl hvs
  obtain ⟨inf, hinf, hsz, _, z, hz, _⟩ := hie.info
  rw [hs] at hsz
  have hfill : ∀ c0 : Array Value, c0.size = n → ∃ out, Instr.fill (fun i => some (i * 1, 1)) c0 vs = some out ∧ out.size = n ∧ SeqRep w (dst B.D w ι s.heap) u xs out 0 := by
    intro c0 hc0
    obtain ⟨out, ho, hos, hget⟩ := fill_one vs 0 c0 h2 (by omega)
    refine ⟨out, ho, by omega, fun i x hx => ?_⟩
    obtain ⟨y, hy, hd⟩ := h3 i x hx
    refine ⟨[y.2], hd, fun j v hv => ?_⟩
    have hj : j = 0 := by have := (List.getElem?_eq_some_iff.1 hv).1; simpa using this
    subst hj
    have hi : i < vs.length := (List.getElem?_eq_some_iff.1 hy).1
    rw [hu, hget, if_pos (by omega)]
    have : 0 + i * 1 + 0 - 0 = i := by omega
    rw [this, hy]
    simpa using hv
  have hxn : xs.length = n := by omega
  by_cases h0 : n = 0
  · subst h0
    obtain ⟨out, ho, hos, hsq⟩ := hfill #[] rfl
    obtain ⟨hA, hB⟩ := hI.newSeq hfree u xs out e 0 (by simp [hos]) (by omega) (by simp [maxLen]) hsq
    refine ⟨_, _, _, ?_, hA, hB⟩
    rw [hxn]
    simp only [Nat.mul_one] at ho
    have hr0 : (Array.map (fun _ => (default : Value)) (Array.range 0)) = #[] := by simp
    simp [Instr.buildSlice, Sem.run_bind, run_underlying hun, sizeOf, typeInfo, hinf, hsz]
    rw [hr0, ho]
    simp [run_newRow]
  · obtain ⟨out, ho, hos, hsq⟩ := hfill ((Array.range (n * 1)).map (z.cells[· % z.cells.size]!)) (by simp)
    obtain ⟨hA, hB⟩ := hI.newSeq hfree u xs out e n (by simp [hos, hu]) (by omega) (by simp [maxLen]; omega) hsq
    refine ⟨_, _, _, ?_, hA, hB⟩
    rw [hxn]
    have hbig : ¬ (16777216 < n) := by omega
    simp only [Nat.mul_one] at ho
    simp [Instr.buildSlice, Sem.run_bind, run_underlying hun, sizeOf, typeInfo, hinf, hsz, hbig, h0, zeroValue, hz, ho, run_newRow]

theorem zero_cells {u : Ty} {z : List Value} (h : zeroOk u z = true) (S : Nat → Prop) : DCells w S u u.zero z := by
  unfold zeroOk at h
  split at h
  · simp only [Bool.and_eq_true, beq_iff_eq] at h
    obtain ⟨rfl, rfl⟩ := h
    rfl
  · rename_i b
    simp only [Bool.not_eq_true'] at h
    subst h
    rfl
  · rename_i b
    have : b = ByteArray.empty := by
      rcases b with ⟨⟨l⟩⟩
      simp at h
      subst h; rfl
    subst this
    rfl
  · exact ⟨none, 0, rfl, Nat.le_refl _, .inl rfl⟩
  · cases h

theorem zero_len {u : Ty} {z : List Value} (h : zeroOk u z = true) : z.length = 1 ∧ u.cells = 1 := by
  unfold zeroOk at h
  split at h <;> first | exact ⟨rfl, rfl⟩ | cases h

theorem makeSlice_ok (hT : TOk P T) (hI : Inv B s tmps w ι) {t : TypeId} {ie : TI} (he : elemOf T t = some ie) {u : Ty} {k1 k2 : IntKind} {n m : Int} {q : Nat} (hm : mk n m = some q)
    (hu : u.cells = ie.size) (hb : ie.bytes ≤ 128) (hz : zeroOk u ie.zero = true) {base : Nat} (hfree : s.heap[base]? = some none) :
    ∃ v w' ι', (Instr.makeSlice t (.int k1 n) (.int k2 m)).run P w = .ok v w' ∧ Inv B (s.setRow base (.seq u (List.replicate q u.zero))) tmps w' ι' ∧
      AVRep w' (dst B.D w' ι' (s.setRow base (.seq u (List.replicate q u.zero))).heap) (sumOf ι' (s.setRow base (.seq u (List.replicate q u.zero))).heap) (.slc base) v := by
  obtain ⟨ti, e, hti, hke, hie⟩ := elemOf_some he
  have hti := hT _ _ hti
  have hie := hT _ _ hie
  have hun : P.underlying t = some (.slice e) := by have := hti.kind; rw [hke] at this; exact this
  obtain ⟨inf, hinf, hsz, hby, z, hzz, hzc⟩ := hie.info
  obtain ⟨hz1, hu1⟩ := zero_len hz
  have hs1 : inf.size = 1 := by omega
  unfold mk at hm
  split at hm
  · rename_i hc
    obtain ⟨hn0, hnm, hmx⟩ := hc
    simp at hm
    subst hm
    have hwn : IntKind.i64.wrap n = n := by
      simp only [IntKind.wrap, IntKind.bits, IntKind.signed]
      simp [Int.bmod]; omega
    have hwm : IntKind.i64.wrap m = m := by
      simp only [IntKind.wrap, IntKind.bits, IntKind.signed]
      simp [Int.bmod]; omega
    have hbytes : (inf.bytes : Int) ≤ 128 := by omega
    have hprod : (inf.bytes : Int) * m ≤ 140737488355328 := by
      have h1 : (inf.bytes : Int) * m ≤ 128 * m := Int.mul_le_mul_of_nonneg_right hbytes (by omega)
      omega
    have hzs : z.cells.size = 1 := by
      have : z.cells.toList.length = 1 := by rw [hzc]; exact hz1
      simpa using this
    obtain ⟨z0, hz0⟩ : ∃ z0, z.cells = #[z0] := by
      have hl : z.cells.toList.length = 1 := by simpa using hzs
      match hcc : z.cells.toList, hl with
      | [z0], _ => exact ⟨z0, by apply Array.ext'; simpa using hcc⟩
    have hzl : ie.zero = [z0] := by rw [← hzc, hz0]
    have hcur : ∀ c : Nat, (Array.range (c * 1)).map (fun i => z.cells[i % z.cells.size]!) = Array.replicate c z0 := by
      intro c
      apply Array.ext
      · simp
      · intro i h1 h2
        simp [hz0, Nat.mod_one]
    have hseq : SeqRep w (dst B.D w ι s.heap) u (List.replicate n.toNat u.zero) (Array.replicate m.toNat z0) 0 := by
      intro i x hx
      have hi := (List.getElem?_eq_some_iff.1 hx).1
      simp at hi
      have hx0 : x = u.zero := by rw [List.getElem?_replicate] at hx; split at hx <;> simp_all
      subst hx0
      refine ⟨[z0], by rw [← hzl]; exact zero_cells hz _, fun j v hv => ?_⟩
      have hj : j = 0 := by have := (List.getElem?_eq_some_iff.1 hv).1; simpa using this
      subst hj
      rw [hu1]
      have him : i < m.toNat := by omega
      simp at hv
      simp [him, hv]
    obtain ⟨hA, hB⟩ := hI.newSeq hfree u (List.replicate n.toNat u.zero) (Array.replicate m.toNat z0) e m.toNat (by simp [hu1]) (by simp; omega) (by simp [maxLen]; omega) hseq
    refine ⟨_, _, _, ?_, hA, hB⟩
    have hnotneg : ¬ (m < 0) := by omega
    have hl1 : ¬ (n < 0) := by omega
    have hl2 : ¬ (m < n) := by omega
    have hbig : ¬ (281474976710656 < (inf.bytes : Int) * m) := by omega
    have hroom : ¬ (roomBytes < m.toNat * inf.bytes) := by
      have : ((m.toNat * inf.bytes : Nat) : Int) = (inf.bytes : Int) * m := by
        rw [Int.natCast_mul, Int.toNat_of_nonneg (by omega), Int.mul_comm]
      have hr : roomBytes = 140737488355328 := by decide
      omega
    by_cases hm0 : m.toNat = 0
    · have hr0 : Array.replicate m.toNat z0 = #[] := by rw [hm0]; rfl
      rw [hr0]
      have hrr : (Array.map (fun _ => (default : Value)) (Array.range 0)) = #[] := by simp
      simp [Instr.makeSlice, Sem.run_bind, run_underlying hun, asInt, asIntOf, typeInfo, hinf, hwn, hwm, hnotneg, hl1, hl2, hbig, askRoom, hroom, sizeOf, hs1, hm0, run_newRow]
      rw [hrr]
    · have hcu := hcur m.toNat
      simp only [Nat.mul_one] at hcu
      simp [Instr.makeSlice, Sem.run_bind, run_underlying hun, asInt, asIntOf, typeInfo, hinf, hwn, hwm, hnotneg, hl1, hl2, hbig, askRoom, hroom, sizeOf, hs1, hm0, zeroValue, hzz, hcu, run_newRow]
  · cases hm

end
end Go.Rv
