/-
  Soundness of the abstract run, a part. Conditions: none.
-/
import Derived.Test.YtenenhmofmdcbabDoorRj
import Derived.Laws.AppendOwn
set_option linter.unusedSimpArgs false
set_option linter.unusedVariables false
namespace Go.Rv

section
variable {P : Program} {T : TT} {B : Base} {s : St} {tmps : Array Value} {w : World} {ι : Plc}

def SeqL (w : World) (S : Nat → Prop) (u : Ty) (ys : List u.den) (news : List Value) : Prop :=
  ∀ (i : Nat) x, ys[i]? = some x → ∃ c, DCells w S u x c ∧ ∀ j v, c[j]? = some v → news[i * u.cells + j]? = some v

theorem gather {S : Nat → Prop} (u : Ty) (b : Nat) : ∀ (ys : List u.den) (o : Nat), (∀ (i : Nat) x, ys[i]? = some x → ∃ c, DCells w S u x c ∧ HasCells w b (o + i * u.cells) c) →
    ∃ news : List Value, news.length = ys.length * u.cells ∧ HasCells w b o news ∧ (∀ v ∈ news, v.oneCell' = true) ∧ SeqL w S u ys news
  | [], o, _ => ⟨[], by simp, by intro j v h; simp at h, by simp, by intro i x h; simp at h⟩
  | y :: r, o, h => by
    obtain ⟨c, hd, hc⟩ := h 0 y rfl
    simp only [Nat.zero_mul, Nat.add_zero] at hc
    have hl := DCells.length _ _ _ hd
    obtain ⟨news, h1, h2, h3, h4⟩ := gather u b r (o + u.cells) (fun i x hx => by
      obtain ⟨c', hd', hc'⟩ := h (i + 1) x (by simpa using hx)
      refine ⟨c', hd', ?_⟩
      have : o + u.cells + i * u.cells = o + (i + 1) * u.cells := by rw [Nat.add_mul]; omega
      rw [this]; exact hc')
    refine ⟨c ++ news, by simp [hl, h1, Nat.add_mul, Nat.add_comm], fun j v hv => ?_, fun v hv => ?_, fun i x hx => ?_⟩
    · by_cases hj : j < c.length
      · rw [List.getElem?_append_left hj] at hv; exact hc j v hv
      · rw [List.getElem?_append_right (by omega)] at hv
        have := h2 _ v hv
        rw [← this]; congr 2; omega
    · rcases List.mem_append.1 hv with hv | hv
      · exact DCells.one _ _ _ hd v hv
      · exact h3 v hv
    · cases i with
      | zero =>
        simp at hx; subst hx
        refine ⟨c, hd, fun j v hv => ?_⟩
        have := (List.getElem?_eq_some_iff.1 hv).1
        rw [List.getElem?_append_left (by omega)]
        simpa using hv
      | succ i =>
        simp at hx
        obtain ⟨c', hd', hc'⟩ := h4 i x hx
        refine ⟨c', hd', fun j v hv => ?_⟩
        have := hc' j v hv
        rw [List.getElem?_append_right (by rw [hl, Nat.add_mul]; omega), ← this]
        congr 1
        rw [hl, Nat.add_mul]; omega

theorem castD_some {t t' : Ty} {x : t'.den} {y : t.den} (h : castD t t' x = some y) : ∃ e : t' = t, y = e ▸ x := by
  unfold castD at h
  split at h
  · rename_i e; simp at h; exact ⟨e, h.symm⟩
  · cases h

/-- The cells of a slice that is read. -/
theorem elems_rep (hI : Inv B s tmps w ι) {u : Ty} {y : AV} {ys : List u.den} (h : elems s u y = some ys) {vy : Value} (hy : AVRep w (dst B.D w ι s.heap) (sumOf ι s.heap) y vy) :
    ∃ a c, vy = .slice a ys.length c ∧ (ys = [] ∨ ∃ b o, a = some ⟨b, o, none⟩ ∧ ∀ (i : Nat) x, ys[i]? = some x → ∃ c, DCells w (dst B.D w ι s.heap) u x c ∧ HasCells w b (o + i * u.cells) c) := by
  unfold elems at h
  split at h
  · rename_i t' xs
    obtain ⟨e, rfl⟩ := castD_some h
    cases e
    obtain ⟨a, cap, e1, hle, hr⟩ := hy
    simp at e1
    subst e1
    refine ⟨a, cap, rfl, ?_⟩
    rcases hr with hr | ⟨b, o, ha, _, _, hall⟩
    · exact .inl hr
    · exact .inr ⟨b, o, ha, hall⟩
  · simp at h; subst h
    obtain ⟨a, rfl⟩ := hy
    exact ⟨a, 0, rfl, .inl rfl⟩
  · rename_i g
    split at h
    · rename_i t' xs hrow
      have hr := row_eq hrow
      obtain ⟨e, rfl⟩ := castD_some h
      cases e
      obtain ⟨q, hq, hw⟩ := hy
      have hq' := sum_of_row hr hq
      subst hq'
      unfold WinAt at hw
      simp only at hw
      split at hw
      · rename_i b o c hp
        obtain ⟨hle, rfl | ⟨h0, a, rfl⟩⟩ := hw
        · refine ⟨_, _, rfl, .inr ⟨b, o + 0 * u.cells, rfl, fun i x hx => ?_⟩⟩
          obtain ⟨cs, hd, hc⟩ := seq_cells hI.hrep hr hp hx
          exact ⟨cs, hd, by simpa using hc⟩
        · have hz : xs.length = 0 := by omega
          exact ⟨a, 0, by rw [hz], .inl (List.eq_nil_of_length_eq_zero hz)⟩
      · obtain ⟨_, hz, a, rfl⟩ := hw
        exact ⟨a, 0, by rw [hz], .inl (List.eq_nil_of_length_eq_zero hz)⟩
    · cases h
  · rename_i g off len
    split at h
    · rename_i t' xs hrow
      have hr := row_eq hrow
      obtain ⟨e, rfl⟩ := castD_some h
      cases e
      obtain ⟨q, hq, hl, hw⟩ := hy
      have hq' := sum_of_row hr hq
      subst hq'
      simp only at hl
      have hlen : ((xs.drop off).take len).length = len := by simp; omega
      unfold WinAt at hw
      simp only at hw
      split at hw
      · rename_i b o c hp
        obtain ⟨hle, rfl | ⟨h0, a, rfl⟩⟩ := hw
        · refine ⟨_, _, by rw [hlen], .inr ⟨b, o + off * u.cells, rfl, fun i x hx => ?_⟩⟩
          have hx' : xs[off + i]? = some x := by
            rw [List.getElem?_take] at hx
            split at hx
            · rw [List.getElem?_drop] at hx; exact hx
            · cases hx
          obtain ⟨cs, hd, hc⟩ := seq_cells hI.hrep hr hp hx'
          exact ⟨cs, hd, by rw [Nat.add_assoc, ← Nat.add_mul]; exact hc⟩
        · have hz : len = 0 := by omega
          exact ⟨a, 0, by rw [hlen, hz], .inl (List.eq_nil_of_length_eq_zero (hlen.trans hz))⟩
      · obtain ⟨_, hz, a, rfl⟩ := hw
        exact ⟨a, 0, by rw [hlen, hz], .inl (List.eq_nil_of_length_eq_zero (hlen.trans hz))⟩
    · cases h
  · cases h

/-- Room is there: the new elements are written behind the old ones. -/
theorem run_append_in {t ty e : TypeId} {i : TypeInfo} (ht : P.underlying t = some (.slice e)) (hi : P.info? e = some i) {b o L c m cy : Nat} {cur : Array Value} {e' : TypeId} (hg : w.heap[b]? = some (.cells cur e' (0, 0)))
    {vy : Option Addr} {news : List Value} (hf : (Builtin.firstCells i.size m (.slice vy m cy)).run P w = .ok news.toArray w) (h1 : ∀ v ∈ news, v.oneCell' = true) (hroom : L + m ≤ c) (hfit : o + L * i.size + news.length ≤ cur.size) :
    (Builtin.append_ #[t, t] ty #[.slice (some ⟨b, o, none⟩) L c, .slice vy m cy]).run P w =
      .ok (.slice (some ⟨b, o, none⟩) (L + m) c) (w.setRow b (cur.toList.take (o + L * i.size) ++ news ++ cur.toList.drop (o + L * i.size + news.length)).toArray) := by
  have hst := run_storeCells_at P b (o + L * i.size) e' news 0 cur w hg (by simpa using hfit) h1
  simp only [Nat.add_zero] at hst
  simp [Builtin.append_, run_underlying ht, sizeOf, typeInfo, hi, Builtin.lenOf, hroom, hf, addr_add, hst]

theorem run_append_idle {t ty e : TypeId} {i : TypeInfo} (ht : P.underlying t = some (.slice e)) (hi : P.info? e = some i) {a vy : Option Addr} {cy : Nat} :
    (Builtin.append_ #[t, t] ty #[.slice a 0 0, .slice vy 0 cy]).run P w = .ok (.slice a 0 0) w := by
  cases a <;> cases vy <;> simp [Builtin.append_, run_underlying ht, sizeOf, typeInfo, hi, Builtin.lenOf, Builtin.firstCells, loadCells, loadCellsFrom, storeCells]

def AppendEnds (w : World) (S : Nat → Prop) (u : Ty) (zs ys : List u.den) (place : Option (Nat × Nat × Nat)) (v' : Value) (w' : World) (p : Option (Nat × Nat × Nat)) : Prop :=
  (zs = [] ∧ ys = [] ∧ w' = w ∧ p = none ∧ ∃ a, v' = .slice a 0 0) ∨
  (∃ b o c cur e cur', place = some (b, o, c) ∧ p = some (b, o, c) ∧ w.heap[b]? = some (.cells cur e (0, 0)) ∧ w' = w.setRow b cur' ∧ v' = .slice (some ⟨b, o, none⟩) (zs.length + ys.length) c ∧
    zs.length + ys.length ≤ c ∧ cur'.size = o + c * u.cells ∧ SeqRep w S u (zs ++ ys) cur' o) ∨
  (∃ c cur e, p = some (w.heap.size, 0, c) ∧ w' = w.drew.alloc (.cells cur e) ∧ v' = .slice (some ⟨w.heap.size, 0, none⟩) (zs.length + ys.length) c ∧
    zs.length + ys.length ≤ c ∧ c ≤ maxLen ∧ cur.size = c * u.cells ∧ SeqRep w S u (zs ++ ys) cur 0)

theorem SeqL.append {S : Nat → Prop} {u : Ty} {zs ys : List u.den} {a b : List Value} (ha : SeqL w S u zs a) (hb : SeqL w S u ys b) (hl : a.length = zs.length * u.cells) : SeqL w S u (zs ++ ys) (a ++ b) := by
  intro i x hx
  by_cases hi : i < zs.length
  · rw [List.getElem?_append_left hi] at hx
    obtain ⟨c, hd, hc⟩ := ha i x hx
    refine ⟨c, hd, fun j v hv => ?_⟩
    have hj := (List.getElem?_eq_some_iff.1 hv).1
    have hcl := DCells.length _ _ _ hd
    have : (i + 1) * u.cells ≤ zs.length * u.cells := Nat.mul_le_mul_right _ hi
    rw [Nat.add_mul] at this
    rw [List.getElem?_append_left (by omega)]
    exact hc j v hv
  · rw [List.getElem?_append_right (by omega)] at hx
    obtain ⟨c, hd, hc⟩ := hb _ x hx
    refine ⟨c, hd, fun j v hv => ?_⟩
    have := hc j v hv
    have h2 : zs.length * u.cells ≤ i * u.cells := Nat.mul_le_mul_right _ (by omega)
    rw [List.getElem?_append_right (by omega), ← this]
    congr 1
    rw [hl, Nat.mul_comm (i - zs.length), Nat.mul_sub, Nat.mul_comm u.cells i, Nat.mul_comm u.cells]
    omega

theorem append_run (hT : TOk P T) {S : Nat → Prop} {t ty : TypeId} {ie : TI} (he : elemOf T t = some ie) {u : Ty} (hu : u.cells = ie.size) (h0 : 0 < ie.size) (hb : ie.bytes ≤ 128) (hzl0 : ie.zero.length = u.cells)
    {zs ys : List u.den} (hroom : room (zs.length + ys.length) = some ()) {vx vy : Value} {place : Option (Nat × Nat × Nat)}
    (hx : (zs = [] ∧ ∃ a, vx = .slice a 0 0) ∨ (∃ b o c cur e, place = some (b, o, c) ∧ vx = .slice (some ⟨b, o, none⟩) zs.length c ∧ w.heap[b]? = some (.cells cur e (0, 0)) ∧ zs.length ≤ c ∧ c ≤ maxLen ∧ cur.size = o + c * u.cells ∧ SeqRep w S u zs cur o))
    (hy : ∃ a c, vy = .slice a ys.length c ∧ (ys = [] ∨ ∃ b o, a = some ⟨b, o, none⟩ ∧ ∀ (i : Nat) x, ys[i]? = some x → ∃ c, DCells w S u x c ∧ HasCells w b (o + i * u.cells) c)) :
    ∃ v' w' p, (Builtin.append_ #[t, t] ty #[vx, vy]).run P w = .ok v' w' ∧ AppendEnds w S u zs ys place v' w' p := by
  obtain ⟨ti, e, hti, hke, hie⟩ := elemOf_some he
  have hti := hT _ _ hti
  have hie := hT _ _ hie
  have hun : P.underlying t = some (.slice e) := by have := hti.kind; rw [hke] at this; exact this
  obtain ⟨inf, hinf, hsz, hby, z, hzz, hzc⟩ := hie.info
  have hsu : inf.size = u.cells := by omega
  obtain ⟨ay, cy, rfl, hys⟩ := hy
  have hlen : zs.length + ys.length ≤ 1099511627776 := by
    unfold room at hroom
    split at hroom
    · assumption
    · cases hroom
  have hbytes : (zs.length + ys.length) * inf.bytes ≤ 140737488355328 := by
    have : (zs.length + ys.length) * inf.bytes ≤ 1099511627776 * 128 := Nat.mul_le_mul hlen (by omega)
    omega
  -- the source
  obtain ⟨news, hnl, hfirst, hone, hsl⟩ : ∃ news : List Value, news.length = ys.length * u.cells ∧ (∀ w1 : World, w1.heap = w.heap → (Builtin.firstCells inf.size ys.length (.slice ay ys.length cy)).run P w1 = .ok news.toArray w1) ∧
      (∀ v ∈ news, v.oneCell' = true) ∧ SeqL w S u ys news := by
    rcases hys with rfl | ⟨b, o, rfl, hall⟩
    · refine ⟨[], by simp, fun w1 _ => ?_, by simp, by intro i x h; simp at h⟩
      cases ay <;> simp [Builtin.firstCells, loadCells, loadCellsFrom]
    · obtain ⟨news, h1, h2, h3, h4⟩ := gather u b ys o hall
      refine ⟨news, h1, fun w1 hw1 => ?_, h3, h4⟩
      exact run_firstCells_some w1 inf.size ys.length ⟨b, o, none⟩ ys.length cy news (by rw [h1, hsu]) (fun j v hv => by
        rw [addr_add]
        have := h2 j v hv
        simp only [World.cell?] at this ⊢
        rw [hw1]; exact this)
  -- the new block, if one is made
  have grow : ∀ (b : Addr) (c : Nat) (olds : List Value), olds.length = zs.length * u.cells → (∀ j v, olds[j]? = some v → w.cell? (b.add j) = some v) → SeqL w S u zs olds → c < zs.length + ys.length →
      ∃ v' w' p, (Builtin.append_ #[t, t] ty #[.slice (some b) zs.length c, .slice ay ys.length cy]).run P w = .ok v' w' ∧ AppendEnds w S u zs ys place v' w' p := by
    intro b c olds hol hoc hos hlt
    have hys0 : ys.length ≠ 0 ∨ ay = none ∨ ∃ a, ay = some a := by cases ay <;> simp
    have hn : ¬ (zs.length + ys.length ≤ c) := by omega
    have h63 : ¬ (9223372036854775807 < ((zs.length : Int) + (ys.length : Int))) := by omega
    have h48 : ¬ (281474976710656 < Builtin.nextslicecap (zs.length + ys.length) c * inf.bytes) := by
      have := growslice_fits (old := c) (by omega) hbytes; omega
    have hf := hfirst w.drew rfl
    have hfo := run_firstCells_some (P := P) w.drew inf.size zs.length b zs.length c olds (by rw [hol, hsu]) (by simpa using hoc)
    have hge := grownCap_ge w (zs.length + ys.length) c e
    have hcm := grownCap_le_maxLen w (zs.length + ys.length) c e (by simp only [maxLen]; omega)
    refine ⟨_, _, some (w.heap.size, 0, grownCap w (zs.length + ys.length) c e), ?_, .inr (.inr ⟨grownCap w (zs.length + ys.length) c e, olds.toArray ++ news.toArray ++ Builtin.zeroCells z.cells (grownCap w (zs.length + ys.length) c e - (zs.length + ys.length)), e, rfl, rfl, rfl, hge, hcm, ?_, ?_⟩)⟩
    · simp [Builtin.append_, run_underlying hun, sizeOf, typeInfo, zeroValue, hinf, hzz, Builtin.lenOf, hn, h63, h48, Question.forced, hf, hfo, newRow, grownCap]
      congr 2
      apply Array.ext'
      simp [List.append_assoc]
    · have hzl : z.cells.size = u.cells := by rw [← hzl0, ← hzc]; simp
      simp only [Array.size_append, List.size_toArray, size_zeroCells, hzl, hol, hnl, ← Nat.add_mul]
      congr 1
      omega
    · intro i x hx
      obtain ⟨cs, hd, hc⟩ := (hos.append hsl hol) i x hx
      refine ⟨cs, hd, fun j v hv => ?_⟩
      have := hc j v hv
      have hlt := (List.getElem?_eq_some_iff.1 this).1
      simp only [Nat.zero_add]
      rw [Array.getElem?_append_left (by simp at hlt ⊢; omega)]
      simpa using this
  rcases hx with ⟨rfl, a, rfl⟩ | ⟨b, o, c, cur, e', rfl, rfl, hblk, hzc, hcm, hcs, hseq⟩
  · by_cases hy0 : ys.length = 0
    · have : ys = [] := List.eq_nil_of_length_eq_zero hy0
      subst this
      exact ⟨_, _, none, run_append_idle hun hinf, .inl ⟨rfl, rfl, rfl, rfl, a, rfl⟩⟩
    · cases a with
      | some b => exact grow b 0 [] (by simp) (by simp) (by intro i x h; simp at h) (by simp; omega)
      | none =>
        rcases hys with rfl | ⟨b, o, rfl, hall⟩
        · simp at hy0
        · have hge := grownCap_ge w ys.length 0 e
          have hcm := grownCap_le_maxLen w ys.length 0 e (by simp only [maxLen]; simp at hlen; omega)
          have hf := hfirst w.drew rfl
          have hn : ys.length ≠ 0 := hy0
          have h63' : ¬ (9223372036854775807 < (ys.length : Int)) := by simp at hlen; omega
          have h48' : ¬ (281474976710656 < Builtin.nextslicecap ys.length 0 * inf.bytes) := by
            rw [nextslicecap_zero (by omega)]; simp at hbytes; omega
          refine ⟨_, _, some (w.heap.size, 0, grownCap w ys.length 0 e), ?_, .inr (.inr ⟨grownCap w ys.length 0 e, news.toArray ++ Builtin.zeroCells z.cells (grownCap w ys.length 0 e - ys.length), e, rfl, rfl, by simp; rfl, by simpa using hge, hcm, ?_, ?_⟩)⟩
          · simp [Builtin.append_, run_underlying hun, sizeOf, typeInfo, zeroValue, hinf, hzz, Builtin.lenOf, hn, h63', h48', Question.forced, run_firstCells_none, hf, newRow, grownCap]
          · have hzl : z.cells.size = u.cells := by rw [← hzl0, ← hzc]; simp
            simp only [Array.size_append, List.size_toArray, size_zeroCells, hzl, hnl, ← Nat.add_mul]
            congr 1
            omega
          · intro i x hx
            simp only [List.nil_append] at hx
            obtain ⟨cs, hd, hc⟩ := hsl i x hx
            refine ⟨cs, hd, fun j v hv => ?_⟩
            have := hc j v hv
            have hlt := (List.getElem?_eq_some_iff.1 this).1
            simp only [Nat.zero_add]
            rw [Array.getElem?_append_left (by simpa using hlt)]
            simpa using this
  · by_cases hfit : zs.length + ys.length ≤ c
    · have hfl : o + zs.length * inf.size + news.length ≤ cur.size := by
        rw [hnl, hsu, hcs, Nat.add_assoc, ← Nat.add_mul]
        exact Nat.add_le_add_left (Nat.mul_le_mul_right _ hfit) _
      have hrun := run_append_in (ty := ty) hun hinf (b := b) (o := o) (L := zs.length) (c := c) (m := ys.length) (cy := cy) hblk (hfirst w rfl) hone hfit hfl
      refine ⟨_, _, some (b, o, c), hrun, .inr (.inl ⟨b, o, c, cur, e', _, rfl, rfl, hblk, rfl, rfl, hfit, ?_, ?_⟩)⟩
      · simp; omega
      · rw [hsu]
        have hget : ∀ m, (cur.toList.take (o + zs.length * u.cells) ++ news ++ cur.toList.drop (o + zs.length * u.cells + news.length)).toArray[m]? = if o + zs.length * u.cells ≤ m ∧ m < o + zs.length * u.cells + news.length then news[m - (o + zs.length * u.cells)]? else cur[m]? := by
          intro m
          have := splice_get cur.toList (o + zs.length * u.cells) news (by rw [hsu] at hfl; simpa using hfl) m
          rw [List.getElem?_toArray, this]
          simp
        intro i x hx
        by_cases hi : i < zs.length
        · rw [List.getElem?_append_left hi] at hx
          obtain ⟨cs, hd, hc⟩ := hseq i x hx
          refine ⟨cs, hd, fun j v hv => ?_⟩
          have hj := (List.getElem?_eq_some_iff.1 hv).1
          have hcl := DCells.length _ _ _ hd
          have : (i + 1) * u.cells ≤ zs.length * u.cells := Nat.mul_le_mul_right _ hi
          rw [Nat.add_mul] at this
          rw [hget, if_neg (by omega)]
          exact hc j v hv
        · rw [List.getElem?_append_right (by omega)] at hx
          obtain ⟨cs, hd, hc⟩ := hsl _ x hx
          refine ⟨cs, hd, fun j v hv => ?_⟩
          have := hc j v hv
          have hj := (List.getElem?_eq_some_iff.1 this).1
          have h2 : zs.length * u.cells ≤ i * u.cells := Nat.mul_le_mul_right _ (by omega)
          have h3 : (i - zs.length) * u.cells = i * u.cells - zs.length * u.cells := by rw [Nat.mul_comm (i - zs.length), Nat.mul_sub, Nat.mul_comm u.cells i, Nat.mul_comm u.cells]
          rw [h3] at hj this
          rw [hget, if_pos (by omega), ← this]
          congr 1
          omega
    · have hall : ∀ (i : Nat) x, zs[i]? = some x → ∃ c, DCells w S u x c ∧ HasCells w b (o + i * u.cells) c := fun i x hx => by
        obtain ⟨cs, hd, hc⟩ := hseq i x hx
        exact ⟨cs, hd, fun j v hv => by rw [cells_of_block hblk]; exact hc j v hv⟩
      obtain ⟨olds, h1, h2, h3, h4⟩ := gather u b zs o hall
      exact grow ⟨b, o, none⟩ c olds h1 (fun j v hv => by rw [addr_add]; exact h2 j v hv) h4 (by omega)

end
end Go.Rv
