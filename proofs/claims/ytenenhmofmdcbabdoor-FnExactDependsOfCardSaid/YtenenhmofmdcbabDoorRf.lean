/-
  Soundness of the abstract run, a part. Conditions: none.
-/
import Derived.Test.YtenenhmofmdcbabDoorRe
set_option linter.unusedSimpArgs false
set_option linter.unusedVariables false
namespace Go.Rv

theorem addr_add (b o j : Nat) : (⟨b, o, none⟩ : Addr).add j = ⟨b, o + j, none⟩ := by
  unfold Addr.add; split <;> simp_all

section
variable {P : Program} {T : TT} {B : Base} {s : St} {tmps : Array Value} {w : World} {ι : Plc}

theorem box_list {S : Nat → Prop} {σ : Nat → Option Sum} {cur : Array Value} : ∀ (cs : List AV) (o : Nat),
    (∀ (j : Nat) (a : AV), cs[j]? = some a → ∃ v, cur[o + j]? = some v ∧ v.oneCell' = true ∧ AVRep w S σ a v) →
    ∃ vs, AVsRep w S σ cs vs ∧ (∀ (j : Nat) (v : Value), vs[j]? = some v → cur[o + j]? = some v) ∧ (∀ v ∈ vs, v.oneCell' = true)
  | [], _, _ => ⟨[], rfl, by simp, by simp⟩
  | a :: r, o, h => by
    obtain ⟨v, hv, h1, hr⟩ := h 0 a rfl
    obtain ⟨vs, h2, h3, h4⟩ := box_list r (o + 1) (fun j b hb => by
      obtain ⟨u, hu, h1', hr'⟩ := h (j + 1) b (by simpa using hb)
      exact ⟨u, by rw [← hu]; congr 1; omega, h1', hr'⟩)
    refine ⟨v :: vs, ⟨v, vs, rfl, hr, h2⟩, fun j u hu => ?_, fun u hu => ?_⟩
    · cases j with
      | zero => simp at hu; subst hu; exact hv
      | succ j => simp at hu; rw [← h3 j u hu]; congr 1; omega
    · rcases List.mem_cons.1 hu with rfl | hu
      · exact h1
      · exact h4 u hu

theorem cells_of_block {b : Nat} {cur : Array Value} {e : TypeId} {fr : Nat × Nat} (hb : w.heap[b]? = some (.cells cur e fr)) (j : Nat) : w.cell? ⟨b, j, none⟩ = cur[j]? := by
  simp [World.cell?, hb]

/-- What is read of cells that bear a list of values. -/
theorem fin_ok {β : Type} {t : TypeId} {ti : TI} (hti : TIOk P t ti) {S : Nat → Prop} {σ : Nat → Option Sum} {as : List AV} {cs : List Value} {b o off : Nat} {K : AV → Option β} {r : β}
    (h : (if isStruct ti.kind then (if off + ti.size ≤ as.length then K (.agg ((as.drop off).take ti.size)) else none) else match as[off]? with | some a => K a | none => none) = some r)
    (hrep : AVsRep w S σ as cs) (hcs : HasCells w b o cs) :
    ∃ a v, K a = some r ∧ AVRep w S σ a v ∧ (loadVar t ⟨b, o + off, none⟩).run P w = .ok v w := by
  have hlen := hrep.length
  simp only [loadVar, Sem.run_bind, run_isAgg hti, Result.andThen_ok]
  split at h
  · rename_i hs
    split at h
    · rename_i hle
      have hl : ((cs.drop off).take ti.size).length = ti.size := by simp; omega
      refine ⟨_, .agg ((cs.drop off).take ti.size).toArray, h, ⟨_, rfl, (hrep.drop off).take ti.size⟩, ?_⟩
      have hload := run_loadCells_list (P := P) w ⟨b, o + off, none⟩ ((cs.drop off).take ti.size) (fun j v hv => by
        rw [addr_add]
        rw [List.getElem?_take] at hv
        split at hv
        · rw [List.getElem?_drop] at hv
          have := hcs _ v hv
          rw [← this]; congr 2; omega
        · cases hv)
      rw [hl] at hload
      simp [hs, Sem.run_bind, run_sizeOf hti, hload]
    · cases h
  · rename_i hs
    split at h
    · rename_i a ha
      obtain ⟨v, hv, hr⟩ := hrep.get _ _ off a ha
      refine ⟨a, v, h, hr, ?_⟩
      have := hcs off v hv
      simp only [hs]
      simp [load, Sem.run, this]
    · cases h

theorem seq_cells {h i : Nat} {u : Ty} {xs : List u.den} {x : u.den} (hH : HRep B.D w ι s.heap) (hr : s.heap[h]? = some (some (.seq u xs))) {b o c : Nat} (hp : ι h = some (b, o, c)) (hx : xs[i]? = some x) :
    ∃ cs, DCells w (dst B.D w ι s.heap) u x cs ∧ HasCells w b (o + i * u.cells) cs := by
  have := hH.rows h _ hr
  rw [hp] at this
  obtain ⟨cur, e, h1, h2, h3, h4, h5⟩ := this
  obtain ⟨cs, hd, hc⟩ := h5 i x hx
  exact ⟨cs, hd, fun j v hv => by rw [cells_of_block h1]; exact hc j v hv⟩

theorem row_eq {h : Nat} {r : Row} (hr : s.row h = some r) : s.heap[h]? = some (some r) := by
  unfold St.row at hr
  split at hr
  · rename_i r' h'; simp at hr; subst hr; exact h'
  · cases hr

theorem aload_ok (hT : TOk P T) (hI : Inv B s tmps w ι) {β : Type} {t : TypeId} {p : AV} {K : AV → Option β} {r : β} (h : aload (optAlg β) T s t p K = some r) {vp : Value}
    (hp : AVRep w (dst B.D w ι s.heap) (sumOf ι s.heap) p vp) :
    ∃ a v, K a = some r ∧ AVRep w (dst B.D w ι s.heap) (sumOf ι s.heap) a v ∧ (Instr.loadAt t vp).run P w = .ok v w := by
  unfold aload at h
  split at h
  · cases h
  · rename_i ti hti
    have hti := hT t ti hti
    simp only [optAlg] at h
    split at h
    · rename_i u x off
      obtain ⟨b, o, cs, rfl, _, _, hd, hc⟩ := hp
      obtain ⟨a, v, h1, h2, h3⟩ := fin_ok hti h (leaves_rep u x cs hd) hc
      exact ⟨a, v, h1, h2, by simp [Instr.loadAt, Instr.sureAddr, Sem.run_bind, h3]⟩
    · rename_i g i off
      obtain ⟨q, b, o, c, hq, hpl, hlt, rfl⟩ := hp
      split at h
      · rename_i u xs hrow
        have hr := row_eq hrow
        cases hx : xs[i]? with
        | none => simp [hx] at h
        | some x =>
          simp only [hx, Option.bind_some] at h
          have hs := sumOf_of (ι := ι) hr
          rw [hq] at hs
          simp at hs
          subst hs
          obtain ⟨cs, hd, hc⟩ := seq_cells hI.hrep hr hpl hx
          obtain ⟨a, v, h1, h2, h3⟩ := fin_ok hti h (leaves_rep u x cs hd) hc
          exact ⟨a, v, h1, h2, by simp only [Row.cells]; simp [Instr.loadAt, Instr.sureAddr, Sem.run_bind, h3]⟩
      · cases h
    · rename_i g off
      obtain ⟨q, b, o, c, hq, hpl, rfl⟩ := hp
      split at h
      · rename_i cs hrow
        have hr := row_eq hrow
        have hs := sumOf_of (ι := ι) hr
        rw [hq] at hs
        simp at hs
        subst hs
        obtain ⟨b', o', c', cur, e, he, hb, hall⟩ := hI.hrep.rows g _ hr
        simp only at hpl
        rw [hpl] at he
        cases he
        obtain ⟨vs, hv1, hv2, _⟩ := box_list cs o hall
        obtain ⟨a, v, h1, h2, h3⟩ := fin_ok hti h hv1 (b := b) (o := o) (fun j v hv => by rw [cells_of_block hb]; exact hv2 j v hv)
        exact ⟨a, v, h1, h2, by simp [Instr.loadAt, Instr.sureAddr, Sem.run_bind, h3]⟩
      · cases h
    · cases h

theorem afieldAddr_ok (hT : TOk P T) {β : Type} {S : Nat → Prop} {σ : Nat → Option Sum} {t : TypeId} {x : AV} {f : Nat} {K : AV → Option β} {r : β} (h : afieldAddr (optAlg β) T t x f K = some r) {vx : Value}
    (hx : AVRep w S σ x vx) : ∃ a v, K a = some r ∧ AVRep w S σ a v ∧ (Instr.fieldAt t vx f).run P w = .ok v w := by
  unfold afieldAddr at h
  split at h
  · rename_i ti hti
    have hti := hT t ti hti
    split at h
    · rename_i fs hfs
      have hk := hti.kind
      rw [hfs] at hk
      obtain ⟨fields, hu, hmap⟩ := hk
      split at h
      · rename_i off ft hf
        have hfield : ∃ fd, fields[f]? = some fd ∧ fd.offset = off ∧ fd.type = ft := by
          rw [← hmap] at hf
          simp only [List.getElem?_map, Array.getElem?_toList, Option.map_eq_some_iff] at hf
          obtain ⟨fd, h1, h2⟩ := hf
          simp at h2
          exact ⟨fd, h1, h2.1, h2.2⟩
        obtain ⟨fd, hfd, rfl, rfl⟩ := hfield
        split at h
        · rename_i fi hfi
          have hfi := hT _ fi hfi
          split at h
          · cases h
          · rename_i hne
            have hplace : ∀ b o, (fieldPlace ⟨b, o, none⟩ fd).run P w = .ok ⟨b, o + fd.offset, none⟩ w := by
              intro b o
              simp only [fieldPlace, Sem.run_bind, run_sizeOf hfi, Result.andThen_ok, hne, if_false]
              simp [addr_add]
            split at h
            · rename_i g o
              obtain ⟨q, b, o', c, hq, hpl, rfl⟩ := hx
              exact ⟨_, .pointer (some ⟨b, o' + (o + fd.offset), none⟩), h, ⟨q, b, o', c, hq, hpl, rfl⟩, by
                simp [Instr.fieldAt, Sem.run_bind, run_underlying hu, hfd, Instr.sureAddr, hplace, Nat.add_assoc]⟩
            · rename_i g i o
              obtain ⟨q, b, o', c, hq, hpl, hlt, rfl⟩ := hx
              exact ⟨_, .pointer (some ⟨b, o' + i * q.cells + (o + fd.offset), none⟩), h, ⟨q, b, o', c, hq, hpl, hlt, rfl⟩, by
                simp [Instr.fieldAt, Sem.run_bind, run_underlying hu, hfd, Instr.sureAddr, hplace, Nat.add_assoc]⟩
            · rename_i u y o
              obtain ⟨b, o', cs, rfl, h1, h2, h3, h4⟩ := hx
              exact ⟨_, .pointer (some ⟨b, o' + (o + fd.offset), none⟩), h, ⟨b, o', cs, rfl, h1, h2, h3, h4⟩, by
                simp [Instr.fieldAt, Sem.run_bind, run_underlying hu, hfd, Instr.sureAddr, hplace, Nat.add_assoc]⟩
            · cases h
        · cases h
      · cases h
    · cases h
  · cases h

theorem afield_ok (hT : TOk P T) {β : Type} {S : Nat → Prop} {σ : Nat → Option Sum} {t : TypeId} {x : AV} {f : Nat} {K : AV → Option β} {r : β} (h : afield (optAlg β) T t x f K = some r) {vx : Value}
    (hx : AVRep w S σ x vx) : ∃ a v, K a = some r ∧ AVRep w S σ a v ∧ (Instr.field t vx f).run P w = .ok v w := by
  unfold afield at h
  split at h
  · rename_i ti cs hti
    have hti := hT t ti hti
    obtain ⟨vs, rfl, hrep⟩ := hx
    have hlen := hrep.length
    split at h
    · rename_i fs hfs
      have hk := hti.kind
      rw [hfs] at hk
      obtain ⟨fields, hu, hmap⟩ := hk
      split at h
      · rename_i off ft hf
        have hfield : ∃ fd, fields[f]? = some fd ∧ fd.offset = off ∧ fd.type = ft := by
          rw [← hmap] at hf
          simp only [List.getElem?_map, Array.getElem?_toList, Option.map_eq_some_iff] at hf
          obtain ⟨fd, h1, h2⟩ := hf
          simp at h2
          exact ⟨fd, h1, h2.1, h2.2⟩
        obtain ⟨fd, hfd, rfl, rfl⟩ := hfield
        split at h
        · rename_i fi hfi
          have hfi := hT _ fi hfi
          split at h
          · rename_i hs
            split at h
            · rename_i hle
              refine ⟨_, .agg ((vs.drop fd.offset).take fi.size).toArray, h, ⟨_, rfl, (hrep.drop _).take _⟩, ?_⟩
              simp [Instr.field, Sem.run_bind, run_underlying hu, hfd, asAgg, part, run_isAgg hfi, hs, run_sizeOf hfi]
            · cases h
          · rename_i hs
            split at h
            · rename_i a ha
              obtain ⟨v, hv, hr⟩ := hrep.get _ _ _ a ha
              refine ⟨a, v, h, hr, ?_⟩
              simp [Instr.field, Sem.run_bind, run_underlying hu, hfd, asAgg, part, run_isAgg hfi, hs, hv]
            · cases h
        · cases h
      · cases h
    · cases h
  · cases h

end
end Go.Rv
