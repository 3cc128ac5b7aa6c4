/-
  Soundness of the abstract run, a part. Conditions: none.
-/
import Derived.Test.YtenenhmofmdcbabDoorRn
set_option linter.unusedSimpArgs false
set_option linter.unusedVariables false
namespace Go.Rv

section
variable {P : Program} {B : Base} {s : St} {a : Act} {w : World} {ι : Plc} {C : Ctx}

theorem finish_value {o : Oper} {Q : Exit → Act → World → Prop} {v : Value} {w' : World} {s2 : St} {ι' : Plc} {x : AV} (hd : a.defers = []) (hrun : (execOp a.eval o).run P w = .ok (.value v) w')
    (hI : Inv B s2 a.tmps w' ι') (hv : AVRep w' (dst B.D w' ι' s2.heap) (sumOf ι' s2.heap) x v) : o.wp P a w (fun a' w' => Rep B (s2.put o.dst x) a' w') Q := by
  unfold Oper.wp
  rw [hrun, Oper.upon_value]
  exact ⟨by cases o.dst <;> exact hd, ι', hI.put o.dst hv a.defers⟩

theorem finish_skip {o : Oper} {Q : Exit → Act → World → Prop} {w' : World} {s2 : St} {ι' : Plc} (hd : a.defers = []) (hrun : (execOp a.eval o).run P w = .ok .skip w')
    (hI : Inv B s2 a.tmps w' ι') : o.wp P a w (fun a' w' => Rep B (s2.put o.dst .undef) a' w') Q := by
  unfold Oper.wp
  rw [hrun, Oper.upon_skip]
  exact ⟨by cases o.dst <;> exact hd, ι', hI.put o.dst (a := .undef) (v := undef) trivial a.defers⟩

theorem lift_opt {α β : Type} {x : Option α} {k : α → Option β} {r : β} (h : lift (optAlg β) x k = some r) : ∃ a, x = some a ∧ k a = some r := by
  cases x with
  | none => cases h
  | some a => exact ⟨a, rfl, h⟩

theorem act_eta : (⟨a.tmps, a.defers⟩ : Act) = a := rfl

theorem foldInt_ok {S : Nat → Prop} {σ : Nat → Option Sum} {f : Int → Int → Int} {g : Value → Value → Sem Value} {k : IntKind} (hg : ∀ n m, g (.int k n) (.int k m) = pure (.int k (f n m))) :
    ∀ (l : List AV) (n m : Int) (vs : List Value), foldInt f k n l = some m → AVsRep w S σ l vs → (vs.foldlM g (.int k n)).run P w = .ok (.int k m) w
  | [], n, m, vs, h, hv => by
    simp [foldInt] at h; subst h
    have e : vs = [] := hv
    subst e
    simp
  | x :: r, n, m, vs, h, hv => by
    obtain ⟨v, vr, rfl, h1, h2⟩ := hv
    cases x with
    | dat t y =>
      cases t with
      | int k' =>
        simp only [foldInt] at h
        split at h
        · rename_i hk
          subst hk
          have e := dat_int h1
          subst e
          simp only [List.foldlM_cons, hg]
          simp only [Sem.run_bind, Sem.run_pure, Result.andThen_ok]
          exact foldInt_ok hg r _ m vr h h2
        · cases h
      | _ => simp [foldInt] at h
    | _ => simp [foldInt] at h

theorem zero_box {S : Nat → Prop} {σ : Nat → Option Sum} : ∀ (vs : List Value), AVsRep w S σ (vs.map constAV) vs
  | [] => rfl
  | v :: r => ⟨v, r, rfl, constAV_rep v, zero_box r⟩

theorem evalOp_ok (hI : Inv B s a.tmps w ι) {x : Option Operand} {l : Option AV} (h : evalOp s x = some l) :
    (∀ b, l = some b → ∃ v, x.map a.eval = some v ∧ AVRep w (dst B.D w ι s.heap) (sumOf ι s.heap) b v) ∧ (l = none → x.map a.eval = none) := by
  cases x with
  | none => simp [evalOp] at h; subst h; simp
  | some y =>
    simp only [evalOp] at h
    split at h
    · rename_i b hb
      simp at h; subst h
      exact ⟨fun b' e => by cases e; exact ⟨_, rfl, evalO_rep hI hb a.defers⟩, by simp⟩
    · cases h

theorem abuild_ok {T : TT} (hT : TOk P T) {S : Nat → Prop} {σ : Nat → Option Sum} {fs : List (Nat × TypeId)} {fields : Array Field} (hmap : fields.toList.map (fun x => (x.offset, x.type)) = fs)
    {places : Array (Nat × Nat)} (hpl : ∀ (i : Nat) off ft fi, fs[i]? = some (off, ft) → T ft = some fi → places[i]? = some (off, fi.size)) :
    ∀ (l : List (Nat × AV)) (cs out : List AV) (vs : List (Nat × Value)) (cells : Array Value), abuildCells T fs l cs = some out → vs.length = l.length →
      (∀ (j : Nat) (x : Nat × AV), l[j]? = some x → ∃ v, vs[j]? = some (x.1, v) ∧ AVRep w S σ x.2 v) → AVsRep w S σ cs cells.toList →
      ∃ res : Array Value, Instr.fill (places[·]?) cells vs = some res ∧ AVsRep w S σ out res.toList
  | [], cs, out, vs, cells, h, hl, _, hc => by
    simp [abuildCells] at h; subst h
    have : vs = [] := List.eq_nil_of_length_eq_zero (by simpa using hl)
    subst this
    exact ⟨cells, rfl, hc⟩
  | (f, b) :: r, cs, out, vs, cells, h, hl, hr, hc => by
    cases vs with
    | nil => simp at hl
    | cons y vr =>
      obtain ⟨v, hv, hrep⟩ := hr 0 (f, b) rfl
      simp at hv
      subst hv
      have hrest : ∀ (j : Nat) (x : Nat × AV), r[j]? = some x → ∃ v, vr[j]? = some (x.1, v) ∧ AVRep w S σ x.2 v := fun j x hx => by simpa using hr (j + 1) x (by simpa using hx)
      have hlen : cells.size = cs.length := by have := hc.length; simpa using this
      simp only [abuildCells] at h
      split at h
      · rename_i off ft hf
        split at h
        · rename_i fi hfi
          have hp := hpl f off ft fi hf hfi
          split at h
          · rename_i new
            split at h
            · rename_i hcond
              simp only [Bool.and_eq_true, beq_iff_eq, decide_eq_true_eq] at hcond
              obtain ⟨⟨_, h1⟩, h2⟩ := hcond
              obtain ⟨us, rfl, hus⟩ := hrep
              have hul := hus.length
              have hstep : ∃ c2 : Array Value, (us.toArray.zipIdx.foldl (fun cs (x : Value × Nat) => cs.setIfInBounds (off + x.2) x.1) cells) = c2 ∧ AVsRep w S σ (overwrite cs off new) c2.toList := by
                refine ⟨_, rfl, ?_⟩
                have key : ∀ (us : List Value) (new : List AV) (k : Nat) (cells : Array Value) (cs : List AV), AVsRep w S σ new us → AVsRep w S σ cs cells.toList → k + new.length ≤ cs.length →
                    AVsRep w S σ (cs.take k ++ new ++ cs.drop (k + new.length)) ((us.zipIdx (k - off)).foldl (fun cs (x : Value × Nat) => cs.setIfInBounds (off + x.2) x.1) cells).toList ∨ k < off := by
                  intro us
                  induction us with
                  | nil =>
                    intro new k cells cs hn hc hk
                    have : new = [] := by
                      cases new with
                      | nil => rfl
                      | cons a r => obtain ⟨_, _, e, _⟩ := hn; cases e
                    subst this
                    left
                    simpa using hc
                  | cons u ur ih =>
                    intro new k cells cs hn hc hk
                    cases new with
                    | nil => have e : u :: ur = [] := hn; cases e
                    | cons x xr =>
                      obtain ⟨v, vr, e, h1, h2⟩ := hn
                      cases e
                      by_cases hko : k < off
                      · exact .inr hko
                      · left
                        simp only [List.length_cons] at hk
                        have hc' : AVsRep w S σ (cs.set k x) (cells.setIfInBounds k u).toList := by
                          rw [Array.toList_setIfInBounds]; exact hc.set k h1
                        have := (ih xr (k + 1) (cells.setIfInBounds k u) (cs.set k x) h2 hc' (by simp; omega)).resolve_right (by omega)
                        have e1 : (cs.set k x).take (k + 1) ++ xr ++ (cs.set k x).drop (k + 1 + xr.length) = cs.take k ++ (x :: xr) ++ cs.drop (k + (xr.length + 1)) := by
                          rw [List.take_set, List.drop_set_of_lt (by omega)]
                          have hkl : k < cs.length := by omega
                          have : (List.take (k + 1) cs).set k x = cs.take k ++ [x] := by
                            rw [List.take_add_one, List.getElem?_eq_getElem hkl]
                            have hl : (List.take k cs).length = k := by simp; omega
                            rw [List.set_append_right _ _ (by omega), hl]
                            simp
                          rw [this]
                          simp [Nat.add_assoc, Nat.add_comm 1]
                        rw [e1] at this
                        simp only [List.zipIdx_cons, List.foldl_cons, List.length_cons]
                        have e2 : off + (k - off) = k := by omega
                        have e3 : k - off + 1 = k + 1 - off := by omega
                        rw [e2, e3]
                        exact this
                have := (key us new off cells cs hus hc h2).resolve_right (by omega)
                rw [← Array.foldl_toList]
                simpa [overwrite] using this
              obtain ⟨c2, he, hc2⟩ := hstep
              obtain ⟨res, h3, h4⟩ := abuild_ok hT hmap hpl r _ out vr c2 h (by simpa using hl) hrest hc2
              refine ⟨res, ?_, h4⟩
              have hsz : (Value.agg us.toArray).cells.size = us.length := by simp [Value.cells]
              have hcell : (Value.agg us.toArray).cells = us.toArray := rfl
              simp only [Instr.fill, hp]
              have hcn : ¬ ((decide ((Value.agg us.toArray).cells.size ≠ fi.size) || decide (off + (Value.agg us.toArray).cells.size > cells.size)) = true) := by
                rw [hsz]
                simp
                omega
              rw [if_neg hcn, hcell, he]
              exact h3
            · cases h
          · rename_i b hb
            split at h
            · rename_i hcond
              simp only [Bool.and_eq_true, beq_iff_eq, decide_eq_true_eq] at hcond
              obtain ⟨⟨⟨_, h1⟩, h2⟩, h3⟩ := hcond
              have hone := oneCell_cells (single_one h2 hrep)
              obtain ⟨res, h4, h5⟩ := abuild_ok hT hmap hpl r _ out vr (cells.setIfInBounds off v) h (by simpa using hl) hrest (by
                rw [Array.toList_setIfInBounds]; exact hc.set off hrep)
              refine ⟨res, ?_, h5⟩
              simp only [Instr.fill, hp, hone]
              rw [if_neg (by simp; omega)]
              simpa using h4
            · cases h
        · cases h
      · cases h

end
end Go.Rv
