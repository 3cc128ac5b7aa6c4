/-
  A whole function is sound. Conditions: none.
-/
import Derived.Test.YtenenhmofmdcbabDoorRq
set_option linter.unusedSimpArgs false
set_option linter.unusedVariables false
namespace Go.Rv

def retVals (T : TT) (s : St) : List ResultVar → Option (List AV)
  | [] => some []
  | .tmp t :: r => match s.env[t]?, retVals T s r with
    | some a, some l => some (a :: l)
    | _, _ => none
  | .cell p t :: r => match s.env[p]?, retVals T s r with
    | some a, some l => match a with
      | .ptr h o => match aload (optAlg AV) T s t (.ptr h o) some with
        | some x => some (x :: l)
        | none => none
      | _ => none
    | _, _ => none

def retAV (l : List AV) : AV :=
  match l with
  | [x] => x
  | l => .tup l

/-- What is left at the end of a call. -/
def Ret (T : TT) (rvs : List ResultVar) (r : AV) (H : Heap) (e : Exit) (s : St) : Prop :=
  (match e with | .ret => True | .normal => True | _ => False) ∧ (∃ l, retVals T s rvs = some l ∧ retAV l = r) ∧ s.heap = H

section
variable {P : Program} {B : Base} {T : TT}

def resVal (tmps : Array Value) : ResultVar → Sem Value
  | .tmp t => pure (tmps.getD t undef)
  | .cell a t => do loadVar t (← asAddr (tmps.getD a undef))

theorem results_eq (fn : Func) (tmps : Array Value) : results fn tmps = (do let vs ← fn.results.mapM (resVal tmps); pure (if h : vs.size = 1 then vs[0] else .tuple vs)) := by
  unfold results
  congr 1

theorem retVals_ok (hT : TOk P T) {s : St} {tmps : Array Value} {w : World} {ι : Plc} (hI : Inv B s tmps w ι) : ∀ (rvs : List ResultVar) (l : List AV), retVals T s rvs = some l →
    ∃ vs : List Value, (rvs.mapM (resVal tmps)).run P w = .ok vs w ∧ AVsRep w (dst B.D w ι s.heap) (sumOf ι s.heap) l vs
  | [], l, h => by simp [retVals] at h; subst h; exact ⟨[], by simp, rfl⟩
  | .tmp t :: r, l, h => by
    simp only [retVals] at h
    split at h
    · rename_i a l' ha hl'
      simp only [Option.some.injEq] at h
      subst h
      obtain ⟨vs, h1, h2⟩ := retVals_ok hT hI r l' hl'
      obtain ⟨v, hv, hr⟩ := hI.env t a ha
      have e : tmps.getD t undef = v := by simp [Array.getD_eq_getD_getElem?, hv]
      refine ⟨v :: vs, ?_, v, vs, rfl, hr, h2⟩
      rw [List.mapM_cons]
      simp only [resVal, Sem.run_bind, Sem.run_pure, Result.andThen_ok, h1, e]
    · cases h
  | .cell p t :: r, l, h => by
    simp only [retVals] at h
    split at h
    · rename_i a l' ha hl'
      split at h
      · rename_i g o
        split at h
        · rename_i x hx
          simp only [Option.some.injEq] at h
          subst h
          obtain ⟨vs, h1, h2⟩ := retVals_ok hT hI r l' hl'
          obtain ⟨v, hv, hr⟩ := hI.env p _ ha
          have e : tmps.getD p undef = v := by simp [Array.getD_eq_getD_getElem?, hv]
          obtain ⟨y, u, h3, h4, h5⟩ := aload_ok hT hI hx hr
          simp only [Option.some.injEq] at h3
          subst h3
          obtain ⟨q, b, off, c, hq, hp, rfl⟩ := hr
          refine ⟨u :: vs, ?_, u, vs, rfl, h4, h2⟩
          have h5' : (loadVar t ⟨b, off + o, none⟩).run P w = .ok u w := by simpa [Instr.loadAt, Instr.sureAddr, Sem.run_bind] using h5
          rw [List.mapM_cons]
          simp only [resVal, Sem.run_bind, Sem.run_pure, Result.andThen_ok, h1, e, asAddr, h5']
        · cases h
      · cases h
    · cases h

theorem results_ok (hT : TOk P T) {fn : Func} {s : St} {tmps : Array Value} {w : World} {ι : Plc} (hI : Inv B s tmps w ι) {l : List AV} (h : retVals T s fn.results.toList = some l) :
    ∃ v, (results fn tmps).run P w = .ok v w ∧ AVRep w (dst B.D w ι s.heap) (sumOf ι s.heap) (retAV l) v := by
  obtain ⟨vs, h1, h2⟩ := retVals_ok hT hI _ l h
  have hlen := h2.length
  have hm : (fn.results.mapM (resVal tmps)).run P w = .ok vs.toArray w := by
    rw [Array.mapM_eq_mapM_toList]
    rw [← bind_pure_comp]
    rw [Sem.run_bind, h1]
    simp
  refine ⟨if h : vs.toArray.size = 1 then vs.toArray[0] else .tuple vs.toArray, ?_, ?_⟩
  · rw [results_eq, Sem.run_bind, hm]
    simp
  · unfold retAV
    split
    · rename_i x
      obtain ⟨v, vr, rfl, h3, h4⟩ := h2
      have e : vr = [] := h4
      subst e
      simpa using h3
    · rename_i hne
      have : ¬ vs.toArray.size = 1 := fun h1 => by
        have hl1 : l.length = 1 := by simp at h1; omega
        match l, hl1 with
        | [x], _ => exact hne x rfl
      rw [dif_neg this]
      exact ⟨vs, rfl, h2⟩

/-- The state at the beginning of a call. -/
def start (n : Nat) (avs : List AV) (H : Heap) : St := ⟨avs ++ List.replicate (n - avs.length) .undef, H⟩

theorem fn_sound {C : Ctx} (hC : COk P C) {f : FuncId} {fn : Func} {c : Code} (hf : P.funcs[f]? = some fn) (hb : fn.body = some c) {F : Fun} (L : Nat) (an : List AV → Heap → Ann)
    (h : ∀ avs H r H', (F avs H).run = some (r, H') → awp { C with k := H.length } L c (an avs H) (start fn.ntmps avs H) (Ret C.T fn.results.toList r H')) : Sound P f F := by
  intro avs H r H' hF D w args ι hnew hH hglob hpres hargs
  let B : Base := { w0 := w, S0 := stab w ι H, D := D, σ0 := sumOf ι H, k := H.length, new := hnew }
  have hlen := hargs.length
  have hI : Inv B (start fn.ntmps avs H) (args.toArray ++ Array.replicate (fn.ntmps - args.toArray.size) undef) w ι := by
    refine ⟨Kept.refl _ _, hH, fun b hb => hb, fun g hg => ⟨rfl, hpres g hg⟩, fun i a ha => ?_, hglob⟩
    simp only [start] at ha
    by_cases hi : i < avs.length
    · rw [List.getElem?_append_left hi] at ha
      obtain ⟨v, hv, hr⟩ := hargs.get _ _ i a ha
      exact ⟨v, by rw [Array.getElem?_append_left (by simp; omega)]; simpa using hv, hr⟩
    · rw [List.getElem?_append_right (by omega)] at ha
      rw [List.getElem?_replicate] at ha
      split at ha
      · rename_i hlt
        cases ha
        refine ⟨undef, ?_, trivial⟩
        rw [Array.getElem?_append_right (by simp; omega)]
        simp only [List.size_toArray, Array.getElem?_replicate]
        rw [if_pos (by omega)]
      · cases ha
  refine calls_of_wp hf hb ?_
  have hC' : COk P { C with k := H.length } := ⟨hC.types, hC.orc, hC.call, hC.mixed⟩
  refine wp_mono (awp_sound (B := B) hC' rfl L c _ _ _ _ w (h avs H r H' hF) ⟨rfl, ι, hI⟩) fun e a' w' hq => ?_
  obtain ⟨s', ⟨he, ⟨l, hl, hlr⟩, hH'⟩, hd, ι', hI'⟩ := hq
  obtain ⟨v, hv, hr⟩ := results_ok hC.types hI' hl
  have hpost : ∃ v ι', Ending.returned v = .returned v ∧ Kept (stab w ι H) w w' ∧ HRep D w' ι' H' ∧ (∀ b, stab w ι H b → stab w' ι' H' b) ∧ (∀ h, h < H.length → sumOf ι' H' h = sumOf ι H h) ∧ AVRep w' (dst D w' ι' H') (sumOf ι' H') r v := by
    subst hH' hlr
    exact ⟨v, ι', rfl, hI'.kept, hI'.hrep, hI'.stay, fun g hg => (hI'.io g hg).1, hr⟩
  obtain ⟨v', ι2, _, hrest⟩ := hpost
  have hfinal : a'.defers = [] ∧ ∃ v, (results fn a'.tmps).run P w' = .ok v w' ∧ (∃ u ι', Ending.returned v = .returned u ∧ Kept (stab w ι H) w w' ∧ HRep D w' ι' H' ∧ (∀ b, stab w ι H b → stab w' ι' H' b) ∧
      (∀ h, h < H.length → sumOf ι' H' h = sumOf ι H h) ∧ AVRep w' (dst D w' ι' H') (sumOf ι' H') r u) := by
    subst hH' hlr
    exact ⟨hd, v, hv, v, ι', rfl, hI'.kept, hI'.hrep, hI'.stay, fun g hg => (hI'.io g hg).1, hr⟩
  cases e with
  | normal => exact hfinal
  | ret => exact hfinal
  | _ => exact he.elim

end
end Go.Rv
