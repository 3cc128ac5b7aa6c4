/-
  From a sound function to a law. Conditions: none.
-/
import Derived.Test.YtenenhmofmdcbabDoorRs
set_option linter.unusedSimpArgs false
set_option linter.unusedVariables false
namespace Go.Rv
open Go.RowKit

theorem grown_of {w w' : World} (h : Kept (stab w (fun _ => none) []) w w') : Grown w w' := by
  refine ⟨⟨h.os, h.output, fun i hi => ?_⟩, h.frz, h.size⟩
  have e : w'.heap[i]? = w.heap[i]? := h.block i ⟨hi, fun h' r p hr => by simp at hr⟩
  rw [e]
  cases hx : w.heap[i]? with
  | none => trivial
  | some o => cases o <;> simp

/-- A law's call, by what its native says. -/
theorem law_calls {P : Program} {f : FuncId} {F : Fun} (hS : Sound P f F) {avs : List AV} (hF : (F avs []).run = some (.dat .bool true, [])) {w : World} {args : List Value} (hg : GlobsOk w (dst (fun _ => True) w (fun _ => none) []))
    (ha : AVsRep w (dst (fun _ => True) w (fun _ => none) []) (sumOf (fun _ => none) []) avs args) : Calls P f args.toArray w fun e w' => e = .returned (.bool true) ∧ Grown w w' := by
  have h := hS avs [] _ _ hF (fun _ => True) w args (fun _ => none) (fun _ _ => trivial) ⟨fun h r hr => by simp at hr, fun h h' r r' p p' hr => by simp at hr, fun h r p hr => by simp at hr⟩ hg (fun h hh => by simp at hh) ha
  refine h.mono fun e w' ⟨v, ι', he, hk, _, _, _, hr⟩ => ⟨?_, grown_of hk⟩
  subst he
  have hv : v = .bool true := by simpa [AVRep, DCells] using hr
  rw [hv]

end Go.Rv
