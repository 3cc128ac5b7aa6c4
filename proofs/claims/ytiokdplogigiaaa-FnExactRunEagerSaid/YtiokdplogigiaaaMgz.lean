/-
  Draws of chapter 7: moves of the eager machine. Conditions: none.
-/
import Derived.Test.YtiokdplogigiaaaMgy
import Derived.Test.YtiokdplogigiaaaMgs
import Derived.Test.YtiokdplogigiaaaMcd
set_option linter.unusedVariables false
set_option linter.unusedSimpArgs false
namespace Go.Rv

theorem eager_move {n i m : Nat} {st : List Nat} {h : List Int} (E : EInv n (i, st, h)) (n8 : n ≤ 8) {B bs : ByteArray} (hB : bidx B 0 = some (m : Int)) (hs : B.size = 1) (hb : bs.size ≤ 100) (q : Int) :
    ∃ (i' : Nat) (st' : List Nat) (h' : List Int) (bs' : ByteArray), ((bidx B 0).bind fun (v : Int) => (spec_l7Step (convS st) (i : Int) v (negH h)).bind fun (r : (List Int) × Int × Bool × (List Int)) => cond (r.2.2.1) ((cat bs B).bind fun (t : ByteArray) => some ((r.1), t, (r.2.1), q, (r.2.2.2))) (some (convS st, bs, (i : Int), q, (r.2.2.2)))) = some (convS st', bs', (i' : Int), q, negH h') ∧ EInv n (i', st', h') ∧ bs'.size ≤ bs.size + 1 := by
  rw [hB]
  simp only [Option.bind_some, e7_step E n8]
  cases e : stepE n m (i, st, h) with
  | none => exact ⟨i, st, h, bs, rfl, E, by omega⟩
  | some d =>
    obtain ⟨i', st', h'⟩ := d
    simp only
    rw [cat_ok (by omega)]
    exact ⟨i', st', h', bs ++ B, rfl, (estep_ok E e).1, by rw [size_app, hs]; omega⟩

/-- Which letter is drawn. -/
def letB (B : ByteArray) : Prop := ∃ m : Nat, bidx B 0 = some (m : Int) ∧ B.size = 1
theorem let83 : letB (ByteArray.mk #[83]) := ⟨83, rfl, rfl⟩
theorem let76 : letB (ByteArray.mk #[76]) := ⟨76, rfl, rfl⟩
theorem let82 : letB (ByteArray.mk #[82]) := ⟨82, rfl, rfl⟩
theorem let68 : letB (ByteArray.mk #[68]) := ⟨68, rfl, rfl⟩

/-- The moves for a tree are few. -/
theorem goE_few {H : List Int} (T : Tree H) {ms st : List Nat} {k : Nat} (e : goE H k (1, [], List.replicate H.length 0) = some (ms, (H.length + 1, st, H))) : ms.length + 1 ≤ 2 * H.length ∧ arcsE ms = H.length - 1 ∧ putsE ms = H.length := by
  have f := erun_flat T.pos T.le (goE_run e) T.one
  exact ⟨f.2.2.2.2.2, f.2.2.2.1, f.2.2.2.2.1⟩

end Go.Rv
