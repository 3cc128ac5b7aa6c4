/-
  What is drawn: trees. Conditions: none.
-/
import Derived.Test.YtiokdplogigiaaaMm
set_option linter.unusedVariables false
set_option linter.unusedSimpArgs false
namespace Go.Rv

theorem set_ok {o hs : List Int} {m : Nat} (hm : m ≤ 1000000) (ho : o.length = m) (hx : ∀ x ∈ o, 1 ≤ x ∧ x ≤ (m : Int)) (hh : hs.length = m) {k at_ : Int} (hk0 : 0 ≤ k) (hk : k < m) (ha0 : 0 ≤ at_) (ha : at_ < m) {α : Type} (f : List Int → α) :
    ∃ l : List Int, l.length = m ∧ ((inb k (List.length o)).bind fun (v638 : Nat) => (o[v638]?).bind fun (v639 : Int) => (inb at_ (List.length o)).bind fun (v641 : Nat) => (o[v641]?).bind fun (v642 : Int) => (inb (IntKind.wrap .i64 (v639 - 1)) (List.length hs)).bind fun (v643 : Nat) => some (f (hs.set v643 v642))) = some (f l) := by
  have h1 : k.toNat < o.length := by omega
  have h2 : at_.toNat < o.length := by omega
  have hr := hx o[k.toNat] (List.getElem_mem h1)
  refine ⟨hs.set (o[k.toNat] - 1).toNat o[at_.toNat], by simpa using hh, ?_⟩
  rw [inb_ok hk0 (by omega), inb_ok ha0 (by omega)]
  simp only [Option.bind_some, List.getElem?_eq_getElem h1, List.getElem?_eq_getElem h2]
  rw [wrap64 (by omega) (by omega), inb_ok (by omega) (by omega)]
  rfl

end Go.Rv
