/-
  Types of data. Conditions: none.
-/
import GoSem.ClaimData
namespace Go.Rv

/-! Data -/

inductive Ty where
  | int (k : IntKind) | bool | str | list (t : Ty) | unit | pair (a b : Ty)
  deriving DecidableEq

@[reducible] def Ty.den : Ty → Type
  | .int _ => Int
  | .bool => Bool
  | .str => ByteArray
  | .list t => List t.den
  | .unit => Unit
  | .pair a b => a.den × b.den

end Go.Rv
