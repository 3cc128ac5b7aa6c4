/-
  Tables at the package level: global g is an array that bears these data. Conditions: none.
-/
import Derived.Test.YtenenhmofmdcbaaRy
namespace Go.Rv

def gtab : Nat → Option ((t : Ty) × List t.den) := fun _ => none

end Go.Rv
