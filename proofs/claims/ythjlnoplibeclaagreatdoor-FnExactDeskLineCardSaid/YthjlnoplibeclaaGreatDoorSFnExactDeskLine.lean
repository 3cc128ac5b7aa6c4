/-
  The law FnExactDeskLine,in plain words: the landed program answers as the model does,and writes no argument. Conditions: none.
-/
import Derived.Test.YthjlnoplibeclaaGreatDoorHFnExactDeskLine
import Derived.Test.YthjlnoplibeclaaGreatDoorFB
set_option linter.all false
namespace Go.Rv
theorem aoU (x:List Int×List (List Int)×Unit) (w:Fits (.pair (.list (.int .i64)) (.pair (.list (.list (.int .i64))) .unit)) x) (y:ByteArray) (v:Fits .str y):z7 x.1 x.2.1 y=some true:=
 aoT x.1 x.2.1 y w.1.1 w.2.1.1 (fun r a=>(w.2.1.2 r a).1)
end Go.Rv
