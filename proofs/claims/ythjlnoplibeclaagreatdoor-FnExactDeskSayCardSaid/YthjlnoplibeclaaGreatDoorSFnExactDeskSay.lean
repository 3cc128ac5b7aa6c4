/-
  The law FnExactDeskSay,in plain words: the landed program answers as the model does,and writes no argument. Conditions: none.
-/
import Derived.Test.YthjlnoplibeclaaGreatDoorHFnExactDeskSay
import Derived.Test.YthjlnoplibeclaaGreatDoorFB
set_option linter.all false
namespace Go.Rv
theorem ap4 (x:List Int×List (List Int)×Unit) (w:Fits (.pair (.list (.int .i64)) (.pair (.list (.list (.int .i64))) .unit)) x) (a:List ByteArray) (v:Fits (.list .str) a):k1 x.1 x.2.1 a=some true:=
 ap3 x.1 x.2.1 a w.1.1 w.2.1.1 (fun r b=>(w.2.1.2 r b).1) v.1 v.2
end Go.Rv
