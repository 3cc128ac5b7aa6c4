/-
  Plain mathematics: the words of a set, as the program lists them. Conditions: none.
-/
import Derived.Test.YtmmfabigcffdfaaDoorMu
set_option linter.unusedVariables false
set_option linter.unusedSimpArgs false
namespace Go.Rv

theorem list_tab : ((List.range 256).all fun m => impl_wordSet_list (m : Int) == some (wordsL m)) = true := by decide +kernel
theorem list_eq {m : Nat} (h : m < 256) : impl_wordSet_list (m : Int) = some (wordsL m) := by simpa using all_lt list_tab h

end Go.Rv
