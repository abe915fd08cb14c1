/- The hull, in the program. -/
import Derived.Test.YtmfdflkpbejpoaaPrK
namespace Go.Proofs.Ytmfdflkpbejpoaa
open Go.RowKit
set_option linter.unusedVariables false

theorem hul_not {n : Nat} {z : Nat → Int} {i k j : Nat} (h1 : i < j) (h2 : j < k) (h3 : k < n) (h : Und z i (z i) k (z k) j) : huB n z j = false := huB_no (fun g => g i k h1 h2 h3 h)

end Go.Proofs.Ytmfdflkpbejpoaa
