/- The count of sides in the program. -/
import Derived.Test.YtplfphpnpjjinabLvI4
namespace Go.Proofs.Ytplfphpnpjjinab
open Go.RowKit Go.Shelf
set_option linter.unusedVariables false
attribute [local go_sem] Oper.semAt_some

set_option maxHeartbeats 1000000 in
set_option maxRecDepth 20000 in
theorem sides_any (R C gg cnt cap : Nat) (lv : Int) (w : World) :
    Calls Try.prog 89 #[.agg #[.int .i64 R, .int .i64 C, .slice (some ⟨gg, 0, none⟩) cnt cap, .int .i64 lv]] w fun e w' =>
      e = .returned (.func (.func 107) #[] #[.pointer (some ⟨w.heap.size, 0, none⟩)]) ∧ w' = w.alloc (.cells #[.int .i64 R, .int .i64 C, .slice (some ⟨gg, 0, none⟩) cnt cap, .int .i64 lv] 60) := by
  go_enter Try.func89, Try.ntmps89
  go_wp2
  go_ret
  exact ⟨rfl, rfl⟩

theorem kqs_put {Bm gg n : Nat} (h1 : Bm < n) (h2 : gg < n) (s : Nat) (W : World) (l : Nat) (o' : Obj) (hl : n ≤ l) (hs : l < s) : KqS Bm gg s W (W.putObj l o') :=
  ⟨by simp, fun k hk hlt => World.putObj_heap_other (by omega)⟩

end Go.Proofs.Ytplfphpnpjjinab