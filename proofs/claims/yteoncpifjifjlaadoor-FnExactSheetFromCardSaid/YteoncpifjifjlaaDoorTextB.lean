/- The program's GridText; a digit of the model's. -/
import Derived.Test.YteoncpifjifjlaaDoorTextA
import Derived.Laws.IdiomStrings
namespace Go.Proofs.YteoncpifjifjlaaDoor
open Go.RowKit
set_option linter.unusedVariables false

/-- the text of a grid -/
noncomputable def txtOf (g : G) : ByteArray := ⟨(if g.vB then txt (g.len 0) g.flat (g.n * g.len 0) else []).toArray⟩
theorem txtOf_yes {g : G} (h : g.Valid) : txtOf g = ⟨(txt (g.len 0) g.flat (g.n * g.len 0)).toArray⟩ := by simp only [txtOf, G.vB_yes h, if_true]
theorem txtOf_no {g : G} (h : ¬ g.Valid) : txtOf g = ⟨#[]⟩ := by simp only [txtOf, G.vB_no h]; rfl

def StrPost (s : ByteArray) (w : World) (e : Ending) (w' : World) : Prop := e = .returned (.string s) ∧ Below w.heap.size w w'

set_option maxHeartbeats 1000000 in
theorem l6Dec_digit (d : Int) (w : World) (h0 : 0 ≤ d) (h9 : d < 10) :
    Calls Tryd.prog 71 #[.int .i64 d] w (StrPost ⟨#[UInt8.ofNat (48 + d.toNat)]⟩ w) := by
  have h1 : ¬ (d < -9223372036854775807) := by omega
  have h2 : ¬ (d < 0) := by omega
  have hx : (((UInt8.ofNat (48 + d.toNat)).toNat : Nat) : Int) = 48 + d := by rw [UInt8.toNat_ofNat']; omega
  have hcell : (w.alloc (.cells #[.int .u8 (48 + d)] 5)).cell? ⟨w.heap.size, 0, none⟩ = some (.int .u8 (48 + d)) := cell_of_one (heap_alloc_new w _)
  have hr : (convert 33 9 (.slice (some ⟨w.heap.size, 0, none⟩) 1 1)).run Tryd.prog (w.alloc (.cells #[.int .u8 (48 + d)] 5)) = .ok (.string ⟨#[UInt8.ofNat (48 + d.toNat)]⟩) (w.alloc (.cells #[.int .u8 (48 + d)] 5)) :=
    run_convert_bytes_back (P := Tryd.prog) (w.alloc (.cells #[.int .u8 (48 + d)] 5)) 33 9 5 ⟨w.heap.size, 0, none⟩ 1 [UInt8.ofNat (48 + d.toNat)] Tryd.underlying33 Tryd.underlying5 Tryd.underlying9 (fun j hj => by
      have hj0 : j = 0 := by simp at hj; exact hj
      subst hj0
      rw [List.getElem_cons_zero, hx]
      exact hcell)
  have HB := Lib.hid ((Below.refl w.heap.size w).alloc (Nat.le_refl _) (.cells #[.int .u8 (48 + d)] 5))
  clear hx hcell
  go_enter Tryd.func71, Tryd.ntmps71
  go_wp2
  go_ret
  exact ⟨rfl, HB.out⟩

end Go.Proofs.YteoncpifjifjlaaDoor
