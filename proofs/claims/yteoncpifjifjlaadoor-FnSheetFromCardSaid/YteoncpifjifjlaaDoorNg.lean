/- The program's table of names: made, and asked. -/
import Derived.Test.YteoncpifjifjlaaDoorM1
import Derived.MapKept
import Derived.WideMake
namespace Go.Proofs.YteoncpifjifjlaaDoor
open Go.RowKit
set_option linter.unusedVariables false

theorem alloc_set (w : World) (o o' : Obj) : ({ (w.alloc o) with heap := (w.alloc o).heap.setIfInBounds w.heap.size o' } : World) = w.alloc o' := by
  have h : (w.alloc o).heap.setIfInBounds w.heap.size o' = (w.alloc o').heap := by
    show (w.heap.push o).setIfInBounds w.heap.size o' = w.heap.push o'
    apply Array.ext
    · simp
    · intro i h1 h2
      rw [Array.getElem_setIfInBounds (by simpa using h1)]
      by_cases e : w.heap.size = i
      · subst e; simp
      · rw [if_neg e, Array.getElem_push, Array.getElem_push]
        simp at h2
        rw [dif_pos (by omega), dif_pos (by omega)]
  rw [h]; rfl
/-- the two entries: functions for sheets, functions for places -/
def ngA : MapEntry := { key := .int .i64 0, val := .agg #[.func (.func 84) #[] #[], .func (.func 85) #[] #[]], born := 0 }
def ngB : MapEntry := { key := .int .i64 1, val := .agg #[.func (.func 86) #[] #[], .func (.func 87) #[] #[]], born := 1 }

theorem ng_put (w : World) (es : Array MapEntry) (c : Nat) (k : Int) (v : Value) (hf : Instr.findNow (.int .i64) (.int .i64 k) es.toList 0 = some none) :
    (Instr.mapUpdate 90 (.map (some w.heap.size)) (.int .i64 k) v).run Tryd.prog (w.alloc (.map es c)) = .ok () (w.alloc (.map (es.push { key := .int .i64 k, val := v, born := c }) (c + 1))) := by
  have hb : (w.alloc (.map es c)).heap[w.heap.size]? = some (.map es c) := heap_alloc_new w _
  have hc : (Instr.checkKey false 10000 50 (.int .i64 k)).run Tryd.prog (w.alloc (.map es c)) = .ok () (w.alloc (.map es c)) := MapKept.run_checkKey (k := .int .i64 k) Tryd.underlying50 (by simp [MapKept.IsKey]) false 9999
  have hs := MapKept.run_setObj_map (P := Tryd.prog) (.map (es.push { key := .int .i64 k, val := v, born := c }) (c + 1)) hb
  rw [alloc_set] at hs
  simp [Instr.mapUpdate, run_underlying Tryd.underlying90, MapKept.run_getObj_map hb, hc, MapKept.run_findKey Tryd.underlying50 hf, hs, Result.andThen]

theorem ng_get (W : World) (r : Nat) (k : Int) (e : MapEntry) (i : Nat) (hb : W.heap[r]? = some (.map #[ngA, ngB] 2)) (hf : Instr.findNow (.int .i64) (.int .i64 k) [ngA, ngB] 0 = some (some (i, e.val))) :
    (Instr.lookup 90 (.map (some r)) (.int .i64 k) false).run Tryd.prog W = .ok e.val W := by
  have hc : (Instr.checkKey false 10000 50 (.int .i64 k)).run Tryd.prog W = .ok () W := MapKept.run_checkKey (k := .int .i64 k) Tryd.underlying50 (by simp [MapKept.IsKey]) false 9999
  simp [Instr.lookup, run_underlying Tryd.underlying90, MapKept.run_getObj_map hb, hc, MapKept.run_findKey Tryd.underlying50 hf, Result.andThen]

set_option maxHeartbeats 1000000 in
theorem namings_any (w : World) : Calls Tryd.prog 70 #[] w (fun e w' => e = .returned (.map (some w.heap.size)) ∧ w' = w.alloc (.map #[ngA, ngB] 2)) := by
  have hm := @run_makeMap Tryd.prog
  have h1 := ng_put w #[] 0 0 (.agg #[.func (.func 84) #[] #[], .func (.func 85) #[] #[]]) rfl
  have h2 := ng_put w #[ngA] 1 1 (.agg #[.func (.func 86) #[] #[], .func (.func 87) #[] #[]]) rfl
  have h1' : (Instr.mapUpdate 90 (.map (some w.heap.size)) (.int .i64 0) (.agg #[.func (.func 84) #[] #[], .func (.func 85) #[] #[]])).run Tryd.prog (w.alloc (.map #[] 0)) = .ok () (w.alloc (.map #[ngA] 1)) := h1
  have h2' : (Instr.mapUpdate 90 (.map (some w.heap.size)) (.int .i64 1) (.agg #[.func (.func 86) #[] #[], .func (.func 87) #[] #[]])).run Tryd.prog (w.alloc (.map #[ngA] 1)) = .ok () (w.alloc (.map #[ngA, ngB] 2)) := h2
  clear h1 h2
  go_enter Tryd.func70, Tryd.ntmps70
  go_wp2
  go_ret
  exact ⟨rfl, rfl⟩

end Go.Proofs.YteoncpifjifjlaaDoor
