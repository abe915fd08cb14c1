/- SheetFrom of the model and of the program; its exact law. -/
import Derived.Test.YteoncpifjifjlaaDoorNmH
import Derived.Test.YteoncpifjifjlaaDoorPl
import Derived.Test.YteoncpifjifjlaaDoorNg
import Derived.BigQuiet
namespace Go.Proofs.YteoncpifjifjlaaDoor
open Go.RowKit
set_option linter.unusedVariables false

/-- a place, or a pair of numbers -/
def PlPost (x y : Int) (w : World) (e : Ending) (w' : World) : Prop := e = .returned (.agg #[.int .i64 x, .int .i64 y]) ∧ Below w.heap.size w w'
/-- two numbers and whether -/
def XyPost (x y : Int) (b : Bool) (w : World) (e : Ending) (w' : World) : Prop := e = .returned (.tuple #[.int .i64 x, .int .i64 y, .bool b]) ∧ Below w.heap.size w w'

set_option maxHeartbeats 1000000 in
theorem corner_any (c r : Nat) (w : World) (hc : c < 26) (hr : r < 26) : Calls Tryd.prog 97 #[.agg #[.int .i64 c, .int .i64 r]] w (PlPost (c * 4) (r * 4) w) := by
  have hb : Below w.heap.size w ((w.alloc (.cells #[.int .i64 c, .int .i64 r] 54)).alloc (.cells #[.int .i64 0, .int .i64 0] 81)) := ((Below.refl _ _).alloc (Nat.le_refl _) _).alloc (by simp) _
  have HB := Lib.hid hb
  have HM := Lib.hid (heap_alloc2_new w (.cells #[.int .i64 c, .int .i64 r] 54) (.cells #[.int .i64 0, .int .i64 0] 81))
  clear hb
  obtain ⟨k0, k1, k2, k3⟩ := cellsP HM.out
  obtain ⟨l0, l1, _, _⟩ := cellsP (heap_alloc2_old w (.cells #[.int .i64 c, .int .i64 r] 54) (.cells #[.int .i64 0, .int .i64 0] 81))
  go_enter Tryd.func97, Tryd.ntmps97
  go_wp2
  exact bodyPost_ret (results_cell_row rfl _ _ (w.heap.size + 1) _ #[.int .i64 ((c : Int) * 4), .int .i64 ((r : Int) * 4)] _ _ rfl (heap_alloc2_new w _ _) Tryd.underlying81 rfl Tryd.sizePl) rfl ⟨rfl, ((Below.refl _ _).alloc (Nat.le_refl _) _).alloc (by simp) _⟩

/-- a place and whether -/
def PfPost (x y : Int) (b : Bool) (w : World) (e : Ending) (w' : World) : Prop := e = .returned (.tuple #[.agg #[.int .i64 x, .int .i64 y], .bool b]) ∧ Below w.heap.size w w'

set_option maxHeartbeats 1000000 in
theorem cornerFrom_no (s : ByteArray) (w : World) (hA : ∀ W : World, Calls Tryd.prog 45 #[.string s] W (SfPost 0 0 false W)) : Calls Tryd.prog 85 #[.string s] w (PfPost 0 0 false w) := by
  have HA := Lib.hid hA
  have HB := Lib.hid (show Below w.heap.size w (w.alloc (.cells #[.int .i64 0, .int .i64 0] 81)) from (Below.refl _ _).alloc (Nat.le_refl _) _)
  have HM := Lib.hid (heap_alloc_new w (.cells #[.int .i64 0, .int .i64 0] 81))
  clear hA
  go_enter Tryd.func85, Tryd.ntmps85
  go_wp2_with fail
  refine (HA.out _).mono ?_
  rintro e w1 ⟨rfl, hb1⟩
  have hb2 := HB.out.trans (hb1.mono (by simp))
  have HB1 := Lib.hid (hb2.alloc hb2.size (.cells #[.int .i64 0, .int .i64 0] 54))
  have M0 := (hb1.block w.heap.size (by simp)).trans HM.out
  have HM1 := Lib.hid ((Below.heap_alloc w1 (.cells #[.int .i64 0, .int .i64 0] 54) w.heap.size (lt_of_block M0)).trans M0)
  obtain ⟨k0, k1, k2, k3⟩ := cellsP HM1.out
  clear hb1 hb2 M0
  go_wp2
  exact bodyPost_ret (results_cell_row_tmp rfl _ _ w.heap.size _ #[.int .i64 0, .int .i64 0] _ _ rfl (by first | exact HM1.out | exact setP _ _ _ _ _ _ HM1.out) Tryd.underlying81 rfl Tryd.sizePl (.bool false) rfl) rfl ⟨rfl, by first | exact HB1.out | exact belowP HB1.out (Nat.le_refl _) _ _⟩

set_option maxHeartbeats 1000000 in
theorem cornerFrom_yes (s : ByteArray) (c r : Nat) (w : World) (h : IsNm s c r) : Calls Tryd.prog 85 #[.string s] w (PfPost (c * 4) (r * 4) true w) := by
  have HA := Lib.hid (fun W : World => sheetFrom_yes s c r W h)
  have HC := Lib.hid (fun W : World => corner_any c r W h.1 h.2.1)
  have HB := Lib.hid (show Below w.heap.size w (w.alloc (.cells #[.int .i64 0, .int .i64 0] 81)) from (Below.refl _ _).alloc (Nat.le_refl _) _)
  have HM := Lib.hid (heap_alloc_new w (.cells #[.int .i64 0, .int .i64 0] 81))
  clear h
  go_enter Tryd.func85, Tryd.ntmps85
  go_wp2_with fail
  refine (HA.out _).mono ?_
  rintro e w1 ⟨rfl, hb1⟩
  have hb2 := HB.out.trans (hb1.mono (by simp))
  have HB1 := Lib.hid (hb2.alloc hb2.size (.cells #[.int .i64 c, .int .i64 r] 54))
  have M0 := (hb1.block w.heap.size (by simp)).trans HM.out
  have HM1 := Lib.hid ((Below.heap_alloc w1 (.cells #[.int .i64 c, .int .i64 r] 54) w.heap.size (lt_of_block M0)).trans M0)
  obtain ⟨l0, l1, _, _⟩ := cellsP (heap_alloc_new w1 (.cells #[.int .i64 c, .int .i64 r] 54))
  have hlt := lt_of_block M0
  clear hb1 hb2 M0
  go_wp2_with fail
  refine (HC.out _).mono ?_
  rintro e w2 ⟨rfl, hb3⟩
  have HM2 := Lib.hid ((hb3.block w.heap.size (by simp; omega)).trans HM1.out)
  have HB2 := Lib.hid (HB1.out.trans (hb3.mono HB1.out.size))
  obtain ⟨k0, k1, k2, k3⟩ := cellsP HM2.out
  clear hb3
  go_wp2
  exact bodyPost_ret (results_cell_row_tmp rfl _ _ w.heap.size _ #[.int .i64 ((c : Int) * 4), .int .i64 ((r : Int) * 4)] _ _ rfl (setP _ _ _ _ _ _ HM2.out) Tryd.underlying81 rfl Tryd.sizePl (.bool true) rfl) rfl ⟨rfl, belowP HB2.out (Nat.le_refl _) _ _⟩

set_option maxHeartbeats 2000000 in
theorem placeNamed_sheet (s : ByteArray) (x y : Int) (b : Bool) (w : World) (hA : ∀ W : World, Calls Tryd.prog 85 #[.string s] W (PfPost x y b W)) : Calls Tryd.prog 42 #[.int .i64 0, .string s] w (XyPost x y b w) := by
  have HA := Lib.hid hA
  have HN := Lib.hid (namings_any w)
  have HB := Lib.hid (show Below w.heap.size w (w.alloc (.map #[ngA, ngB] 2)) from (Below.refl _ _).alloc (Nat.le_refl _) _)
  have hg := ng_get (w.alloc (.map #[ngA, ngB] 2)) w.heap.size 0 ngA 0 (heap_alloc_new w _) rfl
  have hg' : (Instr.lookup 90 (.map (some w.heap.size)) (.int .i64 0) false).run Tryd.prog (w.alloc (.map #[ngA, ngB] 2)) = .ok (.agg #[.func (.func 84) #[] #[], .func (.func 85) #[] #[]]) (w.alloc (.map #[ngA, ngB] 2)) := hg
  have hfd : ∀ W : World, (Instr.field 89 (.agg #[.func (.func 84) #[] #[], .func (.func 85) #[] #[]]) 1).run Tryd.prog W = .ok (.func (.func 85) #[] #[]) W := fun _ => by kernel_rfl
  clear hA hg
  go_enter Tryd.func42, Tryd.ntmps42
  go_wp2_with fail
  refine HN.out.mono ?_
  rintro e w1 ⟨rfl, rfl⟩
  go_wp2_with fail
  refine (HA.out _).mono ?_
  rintro e w1 ⟨rfl, hb1⟩
  have hb2 := HB.out.trans (hb1.mono HB.out.size)
  have HB1 := Lib.hid (hb2.alloc hb2.size (.cells #[.int .i64 x, .int .i64 y] 81))
  obtain ⟨l0, l1, _, _⟩ := cellsP (heap_alloc_new w1 (.cells #[.int .i64 x, .int .i64 y] 81))
  clear hb1 hb2 hg'
  go_wp2_with fail
  go_quiet (fail)
  go_wp2
  go_ret3
  exact ⟨rfl, below_drewN HB1.out _⟩

set_option maxHeartbeats 1000000 in
theorem implSheetFrom_any (s : ByteArray) (x y : Int) (b : Bool) (w : World) (hA : ∀ W : World, Calls Tryd.prog 85 #[.string s] W (PfPost x y b W)) : Calls Tryd.prog 15 #[.string s] w (XyPost x y b w) := by
  have HA := Lib.hid (placeNamed_sheet s x y b w hA)
  clear hA
  go_enter Tryd.func15, Tryd.ntmps15
  go_wp2_with fail
  refine HA.out.mono ?_
  rintro e w1 ⟨rfl, hb1⟩
  have HB1 := Lib.hid hb1
  clear hb1
  go_wp2
  go_ret3
  exact ⟨rfl, HB1.out⟩

set_option maxHeartbeats 1000000 in
theorem specSheetFrom_any (s : ByteArray) (c r : Nat) (b : Bool) (w : World) (hc : c < 26) (hr : r < 26) (hA : ∀ W : World, Calls Tryd.prog 41 #[.string s] W (FdPost c r b W)) : Calls Tryd.prog 14 #[.string s] w (XyPost (c * 4) (r * 4) b w) := by
  have HA := Lib.hid (hA w)
  clear hA
  go_enter Tryd.func14, Tryd.ntmps14
  go_wp2_with fail
  refine HA.out.mono ?_
  rintro e w1 ⟨rfl, hb1⟩
  have HB1 := Lib.hid hb1
  clear hb1
  go_wp2
  go_ret3
  exact ⟨rfl, HB1.out⟩

set_option maxHeartbeats 1000000 in
theorem law_SheetFrom (s : ByteArray) (x y : Int) (b : Bool) (w : World) (hs : s.size ≤ 9223372036854775807) (hS : ∀ W : World, Calls Tryd.prog 14 #[.string s] W (XyPost x y b W)) (hI : ∀ W : World, Calls Tryd.prog 15 #[.string s] W (XyPost x y b W)) :
    Calls Tryd.prog 3 #[.string s] w (LawPost w) := by
  have HS := Lib.hid hS
  have HI := Lib.hid hI
  have hx : (x != x) = false := by simp
  have hy : (y != y) = false := by simp
  have hbb : (b != b) = false := by simp
  clear hS hI
  by_cases h1 : (1048576 : Int) < s.size
  · go_enter Tryd.func3, Tryd.ntmps3
    go_wp2
    go_ret
    exact ⟨rfl, Below.refl _ _⟩
  · go_enter Tryd.func3, Tryd.ntmps3
    go_wp2_with fail
    refine (HS.out _).mono ?_
    rintro e w1 ⟨rfl, hb1⟩
    have HB1 := Lib.hid hb1
    clear hb1
    go_wp2_with fail
    refine (HI.out _).mono ?_
    rintro e w2 ⟨rfl, hb2⟩
    have HB2 := Lib.hid (HB1.out.trans (hb2.mono HB1.out.size))
    clear hb2
    go_wp2
    go_ret
    exact ⟨rfl, HB2.out⟩

theorem all_FnExactSheetFrom (s : ByteArray) (w : World) (hs : s.size ≤ 9223372036854775807) :
    Calls Tryd.prog 3 #[.string s] w (LawPost w) := by
  rcases nm_or s with ⟨c, r, h⟩ | h
  · exact law_SheetFrom s _ _ true w hs (fun W => specSheetFrom_any s c r true W h.1 h.2.1 (fun W => l7Find_yes s c r W h)) (fun W => implSheetFrom_any s _ _ true W (fun W => cornerFrom_yes s c r W h))
  · exact law_SheetFrom s 0 0 false w hs (fun W => specSheetFrom_any s 0 0 false W (by omega) (by omega) (fun W => l7Find_no s W h)) (fun W => implSheetFrom_any s 0 0 false W (fun W => cornerFrom_no s W (fun W => sheetFrom_no s W hs h)))

end Go.Proofs.YteoncpifjifjlaaDoor
