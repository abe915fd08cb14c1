/- The program's way from the corner of a sheet to a place by its letters. -/
import Derived.Test.YteoncpifjifjlaaDoorLt
namespace Go.Proofs.YteoncpifjifjlaaDoor
open Go.RowKit
set_option linter.unusedVariables false

/-- a letter from a to d -/
def Lq (a : Nat) : Prop := 97 ≤ a ∧ a ≤ 100
/-- how far a letter leads, to the east and to the south -/
def lqx (h a : Nat) : Int := if a = 97 ∨ a = 99 then 0 else h
def lqy (h a : Nat) : Int := if a = 97 ∨ a = 98 then 0 else h
/-- two blocks: the place, the result -/
def WiB (w : World) (x y : Int) (wr : World) : Prop := Below w.heap.size w wr ∧ wr.heap[w.heap.size]? = some (.cells #[.int .i64 x, .int .i64 y] 81 (0, 0)) ∧ wr.heap[w.heap.size + 1]? = some (.cells #[.int .i64 0, .int .i64 0] 81 (0, 0))
theorem WiB.start (w : World) (x y : Int) : WiB w x y ((w.alloc (.cells #[.int .i64 x, .int .i64 y] 81)).alloc (.cells #[.int .i64 0, .int .i64 0] 81)) :=
  ⟨((Below.refl _ _).alloc (Nat.le_refl _) _).alloc (by simp) _, heap_alloc2_old w _ _, heap_alloc2_new w _ _⟩
theorem WiB.set {w wr : World} {x y : Int} (h : WiB w x y wr) (x' y' : Int) : WiB w x' y' ((wr.setCell ⟨w.heap.size, 0, none⟩ (.int .i64 x')).setCell ⟨w.heap.size, 1, none⟩ (.int .i64 y')) := by
  refine ⟨belowP h.1 (Nat.le_refl _) _ _, setP _ _ _ _ _ _ h.2.1, ?_⟩
  rw [heap_setCell_other _ _ _ _ (by simp), heap_setCell_other _ _ _ _ (by simp)]
  exact h.2.2

set_option maxHeartbeats 4000000 in
theorem within_noA (x y : Int) (t : ByteArray) (a b : Nat) (w : World) (hs : t.size = 2) (ha : (t[0]'(by omega)).toNat = a) (hb : (t[1]'(by omega)).toNat = b) (hx : 0 ≤ x) (hx2 : x ≤ 100) (hy : 0 ≤ y) (hy2 : y ≤ 100) (h : ¬ Lq a) : Calls Tryd.prog 99 #[.agg #[.int .i64 x, .int .i64 y], .string t] w (PfPost 0 0 false w) := by
  have HW := Lib.hid (WiB.start w x y)
  have ha2 : a < 256 := by rw [← ha]; exact UInt8.toNat_lt _
  have hb2 : b < 256 := by rw [← hb]; exact UInt8.toNat_lt _
  go_enter Tryd.func99, Tryd.ntmps99
  go_wp2
  go_loopw [6, 11] (fun n i wr => (n = .int .i64 2 ∧ i = .int .i64 0 ∧ WiB w x y wr)) (fun _ i _ => 2 - (intOf i).toNat)
  case atStart => exact ⟨rfl, rfl, HW.out⟩
  case round =>
    obtain ⟨rfl, rfl, hw⟩ := hrel
    have HM := Lib.hid hw
    obtain ⟨k0, k1, k2, k3⟩ := cellsP hw.2.1
    obtain ⟨m0, m1, m2, m3⟩ := cellsP hw.2.2
    clear hw
    have hc : (a : Int) < 97 ∨ (100 : Int) < a := by unfold Lq at h; omega
    clear h
    rcases hc with h | h
    · go_wp2
      exact bodyPost_ret (results_cell_row_tmp rfl _ _ (w.heap.size + 1) _ #[.int .i64 0, .int .i64 0] _ _ rfl (by first | exact HM.out.2.2 | exact setP _ _ _ _ _ _ HM.out.2.2) Tryd.underlying81 rfl Tryd.sizePl (.bool false) rfl) rfl ⟨rfl, by first | exact HM.out.1 | exact belowP HM.out.1 (by omega) _ _⟩
    · have h5 : (97 : Int) ≤ a := by omega
      go_wp2
      exact bodyPost_ret (results_cell_row_tmp rfl _ _ (w.heap.size + 1) _ #[.int .i64 0, .int .i64 0] _ _ rfl (by first | exact HM.out.2.2 | exact setP _ _ _ _ _ _ HM.out.2.2) Tryd.underlying81 rfl Tryd.sizePl (.bool false) rfl) rfl ⟨rfl, by first | exact HM.out.1 | exact belowP HM.out.1 (by omega) _ _⟩


set_option maxHeartbeats 4000000 in
theorem within_noB (x y : Int) (t : ByteArray) (a b : Nat) (w : World) (hs : t.size = 2) (ha : (t[0]'(by omega)).toNat = a) (hb : (t[1]'(by omega)).toNat = b) (hx : 0 ≤ x) (hx2 : x ≤ 100) (hy : 0 ≤ y) (hy2 : y ≤ 100) (haq : Lq a) (h : ¬ Lq b) : Calls Tryd.prog 99 #[.agg #[.int .i64 x, .int .i64 y], .string t] w (PfPost 0 0 false w) := by
  have HW := Lib.hid (WiB.start w x y)
  have ha2 : a < 256 := by rw [← ha]; exact UInt8.toNat_lt _
  have hb2 : b < 256 := by rw [← hb]; exact UInt8.toNat_lt _
  go_enter Tryd.func99, Tryd.ntmps99
  go_wp2
  go_loopw [6, 11] (fun n i wr => (n = .int .i64 2 ∧ i = .int .i64 0 ∧ WiB w x y wr) ∨ (n = .int .i64 1 ∧ i = .int .i64 1 ∧ WiB w (x + lqx 2 a) (y + lqy 2 a) wr)) (fun _ i _ => 2 - (intOf i).toNat)
  case atStart => exact .inl ⟨rfl, rfl, HW.out⟩
  case round =>
    rcases hrel with ⟨rfl, rfl, hw⟩ | ⟨rfl, rfl, hw⟩
    · have HM := Lib.hid hw
      obtain ⟨k0, k1, k2, k3⟩ := cellsP hw.2.1
      obtain ⟨m0, m1, m2, m3⟩ := cellsP hw.2.2
      clear hw
      clear h
      rcases (by unfold Lq at haq; omega : a = 97 ∨ a = 98 ∨ a = 99 ∨ a = 100) with e | e | e | e
      · rw [e] at ha
        go_wp2
        go_roundw
        case rel => exact .inr ⟨by go_num, by go_num, by have h9 := HM.out.set (x) (y); rw [e]; simpa [lqx, lqy] using h9⟩
        case measure => simp [intOf]
      · rw [e] at ha
        go_wp2
        go_roundw
        case rel => exact .inr ⟨by go_num, by go_num, by have h9 := HM.out.set (x + 2) (y); rw [e]; simpa [lqx, lqy] using h9⟩
        case measure => simp [intOf]
      · rw [e] at ha
        go_wp2
        go_roundw
        case rel => exact .inr ⟨by go_num, by go_num, by have h9 := HM.out.set (x) (y + 2); rw [e]; simpa [lqx, lqy] using h9⟩
        case measure => simp [intOf]
      · rw [e] at ha
        go_wp2
        go_roundw
        case rel => exact .inr ⟨by go_num, by go_num, by have h9 := HM.out.set (x + 2) (y + 2); rw [e]; simpa [lqx, lqy] using h9⟩
        case measure => simp [intOf]
    · have HM := Lib.hid hw
      obtain ⟨k0, k1, k2, k3⟩ := cellsP hw.2.1
      obtain ⟨m0, m1, m2, m3⟩ := cellsP hw.2.2
      clear hw
      have hX0 : 0 ≤ lqx 2 a ∧ lqx 2 a ≤ 2 := by unfold lqx; split <;> omega
      have hY0 : 0 ≤ lqy 2 a ∧ lqy 2 a ≤ 2 := by unfold lqy; split <;> omega
      generalize x + lqx 2 a = x1 at *
      generalize y + lqy 2 a = y1 at *
      have hc : (b : Int) < 97 ∨ (100 : Int) < b := by unfold Lq at h; omega
      clear h
      rcases hc with h | h
      · go_wp2
        exact bodyPost_ret (results_cell_row_tmp rfl _ _ (w.heap.size + 1) _ #[.int .i64 0, .int .i64 0] _ _ rfl (by first | exact HM.out.2.2 | exact setP _ _ _ _ _ _ HM.out.2.2) Tryd.underlying81 rfl Tryd.sizePl (.bool false) rfl) rfl ⟨rfl, by first | exact HM.out.1 | exact belowP HM.out.1 (by omega) _ _⟩
      · have h5 : (97 : Int) ≤ b := by omega
        go_wp2
        exact bodyPost_ret (results_cell_row_tmp rfl _ _ (w.heap.size + 1) _ #[.int .i64 0, .int .i64 0] _ _ rfl (by first | exact HM.out.2.2 | exact setP _ _ _ _ _ _ HM.out.2.2) Tryd.underlying81 rfl Tryd.sizePl (.bool false) rfl) rfl ⟨rfl, by first | exact HM.out.1 | exact belowP HM.out.1 (by omega) _ _⟩


set_option maxHeartbeats 4000000 in
theorem within_yes (x y : Int) (t : ByteArray) (a b : Nat) (w : World) (hs : t.size = 2) (ha : (t[0]'(by omega)).toNat = a) (hb : (t[1]'(by omega)).toNat = b) (hx : 0 ≤ x) (hx2 : x ≤ 100) (hy : 0 ≤ y) (hy2 : y ≤ 100) (haq : Lq a) (hbq : Lq b) : Calls Tryd.prog 99 #[.agg #[.int .i64 x, .int .i64 y], .string t] w (PfPost (x + lqx 2 a + lqx 1 b) (y + lqy 2 a + lqy 1 b) true w) := by
  have HW := Lib.hid (WiB.start w x y)
  have ha2 : a < 256 := by rw [← ha]; exact UInt8.toNat_lt _
  have hb2 : b < 256 := by rw [← hb]; exact UInt8.toNat_lt _
  go_enter Tryd.func99, Tryd.ntmps99
  go_wp2
  go_loopw [6, 11] (fun n i wr => (n = .int .i64 2 ∧ i = .int .i64 0 ∧ WiB w x y wr) ∨ (n = .int .i64 1 ∧ i = .int .i64 1 ∧ WiB w (x + lqx 2 a) (y + lqy 2 a) wr) ∨ (n = .int .i64 0 ∧ i = .int .i64 2 ∧ WiB w (x + lqx 2 a + lqx 1 b) (y + lqy 2 a + lqy 1 b) wr)) (fun _ i _ => 2 - (intOf i).toNat)
  case atStart => exact .inl ⟨rfl, rfl, HW.out⟩
  case round =>
    rcases hrel with ⟨rfl, rfl, hw⟩ | ⟨rfl, rfl, hw⟩ | ⟨rfl, rfl, hw⟩
    · have HM := Lib.hid hw
      obtain ⟨k0, k1, k2, k3⟩ := cellsP hw.2.1
      obtain ⟨m0, m1, m2, m3⟩ := cellsP hw.2.2
      clear hw
      rcases (by unfold Lq at haq; omega : a = 97 ∨ a = 98 ∨ a = 99 ∨ a = 100) with e | e | e | e
      · rw [e] at ha
        go_wp2
        go_roundw
        case rel => exact .inr (.inl ⟨by go_num, by go_num, by have h9 := HM.out.set (x) (y); rw [e]; simpa [lqx, lqy] using h9⟩)
        case measure => simp [intOf]
      · rw [e] at ha
        go_wp2
        go_roundw
        case rel => exact .inr (.inl ⟨by go_num, by go_num, by have h9 := HM.out.set (x + 2) (y); rw [e]; simpa [lqx, lqy] using h9⟩)
        case measure => simp [intOf]
      · rw [e] at ha
        go_wp2
        go_roundw
        case rel => exact .inr (.inl ⟨by go_num, by go_num, by have h9 := HM.out.set (x) (y + 2); rw [e]; simpa [lqx, lqy] using h9⟩)
        case measure => simp [intOf]
      · rw [e] at ha
        go_wp2
        go_roundw
        case rel => exact .inr (.inl ⟨by go_num, by go_num, by have h9 := HM.out.set (x + 2) (y + 2); rw [e]; simpa [lqx, lqy] using h9⟩)
        case measure => simp [intOf]
    · have hX0 : 0 ≤ lqx 2 a ∧ lqx 2 a ≤ 2 := by unfold lqx; split <;> omega
      have hY0 : 0 ≤ lqy 2 a ∧ lqy 2 a ≤ 2 := by unfold lqy; split <;> omega
      obtain ⟨x1, ex1⟩ : ∃ x1, x + lqx 2 a = x1 := ⟨_, rfl⟩
      obtain ⟨y1, ey1⟩ : ∃ y1, y + lqy 2 a = y1 := ⟨_, rfl⟩
      have b0 : 0 ≤ x1 ∧ x1 ≤ 102 := by omega
      have b1 : 0 ≤ y1 ∧ y1 ≤ 102 := by omega
      rw [ex1, ey1] at hw
      rw [ex1, ey1]
      clear hX0 hY0 ex1 ey1
      have HM := Lib.hid hw
      obtain ⟨k0, k1, k2, k3⟩ := cellsP hw.2.1
      obtain ⟨m0, m1, m2, m3⟩ := cellsP hw.2.2
      clear hw
      rcases (by unfold Lq at hbq; omega : b = 97 ∨ b = 98 ∨ b = 99 ∨ b = 100) with e | e | e | e
      · rw [e] at hb
        go_wp2
        go_roundw
        case rel => exact .inr (.inr ⟨by go_num, by go_num, by have h9 := HM.out.set (x1) (y1); rw [e]; simpa [lqx, lqy] using h9⟩)
        case measure => simp [intOf]
      · rw [e] at hb
        go_wp2
        go_roundw
        case rel => exact .inr (.inr ⟨by go_num, by go_num, by have h9 := HM.out.set (x1 + 1) (y1); rw [e]; simpa [lqx, lqy] using h9⟩)
        case measure => simp [intOf]
      · rw [e] at hb
        go_wp2
        go_roundw
        case rel => exact .inr (.inr ⟨by go_num, by go_num, by have h9 := HM.out.set (x1) (y1 + 1); rw [e]; simpa [lqx, lqy] using h9⟩)
        case measure => simp [intOf]
      · rw [e] at hb
        go_wp2
        go_roundw
        case rel => exact .inr (.inr ⟨by go_num, by go_num, by have h9 := HM.out.set (x1 + 1) (y1 + 1); rw [e]; simpa [lqx, lqy] using h9⟩)
        case measure => simp [intOf]
    · have HM := Lib.hid hw
      obtain ⟨k0, k1, k2, k3⟩ := cellsP hw.2.1
      obtain ⟨m0, m1, m2, m3⟩ := cellsP hw.2.2
      clear hw
      go_wp2
      exact bodyPost_ret (results_cell_row_tmp rfl _ _ (w.heap.size + 1) _ #[.int .i64 (x + lqx 2 a + lqx 1 b), .int .i64 (y + lqy 2 a + lqy 1 b)] _ _ rfl (setP _ _ _ _ _ _ HM.out.2.2) Tryd.underlying81 rfl Tryd.sizePl (.bool true) rfl) rfl ⟨rfl, belowP HM.out.1 (by omega) _ _⟩


end Go.Proofs.YteoncpifjifjlaaDoor
