/- The program finds a sheet by its name. -/
import Derived.Test.YteoncpifjifjlaaNmN
namespace Go.Proofs.Yteoncpifjifjlaa
open Go.RowKit
set_option linter.unusedVariables false

theorem tl_size (s : ByteArray) : (s.extract 1 s.size).size = s.size - 1 := by simp
theorem tl_at (s : ByteArray) (i : Nat) (h : i < (s.extract 1 s.size).size) (h' : i + 1 < s.size) : (s.extract 1 s.size)[i] = s[i + 1] := by
  simp [ByteArray.getElem_extract, Nat.add_comm]
theorem nmS_size (c r : Nat) : (nmS c r).size = if c < 9 then 2 else 3 := by
  unfold nmS nmL decL
  by_cases h : c < 9
  · rw [if_pos h, if_pos (by omega)]; rfl
  · rw [if_neg h, if_neg (by omega)]; rfl
theorem nmS_0 (c r : Nat) (hr : r < 26) (h : 0 < (nmS c r).size) : ((nmS c r)[0]'h).toNat = 65 + r := by
  have : (nmS c r)[0]'h = u8 (65 + r) := by simp only [ByteArray.getElem_eq_getElem_data, nmS, nmL]; simp
  rw [this, u8_val (by omega)]
theorem nmS_1 (c r : Nat) (hc : c < 9) (h : 1 < (nmS c r).size) : ((nmS c r)[1]'h).toNat = 49 + c := by
  have : (nmS c r)[1]'h = u8 (48 + (c + 1)) := by
    simp only [ByteArray.getElem_eq_getElem_data, nmS, nmL, decL, if_pos (show c + 1 < 10 by omega)]; simp
  rw [this, u8_val (by omega)]; omega
theorem nmS_11 (c r : Nat) (hc : 9 ≤ c) (hc2 : c < 26) (h : 1 < (nmS c r).size) : ((nmS c r)[1]'h).toNat = 48 + (c + 1) / 10 := by
  have : (nmS c r)[1]'h = u8 (48 + (c + 1) / 10) := by
    simp only [ByteArray.getElem_eq_getElem_data, nmS, nmL, decL, if_neg (show ¬ c + 1 < 10 by omega)]; simp
  rw [this, u8_val (by omega)]
theorem nmS_12 (c r : Nat) (hc : 9 ≤ c) (hc2 : c < 26) (h : 2 < (nmS c r).size) : ((nmS c r)[2]'h).toNat = 48 + (c + 1) % 10 := by
  have : (nmS c r)[2]'h = u8 (48 + (c + 1) % 10) := by
    simp only [ByteArray.getElem_eq_getElem_data, nmS, nmL, decL, if_neg (show ¬ c + 1 < 10 by omega)]; simp
  rw [this, u8_val (by omega)]
theorem byte_eq {x y : UInt8} (h : x.toNat = y.toNat) : x = y := UInt8.toNat_inj.1 h
/-- a string of two bytes is a name -/
theorem isNm_two {s : ByteArray} {c r : Nat} (hc : c < 9) (hr : r < 26) (hs : s.size = 2) (h0 : (s[0]'(by omega)).toNat = 65 + r) (h1 : (s[1]'(by omega)).toNat = 49 + c) : s = nmS c r := by
  have hz : (nmS c r).size = 2 := by rw [nmS_size, if_pos hc]
  refine ByteArray.ext_getElem (by rw [hs, hz]) fun i hi hi' => byte_eq ?_
  rcases (by omega : i = 0 ∨ i = 1) with rfl | rfl
  · rw [h0, nmS_0 c r hr]
  · rw [h1, nmS_1 c r hc]
theorem isNm_three {s : ByteArray} {c r : Nat} (hc : 9 ≤ c) (hc2 : c < 26) (hr : r < 26) (hs : s.size = 3) (h0 : (s[0]'(by omega)).toNat = 65 + r) (h1 : (s[1]'(by omega)).toNat = 48 + (c + 1) / 10) (h2 : (s[2]'(by omega)).toNat = 48 + (c + 1) % 10) : s = nmS c r := by
  have hz : (nmS c r).size = 3 := by rw [nmS_size, if_neg (by omega)]
  refine ByteArray.ext_getElem (by rw [hs, hz]) fun i hi hi' => byte_eq ?_
  rcases (by omega : i = 0 ∨ i = 1 ∨ i = 2) with rfl | rfl | rfl
  · rw [h0, nmS_0 c r hr]
  · rw [h1, nmS_11 c r hc hc2]
  · rw [h2, nmS_12 c r hc hc2]

theorem Try.sizeSh : (Try.prog.info? 28).map (·.size) = some 2 := by kernel_rfl

theorem cellsP {w : World} {b : Nat} {x y : Value} {t : TypeId} (h : w.heap[b]? = some (.cells #[x, y] t (0, 0))) :
    w.cell? ⟨b, 0, none⟩ = some x ∧ w.cell? ⟨b, 1, none⟩ = some y ∧ w.frozen? ⟨b, 0, none⟩ = false ∧ w.frozen? ⟨b, 1, none⟩ = false := by
  simp [World.cell?, World.frozen?, h]
theorem setP (w : World) (b : Nat) (x y x' y' : Value) {t : TypeId} (h : w.heap[b]? = some (.cells #[x, y] t (0, 0))) :
    ((w.setCell ⟨b, 0, none⟩ x').setCell ⟨b, 1, none⟩ y').heap[b]? = some (.cells #[x', y'] t (0, 0)) := by
  have h1 := heap_setCell_same w b 0 #[x, y] t x' h
  have h2 := heap_setCell_same _ b 1 _ t y' h1
  rw [h2]
  simp
theorem belowP {B : Nat} {a w : World} (h : Below B a w) {x : Nat} (hx : B ≤ x) (p q : Value) : Below B a ((w.setCell ⟨x, 0, none⟩ p).setCell ⟨x, 1, none⟩ q) :=
  (h.setCell (p := ⟨x, 0, none⟩) hx p).setCell (p := ⟨x, 1, none⟩) hx q
/-- there is such a sheet -/
def ShOk (c r : Int) : Prop := (0 ≤ c ∧ c < 26) ∧ 0 ≤ r ∧ r < 26
noncomputable def shB2 (c r : Int) : Bool := @decide (ShOk c r) (Classical.propDecidable _)
theorem shB2_yes {c r : Int} (h : ShOk c r) : shB2 c r = true := by simp [shB2, h]
theorem shB2_no {c r : Int} (h : ¬ ShOk c r) : shB2 c r = false := by simp [shB2, h]

set_option maxHeartbeats 1000000 in
theorem sheetValid_any (x y : Int) (w : World) : Calls Try.prog 13 #[.agg #[.int .i64 x, .int .i64 y]] w (BlPost (shB2 x y) w) := by
  have hb : Below w.heap.size w (w.alloc (.cells #[.int .i64 x, .int .i64 y] 28)) := (Below.refl _ _).alloc (Nat.le_refl _) _
  have HB := Lib.hid hb
  clear hb
  by_cases hx : 0 ≤ x ∧ x < 26
  · obtain ⟨hx0, hx1⟩ := hx
    have hy : (0 ≤ y ∧ y < 26) ∨ y < 0 ∨ 26 ≤ y := by omega
    rcases hy with ⟨h0, h1⟩ | h0 | h0
    · have HE := Lib.hid (shB2_yes (c := x) (r := y) ⟨⟨hx0, hx1⟩, h0, h1⟩)
      go_enter Try.func13, Try.ntmps13
      go_wp2
      go_ret
      exact bl_post HE.out HB.out
    · have HE := Lib.hid (shB2_no (c := x) (r := y) (fun h => by have := h.2.1; omega))
      go_enter Try.func13, Try.ntmps13
      go_wp2
      go_ret
      exact bl_post HE.out HB.out
    · have HE := Lib.hid (shB2_no (c := x) (r := y) (fun h => by have := h.2.2; omega))
      have h2 : ¬ y < 26 := by omega
      have h3 : 0 ≤ y := by omega
      go_enter Try.func13, Try.ntmps13
      go_wp2
      go_ret
      exact bl_post HE.out HB.out
  · have HE := Lib.hid (shB2_no (c := x) (r := y) (fun h => hx h.1))
    have hy : x < 0 ∨ 26 ≤ x := by omega
    clear hx
    rcases hy with h0 | h0
    · go_enter Try.func13, Try.ntmps13
      go_wp2
      go_ret
      exact bl_post HE.out HB.out
    · have h2 : ¬ x < 26 := by omega
      have h3 : 0 ≤ x := by omega
      go_enter Try.func13, Try.ntmps13
      go_wp2
      go_ret
      exact bl_post HE.out HB.out

/-- a sheet and true, or none -/
def SfPost (c r : Int) (b : Bool) (w : World) (e : Ending) (w' : World) : Prop := e = .returned (.tuple #[.agg #[.int .i64 c, .int .i64 r], .bool b]) ∧ Below w.heap.size w w'

set_option maxHeartbeats 2000000 in
theorem sheetFrom_empty (w : World) : Calls Try.prog 8 #[.string ⟨#[]⟩] w (SfPost 0 0 false w) := by
  have HB := Lib.hid (show Below w.heap.size w (w.alloc (.cells #[.int .i64 0, .int .i64 0] 28)) from (Below.refl _ _).alloc (Nat.le_refl _) _)
  go_enter Try.func8, Try.ntmps8
  go_wp2
  exact bodyPost_ret (results_cell_row_tmp rfl _ _ w.heap.size _ #[.int .i64 0, .int .i64 0] _ _ rfl (heap_alloc_new w _) Try.underlying28 rfl Try.sizeSh (.bool false) rfl) rfl ⟨rfl, HB.out⟩

set_option maxHeartbeats 2000000 in
theorem sheetFrom_rA (s : ByteArray) (n : Int) (y : Nat) (w : World) (h1s : 0 < s.size) (hz : s.size ≤ 9223372036854775807) (h0 : (s[0]'h1s).toNat = y) (hn : 0 ≤ n) (hn2 : n ≤ 99) (hN : ∀ W : World, Calls Try.prog 12 #[.string (s.extract 1 s.size)] W (NuPost n false W)) :
    Calls Try.prog 8 #[.string s] w (SfPost 0 0 false w) := by
  have hy : y < 256 := by rw [← h0]; exact UInt8.toNat_lt _
  have HN := Lib.hid hN
  have HV := Lib.hid (fun W : World => sheetValid_any (n - 1) ((y : Int) - 65) W)
  have he : s.toList.isEmpty = false := by
    rw [ByteArray.toList_eq]
    cases h : s.data.toList with
    | nil =>
      have h2 : s.data.toList.length = s.size := rfl
      have h3 : s.size = 0 := by rw [← h2, h]; rfl
      omega
    | cons => rfl
  have hs' : (1 : Int) ≤ s.size := by omega
  have hs2 : (0 : Int) < s.size := by omega
  have hs4 : 1 ≤ s.size := by omega
  have L0 := Lib.hid (heap_alloc_new w (.cells #[.int .i64 0, .int .i64 0] 28))
  have HB := Lib.hid (show Below w.heap.size w (w.alloc (.cells #[.int .i64 0, .int .i64 0] 28)) from (Below.refl _ _).alloc (Nat.le_refl _) _)

  clear hN
  go_enter Try.func8, Try.ntmps8
  go_wp2_with fail
  refine (HN.out _).mono ?_
  rintro e w1 ⟨rfl, rfl⟩
  have M0 := Lib.hid (heap_alloc2_old w (.cells #[.int .i64 0, .int .i64 0] 28) (.cells #[.int .i64 (n - 1), .int .i64 ((y : Int) - 65)] 28))
  have HB2 := Lib.hid (show Below w.heap.size w ((w.alloc (.cells #[.int .i64 0, .int .i64 0] 28)).alloc (.cells #[.int .i64 (n - 1), .int .i64 ((y : Int) - 65)] 28)) from ((Below.refl _ _).alloc (Nat.le_refl _) _).alloc (by simp) _)
  obtain ⟨_, _, f0, f1⟩ := cellsP M0.out
  go_wp2
  exact bodyPost_ret (results_cell_row_tmp rfl _ _ w.heap.size _ #[.int .i64 0, .int .i64 0] _ _ rfl (by first | exact M0.out | exact setP _ _ _ _ _ _ M0.out) Try.underlying28 rfl Try.sizeSh (.bool false) rfl) rfl ⟨rfl, by first | exact HB2.out | exact belowP HB2.out (Nat.le_refl _) _ _⟩


set_option maxHeartbeats 2000000 in
theorem sheetFrom_rB (s : ByteArray) (n : Int) (y : Nat) (w : World) (h1s : 0 < s.size) (hz : s.size ≤ 9223372036854775807) (h0 : (s[0]'h1s).toNat = y) (hn : 0 ≤ n) (hn2 : n ≤ 99) (hN : ∀ W : World, Calls Try.prog 12 #[.string (s.extract 1 s.size)] W (NuPost n true W)) (hb : shB2 (n - 1) ((y : Int) - 65) = true) :
    Calls Try.prog 8 #[.string s] w (SfPost (n - 1) ((y : Int) - 65) true w) := by
  have hy : y < 256 := by rw [← h0]; exact UInt8.toNat_lt _
  have HN := Lib.hid hN
  have HV := Lib.hid (fun W : World => sheetValid_any (n - 1) ((y : Int) - 65) W)
  have he : s.toList.isEmpty = false := by
    rw [ByteArray.toList_eq]
    cases h : s.data.toList with
    | nil =>
      have h2 : s.data.toList.length = s.size := rfl
      have h3 : s.size = 0 := by rw [← h2, h]; rfl
      omega
    | cons => rfl
  have hs' : (1 : Int) ≤ s.size := by omega
  have hs2 : (0 : Int) < s.size := by omega
  have hs4 : 1 ≤ s.size := by omega
  have L0 := Lib.hid (heap_alloc_new w (.cells #[.int .i64 0, .int .i64 0] 28))
  have HB := Lib.hid (show Below w.heap.size w (w.alloc (.cells #[.int .i64 0, .int .i64 0] 28)) from (Below.refl _ _).alloc (Nat.le_refl _) _)
  have HBV := Lib.hid hb
  clear hN hb
  go_enter Try.func8, Try.ntmps8
  go_wp2_with fail
  refine (HN.out _).mono ?_
  rintro e w1 ⟨rfl, rfl⟩
  go_wp2_with fail
  refine (HV.out _).mono ?_
  rintro e w2 ⟨rfl, hb2⟩
  rw [HBV.out]
  have M0 := (hb2.block w.heap.size (by simp; omega)).trans (heap_alloc2_old w (.cells #[.int .i64 0, .int .i64 0] 28) (.cells #[.int .i64 (n - 1), .int .i64 ((y : Int) - 65)] 28))
  have M1 := (hb2.block (w.heap.size + 1) (by simp)).trans (heap_alloc2_new w (.cells #[.int .i64 0, .int .i64 0] 28) (.cells #[.int .i64 (n - 1), .int .i64 ((y : Int) - 65)] 28))
  have HB2 := Lib.hid ((show Below w.heap.size w ((w.alloc (.cells #[.int .i64 0, .int .i64 0] 28)).alloc (.cells #[.int .i64 (n - 1), .int .i64 ((y : Int) - 65)] 28)) from ((Below.refl _ _).alloc (Nat.le_refl _) _).alloc (by simp) _).trans (hb2.mono (by simp; omega)))
  obtain ⟨_, _, f0, f1⟩ := cellsP M0
  obtain ⟨k0, k1, _, _⟩ := cellsP M1
  have HM0 := Lib.hid M0
  clear M0 M1 hb2
  go_wp2
  exact bodyPost_ret (results_cell_row_tmp rfl _ _ w.heap.size _ #[.int .i64 (n - 1), .int .i64 ((y : Int) - 65)] _ _ rfl (setP _ _ _ _ _ _ HM0.out) Try.underlying28 rfl Try.sizeSh (.bool true) rfl) rfl ⟨rfl, belowP HB2.out (Nat.le_refl _) _ _⟩


set_option maxHeartbeats 2000000 in
theorem sheetFrom_rC (s : ByteArray) (n : Int) (y : Nat) (w : World) (h1s : 0 < s.size) (hz : s.size ≤ 9223372036854775807) (h0 : (s[0]'h1s).toNat = y) (hn : 0 ≤ n) (hn2 : n ≤ 99) (hN : ∀ W : World, Calls Try.prog 12 #[.string (s.extract 1 s.size)] W (NuPost n true W)) (hb : shB2 (n - 1) ((y : Int) - 65) = false) :
    Calls Try.prog 8 #[.string s] w (SfPost 0 0 false w) := by
  have hy : y < 256 := by rw [← h0]; exact UInt8.toNat_lt _
  have HN := Lib.hid hN
  have HV := Lib.hid (fun W : World => sheetValid_any (n - 1) ((y : Int) - 65) W)
  have he : s.toList.isEmpty = false := by
    rw [ByteArray.toList_eq]
    cases h : s.data.toList with
    | nil =>
      have h2 : s.data.toList.length = s.size := rfl
      have h3 : s.size = 0 := by rw [← h2, h]; rfl
      omega
    | cons => rfl
  have hs' : (1 : Int) ≤ s.size := by omega
  have hs2 : (0 : Int) < s.size := by omega
  have hs4 : 1 ≤ s.size := by omega
  have L0 := Lib.hid (heap_alloc_new w (.cells #[.int .i64 0, .int .i64 0] 28))
  have HB := Lib.hid (show Below w.heap.size w (w.alloc (.cells #[.int .i64 0, .int .i64 0] 28)) from (Below.refl _ _).alloc (Nat.le_refl _) _)
  have HBV := Lib.hid hb
  clear hN hb
  go_enter Try.func8, Try.ntmps8
  go_wp2_with fail
  refine (HN.out _).mono ?_
  rintro e w1 ⟨rfl, rfl⟩
  go_wp2_with fail
  refine (HV.out _).mono ?_
  rintro e w2 ⟨rfl, hb2⟩
  rw [HBV.out]
  have M0 := (hb2.block w.heap.size (by simp; omega)).trans (heap_alloc2_old w (.cells #[.int .i64 0, .int .i64 0] 28) (.cells #[.int .i64 (n - 1), .int .i64 ((y : Int) - 65)] 28))
  have M1 := (hb2.block (w.heap.size + 1) (by simp)).trans (heap_alloc2_new w (.cells #[.int .i64 0, .int .i64 0] 28) (.cells #[.int .i64 (n - 1), .int .i64 ((y : Int) - 65)] 28))
  have HB2 := Lib.hid ((show Below w.heap.size w ((w.alloc (.cells #[.int .i64 0, .int .i64 0] 28)).alloc (.cells #[.int .i64 (n - 1), .int .i64 ((y : Int) - 65)] 28)) from ((Below.refl _ _).alloc (Nat.le_refl _) _).alloc (by simp) _).trans (hb2.mono (by simp; omega)))
  obtain ⟨_, _, f0, f1⟩ := cellsP M0
  obtain ⟨k0, k1, _, _⟩ := cellsP M1
  have HM0 := Lib.hid M0
  clear M0 M1 hb2
  go_wp2
  exact bodyPost_ret (results_cell_row_tmp rfl _ _ w.heap.size _ #[.int .i64 0, .int .i64 0] _ _ rfl (setP _ _ _ _ _ _ HM0.out) Try.underlying28 rfl Try.sizeSh (.bool false) rfl) rfl ⟨rfl, belowP HB2.out (Nat.le_refl _) _ _⟩


end Go.Proofs.Yteoncpifjifjlaa
