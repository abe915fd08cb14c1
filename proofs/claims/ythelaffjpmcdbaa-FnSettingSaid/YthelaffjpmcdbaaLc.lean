/- What labels are: the model's and the program's LabelsValid by contract. -/
import Derived.Test.YthelaffjpmcdbaaLb
import Derived.BigQuiet
namespace Go.Proofs.Ythelaffjpmcdbaa
open Go.RowKit
set_option linter.unusedVariables false

/-- a label alone -/
def LbOk (x y a g : Int) : Prop := (0 ≤ x ∧ x ≤ 9) ∧ (0 ≤ y ∧ y ≤ 9) ∧ (1 ≤ a ∧ a ≤ 5) ∧ (1 ≤ g ∧ g ≤ 9)
instance (x y a g : Int) : Decidable (LbOk x y a g) := by unfold LbOk; exact inferInstance
noncomputable def lbB (x y a g : Int) : Bool := @decide (LbOk x y a g) (Classical.propDecidable _)
theorem lbB_yes {x y a g : Int} (h : LbOk x y a g) : lbB x y a g = true := by simp [lbB, h]
theorem lbB_no {x y a g : Int} (h : ¬ LbOk x y a g) : lbB x y a g = false := by simp [lbB, h]
/-- two labels at one point -/
def Spot (Z : Nat → Int) (k i : Nat) : Prop := Z (k * 4) = Z (i * 4) ∧ Z (k * 4 + 1) = Z (i * 4 + 1)
def LzOk (Z : Nat → Int) (i : Nat) : Prop := LbOk (Z (i * 4)) (Z (i * 4 + 1)) (Z (i * 4 + 2)) (Z (i * 4 + 3)) ∧ ∀ k, k < i → ¬ Spot Z k i
/-- a list of labels -/
def LsOk (n : Nat) (Z : Nat → Int) : Prop := n ≤ 6 ∧ ∀ i, i < n → LzOk Z i
noncomputable def lsB (n : Nat) (Z : Nat → Int) : Bool := @decide (LsOk n Z) (Classical.propDecidable _)
theorem lsB_yes {n : Nat} {Z : Nat → Int} (h : LsOk n Z) : lsB n Z = true := by simp [lsB, h]
theorem lsB_no {n : Nat} {Z : Nat → Int} (h : ¬ LsOk n Z) : lsB n Z = false := by simp [lsB, h]

theorem RdT.at {lo hi : Nat} {w wr : World} {v : Value} {n : Nat} {Z : Nat → Int} (h : RdT lo hi w v n Z) (hb : Below w.heap.size w wr) (hh : hi ≤ w.heap.size) : RdT lo hi wr v n Z := h.same (SameIn.below hb hh)
theorem RdT.open {lo hi : Nat} {w : World} {v : Value} {n : Nat} {Z : Nat → Int} (h : RdT lo hi w v n Z) (h0 : 0 < n) :
    ∃ b off cap, v = .slice (some ⟨b, off, none⟩) n cap ∧ n ≤ cap ∧ cap ≤ 9223372036854775807 ∧ lo ≤ b ∧ b < hi ∧ ∀ i, i < n * 4 → w.cell? ⟨b, off + i, none⟩ = some (.int .i64 (Z i)) := by
  obtain ⟨ao, cap, b, off, rfl, h2, h3, h4, h5, h6⟩ := h
  obtain ⟨rfl, a, b⟩ := h5 h0
  exact ⟨_, _, _, rfl, h2, h3, a, b, h6⟩

theorem four_of {w : World} {b off n : Nat} {Z : Nat → Int} (h : ∀ i, i < n * 4 → w.cell? ⟨b, off + i, none⟩ = some (.int .i64 (Z i))) {k : Nat} (hk : k < n) :
    w.cell? ⟨b, off + k * 4, none⟩ = some (.int .i64 (Z (k * 4))) ∧ w.cell? ⟨b, off + k * 4 + 1, none⟩ = some (.int .i64 (Z (k * 4 + 1))) ∧ w.cell? ⟨b, off + k * 4 + 2, none⟩ = some (.int .i64 (Z (k * 4 + 2))) ∧ w.cell? ⟨b, off + k * 4 + 3, none⟩ = some (.int .i64 (Z (k * 4 + 3))) :=
  ⟨h _ (by omega), h (k * 4 + 1) (by omega), h (k * 4 + 2) (by omega), h (k * 4 + 3) (by omega)⟩

theorem cellsLb {w : World} {b : Nat} {x y z u : Value} {t : TypeId} (h : w.heap[b]? = some (.cells #[x, y, z, u] t (0, 0))) :
    w.cell? ⟨b, 0, none⟩ = some x ∧ w.cell? ⟨b, 1, none⟩ = some y ∧ w.cell? ⟨b, 2, none⟩ = some z ∧ w.cell? ⟨b, 3, none⟩ = some u :=
  ⟨by simp [World.cell?, h], by simp [World.cell?, h], by simp [World.cell?, h], by simp [World.cell?, h]⟩

/- the program -/
theorem onMap_yes (x y : Int) (w : World) (h1 : 0 ≤ x) (h2 : x < 10) (h3 : 0 ≤ y) (h4 : y < 10) : Calls Try.prog 72 #[.int .i64 x, .int .i64 y] w (SmPost true w) := by
  go_enter Try.func72, Try.ntmps72
  go_wp2
  go_ret
  exact ⟨rfl, rfl⟩
theorem onMap_no (x y : Int) (w : World) (h : ¬ ((0 ≤ x ∧ x < 10) ∧ 0 ≤ y ∧ y < 10)) : Calls Try.prog 72 #[.int .i64 x, .int .i64 y] w (SmPost false w) := by
  by_cases h1 : 0 ≤ x
  case neg =>
    clear h
    go_enter Try.func72, Try.ntmps72
    go_wp2
    go_ret
    exact ⟨rfl, rfl⟩
  by_cases h2 : x < 10
  case neg =>
    clear h
    go_enter Try.func72, Try.ntmps72
    go_wp2
    go_ret
    exact ⟨rfl, rfl⟩
  by_cases h3 : 0 ≤ y
  case neg =>
    clear h
    go_enter Try.func72, Try.ntmps72
    go_wp2
    go_ret
    exact ⟨rfl, rfl⟩
  have h4 : ¬ y < 10 := fun k => h ⟨⟨h1, h2⟩, h3, k⟩
  clear h
  go_enter Try.func72, Try.ntmps72
  go_wp2
  go_ret
  exact ⟨rfl, rfl⟩

set_option maxHeartbeats 2000000 in
theorem isLabel_yes (x y a g : Int) (w : World) (h : LbOk x y a g) : Calls Try.prog 48 #[.agg #[.int .i64 x, .int .i64 y, .int .i64 a, .int .i64 g]] w (BlPost true w) := by
  obtain ⟨⟨h1, h2⟩, ⟨h3, h4⟩, ⟨h5, h6⟩, h7, h8⟩ := h
  go_enter Try.func48, Try.ntmps48
  go_wp2_with fail
  refine (onMap_yes x y _ h1 (by omega) h3 (by omega)).mono ?_
  rintro e w' ⟨rfl, rfl⟩
  go_wp2
  go_ret
  exact ⟨rfl, (Below.refl _ _).alloc (Nat.le_refl _) _⟩
set_option maxHeartbeats 2000000 in
theorem isLabel_no (x y a g : Int) (w : World) (h : ¬ LbOk x y a g) : Calls Try.prog 48 #[.agg #[.int .i64 x, .int .i64 y, .int .i64 a, .int .i64 g]] w (BlPost false w) := by
  by_cases h1 : (0 ≤ x ∧ x < 10) ∧ 0 ≤ y ∧ y < 10
  case neg =>
    clear h
    have H1 := Lib.hid h1
    clear h1
    go_enter Try.func48, Try.ntmps48
    go_wp2_with fail
    refine (onMap_no x y _ H1.out).mono ?_
    rintro e w' ⟨rfl, rfl⟩
    go_wp2
    go_ret
    exact ⟨rfl, (Below.refl _ _).alloc (Nat.le_refl _) _⟩
  have h2 : ¬ ((1 ≤ a ∧ a ≤ 5) ∧ 1 ≤ g ∧ g ≤ 9) := fun k => h ⟨⟨h1.1.1, by omega⟩, ⟨h1.2.1, by omega⟩, k.1, k.2⟩
  have H1 := Lib.hid h1
  clear h h1
  by_cases k1 : 1 ≤ a
  case neg =>
    clear h2
    go_enter Try.func48, Try.ntmps48
    go_wp2_with fail
    refine (onMap_yes x y _ H1.out.1.1 H1.out.1.2 H1.out.2.1 H1.out.2.2).mono ?_
    rintro e w' ⟨rfl, rfl⟩
    go_wp2
    go_ret
    exact ⟨rfl, (Below.refl _ _).alloc (Nat.le_refl _) _⟩
  by_cases k2 : a ≤ 5
  case neg =>
    clear h2
    go_enter Try.func48, Try.ntmps48
    go_wp2_with fail
    refine (onMap_yes x y _ H1.out.1.1 H1.out.1.2 H1.out.2.1 H1.out.2.2).mono ?_
    rintro e w' ⟨rfl, rfl⟩
    go_wp2
    go_ret
    exact ⟨rfl, (Below.refl _ _).alloc (Nat.le_refl _) _⟩
  by_cases k3 : 1 ≤ g
  case neg =>
    clear h2
    go_enter Try.func48, Try.ntmps48
    go_wp2_with fail
    refine (onMap_yes x y _ H1.out.1.1 H1.out.1.2 H1.out.2.1 H1.out.2.2).mono ?_
    rintro e w' ⟨rfl, rfl⟩
    go_wp2
    go_ret
    exact ⟨rfl, (Below.refl _ _).alloc (Nat.le_refl _) _⟩
  have k4 : ¬ g ≤ 9 := fun k => h2 ⟨⟨k1, k2⟩, k3, k⟩
  have K4 := Lib.hid (decide_eq_false k4)
  clear h2
  go_enter Try.func48, Try.ntmps48
  go_wp2_with fail
  refine (onMap_yes x y _ H1.out.1.1 H1.out.1.2 H1.out.2.1 H1.out.2.2).mono ?_
  rintro e w' ⟨rfl, rfl⟩
  go_wp2
  go_ret
  exact ⟨by show Ending.returned (.bool (decide (g ≤ 9))) = _; rw [K4.out], (Below.refl _ _).alloc (Nat.le_refl _) _⟩
theorem isLabel_any (x y a g : Int) (w : World) : Calls Try.prog 48 #[.agg #[.int .i64 x, .int .i64 y, .int .i64 a, .int .i64 g]] w (BlPost (lbB x y a g) w) := by
  by_cases h : LbOk x y a g
  · rw [lbB_yes h]; exact isLabel_yes x y a g w h
  · rw [lbB_no h]; exact isLabel_no x y a g w h

/-- whether a label lies at the point of another one -/
def spB2 (x y X Y : Int) : Bool := decide (x = X) && decide (y = Y)
theorem spB2_yes {x y X Y : Int} (h : x = X ∧ y = Y) : spB2 x y X Y = true := by simp [spB2, h.1, h.2]
theorem spB2_no {x y X Y : Int} (h : ¬ (x = X ∧ y = Y)) : spB2 x y X Y = false := by
  simp only [spB2]
  by_cases h1 : x = X
  · have : ¬ y = Y := fun k => h ⟨h1, k⟩
    simp [this]
  · simp [h1]
set_option maxHeartbeats 2000000 in
theorem samePoint_any (x y a g X Y A G : Int) (B : Nat) (w : World) (hw : w.heap[B]? = some (.cells #[.int .i64 X, .int .i64 Y, .int .i64 A, .int .i64 G] 28 (0, 0))) :
    Calls Try.prog 47 #[.agg #[.int .i64 x, .int .i64 y, .int .i64 a, .int .i64 g], .pointer (some ⟨B, 0, none⟩)] w (BlPost (spB2 x y X Y) w) := by
  obtain ⟨c0, c1, _, _⟩ := cellsLb ((Below.heap_alloc w (.cells #[.int .i64 x, .int .i64 y, .int .i64 a, .int .i64 g] 28) B (lt_of_block hw)).trans hw)
  clear hw
  by_cases h1 : x = X
  · by_cases h2 : y = Y
    · rw [spB2_yes ⟨h1, h2⟩]
      subst h1 h2
      go_enter Try.func47, Try.ntmps47
      go_wp2
      go_ret
      exact ⟨rfl, (Below.refl _ _).alloc (Nat.le_refl _) _⟩
    · rw [spB2_no (fun k => h2 k.2)]
      subst h1
      go_enter Try.func47, Try.ntmps47
      go_wp2
      go_ret
      exact ⟨by show Ending.returned (.bool (y == Y)) = _; rw [show (y == Y) = false from by simpa using h2], (Below.refl _ _).alloc (Nat.le_refl _) _⟩
  · rw [spB2_no (fun k => h1 k.1)]
    go_enter Try.func47, Try.ntmps47
    go_wp2
    go_ret
    exact ⟨rfl, (Below.refl _ _).alloc (Nat.le_refl _) _⟩

/-- the first label at a point -/
def IfPost (n : Nat) (Z : Nat → Int) (X Y : Int) (w : World) (e : Ending) (w' : World) : Prop :=
  ∃ r : Int, e = .returned (.int .i64 r) ∧ ((0 ≤ r ∧ ∃ k, k < n ∧ (Z (k * 4) = X ∧ Z (k * 4 + 1) = Y)) ∨ (r = -1 ∧ ∀ k, k < n → ¬ (Z (k * 4) = X ∧ Z (k * 4 + 1) = Y))) ∧ Below w.heap.size w w'
set_option maxRecDepth 20000 in
set_option maxHeartbeats 4000000 in
theorem indexFunc_any (v : Value) (lo hi n : Nat) (Z : Nat → Int) (X Y A G : Int) (B : Nat) (w : World) (hv : RdT lo hi w v n Z) (hh : hi ≤ w.heap.size) (hn : n ≤ 1000) (hw : w.heap[B]? = some (.cells #[.int .i64 X, .int .i64 Y, .int .i64 A, .int .i64 G] 28 (0, 0))) :
    Calls Try.prog 73 #[v, .func (.func 47) #[] #[.pointer (some ⟨B, 0, none⟩)]] w (IfPost n Z X Y w) := by
  obtain ⟨ao, cap, b, off, rfl, h2, h3, h4, h5, h6⟩ := hv
  have H6 := Lib.hid h6
  have HW := Lib.hid hw
  have HS := Lib.hid (fun (x y a g : Int) (W : World) (hb : Below w.heap.size w W) => samePoint_any x y a g X Y A G B W ((hb.block _ (lt_of_block HW.out)).trans HW.out))
  clear h4 h6 hw
  go_enter Try.func73, Try.ntmps73
  go_wp2
  go_loopw [8] (fun i wr => ∃ k : Nat, k ≤ n ∧ i = .int .i64 k ∧ (∀ j, j < k → ¬ (Z (j * 4) = X ∧ Z (j * 4 + 1) = Y)) ∧ Below w.heap.size w wr) (fun i _ => n - (intOf i).toNat)
  case atStart => exact ⟨0, Nat.zero_le _, rfl, fun j hj => by omega, Below.refl _ _⟩
  case round =>
    obtain ⟨k, hk, rfl, hd, hbel⟩ := hrel
    have HD := Lib.hid hd
    have HB := Lib.hid hbel
    clear hd
    by_cases hlt : k < n
    · obtain ⟨rfl, _, _⟩ := h5 (by omega)
      obtain ⟨c0, c1, c2, c3⟩ := four_of (w := wr) (fun i hi => (hbel.cell (p := ⟨b, off + i, none⟩) (by show b < _; omega)).trans (H6.out i hi)) hlt
      have hlt' : (k : Int) < n := by omega
      clear h5 hbel
      go_wp2_with fail
      refine (HS.out _ _ _ _ _ HB.out).mono ?_
      rintro e w1 ⟨rfl, hb1⟩
      have HB1 := Lib.hid (HB.out.trans (hb1.mono HB.out.size))
      clear hb1
      by_cases he : Z (k * 4) = X ∧ Z (k * 4 + 1) = Y
      · rw [spB2_yes he]
        have HE := Lib.hid he
        clear he
        go_wp2
        go_ret
        exact ⟨_, rfl, Or.inl ⟨by omega, k, hlt, HE.out⟩, HB1.out⟩
      · rw [spB2_no he]
        have HE := Lib.hid he
        clear he
        go_wp2
        go_roundw
        case rel => exact ⟨k + 1, by omega, by go_num, fun j hj => by rcases Nat.lt_or_ge j k with h | h; exact HD.out j h; obtain rfl : j = k := by omega
                                                                      exact HE.out, HB1.out⟩
        case measure => simp [intOf]; omega
    · obtain rfl : k = n := by omega
      clear h5
      go_wp2
      go_ret
      exact ⟨_, rfl, Or.inr ⟨rfl, HD.out⟩, hbel⟩

theorem containsFunc_any (v : Value) (lo hi n : Nat) (Z : Nat → Int) (X Y A G : Int) (B : Nat) (w : World) (hv : RdT lo hi w v n Z) (hh : hi ≤ w.heap.size) (hn : n ≤ 1000) (hw : w.heap[B]? = some (.cells #[.int .i64 X, .int .i64 Y, .int .i64 A, .int .i64 G] 28 (0, 0))) (b : Bool) (hb : b = true ↔ ∃ k, k < n ∧ (Z (k * 4) = X ∧ Z (k * 4 + 1) = Y)) :
    Calls Try.prog 49 #[v, .func (.func 47) #[] #[.pointer (some ⟨B, 0, none⟩)]] w (BlPost b w) := by
  obtain ⟨ao, cap, rfl⟩ := hv.shape
  have HI := Lib.hid (indexFunc_any _ lo hi n Z X Y A G B w hv hh hn hw)
  have HBI := Lib.hid hb
  clear hv hw hb
  go_enter Try.func49, Try.ntmps49
  go_wp2_with fail
  refine HI.out.mono ?_
  rintro e w1 ⟨r, rfl, hr, hb1⟩
  have HB1 := Lib.hid hb1
  have HR := Lib.hid hr
  clear hb1 hr
  by_cases h0 : 0 ≤ r
  · have e : b = true := HBI.out.2 (by rcases HR.out with h | h; exact h.2; omega)
    subst e
    go_wp2
    go_ret
    exact ⟨rfl, HB1.out⟩
  · have e : b = false := by
      rcases HR.out with h | h
      · omega
      · cases hbb : b with
        | false => rfl
        | true => obtain ⟨k, hk, hs⟩ := HBI.out.1 hbb; exact absurd hs (h.2 k hk)
    subst e
    have H0 := Lib.hid (decide_eq_false h0)
    go_wp2
    go_ret
    exact ⟨by show Ending.returned (.bool (decide (0 ≤ r))) = _; rw [H0.out], HB1.out⟩

theorem RdT.take {lo hi : Nat} {w : World} {ao : Option Addr} {n cap : Nat} {Z : Nat → Int} (h : RdT lo hi w (.slice ao n cap) n Z) {k : Nat} (hk : k ≤ n) : RdT lo hi w (.slice ao k cap) k Z := by
  obtain ⟨ao', cap', b, off, he, h2, h3, h4, h5, h6⟩ := h
  simp only [Value.slice.injEq] at he
  obtain ⟨rfl, _, rfl⟩ := he
  exact ⟨ao, cap, b, off, rfl, by omega, h3, fun j hj => h4 j (by omega), fun h0 => h5 (by omega), fun i hi => h6 i (by omega)⟩

set_option maxRecDepth 20000 in
set_option maxHeartbeats 8000000 in
theorem implLabelsValid_any (v : Value) (lo hi n : Nat) (Z : Nat → Int) (w : World) (hv : RdT lo hi w v n Z) (hh : hi ≤ w.heap.size) (hn : n ≤ 9223372036854775807) :
    Calls Try.prog 14 #[v] w (BlPost (lsB n Z) w) := by
  obtain ⟨ao, cap, rfl⟩ := hv.shape
  by_cases h6 : 6 < n
  · rw [lsB_no (fun h => by have := h.1; omega)]
    clear hv
    go_enter Try.func14, Try.ntmps14
    go_wp2
    go_ret
    exact ⟨rfl, Below.refl _ _⟩
  have HV := Lib.hid hv
  have HI := Lib.hid isLabel_any
  clear hv
  go_enter Try.func14, Try.ntmps14
  go_wp2
  go_loopw [11] (fun i wr => ∃ k : Nat, k ≤ n ∧ i = .int .i64 k ∧ (∀ j, j < k → LzOk Z j) ∧ Below w.heap.size w wr) (fun i _ => n - (intOf i).toNat)
  case atStart => exact ⟨0, Nat.zero_le _, rfl, fun j hj => by omega, Below.refl _ _⟩
  case round =>
    obtain ⟨k, hk, rfl, hd, hbel⟩ := hrel
    have HD := Lib.hid hd
    have HB := Lib.hid hbel
    clear hd
    by_cases hlt : k < n
    · obtain ⟨b, off, cap', he, hc1, hc2, hb1, hb2, h4⟩ := HV.out.open (by omega)
      simp only [Value.slice.injEq] at he
      obtain ⟨rfl, _, rfl⟩ := he
      obtain ⟨c0, c1, c2, c3⟩ := four_of (w := wr) (fun i hi => (hbel.cell (p := ⟨b, off + i, none⟩) (by show b < _; omega)).trans (h4 i hi)) hlt
      have hlt' : (k : Int) < n := by omega
      clear h4
      have hN := heap_alloc_new wr (.cells #[.int .i64 (Z (k * 4)), .int .i64 (Z (k * 4 + 1)), .int .i64 (Z (k * 4 + 2)), .int .i64 (Z (k * 4 + 3))] 28)
      have HN := Lib.hid hN
      have HB1 := Lib.hid (hbel.alloc hbel.size (.cells #[.int .i64 (Z (k * 4)), .int .i64 (Z (k * 4 + 1)), .int .i64 (Z (k * 4 + 2)), .int .i64 (Z (k * 4 + 3))] 28))
      clear hN hbel
      go_wp2_with fail
      refine (HI.out _ _ _ _ _).mono ?_
      rintro e w1 ⟨rfl, hb3⟩
      have HB2 := Lib.hid (HB1.out.trans (hb3.mono HB1.out.size))
      have HN2 := Lib.hid ((hb3.block wr.heap.size (by simp)).trans HN.out)
      clear hb3
      by_cases hl : LbOk (Z (k * 4)) (Z (k * 4 + 1)) (Z (k * 4 + 2)) (Z (k * 4 + 3))
      case neg =>
        rw [lbB_no hl]
        have HL := Lib.hid hl
        clear hl
        go_wp2
        go_ret
        exact ⟨by rw [lsB_no (fun h => HL.out (h.2 k hlt).1)]; rfl, HB2.out⟩
      rw [lbB_yes hl]
      have HL := Lib.hid hl
      have HV2 := Lib.hid ((HV.out.at HB2.out hh).take (Nat.le_of_lt hlt))
      have hkc : k ≤ cap := by omega
      clear hl
      by_cases hs : ∃ j, j < k ∧ (Z (j * 4) = Z (k * 4) ∧ Z (j * 4 + 1) = Z (k * 4 + 1))
      · have HC := Lib.hid (containsFunc_any _ lo hi k Z _ _ _ _ _ _ HV2.out (by have := HB2.out.size; omega) (by omega) HN2.out true ⟨fun _ => hs, fun _ => rfl⟩)
        have HS := Lib.hid (show ¬ LsOk n Z from fun h => by obtain ⟨j, hj, he⟩ := hs; exact (h.2 k hlt).2 j hj he)
        clear hs
        go_wp2_with fail
        refine HC.out.mono ?_
        rintro e w2 ⟨rfl, hb4⟩
        have HB3 := Lib.hid (HB2.out.trans (hb4.mono HB2.out.size))
        clear hb4
        go_wp2
        go_ret
        exact ⟨by rw [lsB_no HS.out]; rfl, HB3.out⟩
      · have HC := Lib.hid (containsFunc_any _ lo hi k Z _ _ _ _ _ _ HV2.out (by have := HB2.out.size; omega) (by omega) HN2.out false ⟨fun h => (by cases h), fun h => absurd h hs⟩)
        have HS := Lib.hid (show LzOk Z k from ⟨HL.out, fun j hj he => hs ⟨j, hj, he⟩⟩)
        clear hs
        go_wp2_with fail
        refine HC.out.mono ?_
        rintro e w2 ⟨rfl, hb4⟩
        have HB3 := Lib.hid (HB2.out.trans (hb4.mono HB2.out.size))
        clear hb4
        go_wp2
        go_roundw
        case rel => exact ⟨k + 1, by omega, by go_num, fun j hj => by
          rcases Nat.lt_or_ge j k with h | h
          · exact HD.out j h
          · obtain rfl : j = k := by omega
            exact HS.out, HB3.out⟩
        case measure => simp [intOf]; omega
    · obtain rfl : k = n := by omega
      clear hbel
      go_wp2
      go_ret
      exact ⟨by rw [lsB_yes ⟨by omega, HD.out⟩]; rfl, HB.out⟩

/- the model -/
set_option maxRecDepth 20000 in
set_option maxHeartbeats 8000000 in
theorem specLabelsValid_any (v : Value) (lo hi n : Nat) (Z : Nat → Int) (w : World) (hv : RdT lo hi w v n Z) (hh : hi ≤ w.heap.size) (hn : n ≤ 1048576) :
    Calls Try.prog 15 #[v] w (BlPost (lsB n Z) w) := by
  obtain ⟨ao, cap, rfl⟩ := hv.shape
  have HV := Lib.hid hv
  clear hv
  go_enter Try.func15, Try.ntmps15
  go_wp2
  go_loopw [3] (fun i wr => ∃ k : Nat, k ≤ n ∧ i = .int .i64 k ∧ (∀ j, j < k → LzOk Z j) ∧ Below w.heap.size w wr) (fun i _ => n - (intOf i).toNat)
  case atStart => exact ⟨0, Nat.zero_le _, rfl, fun j hj => by omega, Below.refl _ _⟩
  case round =>
    obtain ⟨k, hk, rfl, hd, hbel⟩ := hrel
    have HD := Lib.hid hd
    have HB := Lib.hid hbel
    clear hd
    by_cases hlt : k < n
    · obtain ⟨b, off, cap', he, hc1, hc2, hb1, hb2, h4⟩ := HV.out.open (by omega)
      simp only [Value.slice.injEq] at he
      obtain ⟨rfl, _, rfl⟩ := he
      have H4 := Lib.hid (show ∀ i, i < n * 4 → wr.cell? ⟨b, off + i, none⟩ = some (.int .i64 (Z i)) from fun i hi => (hbel.cell (p := ⟨b, off + i, none⟩) (by show b < _; omega)).trans (h4 i hi))
      obtain ⟨c0, c1, c2, c3⟩ := four_of (w := wr) H4.out hlt
      have hlt' : (k : Int) < n := by omega
      clear h4
      have hN := heap_alloc_new wr (.cells #[.int .i64 (Z (k * 4)), .int .i64 (Z (k * 4 + 1)), .int .i64 (Z (k * 4 + 2)), .int .i64 (Z (k * 4 + 3))] 28)
      have HN := Lib.hid hN
      have HB1 := Lib.hid (hbel.alloc hbel.size (.cells #[.int .i64 (Z (k * 4)), .int .i64 (Z (k * 4 + 1)), .int .i64 (Z (k * 4 + 2)), .int .i64 (Z (k * 4 + 3))] 28))
      clear hN hbel
      by_cases hl : LbOk (Z (k * 4)) (Z (k * 4 + 1)) (Z (k * 4 + 2)) (Z (k * 4 + 3))
      case neg =>
        have HL := Lib.hid (show ¬ LsOk n Z from fun h => hl (h.2 k hlt).1)
        have HL2 := Lib.hid hl
        clear hl
        go_wp2_with fail
        by_cases k1 : 0 ≤ Z (k * 4) ∧ Z (k * 4) ≤ 9
        case neg =>
          refine (l6In_no _ _ _ _ (by omega)).mono ?_
          rintro e w1 ⟨rfl, rfl⟩
          clear k1
          go_wp2
          go_ret
          exact ⟨by rw [lsB_no HL.out]; rfl, HB1.out⟩
        refine (l6In_yes _ _ _ _ k1.1 k1.2).mono ?_
        rintro e w1 ⟨rfl, rfl⟩
        have K1 := Lib.hid k1
        clear k1
        go_wp2_with fail
        by_cases k2 : 0 ≤ Z (k * 4 + 1) ∧ Z (k * 4 + 1) ≤ 9
        case neg =>
          refine (l6In_no _ _ _ _ (by omega)).mono ?_
          rintro e w1 ⟨rfl, rfl⟩
          clear k2
          go_wp2
          go_ret
          exact ⟨by rw [lsB_no HL.out]; rfl, HB1.out⟩
        refine (l6In_yes _ _ _ _ k2.1 k2.2).mono ?_
        rintro e w1 ⟨rfl, rfl⟩
        have K2 := Lib.hid k2
        clear k2
        go_wp2_with fail
        by_cases k3 : 1 ≤ Z (k * 4 + 2) ∧ Z (k * 4 + 2) ≤ 5
        case neg =>
          refine (l6In_no _ _ _ _ (by omega)).mono ?_
          rintro e w1 ⟨rfl, rfl⟩
          clear k3
          go_wp2
          go_ret
          exact ⟨by rw [lsB_no HL.out]; rfl, HB1.out⟩
        refine (l6In_yes _ _ _ _ k3.1 k3.2).mono ?_
        rintro e w1 ⟨rfl, rfl⟩
        have K3 := Lib.hid k3
        clear k3
        go_wp2_with fail
        refine (l6In_no _ _ _ _ (by
          by_cases k4 : 1 ≤ Z (k * 4 + 3) ∧ Z (k * 4 + 3) ≤ 9
          · exact absurd ⟨K1.out, K2.out, K3.out, k4⟩ HL2.out
          · omega)).mono ?_
        rintro e w1 ⟨rfl, rfl⟩
        go_wp2
        go_ret
        exact ⟨by rw [lsB_no HL.out]; rfl, HB1.out⟩
      have HL := Lib.hid hl
      clear hl
      go_wp2_with fail
      refine (l6In_yes _ _ _ _ HL.out.1.1 HL.out.1.2).mono ?_
      rintro e w1 ⟨rfl, rfl⟩
      go_wp2_with fail
      refine (l6In_yes _ _ _ _ HL.out.2.1.1 HL.out.2.1.2).mono ?_
      rintro e w1 ⟨rfl, rfl⟩
      go_wp2_with fail
      refine (l6In_yes _ _ _ _ HL.out.2.2.1.1 HL.out.2.2.1.2).mono ?_
      rintro e w1 ⟨rfl, rfl⟩
      go_wp2_with fail
      refine (l6In_yes _ _ _ _ HL.out.2.2.2.1 HL.out.2.2.2.2).mono ?_
      rintro e w1 ⟨rfl, rfl⟩
      obtain ⟨W1, hW1⟩ : ∃ W1, wr.alloc (.cells #[.int .i64 (Z (k * 4)), .int .i64 (Z (k * 4 + 1)), .int .i64 (Z (k * 4 + 2)), .int .i64 (Z (k * 4 + 3))] 28) = W1 := ⟨_, rfl⟩
      have H4' := Lib.hid (show ∀ i, i < n * 4 → W1.cell? ⟨b, off + i, none⟩ = some (.int .i64 (Z i)) from fun i hi => by
        rw [← hW1]
        exact (((Below.refl _ wr).alloc (Nat.le_refl _) _).cell (p := ⟨b, off + i, none⟩) (by show b < _; have := HB.out.size; omega)).trans (H4.out i hi))
      obtain ⟨e0, e1, e2, e3⟩ := cellsLb HN.out
      rw [hW1] at HN HB1 e0 e1 e2 e3
      go_wp2_with fail
      clear c0 c1 c2 c3 hW1
      have X3 := Lib.hid (show ∀ i, i < k → ∃ q0 q1 : Int, q0 = Z (i * 4) ∧ q1 = Z (i * 4 + 1) ∧ W1.cell? ⟨b, off + i * 4, none⟩ = some (.int .i64 q0) ∧ W1.cell? ⟨b, off + i * 4 + 1, none⟩ = some (.int .i64 q1) from fun i hi => ⟨_, _, rfl, rfl, H4'.out _ (by omega), H4'.out (i * 4 + 1) (by omega)⟩)
      go_loopw [5] (fun i wr => ∃ m q : Nat, m ≤ k ∧ i = .int .i64 m ∧ wr = W1.drewN q ∧ ∀ j, j < m → ¬ Spot Z j k) (fun i _ => k - (intOf i).toNat)
      case atStart => exact ⟨0, 0, Nat.zero_le _, rfl, rfl, fun j hj => by omega⟩
      case round =>
        obtain ⟨m, q, hm, rfl, rfl, hq⟩ := hrel
        have HQ := Lib.hid hq
        clear hq
        by_cases hmk : m < k
        · have hmk' : (m : Int) < k := by omega
          have hmn : m < n := by omega
          obtain ⟨q0, q1, eq0, eq1, d0, d1⟩ := X3.out m hmk
          by_cases s0 : q0 = Z (k * 4)
          · by_cases s1 : q1 = Z (k * 4 + 1)
            · have HE := Lib.hid (show lsB n Z = false from lsB_no (fun h => (h.2 k hlt).2 m hmk ⟨by rw [← eq0]; exact s0, by rw [← eq1]; exact s1⟩))
              have b0 : (q0 == Z (k * 4)) = true := by simpa using s0
              have b1 : (q1 == Z (k * 4 + 1)) = true := by simpa using s1
              clear s0 s1 eq0 eq1
              go_wp2
              go_quiet (fail)
              go_wp2
              go_ret
              exact ⟨by rw [HE.out]; rfl, below_drewN (below_drewN HB1.out _) _⟩
            · have HE := Lib.hid (show ¬ Spot Z m k from fun h => s1 (by rw [eq1]; exact h.2))
              have b0 : (q0 == Z (k * 4)) = true := by simpa using s0
              have b1 : (q1 == Z (k * 4 + 1)) = false := by simpa using s1
              clear s0 s1 eq0 eq1
              go_wp2
              go_quiet (fail)
              go_wp2
              go_roundw
              case rel => exact ⟨m + 1, q + nq, by omega, by go_num, by simp, fun j hj => by
                rcases Nat.lt_or_ge j m with h | h
                · exact HQ.out j h
                · obtain rfl : j = m := by omega
                  exact HE.out⟩
              case measure => simp [intOf]; omega
          · have HE := Lib.hid (show ¬ Spot Z m k from fun h => s0 (by rw [eq0]; exact h.1))
            have b0 : (q0 == Z (k * 4)) = false := by simpa using s0
            clear s0 eq0 eq1
            go_wp2
            go_quiet (fail)
            go_wp2
            go_roundw
            case rel => exact ⟨m + 1, q + nq, by omega, by go_num, by simp, fun j hj => by
                rcases Nat.lt_or_ge j m with h | h
                · exact HQ.out j h
                · obtain rfl : j = m := by omega
                  exact HE.out⟩
            case measure => simp [intOf]; omega
        · obtain rfl : m = k := by omega
          have HL2 := Lib.hid (show LzOk Z m from ⟨HL.out, HQ.out⟩)
          go_wp2
          go_roundw
          case rel => exact ⟨m + 1, by omega, by go_num, fun j hj => by
                rcases Nat.lt_or_ge j m with h | h
                · exact HD.out j h
                · obtain rfl : j = m := by omega
                  exact HL2.out, below_drewN HB1.out _⟩
          case measure => simp [intOf]; omega
    · obtain rfl : n = k := by omega
      by_cases h6 : n ≤ 6
      · have HE := Lib.hid (show lsB n Z = true from lsB_yes ⟨h6, HD.out⟩)
        have h6' := Lib.hid (show decide ((n : Int) ≤ 6) = true from decide_eq_true (by omega))
        clear hbel
        go_wp2
        go_ret
        exact ⟨by rw [HE.out]; show Ending.returned (.bool (decide ((n : Int) ≤ 6))) = _; rw [h6'.out], HB.out⟩
      · have HE := Lib.hid (show lsB n Z = false from lsB_no (fun h => h6 h.1))
        have h6' := Lib.hid (show decide ((n : Int) ≤ 6) = false from decide_eq_false (by omega))
        clear hbel
        go_wp2
        go_ret
        exact ⟨by rw [HE.out]; show Ending.returned (.bool (decide ((n : Int) ≤ 6))) = _; rw [h6'.out], HB.out⟩

end Go.Proofs.Ythelaffjpmcdbaa
