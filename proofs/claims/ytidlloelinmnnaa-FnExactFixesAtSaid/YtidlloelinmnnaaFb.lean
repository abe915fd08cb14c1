/- Corrections: a list of corrections as an argument; its copies, comparisons and marks. -/
import Derived.Test.YtidlloelinmnnaaM1
namespace Go.Proofs.Ytidlloelinmnnaa
open Go.RowKit
set_option linter.unusedVariables false

/-- a list of corrections in memory: four numbers each -/
def RdT (lo hi : Nat) (w : World) (v : Value) (n : Nat) (Z : Nat → Int) : Prop :=
  ∃ (ao : Option Addr) (cap b off : Nat), v = .slice ao n cap ∧ n ≤ cap ∧ cap ≤ 9223372036854775807 ∧ (∀ j, j < n * 4 → -9223372036854775808 ≤ Z j ∧ Z j ≤ 9223372036854775807) ∧
    (0 < n → ao = some ⟨b, off, none⟩ ∧ lo ≤ b ∧ b < hi) ∧ ∀ j, j < n * 4 → w.cell? ⟨b, off + j, none⟩ = some (.int .i64 (Z j))

theorem RdT.same {lo hi : Nat} {w w' : World} {v : Value} {n : Nat} {Z : Nat → Int} (h : RdT lo hi w v n Z) (hs : SameIn lo hi w w') : RdT lo hi w' v n Z := by
  obtain ⟨ao, cap, b, off, h1, h2, h3, h4, h5, h6⟩ := h
  refine ⟨ao, cap, b, off, h1, h2, h3, h4, h5, fun i hi' => ?_⟩
  have h0 : 0 < n := by omega
  exact (World.cell?_of_block (a := ⟨b, off + i, none⟩) (hs b (h5 h0).2.1 (h5 h0).2.2)).trans (h6 i hi')
theorem RdT.mono {lo hi lo' hi' : Nat} {w : World} {v : Value} {n : Nat} {Z : Nat → Int} (h : RdT lo hi w v n Z) (h1 : lo' ≤ lo) (h2 : hi ≤ hi') : RdT lo' hi' w v n Z := by
  obtain ⟨ao, cap, b, off, a1, a2, a3, a4, a5, a6⟩ := h
  exact ⟨ao, cap, b, off, a1, a2, a3, a4, fun h0 => ⟨(a5 h0).1, Nat.le_trans h1 (a5 h0).2.1, Nat.lt_of_lt_of_le (a5 h0).2.2 h2⟩, a6⟩
theorem RdT.congr {lo hi : Nat} {w : World} {v : Value} {n : Nat} {Z Z' : Nat → Int} (h : RdT lo hi w v n Z) (e : ∀ j, j < n * 4 → Z j = Z' j) : RdT lo hi w v n Z' := by
  obtain ⟨ao, cap, b, off, a1, a2, a3, a4, a5, a6⟩ := h
  exact ⟨ao, cap, b, off, a1, a2, a3, fun i hi => by rw [← e i hi]; exact a4 i hi, a5, fun i hi => by rw [← e i hi]; exact a6 i hi⟩
theorem RdT.shape {lo hi : Nat} {w : World} {v : Value} {n : Nat} {Z : Nat → Int} (h : RdT lo hi w v n Z) : ∃ a c, v = .slice a n c := by
  obtain ⟨ao, cap, b, off, h1, h2, h3, h4, h5, h6⟩ := h
  exact ⟨_, _, h1⟩
theorem RdT.range {lo hi : Nat} {w : World} {v : Value} {n : Nat} {Z : Nat → Int} (h : RdT lo hi w v n Z) : ∀ j, j < n * 4 → -9223372036854775808 ≤ Z j ∧ Z j ≤ 9223372036854775807 := by
  obtain ⟨ao, cap, b, off, h1, h2, h3, h4, h5, h6⟩ := h
  exact h4

/-- a correction's value -/
def lbV (x y a g : Int) : Value := .agg #[.int .i64 x, .int .i64 y, .int .i64 a, .int .i64 g]
def LbPost (x y a g : Int) (w : World) (e : Ending) (w' : World) : Prop := e = .returned (.agg #[.int .i64 x, .int .i64 y, .int .i64 a, .int .i64 g]) ∧ Below w.heap.size w w'

theorem four_cells (f g : Nat → Value) (k j : Nat) :
    (if j = k * 4 + 3 then f (k * 4 + 3) else if j = k * 4 + 2 then f (k * 4 + 2) else if j = k * 4 + 1 then f (k * 4 + 1) else if j = k * 4 then f (k * 4) else if j < k * 4 then f j else g j) = if j < (k + 1) * 4 then f j else g j := by
  by_cases h3 : j = k * 4 + 3
  · subst h3; rw [if_pos rfl, if_pos (by omega)]
  rw [if_neg h3]
  by_cases h2 : j = k * 4 + 2
  · subst h2; rw [if_pos rfl, if_pos (by omega)]
  rw [if_neg h2]
  by_cases h1 : j = k * 4 + 1
  · subst h1; rw [if_pos rfl, if_pos (by omega)]
  rw [if_neg h1]
  by_cases h0 : j = k * 4
  · subst h0; rw [if_pos rfl, if_pos (by omega)]
  rw [if_neg h0]
  by_cases hl : j < k * 4
  · rw [if_pos hl, if_pos (by omega)]
  · rw [if_neg hl, if_neg (by omega)]

theorem four_cells' (f g : Nat → Value) (k j : Nat) (v0 v1 v2 v3 : Value) (h0 : v0 = f (k * 4)) (h1 : v1 = f (k * 4 + 1)) (h2 : v2 = f (k * 4 + 2)) (h3 : v3 = f (k * 4 + 3)) :
    (if j = k * 4 + 3 then v3 else if j = k * 4 + 2 then v2 else if j = k * 4 + 1 then v1 else if j = k * 4 then v0 else if j < k * 4 then f j else g j) = if j < (k + 1) * 4 then f j else g j := by
  subst h0 h1 h2 h3
  exact four_cells f g k j

theorem Try.sizeLb : (Try.prog.info? 63).map (·.size) = some 4 := by kernel_rfl
theorem Try.infoLb : (Try.prog.info? 63).map (fun i => (i.zero, i.size, i.bytes)) = some (some (.agg #[.int .i64 0, .int .i64 0, .int .i64 0, .int .i64 0]), 4, 32) := by kernel_rfl

set_option maxHeartbeats 2000000 in
theorem toLabel_any (x y a g : Int) (w : World) : Calls Try.prog 67 #[.agg #[.int .i64 x, .int .i64 y, .int .i64 a, .int .i64 g]] w (LbPost x y a g w) := by
  go_enter Try.func67, Try.ntmps67
  go_wp2
  exact bodyPost_ret (results_cell_row rfl _ _ (w.heap.size + 1) _ #[.int .i64 x, .int .i64 y, .int .i64 a, .int .i64 g] _ _ rfl ((Below.heap_alloc _ _ _ (by simp)).trans (heap_alloc2_new w _ _)) Try.underlying63 rfl Try.sizeLb) rfl ⟨rfl, (((Below.refl _ _).alloc (Nat.le_refl _) _).alloc (by simp) _).alloc (by simp; omega) _⟩

theorem run_make_lb (n : Nat) (hn : n ≤ 1048576) (w : World) :
    (Instr.makeSlice 30 (.int .i64 (n : Int)) (.int .i64 (n : Int))).run Try.prog w = .ok (.slice (some ⟨w.heap.size, 0, none⟩) n n) (w.alloc (.cells (madeCells #[.int .i64 0, .int .i64 0, .int .i64 0, .int .i64 0] (n * 4)) 63)) := by
  obtain ⟨i, hi, hzz⟩ := Option.map_eq_some_iff.1 Try.infoLb
  simp only [Prod.mk.injEq] at hzz
  obtain ⟨hz, hs, hb⟩ := hzz
  have h := run_make (P := Try.prog) w 30 63 i _ Try.underlying30 hi hz .i64 .i64 n n (by omega) (Int.le_refl _) (by rw [hb]; omega) (by omega)
  rw [hs] at h
  simpa [Value.cells] using h
theorem madeLb_at (n : Nat) : ∀ j, j < n * 4 → (madeCells #[.int .i64 0, .int .i64 0, .int .i64 0, .int .i64 0] (n * 4))[j]? = some (.int .i64 0) := by
  intro j hj
  have h4 : j % 4 = 0 ∨ j % 4 = 1 ∨ j % 4 = 2 ∨ j % 4 = 3 := by omega
  simp only [madeCells]
  rcases h4 with h | h | h | h <;> simp [h, hj]
theorem rowIs_madeLb (w : World) (n : Nat) : (w.alloc (.cells (madeCells #[.int .i64 0, .int .i64 0, .int .i64 0, .int .i64 0] (n * 4)) 63)).rowIs w.heap.size 63 (n * 4) (fun _ => .int .i64 0) := by
  have hs : (madeCells #[.int .i64 0, .int .i64 0, .int .i64 0, .int .i64 0] (n * 4)).size = n * 4 := size_madeCells _ _
  have h := World.rowIs_alloc w (madeCells #[.int .i64 0, .int .i64 0, .int .i64 0, .int .i64 0] (n * 4)) 63 (fun _ => .int .i64 0) (fun i hi => madeLb_at n i (by omega))
  rwa [hs] at h

set_option maxHeartbeats 1000000 in
theorem szLabelS_any (ao : Option Addr) (n cap : Nat) (l : Int) (w : World) (hn : n ≤ 9223372036854775807) (h0 : 0 ≤ l) (h1 : l ≤ 1048576) :
    Calls Try.prog 16 #[.slice ao n cap, .int .i64 l] w (SzIPost n l w) := by
  by_cases h : l < n
  · go_enter Try.func16, Try.ntmps16
    go_wp2
    go_ret
    exact ⟨Or.inl ⟨h, rfl⟩, rfl⟩
  · go_enter Try.func16, Try.ntmps16
    go_wp2
    go_ret
    exact ⟨Or.inr ⟨by omega, rfl⟩, rfl⟩

set_option maxRecDepth 20000 in
set_option maxHeartbeats 2000000 in
theorem toLabelS_any (v : Value) (lo hi n : Nat) (Z : Nat → Int) (w : World) (hv : RdT lo hi w v n Z) (hn : n ≤ 1048576) (hh : hi ≤ w.heap.size) :
    Calls Try.prog 19 #[v] w fun e w' => e = .returned (.slice (some ⟨w.heap.size, 0, none⟩) n n) ∧ w'.rowIs w.heap.size 63 (n * 4) (fun i => .int .i64 (Z i)) ∧ Below w.heap.size w w' := by
  obtain ⟨ao, cap, b, off, rfl, h2, h3, h4, h5, h6⟩ := hv
  have hmk := run_make_lb n hn
  have HT := Lib.hid toLabel_any
  go_enter Try.func19, Try.ntmps19
  go_wp2
  clear hmk
  go_loopw [4] (fun i wr => ∃ k : Nat, k ≤ n ∧ i = .int .i64 k ∧ wr.rowIs w.heap.size 63 (n * 4) (fun j => if j < k * 4 then .int .i64 (Z j) else .int .i64 0) ∧ Below w.heap.size w wr)
    (fun i _ => n - (intOf i).toNat)
  case atStart => exact ⟨0, Nat.zero_le _, rfl, (rowIs_madeLb w n).congr (fun j _ => by simp), (Below.refl _ _).alloc (Nat.le_refl _) _⟩
  case round =>
    obtain ⟨k, hk, rfl, hrow, hbel⟩ := hrel
    by_cases hlt : k < n
    · obtain ⟨rfl, hb1, hb2⟩ := h5 (by omega)
      have cc : ∀ j, j < n * 4 → wr.cell? ⟨b, off + j, none⟩ = some (.int .i64 (Z j)) := fun j hj => (hbel.cell (p := ⟨b, off + j, none⟩) (by show b < _; omega)).trans (h6 j hj)
      have c0 := cc (k * 4) (by omega)
      have c1 : wr.cell? ⟨b, off + k * 4 + 1, none⟩ = _ := cc (k * 4 + 1) (by omega)
      have c2 : wr.cell? ⟨b, off + k * 4 + 2, none⟩ = _ := cc (k * 4 + 2) (by omega)
      have c3 : wr.cell? ⟨b, off + k * 4 + 3, none⟩ = _ := cc (k * 4 + 3) (by omega)
      clear h5 h6 h4 cc
      go_wp2_with fail
      refine (HT.out _ _ _ _ _).mono ?_
      rintro e w1 ⟨rfl, hb⟩
      have hrow1 := hrow.of_block (hb.block _ hrow.lt)
      have hbel1 := hbel.trans (hb.mono hbel.size)
      have e0 := hrow1.cell (i := k * 4) (by omega)
      have e1 := hrow1.cell (i := k * 4 + 1) (by omega)
      have e2 := hrow1.cell (i := k * 4 + 2) (by omega)
      have e3 := hrow1.cell (i := k * 4 + 3) (by omega)
      have f0 := hrow1.frozen (k * 4)
      have f1 := hrow1.frozen (k * 4 + 1)
      have f2 := hrow1.frozen (k * 4 + 2)
      have f3 := hrow1.frozen (k * 4 + 3)
      clear hb hrow hbel c0 c1 c2 c3
      have R1 := Lib.hid ((((hrow1.set (k * 4) (.int .i64 (Z (k * 4)))).set (k * 4 + 1) (.int .i64 (Z (k * 4 + 1)))).set (k * 4 + 2) (.int .i64 (Z (k * 4 + 2)))).set (k * 4 + 3) (.int .i64 (Z (k * 4 + 3))))
      have R2 := Lib.hid ((((hbel1.setCell (p := ⟨w.heap.size, k * 4, none⟩) (Nat.le_refl _) (.int .i64 (Z (k * 4)))).setCell (p := ⟨w.heap.size, k * 4 + 1, none⟩) (Nat.le_refl _) (.int .i64 (Z (k * 4 + 1)))).setCell (p := ⟨w.heap.size, k * 4 + 2, none⟩) (Nat.le_refl _) (.int .i64 (Z (k * 4 + 2)))).setCell (p := ⟨w.heap.size, k * 4 + 3, none⟩) (Nat.le_refl _) (.int .i64 (Z (k * 4 + 3))))
      clear hrow1 hbel1
      go_wp2
      go_roundw
      case rel => exact ⟨k + 1, by omega, by go_num, R1.out.congr (fun j hj => four_cells (fun j => .int .i64 (Z j)) (fun _ => .int .i64 0) k j), R2.out⟩
      case measure => simp [intOf]; omega
    · have e : k = n := by omega
      subst e
      have R1 := hrow.congr (g := fun i => .int .i64 (Z i)) (fun j hj => by simp [hj])
      clear h5 h6 h4 hrow
      go_wp2
      go_ret
      exact ⟨rfl, R1, hbel⟩

/-- a list of corrections in a block of its own -/
def OwT (lo hi : Nat) (w : World) (v : Value) (n : Nat) (Z : Nat → Int) : Prop :=
  (v = .slice none 0 0 ∧ n = 0) ∨ ∃ (b N cap : Nat) (F : Nat → Value), v = .slice (some ⟨b, 0, none⟩) n cap ∧ lo ≤ b ∧ b < hi ∧ w.rowIs b 63 N F ∧ n * 4 ≤ N ∧ n ≤ cap ∧ cap ≤ 9223372036854775807 ∧ (∀ i, i < n * 4 → F i = .int .i64 (Z i)) ∧
    ∀ i, i < n * 4 → -9223372036854775808 ≤ Z i ∧ Z i ≤ 9223372036854775807

theorem OwT.rd {lo hi : Nat} {w : World} {v : Value} {n : Nat} {Z : Nat → Int} (h : OwT lo hi w v n Z) : RdT lo hi w v n Z := by
  rcases h with ⟨rfl, rfl⟩ | ⟨b, N, cap, F, rfl, h1, h2, h3, h4, h5, h6, h7, h8⟩
  · exact ⟨none, 0, 0, 0, rfl, by omega, by omega, fun i hi => by omega, fun h => by omega, fun i hi => by omega⟩
  · exact ⟨_, cap, b, 0, rfl, h5, h6, h8, fun _ => ⟨rfl, h1, h2⟩, fun i hi => by rw [Nat.zero_add, h3.cell (by omega), h7 i hi]⟩
theorem OwT.same {lo hi : Nat} {w w' : World} {v : Value} {n : Nat} {Z : Nat → Int} (h : OwT lo hi w v n Z) (hs : SameIn lo hi w w') : OwT lo hi w' v n Z := by
  rcases h with h | ⟨b, N, cap, F, h0, h1, h2, h3, h4⟩
  · exact Or.inl h
  · exact Or.inr ⟨b, N, cap, F, h0, h1, h2, h3.of_block (hs b h1 h2), h4⟩
theorem OwT.none (lo hi : Nat) (w : World) (Z : Nat → Int) : OwT lo hi w (.slice none 0 0) 0 Z := Or.inl ⟨rfl, rfl⟩

def MtPost (lo hi : Nat) (v : Value) (n : Nat) (k : Int) (w : World) (e : Ending) (w' : World) : Prop :=
  e = .returned (.int .i64 (k + n * 4)) ∧ OwT lo hi w' v n (fun i => k + i) ∧ Chg lo hi w w' ∧ w'.heap.size = w.heap.size

theorem setCell_size (w : World) (a : Addr) (u : Value) : (w.setCell a u).heap.size = w.heap.size := by simp [World.setCell]

set_option maxHeartbeats 2000000 in
theorem markT_any (v : Value) (lo hi n : Nat) (Z : Nat → Int) (k : Int) (w : World) (hv : OwT lo hi w v n Z) (h0 : 0 ≤ k) (h1 : k ≤ 4398046511104) (hn : n ≤ 1048576) :
    Calls Try.prog 25 #[v, .int .i64 k] w (MtPost lo hi v n k w) := by
  rcases hv with ⟨rfl, rfl⟩ | ⟨b, N, cap, F, rfl, hb1, hb2, h, hN, hc, hcap, hF, hZ⟩
  · go_enter Try.func25, Try.ntmps25
    go_wp2
    refine wp_loop_rounds 1 ?_
    rw [rounds_succ]
    go_wp2
    go_ret
    exact ⟨by simp, OwT.none _ _ _ _, Chg.refl _ _ _, rfl⟩
  · have HF := Lib.hid hF
    clear hF hZ
    go_enter Try.func25, Try.ntmps25
    go_wp2
    go_loopw [1, 5] (fun x i wr => ∃ r : Nat, r ≤ n ∧ i = .int .i64 r ∧ x = .int .i64 (k + r * 4) ∧ wr.rowIs b 63 N (fun j => if j < r * 4 then .int .i64 (k + j) else F j) ∧ Chg lo hi w wr ∧ wr.heap.size = w.heap.size)
      (fun _ i _ => n - (intOf i).toNat)
    case atStart => exact ⟨0, Nat.zero_le _, rfl, by go_num, h.congr (fun j _ => by simp), Chg.refl _ _ _, rfl⟩
    case round =>
      obtain ⟨r, hr, rfl, rfl, hrow, hchg, hsz⟩ := hrel
      have Hs := Lib.hid hsz
      clear hsz
      by_cases hlt : r < n
      · have e0 := hrow.cell (i := r * 4) (by omega)
        have e1 := hrow.cell (i := r * 4 + 1) (by omega)
        have e2 := hrow.cell (i := r * 4 + 2) (by omega)
        have e3 := hrow.cell (i := r * 4 + 3) (by omega)
        rw [if_neg (by omega), HF.out _ (by omega)] at e0 e1 e2 e3
        have f0 := hrow.frozen (r * 4)
        have f1 := hrow.frozen (r * 4 + 1)
        have f2 := hrow.frozen (r * 4 + 2)
        have f3 := hrow.frozen (r * 4 + 3)
        have R1 := Lib.hid ((((hrow.set (r * 4) (.int .i64 (k + (r : Int) * 4))).set (r * 4 + 1) (.int .i64 (k + (r : Int) * 4 + 1))).set (r * 4 + 2) (.int .i64 (k + (r : Int) * 4 + 1 + 1))).set (r * 4 + 3) (.int .i64 (k + (r : Int) * 4 + 1 + 1 + 1)))
        have R2 := Lib.hid ((((hchg.setCell (p := ⟨b, r * 4, none⟩) hb1 hb2 (.int .i64 (k + (r : Int) * 4))).setCell (p := ⟨b, r * 4 + 1, none⟩) hb1 hb2 (.int .i64 (k + (r : Int) * 4 + 1))).setCell (p := ⟨b, r * 4 + 2, none⟩) hb1 hb2 (.int .i64 (k + (r : Int) * 4 + 1 + 1))).setCell (p := ⟨b, r * 4 + 3, none⟩) hb1 hb2 (.int .i64 (k + (r : Int) * 4 + 1 + 1 + 1)))
        clear h hchg hrow
        go_wp2
        go_roundw
        case rel =>
          refine ⟨r + 1, by omega, by go_num, by go_num, R1.out.congr (fun j hj => ?_), R2.out, by simp only [setCell_size]; exact Hs.out⟩
          exact four_cells' (fun j => .int .i64 (k + (j : Int))) F r j _ _ _ _ (by simp) (by simp; omega) (by simp; omega) (by simp; omega)
        case measure => simp [intOf]; omega
      · have e : r = n := by omega
        subst e
        have R1 := Lib.hid hrow
        clear hrow h
        go_wp2
        go_ret
        exact ⟨rfl, Or.inr ⟨b, N, cap, _, rfl, hb1, hb2, R1.out, hN, hc, hcap, fun i hi => by simp [hi], fun i hi => by show -9223372036854775808 ≤ k + (i : Int) ∧ k + (i : Int) ≤ 9223372036854775807; omega⟩, hchg, Hs.out⟩

set_option maxHeartbeats 2000000 in
theorem heldT_any (v : Value) (lo hi n : Nat) (w : World) (hv : OwT lo hi w v n (fun i => 1 + i)) (hn : n ≤ 1048576) :
    Calls Try.prog 32 #[v, .int .i64 1] w (HePost (1 + n * 4) w) := by
  obtain ⟨ao, cap, b, off, rfl, a2, a3, a4, a5, a6⟩ := hv.rd
  clear a4 hv
  go_enter Try.func32, Try.ntmps32
  go_wp2
  go_loop [1, 5] (fun x i => ∃ k : Nat, k ≤ n ∧ i = .int .i64 k ∧ x = .int .i64 (1 + k * 4)) (fun _ i => n - (intOf i).toNat)
  case atStart => exact ⟨0, Nat.zero_le _, rfl, by go_num⟩
  case round =>
    obtain ⟨k, hk, rfl, rfl⟩ := hrel
    by_cases hlt : k < n
    · obtain ⟨rfl, _, _⟩ := a5 (by omega)
      have q0 : w.cell? ⟨b, off + k * 4, none⟩ = some (.int .i64 (1 + (k : Int) * 4)) := by rw [a6 (k * 4) (by omega)]; simp
      have q1 : w.cell? ⟨b, off + k * 4 + 1, none⟩ = some (.int .i64 (1 + (k : Int) * 4 + 1)) := (a6 (k * 4 + 1) (by omega)).trans (by simp; omega)
      have q2 : w.cell? ⟨b, off + k * 4 + 2, none⟩ = some (.int .i64 (1 + (k : Int) * 4 + 1 + 1)) := (a6 (k * 4 + 2) (by omega)).trans (by simp; omega)
      have q3 : w.cell? ⟨b, off + k * 4 + 3, none⟩ = some (.int .i64 (1 + (k : Int) * 4 + 1 + 1 + 1)) := (a6 (k * 4 + 3) (by omega)).trans (by simp; omega)
      have hx : ∀ x : Int, (x != x) = false := by simp
      clear a5 a6
      go_wp2
      go_round
      case rel => exact ⟨k + 1, by omega, by go_num, by go_num⟩
      case measure => simp [intOf]; omega
    · have e : k = n := by omega
      subst e
      clear a5 a6
      go_wp2
      go_ret
      exact ⟨rfl, rfl⟩

set_option maxHeartbeats 2000000 in
theorem eqLabel_any (x y a g : Int) (w : World) : Calls Try.prog 72 #[.agg #[.int .i64 x, .int .i64 y, .int .i64 a, .int .i64 g], .agg #[.int .i64 x, .int .i64 y, .int .i64 a, .int .i64 g]] w (BlPost true w) := by
  have hx : (x != x) = false := by simp
  have hy : (y != y) = false := by simp
  have ha : (a != a) = false := by simp
  have hg : (g != g) = false := by simp
  go_enter Try.func72, Try.ntmps72
  go_wp2
  go_ret
  exact ⟨rfl, ((Below.refl _ _).alloc (Nat.le_refl _) _).alloc (by simp) _⟩

set_option maxRecDepth 20000 in
set_option maxHeartbeats 4000000 in
theorem eqT_any (v1 v2 : Value) (lo1 hi1 lo2 hi2 n : Nat) (Z1 Z2 : Nat → Int) (w : World) (h1 : RdT lo1 hi1 w v1 n Z1) (h2 : RdT lo2 hi2 w v2 n Z2) (heq : ∀ i, i < n * 4 → Z1 i = Z2 i) (hh1 : hi1 ≤ w.heap.size) (hh2 : hi2 ≤ w.heap.size) :
    Calls Try.prog 23 #[v1, v2] w (BlPost true w) := by
  obtain ⟨ao, cap, b, off, rfl, a2, a3, a4, a5, a6⟩ := h1
  obtain ⟨ao', cap', b', off', rfl, b2, b3, b4, b5, b6⟩ := h2
  have HE := Lib.hid heq
  have HQ := Lib.hid eqLabel_any
  clear heq a4 b4
  have hb : ((n : Int) != n) = false := by simp
  go_enter Try.func23, Try.ntmps23
  go_wp2
  go_loopw [5] (fun i wr => ∃ k : Nat, k ≤ n ∧ i = .int .i64 k ∧ Below w.heap.size w wr) (fun i _ => n - (intOf i).toNat)
  case atStart => exact ⟨0, Nat.zero_le _, rfl, Below.refl _ _⟩
  case round =>
    obtain ⟨k, hk, rfl, hbel⟩ := hrel
    by_cases hlt : k < n
    · obtain ⟨rfl, _, _⟩ := a5 (by omega)
      obtain ⟨rfl, _, _⟩ := b5 (by omega)
      have ca : ∀ j, j < n * 4 → wr.cell? ⟨b, off + j, none⟩ = some (.int .i64 (Z1 j)) := fun j hj => (hbel.cell (p := ⟨b, off + j, none⟩) (by show b < _; omega)).trans (a6 j hj)
      have cb : ∀ j, j < n * 4 → wr.cell? ⟨b', off' + j, none⟩ = some (.int .i64 (Z1 j)) := fun j hj => (hbel.cell (p := ⟨b', off' + j, none⟩) (by show b' < _; omega)).trans ((b6 j hj).trans (by rw [HE.out j hj]))
      have c0 : wr.cell? ⟨b, off + k * 4, none⟩ = _ := ca (k * 4) (by omega)
      have c1 : wr.cell? ⟨b, off + k * 4 + 1, none⟩ = _ := ca (k * 4 + 1) (by omega)
      have c2 : wr.cell? ⟨b, off + k * 4 + 2, none⟩ = _ := ca (k * 4 + 2) (by omega)
      have c3 : wr.cell? ⟨b, off + k * 4 + 3, none⟩ = _ := ca (k * 4 + 3) (by omega)
      have d0 : wr.cell? ⟨b', off' + k * 4, none⟩ = _ := cb (k * 4) (by omega)
      have d1 : wr.cell? ⟨b', off' + k * 4 + 1, none⟩ = _ := cb (k * 4 + 1) (by omega)
      have d2 : wr.cell? ⟨b', off' + k * 4 + 2, none⟩ = _ := cb (k * 4 + 2) (by omega)
      have d3 : wr.cell? ⟨b', off' + k * 4 + 3, none⟩ = _ := cb (k * 4 + 3) (by omega)
      have HB := Lib.hid hbel
      clear a5 b5 a6 b6 ca cb HE hbel
      have hlt' : (k : Int) < n := by omega
      go_wp2
      go_region_with ((go_at_call 72; (with_reducible refine (HQ.out _ _ _ _ _).mono ?_); rintro e w2 ⟨rfl, hb2⟩; have X1 := Lib.hid (HB.out.trans (Below.mono (show Below wr.heap.size wr w2 from hb2.undrew) HB.out.size)); clear hb2))
      all_goals go_wp2
      all_goals go_roundw
      all_goals first | exact ⟨k + 1, by omega, by go_num, X1.out⟩ | (simp [intOf]; omega)
    · clear a5 b5 a6 b6
      go_wp2
      go_ret
      exact ⟨rfl, hbel⟩

def LtPost (n : Nat) (Z : Nat → Int) (w : World) (e : Ending) (w' : World) : Prop :=
  ∃ v, e = .returned v ∧ (∃ a l c, v = .slice a l c) ∧ OwT w.heap.size w'.heap.size w' v n Z ∧ Below w.heap.size w w'
theorem toT_any (v : Value) (lo hi n : Nat) (Z : Nat → Int) (w : World) (hv : RdT lo hi w v n Z) (hn : n ≤ 1048576) (hh : hi ≤ w.heap.size) :
    Calls Try.prog 19 #[v] w (LtPost n Z w) := by
  have hz := hv.range
  refine (toLabelS_any v lo hi n Z w hv hn hh).mono ?_
  rintro e w' ⟨rfl, hrow, hb⟩
  exact ⟨_, rfl, ⟨_, _, _, rfl⟩, Or.inr ⟨w.heap.size, n * 4, n, _, rfl, Nat.le_refl _, hrow.lt, hrow, Nat.le_refl _, Nat.le_refl _, by omega, fun _ _ => rfl, hz⟩, hb⟩

/-- labels and a bool to read, and some of its own -/
def TsPost (b : Bool) (n : Nat) (Z : Nat → Int) (w : World) (e : Ending) (w' : World) : Prop :=
  ∃ v, e = .returned (.tuple #[v, .bool b]) ∧ (∃ a l c, v = .slice a l c) ∧ RdT w.heap.size w'.heap.size w' v n Z ∧ Below w.heap.size w w'
def TgPost (b : Bool) (n : Nat) (Z : Nat → Int) (w : World) (e : Ending) (w' : World) : Prop :=
  ∃ v, e = .returned (.tuple #[v, .bool b]) ∧ (∃ a l c, v = .slice a l c) ∧ OwT w.heap.size w'.heap.size w' v n Z ∧ Below w.heap.size w w'
/-- a box with a correction -/
def Bx (lo hi : Nat) (t : TypeId) (x y a g : Int) (w : World) : Prop := lo < hi ∧ w.heap[lo]? = some (.cells #[.int .i64 x, .int .i64 y, .int .i64 a, .int .i64 g] t (0, 0))
theorem Bx.same {lo hi : Nat} {t : TypeId} {x y a g : Int} {w w' : World} (h : Bx lo hi t x y a g w) (hs : SameIn lo hi w w') : Bx lo hi t x y a g w' := ⟨h.1, (hs lo (Nat.le_refl _) h.1).trans h.2⟩

theorem szFixS_q (ao : Option Addr) (n cap : Nat) (l : Int) (w : World) (hn : n ≤ 9223372036854775807) (h0 : 0 ≤ l) (h1 : l ≤ 1048576) :
    Calls Try.prog 16 #[.slice ao n cap, .int .i64 l] w (fun e w' => (e = .returned (.int .i64 (-1)) ∨ ∃ l' : Int, 0 ≤ l' ∧ l' ≤ 1048576 ∧ e = .returned (.int .i64 l') ∧ n ≤ 1048576) ∧ w = w') := by
  refine (szLabelS_any ao n cap l w hn h0 h1).mono ?_
  rintro e w' ⟨⟨h, rfl⟩ | ⟨h, rfl⟩, rfl⟩
  · exact ⟨Or.inl rfl, rfl⟩
  · exact ⟨Or.inr ⟨l - n, by omega, by omega, rfl, by omega⟩, rfl⟩

end Go.Proofs.Ytidlloelinmnnaa
