/- The program's GridBelow. -/
import Derived.Test.YtdiehjigfmjjiaaSpecJ
namespace Go.Proofs.Ytdiehjigfmjjiaa
open Go.RowKit
set_option linter.unusedVariables false

/-- the two boxes of 'below' are as they were -/
def TwoBox (R C n1 gg1 cap1 R2 n2 gg2 cap2 B : Nat) (w' : World) : Prop :=
  w'.cell? ⟨B, 0, none⟩ = some (.int .i64 R) ∧ w'.cell? ⟨B, 1, none⟩ = some (.int .i64 C) ∧ w'.cell? ⟨B, 2, none⟩ = some (.slice (some ⟨gg1, 0, none⟩) n1 cap1) ∧ w'.cell? ⟨B + 1, 0, none⟩ = some (.int .i64 R2) ∧ w'.cell? ⟨B + 1, 2, none⟩ = some (.slice (some ⟨gg2, 0, none⟩) n2 cap2)

theorem TwoBox.below {R C n1 gg1 cap1 R2 n2 gg2 cap2 B K : Nat} {w w' : World} (h : TwoBox R C n1 gg1 cap1 R2 n2 gg2 cap2 B w) (hb : Below K w w') (hB : B + 1 < K) : TwoBox R C n1 gg1 cap1 R2 n2 gg2 cap2 B w' :=
  ⟨(hb.cell (p := ⟨B, 0, none⟩) (by show B < K; omega)).trans h.1, (hb.cell (p := ⟨B, 1, none⟩) (by show B < K; omega)).trans h.2.1, (hb.cell (p := ⟨B, 2, none⟩) (by show B < K; omega)).trans h.2.2.1, (hb.cell (p := ⟨B + 1, 0, none⟩) hB).trans h.2.2.2.1, (hb.cell (p := ⟨B + 1, 2, none⟩) hB).trans h.2.2.2.2⟩

theorem TwoBox.far {R C n1 gg1 cap1 R2 n2 gg2 cap2 B x : Nat} {w : World} (h : TwoBox R C n1 gg1 cap1 R2 n2 gg2 cap2 B w) (hx : B + 1 < x) (p q r : Value) : TwoBox R C n1 gg1 cap1 R2 n2 gg2 cap2 B (((w.setCell ⟨x, 0, none⟩ p).setCell ⟨x, 1, none⟩ q).setCell ⟨x, 2, none⟩ r) :=
  ⟨(cell3_far _ _ _ _ _ _ (by omega)).trans h.1, (cell3_far _ _ _ _ _ _ (by omega)).trans h.2.1, (cell3_far _ _ _ _ _ _ (by omega)).trans h.2.2.1, (cell3_far _ _ _ _ _ _ (by omega)).trans h.2.2.2.1, (cell3_far _ _ _ _ _ _ (by omega)).trans h.2.2.2.2⟩

theorem cells2 {w : World} {b : Nat} {x y : Value} {t : TypeId} (h : w.heap[b]? = some (.cells #[x, y] t (0, 0))) : w.cell? ⟨b, 0, none⟩ = some x ∧ w.cell? ⟨b, 1, none⟩ = some y := by
  simp [World.cell?, h]

set_option maxHeartbeats 4000000 in
set_option maxRecDepth 20000 in
theorem below_any (R R2 C n1 gg1 cap1 n2 gg2 cap2 : Nat) (Z1 Z2 : Nat → Int) (w : World) (h : Rv w R C n1 gg1 cap1 Z1) (h' : Rv w R2 C n2 gg2 cap2 Z2) (hR : 1 ≤ R ∧ R ≤ 7) (hR2 : 1 ≤ R2 ∧ R2 ≤ 7) (hC : 1 ≤ C ∧ C ≤ 7) :
    Calls Try.prog 28 #[.agg #[.int .i64 R, .int .i64 C, .slice (some ⟨gg1, 0, none⟩) n1 cap1], .agg #[.int .i64 R2, .int .i64 C, .slice (some ⟨gg2, 0, none⟩) n2 cap2]] w (MPost (R + R2) C (catZ n1 Z1 Z2) w) := by
  have hn49 : n1 ≤ 49 := by rw [h.n_eq]; exact mul_le_49 hR.2 hC.2
  have hn49' : n2 ≤ 49 := by rw [h'.n_eq]; exact mul_le_49 hR2.2 hC.2
  have hn1 : 0 < n1 := by rw [h.n_eq]; exact Nat.mul_pos hR.1 hC.1
  have hn1' : 0 < n2 := by rw [h'.n_eq]; exact Nat.mul_pos hR2.1 hC.1
  obtain ⟨W0, hW0⟩ : ∃ W0, W0 = ((w.alloc (.cells #[.int .i64 R, .int .i64 C, .slice (some ⟨gg1, 0, none⟩) n1 cap1] 39)).alloc (.cells #[.int .i64 R2, .int .i64 C, .slice (some ⟨gg2, 0, none⟩) n2 cap2] 39)).alloc (.cells #[.int .i64 0, .int .i64 0, .slice none 0 0] 39) := ⟨_, rfl⟩
  have hs0 : W0.heap.size = w.heap.size + 3 := by rw [hW0]; simp
  have hb0 : Below w.heap.size w W0 := by rw [hW0]; exact (((Below.refl _ _).alloc (Nat.le_refl _) _).alloc (by simp) _).alloc (by simp <;> omega) _
  have hbox : W0.heap[w.heap.size]? = some (.cells #[.int .i64 R, .int .i64 C, .slice (some ⟨gg1, 0, none⟩) n1 cap1] 39 (0, 0)) := by
    rw [hW0, Below.heap_alloc _ _ _ (by simp <;> omega)]; exact heap_alloc2_old _ _ _
  have hbox2 : W0.heap[w.heap.size + 1]? = some (.cells #[.int .i64 R2, .int .i64 C, .slice (some ⟨gg2, 0, none⟩) n2 cap2] 39 (0, 0)) := by
    rw [hW0, Below.heap_alloc _ _ _ (by simp)]; exact heap_alloc2_new _ _ _
  have hres : W0.heap[w.heap.size + 1 + 1]? = some (.cells #[.int .i64 0, .int .i64 0, .slice none 0 0] 39 (0, 0)) := by rw [hW0]; exact heap_alloc3_new _ _ _ _
  obtain ⟨k0, k1, k2, _, _, _⟩ := cells3 hbox
  obtain ⟨l0, l1, l2, _, _, _⟩ := cells3 hbox2
  have S0 : TwoBox R C n1 gg1 cap1 R2 n2 gg2 cap2 w.heap.size W0.drew := ⟨k0, k1, k2, l0, l2⟩
  have hbd : Below W0.heap.size W0 W0.drew := (Below.refl _ _).drew
  have hba : Below W0.heap.size W0 (W0.drew.alloc (.cells #[.slice (some ⟨gg1, 0, none⟩) n1 cap1, .slice (some ⟨gg2, 0, none⟩) n2 cap2] 29)) := hbd.alloc (Nat.le_refl _) _
  have S1 : TwoBox R C n1 gg1 cap1 R2 n2 gg2 cap2 w.heap.size (W0.drew.alloc (.cells #[.slice (some ⟨gg1, 0, none⟩) n1 cap1, .slice (some ⟨gg2, 0, none⟩) n2 cap2] 29)) := S0.below ((Below.refl W0.heap.size W0.drew).alloc (Nat.le_refl _) _) (by omega)
  have hnew : (W0.drew.alloc (.cells #[.slice (some ⟨gg1, 0, none⟩) n1 cap1, .slice (some ⟨gg2, 0, none⟩) n2 cap2] 29)).heap[W0.heap.size]? = some (.cells #[.slice (some ⟨gg1, 0, none⟩) n1 cap1, .slice (some ⟨gg2, 0, none⟩) n2 cap2] 29 (0, 0)) := heap_alloc_new W0.drew _
  have hsz1 : (W0.drew.alloc (.cells #[.slice (some ⟨gg1, 0, none⟩) n1 cap1, .slice (some ⟨gg2, 0, none⟩) n2 cap2] 29)).heap.size = W0.heap.size + 1 := by simp
  have h1 := (h.keep hb0 (Nat.le_refl _)).keep hba (Nat.le_refl _)
  have h1' := (h'.keep hb0 (Nat.le_refl _)).keep hba (Nat.le_refl _)
  have HCON := Lib.hid (slicesConcat_any W0.heap.size gg1 gg2 cap1 cap2 n1 n2 Z1 Z2 _ (cells2 hnew).1 (cells2 hnew).2 h1.cell h1'.cell (by rw [hsz1]; omega) h1.lt h1'.lt hn1 hn1' hn49 hn49')
  have HRES := Lib.hid ((hba.block (w.heap.size + 1 + 1) (by omega)).trans hres)
  have HB1 := Lib.hid (hb0.trans (hba.mono hb0.size))
  have HS0 := Lib.hid S0
  have HS1 := Lib.hid S1
  have hw : IntKind.i64.wrap ((R : Int) + (R2 : Int)) = (R : Int) + (R2 : Int) := IntWalk.i64_in _ (by omega)
  have HCAST := Lib.hid (show (R : Int) + (R2 : Int) = ((R + R2 : Nat) : Int) by omega)
  have HNN := Lib.hid (show n1 + n2 = (R + R2) * C by rw [h.n_eq, h'.n_eq, Nat.add_mul])
  have HSZ := Lib.hid hsz1
  have HS3 := Lib.hid hs0
  clear h h' hb0 hbox hbox2 hres k0 k1 k2 l0 l1 l2 S0 S1 hbd hba hnew hsz1 h1 h1' hs0
  go_enter Try.func28, Try.ntmps28
  go_wp2_with fail
  rw [← hW0]
  clear hW0
  go_region_held3 (fun w' => w'.cell? ⟨w.heap.size, 0, none⟩ = some (.int .i64 R) ∧ w'.cell? ⟨w.heap.size, 1, none⟩ = some (.int .i64 C) ∧ w'.cell? ⟨w.heap.size, 2, none⟩ = some (.slice (some ⟨gg1, 0, none⟩) n1 cap1) ∧ w'.cell? ⟨w.heap.size + 1, 0, none⟩ = some (.int .i64 R2) ∧ w'.cell? ⟨w.heap.size + 1, 2, none⟩ = some (.slice (some ⟨gg2, 0, none⟩) n2 cap2))
    (first | exact HS0.out | exact HS1.out | exact s2.out | exact s2.out.far (by omega) _ _ _)
    (first | (go_at_call 45; refine HCON.out.mono ?_; rintro e w2 ⟨gg, cap, rfl, hown, hbel⟩; have s2 := Lib.hid (HS1.out.below hbel (by rw [HSZ.out, HS3.out]; omega)); have hR2 := (hbel.block (w.heap.size + 1 + 1) (by rw [HSZ.out, HS3.out]; omega)).trans HRES.out; obtain ⟨r0, r1, r2, f0, f1, f2⟩ := cells3 hR2; have HR2 := Lib.hid hR2; have HO := Lib.hid hown; have HBE := Lib.hid (HB1.out.trans (hbel.mono HB1.out.size)); have hlo := (hown.lt gg rfl).1; rw [HSZ.out, HS3.out] at hlo; clear hown hbel hR2))
  all_goals
    clear hw
    have hE := three_set w2 (w.heap.size + 1 + 1) _ _ _ (.int .i64 ((R : Int) + (R2 : Int))) (.int .i64 C) (.slice (some ⟨gg, 0, none⟩) (n1 + n2) cap) HR2.out
    have O1 := own3 HO.out (x := w.heap.size + 1 + 1) (by omega) (.int .i64 ((R : Int) + (R2 : Int))) (.int .i64 C) (.slice (some ⟨gg, 0, none⟩) (n1 + n2) cap)
    have B1 := below3 HBE.out (x := w.heap.size + 1 + 1) (by omega) (.int .i64 ((R : Int) + (R2 : Int))) (.int .i64 C) (.slice (some ⟨gg, 0, none⟩) (n1 + n2) cap)
    rw [HCAST.out] at hE O1 B1 ⊢
    have HRV := Lib.hid (Rv.of_own O1 HNN.out catL_at)
    have HE := Lib.hid hE
    have HB9 := Lib.hid B1
    clear hE O1 B1 r0 r1 r2 f0 f1 f2
    go_wp2
    exact bodyPost_ret (results_cell_row rfl _ _ (w.heap.size + 1 + 1) _ #[.int .i64 ((R + R2 : Nat) : Int), .int .i64 C, .slice (some ⟨gg, 0, none⟩) (n1 + n2) cap] _ _ rfl HE.out Try.underlying39 rfl Try.sizeRel) rfl ⟨n1 + n2, gg, cap, rfl, HRV.out, HB9.out⟩

end Go.Proofs.Ytdiehjigfmjjiaa
