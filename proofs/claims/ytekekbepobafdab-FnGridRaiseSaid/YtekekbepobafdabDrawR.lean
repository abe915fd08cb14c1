/- The draw of FnGridRaise: a grid and a number. -/
import Derived.Test.YtekekbepobafdabDrawD
namespace Go.Proofs.Ytekekbepobafdab
open Go.RowKit
set_option linter.unusedVariables false

def Lr (i : Nat) : Int := [9223372036854775807, -9223372036854775808, 99].getD i 0
theorem lr_cell {w : World} {b y : Nat} {t : TypeId} (h : w.heap[b]? = some (.cells #[.int .i64 9223372036854775807, .int .i64 (-9223372036854775808), .int .i64 99] t (0, 0))) (hy : y < 3) : w.cell? ⟨b, y, none⟩ = some (.int .i64 (Lr y)) := by
  have : y = 0 ∨ y = 1 ∨ y = 2 := by omega
  rcases this with rfl | rfl | rfl <;> simp [World.cell?, h, Lr]
theorem lr_range (y : Nat) (hy : y < 3) : -9223372036854775808 ≤ Lr y ∧ Lr y ≤ 9223372036854775807 := by
  have : y = 0 ∨ y = 1 ∨ y = 2 := by omega
  rcases this with rfl | rfl | rfl <;> simp [Lr]

/-- what the draw of a grid and a number leaves -/
def DkPost (w : World) (e : Ending) (w' : World) : Prop :=
  ∃ v g k, e = .returned (.tuple #[v, .int .i64 k]) ∧ (∃ a l c, v = .slice a l c) ∧ RdM 0 w'.heap.size w' v g ∧ (1 ≤ g.n ∧ g.n ≤ 5) ∧ (∀ r, r < g.n → g.len r ≤ 9) ∧ (-9223372036854775808 ≤ k ∧ k ≤ 9223372036854775807) ∧ Below w.heap.size w w'

/-- the grid is read behind a change of the reader's block alone -/
theorem RdM.over {hi B : Nat} {w w' : World} {v : Value} {g : G} (h : RdM 0 hi w v g) (hB : Below hi w w') : RdM 0 hi w' v g := h.same (SameIn.below hB (Nat.le_refl _))

set_option maxHeartbeats 4000000 in
set_option maxRecDepth 100000 in
theorem draw_raise (v : Value) (n hi : Nat) (w : World) (hv : RdB hi w v n) (hh : hi ≤ w.heap.size) :
    Calls Try.prog 20 #[v] w (DkPost w) := by
  have HO := Lib.hid (open_any v n hi w hv hh)
  obtain ⟨ao, cap, cb, off, Z, rfl, _⟩ := hv
  obtain ⟨B, eB⟩ : ∃ B, w.heap.size = B := ⟨_, rfl⟩
  have EB := Lib.hid eB
  clear eB
  go_enter Try.func20, Try.ntmps20
  go_wp2_with fail
  refine HO.out.mono ?_
  rintro e w1 ⟨rfl, hr, hb, hs⟩
  rw [EB.out] at hr hb hs ⊢
  have HB := Lib.hid hb
  have HR := Lib.hid hr
  have hs1 : B < w1.heap.size := by omega
  clear hb hr hs
  go_wp2_with fail
  refine (grid_any B 0 w1 HR.out (by omega)).mono ?_
  rintro e w2 ⟨v, g, rfl, ⟨a, l, c, rfl⟩, hm, hn, hl, ⟨q', hq', hr2⟩, hc⟩
  have HM := Lib.hid hm
  have HN := Lib.hid hn
  have HL := Lib.hid hl
  have HC := Lib.hid hc
  have HR2 := Lib.hid hr2
  have hs2 : w1.heap.size ≤ w2.heap.size := hc.size
  clear hm hn hl hc hr2
  go_wp2_with fail
  refine (pick_any B q' 16 _ HR2.out (by omega) (by omega) (by omega)).mono ?_
  rintro e w3 ⟨x, hx, rfl, hr3, hc3, hs3⟩
  have HM3 := Lib.hid (HM.out.same (hc3.sameIn (Nat.le_refl _) (Or.inr (Nat.le_refl _))))
  have HC3 := Lib.hid (HC.out.trans hc3)
  have HR3 := Lib.hid hr3
  have hs3' : w2.heap.size ≤ w3.heap.size := by omega
  clear hr3 hc3 hs3
  by_cases x0 : x = 0
  · subst x0
    have RA := Lib.hid (show Rdr (w3.alloc (.cells #[.int .i64 9223372036854775807, .int .i64 (-9223372036854775808), .int .i64 99] 3)).drew B (q' + 1) from HR3.out.same (fun k hk => Below.heap_alloc w3 _ k (by omega)))
    have RB := Lib.hid (show Rdr w3.drew B (q' + 1) from HR3.out.same (fun _ _ => rfl))
    have HLA := Lib.hid (show Chg B (B + 1) w3 (w3.alloc (.cells #[.int .i64 9223372036854775807, .int .i64 (-9223372036854775808), .int .i64 99] 3)).drew from (((Below.refl _ w3).alloc (Nat.le_refl _) _).chg B (B + 1)).drewN 1)
    have FA := Lib.hid (fun (w5 : World) (hc : Chg B (B + 1) (w3.alloc (.cells #[.int .i64 9223372036854775807, .int .i64 (-9223372036854775808), .int .i64 99] 3)).drew w5) (y : Nat) (hy : y < 3) =>
      lr_cell ((hc.block w3.heap.size (by show w3.heap.size < (w3.alloc (.cells #[.int .i64 9223372036854775807, .int .i64 (-9223372036854775808), .int .i64 99] 3)).heap.size; simp) (by omega)).trans (heap_alloc_new w3 (.cells #[.int .i64 9223372036854775807, .int .i64 (-9223372036854775808), .int .i64 99] 3))) hy)
    go_wp2_with fail
    go_region_law
      (first
        | (go_simp; (refine (pick_any B (q' + 1) 3 _ RA.out (by omega) (by omega) (by omega)).mono ?_); rintro e w5 ⟨y, hy, rfl, hr5, hc5, hs5⟩; have l1 := FA.out w5 hc5 y hy; have hy' : (y : Int) < 3 := (by omega); have HC5 := Lib.hid (HLA.out.trans hc5); clear hr5 hc5 hs5)
        | (go_simp; (refine (pick_any B (q' + 1) 3 _ RB.out (by omega) (by omega) (by omega)).mono ?_); rintro e w5 ⟨y, hy, rfl, hr5, hc5, hs5⟩; have l2 : ∀ t, (w5.alloc (.cells #[.int .i64 9223372036854775807, .int .i64 (-9223372036854775808), .int .i64 99] t)).cell? ⟨w5.heap.size, y, none⟩ = some (.int .i64 (Lr y)) := fun t => lr_cell (heap_alloc_new w5 _) hy; have hy' : (y : Int) < 3 := (by omega); have HC5 := Lib.hid ((((Below.refl w3.heap.size w3).chg B (B + 1)).drewN 1).trans hc5); clear hr5 hc5 hs5))
    all_goals go_wp2
    all_goals go_ret2
    all_goals first
      | exact ⟨_, g, _, rfl, ⟨_, _, _, rfl⟩, (HM3.out.same (HC5.out.sameIn (by omega) (Or.inr (Nat.le_refl _)))).mono (Nat.zero_le _) (by have := HC5.out.size; omega), HN.out, HL.out, lr_range y hy, by rw [← EB.out] at *; exact chg_below HB.out (HC3.out.trans HC5.out)⟩
      | exact ⟨_, g, _, rfl, ⟨_, _, _, rfl⟩, ((HM3.out.same (HC5.out.sameIn (by omega) (Or.inr (Nat.le_refl _)))).same (SameIn.below ((Below.refl w5.heap.size w5).alloc (Nat.le_refl _) _) (by have := HC5.out.size; omega))).mono (Nat.zero_le _) (by have := HC5.out.size; simp; omega), HN.out, HL.out, lr_range y hy, by rw [← EB.out] at *; exact chg_below HB.out ((HC3.out.trans HC5.out).trans (((Below.refl _ w5).alloc (Nat.le_refl _) _).chg _ _))⟩
  · have e0 : ((x : Int) == 0) = false := by rw [beq_eq_false_iff_ne]; omega
    go_wp2_with fail
    refine (pick_any B (q' + 1) 40 _ HR3.out (by omega) (by omega) (by omega)).mono ?_
    rintro e w4 ⟨y, hy, rfl, hr4, hc4, hs4⟩
    have HM4 := Lib.hid (HM3.out.same (hc4.sameIn (by omega) (Or.inr (Nat.le_refl _))))
    have HC4 := Lib.hid (HC3.out.trans hc4)
    have hs4' : w3.heap.size ≤ w4.heap.size := by omega
    clear hr4 hc4 hs4 e0
    go_wp2
    go_ret2
    exact ⟨_, g, _, rfl, ⟨_, _, _, rfl⟩, HM4.out.mono (Nat.zero_le _) (by omega), HN.out, HL.out, by omega, by rw [← EB.out] at *; exact chg_below HB.out HC4.out⟩

end Go.Proofs.Ytekekbepobafdab
