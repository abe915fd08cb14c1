/- WaterRun of the model. -/
import Derived.Test.YtekekbepobafdaaRunE
namespace Go.Proofs.Ytekekbepobafdaa
open Go.RowKit
set_option linter.unusedVariables false

set_option maxHeartbeats 2000000 in
set_option maxRecDepth 20000 in
theorem specWaterRun_any (v : Value) (lo hi : Nat) (g : G) (r c : Int) (w : World) (hv : RdM lo hi w v g) (hh : hi ≤ w.heap.size) (b : Bool) (hbb : b = true ↔ g.Cell r c) :
    Calls Try.prog 20 #[v, .int .i64 r, .int .i64 c] w (LbPost b (g.runV r c) w) := by
  have HC := Lib.hid (l1Cell_any v lo hi g r c w hv)
  by_cases h : g.Cell r c
  · have HB := Lib.hid (G.cB_yes h)
    obtain rfl : b = true := hbb.2 h
    have HZ := Lib.hid (fun x (hx : x < g.n * g.len 0) => flat_okW h.1 hx)
    obtain ⟨r, rfl⟩ := Int.eq_ofNat_of_zero_le h.2.1.1
    obtain ⟨c, rfl⟩ := Int.eq_ofNat_of_zero_le h.2.2.1
    have hr : r < g.n := by have := h.2.1.2; omega
    have hc : c < g.len 0 := by have := h.2.2.2; omega
    obtain ⟨b, off, cap, rfl⟩ := hv.shapeW h.1.1.1
    obtain ⟨a1, c1, h1⟩ := hv.headW h.1.1.1 (g.len 0) rfl
    have hlt : r * g.len 0 + c < g.n * g.len 0 := cell_lt rfl hr hc
    obtain ⟨i, hi'⟩ : ∃ i : Ix (g.n * g.len 0), i.1 = r * g.len 0 + c := ⟨⟨_, hlt⟩, rfl⟩
    have HA := Lib.hid (G.runV_yes h i hi')
    have HN := Lib.hid (fun n1 => l2Run_any _ lo hi g g.n (g.len 0) rfl rfl i (w.drewN n1) (hv.same (fun _ _ _ => rfl)) hh h.1 HZ.out)
    have hq : (r : Int) * (g.len 0 : Int) + (c : Int) = (i.1 : Int) := by rw [hi', Int.natCast_add, Int.natCast_mul]
    have h49 := mul_le_49 h.1.1.2 h.1.2.1.2
    have hp0 : 0 ≤ (r : Int) * (g.len 0 : Int) := Int.mul_nonneg (by omega) (by omega)
    have hi48 := i.2
    have hp1 : (r : Int) * (g.len 0 : Int) ≤ 49 := by omega
    have hn0 : (0 : Int) < g.n := by omega
    have hn0' : 0 < g.n := by omega
    clear hv h hi' hlt hh hbb
    go_enter Try.func20, Try.ntmps20
    go_wp2_with fail
    refine HC.out.mono ?_
    rintro e w1 ⟨rfl, n1, rfl⟩
    rw [HB.out]
    go_wp2_with fail
    refine (HN.out n1).mono ?_
    rintro e w2 ⟨v2, rfl, ⟨a2, c2, rfl⟩, hl2, hb2⟩
    have HB2 := Lib.hid ((below_drewN (Below.refl w.heap.size w) n1).trans hb2)
    have HL2 := Lib.hid hl2
    clear hb2 hl2
    go_wp2
    go_ret2
    exact LbPost.mk' HA.out HL2.out HB2.out
  · have HB := Lib.hid (G.cB_no h)
    have HA := Lib.hid (G.runV_no h)
    obtain rfl : b = false := by cases b; rfl; exact absurd (hbb.1 rfl) h
    clear hv h hbb
    go_enter Try.func20, Try.ntmps20
    go_wp2_with fail
    refine HC.out.mono ?_
    rintro e w1 ⟨rfl, n1, rfl⟩
    rw [HB.out]
    go_wp2
    go_ret2
    exact LbPost.mk' HA.out (World.ownsRow_lit (w.drewN n1) #[] 0 (Nat.le_refl _) (Nat.zero_le _) (by simp)) ((below_drewN (Below.refl _ _) _).alloc (Nat.le_refl _) _)

theorem LbPost.ls {M : Nat} {b : Bool} {l : List (Ix M)} {w w' : World} {e : Ending} (h : LbPost b l w e w') (hM : M ≤ 49) : LsPost b l.length (ixZ l) w e w' := by
  obtain ⟨v, he, hl, hb⟩ := h
  obtain ⟨a, c, rfl⟩ := hl.shape
  exact ⟨_, he, ⟨_, _, _, rfl⟩, (hl.owI hM).rd, hb⟩
theorem LbPost.lg {M : Nat} {b : Bool} {l : List (Ix M)} {w w' : World} {e : Ending} (h : LbPost b l w e w') (hM : M ≤ 49) : LgPost b l.length (ixZ l) w e w' := by
  obtain ⟨v, he, hl, hb⟩ := h
  obtain ⟨a, c, rfl⟩ := hl.shape
  exact ⟨_, he, ⟨_, _, _, rfl⟩, hl.owI hM, hb⟩

end Go.Proofs.Ytekekbepobafdaa
