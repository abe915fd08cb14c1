/- The Euler number in the program. -/
import Derived.Test.YtdjlobppnhokoaaLvI4b
import Derived.Test.YtdjlobppnhokoaaLvI3b
namespace Go.Proofs.Ytdjlobppnhokoaa
open Go.RowKit
set_option linter.unusedVariables false

theorem below_drew1 (W : World) : Below W.heap.size W W.drew := ⟨rfl, rfl, rfl, Nat.le_refl _, fun _ _ => rfl⟩

set_option maxHeartbeats 4000000 in
set_option maxRecDepth 100000 in
theorem implLevelEuler_any (v : Value) (lo hi : Nat) (g : G) (lv : Int) (w : World) (hv : RdM lo hi w v g) (hh : hi ≤ w.heap.size) :
    Calls Try.prog 39 #[v, .int .i64 lv] w (IntPost (g.euV lv) w) := by
  by_cases h : g.LvOk lv
  case neg =>
    have HC := Lib.hid (layerOf_no v lo hi g lv w hv hh h)
    have HA := Lib.hid (G.euV_no h)
    clear hv h
    go_enter Try.func39, Try.ntmps39
    go_wp2_with fail
    refine HC.out.mono ?_
    rintro e w1 ⟨rfl, hb1⟩
    have HB1 := Lib.hid (hb1.alloc hb1.size (.cells #[.int .i64 0, .int .i64 0, .slice none 0 0, .int .i64 0] 41))
    clear hb1
    go_wp2
    go_ret
    exact ⟨ret_int HA.out.symm, HB1.out⟩
  case pos =>
    have HC := Lib.hid (layerOf_yes v lo hi g lv w hv hh h)
    have HA := Lib.hid (G.euV_yes h)
    have h49 := mul_le_49 h.1.1.2 h.1.2.1.2
    have h71 := h.1.1.2
    have h72 := h.1.2.1.2
    have h61 := h.1.1.1
    have h62 := h.1.2.1.1
    clear hv h
    go_enter Try.func39, Try.ntmps39
    go_wp2_with fail
    refine HC.out.mono ?_
    rintro e w1 ⟨n, gg, cap, rfl, hrv, hb1⟩
    have HN := Lib.hid hrv.n_eq
    have hn49 : n ≤ 49 := by rw [hrv.n_eq]; exact h49
    have HB1 := Lib.hid (hb1.alloc hb1.size (.cells #[.int .i64 g.n, .int .i64 (g.len 0), .slice (some ⟨gg, 0, none⟩) n cap, .int .i64 lv] 41))
    have HLOC := Lib.hid (heap_alloc_new w1 (.cells #[.int .i64 g.n, .int .i64 (g.len 0), .slice (some ⟨gg, 0, none⟩) n cap, .int .i64 lv] 41))
    have HRV := Lib.hid (hrv.keep ((Below.refl w1.heap.size w1).alloc (Nat.le_refl _) (.cells #[.int .i64 g.n, .int .i64 (g.len 0), .slice (some ⟨gg, 0, none⟩) n cap, .int .i64 lv] 41)) (Nat.le_refl _))
    have q1 := cornN_le (g.len 0) g.flat lv (g.n - 1)
    have q1' : (g.n - 1) * g.len 0 ≤ 49 := mul_le_49 (by omega) h72
    have q2 := sidesN_le g.n (g.len 0) g.flat lv (g.n * g.len 0)
    have q3 := landN_le g.flat lv n
    have HCC := Lib.hid (fun (U : World) (hU : Rv U g.n (g.len 0) n gg cap g.flat) => cornerCount_any g.n (g.len 0) gg cap n h61 h62 h71 h72 g.flat lv U hU)
    have HSC := Lib.hid (fun (U : World) (hU : Rv U g.n (g.len 0) n gg cap g.flat) => sideCount_any g.n (g.len 0) gg cap n h71 h72 g.flat lv U hU)
    have HLC := Lib.hid (fun (U : World) (hU : Rv U g.n (g.len 0) n gg cap g.flat) => landCount_any g.n (g.len 0) gg cap n g.flat lv U hU hn49)
    have HA2 := Lib.hid (show g.euV lv = (cornN (g.len 0) g.flat lv (g.n - 1) : Int) - sidesN g.n (g.len 0) g.flat lv (g.n * g.len 0) + landN g.flat lv n by rw [HA.out, HN.out])
    generalize cornN (g.len 0) g.flat lv (g.n - 1) = c1 at q1 HCC HA2
    generalize sidesN g.n (g.len 0) g.flat lv (g.n * g.len 0) = c2 at q2 HSC HA2
    generalize landN g.flat lv n = c3 at q3 HLC HA2
    have r1 : c1 ≤ 49 := by omega
    have r2 : c2 ≤ 200 := by omega
    have r3 : c3 ≤ 49 := by omega
    clear hrv hb1 q1 q1' q2 q3 h49
    go_wp2_with fail
    generalize hW1 : w1.alloc (.cells #[.int .i64 g.n, .int .i64 (g.len 0), .slice (some ⟨gg, 0, none⟩) n cap, .int .i64 lv] 41) = W1 at HLOC HB1 HRV ⊢
    have hs1 : w1.heap.size < W1.heap.size := by rw [← hW1]; simp
    clear hW1
    obtain ⟨x0, x1, x2, x3⟩ := cells4 HLOC.out
    have hw1 : IntKind.i64.wrap ((c1 : Int) - (c2 : Int)) = (c1 : Int) - (c2 : Int) := IntWalk.i64_in _ (by omega)
    have hw2 : IntKind.i64.wrap ((c1 : Int) - (c2 : Int) + (c3 : Int)) = (c1 : Int) - (c2 : Int) + (c3 : Int) := IntWalk.i64_in _ (by omega)
    go_region_held3 (fun w' => w'.cell? ⟨w1.heap.size, 0, none⟩ = some (.int .i64 g.n) ∧ w'.cell? ⟨w1.heap.size, 1, none⟩ = some (.int .i64 (g.len 0)) ∧ w'.cell? ⟨w1.heap.size, 2, none⟩ = some (.slice (some ⟨gg, 0, none⟩) n cap) ∧ w'.cell? ⟨w1.heap.size, 3, none⟩ = some (.int .i64 lv)) (first | go_keep | exact ⟨y0, y1, y2, y3⟩ | exact ⟨z0, z1, z2, z3⟩ | exact ⟨u0, u1, u2, u3⟩)
      (first
        | (have ha := HBb.out; go_at_call 52; refine (HLC.out _ (HRV.out.keep ha (Nat.le_refl _))).mono ?_; rintro e v3 ⟨rfl, hb3⟩; have HBc := Lib.hid (ha.trans (hb3.mono ha.size)); obtain ⟨u0, u1, u2, u3⟩ := cells4 (((ha.trans (hb3.mono ha.size)).block _ hs1).trans HLOC.out); clear hb3 ha)
        | (have ha := HBa.out; go_at_call 63; refine (HSC.out _ (HRV.out.keep ha (Nat.le_refl _))).mono ?_; rintro e v2 ⟨rfl, hb2⟩; have HBb := Lib.hid (ha.trans (hb2.mono ha.size)); obtain ⟨z0, z1, z2, z3⟩ := cells4 (((ha.trans (hb2.mono ha.size)).block _ hs1).trans HLOC.out); clear hb2 ha)
        | (go_at_call 62; refine (HCC.out W1.drew (HRV.out.keep (below_drew1 W1) (Nat.le_refl _))).mono ?_; rintro e v1 ⟨rfl, hb1⟩; have hbu := hb1.undrew; have HBa := Lib.hid hbu; obtain ⟨y0, y1, y2, y3⟩ := cells4 ((hbu.block _ hs1).trans HLOC.out); clear hb1 hbu))
    all_goals go_wp2
    all_goals go_ret
    all_goals exact ⟨ret_int HA2.out.symm, HB1.out.trans (HBc.out.mono HB1.out.size)⟩

end Go.Proofs.Ytdjlobppnhokoaa
