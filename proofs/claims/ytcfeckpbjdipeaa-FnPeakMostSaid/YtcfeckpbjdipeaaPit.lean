/- The list of the pits, in the program and in the model. -/
import Derived.Test.YtcfeckpbjdipeaaPkLI
import Derived.Test.YtcfeckpbjdipeaaPqZ
import Derived.Test.YtcfeckpbjdipeaaGrZ
namespace Go.Proofs.Ytcfeckpbjdipeaa
open Go.RowKit
set_option linter.unusedVariables false

set_option maxHeartbeats 1000000 in
set_option maxRecDepth 100000 in
theorem specPitList_yes (v : Value) (lo hi : Nat) (g : G) (w : World) (hv : RdM lo hi w v g) (hh : hi ≤ w.heap.size) (h : g.Valid) :
    Calls Try.prog 47 #[v] w (LvPost (invertG g).rkV w) := by
  have HC := Lib.hid (specGridInvert_yes v lo hi g w hv hh h)
  clear hv h
  go_enter Try.func47, Try.ntmps47
  go_wp2_with fail
  refine HC.out.mono ?_
  rintro e w1 ⟨v1, rfl, ⟨a, l, c, rfl⟩, hm, hb1⟩
  have HB1 := Lib.hid hb1
  have HP := Lib.hid (specPeakList_any _ _ _ (invertG g) w1 hm (Nat.le_refl _))
  clear hm hb1
  go_wp2_with fail
  refine HP.out.mono ?_
  rintro e w3 ⟨v3, rfl, hl3, hb3⟩
  have HB3 := Lib.hid (HB1.out.trans (hb3.mono HB1.out.size))
  have HL3 := Lib.hid hl3
  clear hb3 hl3
  go_wp2
  go_ret
  exact LvPost.mk' rfl (World.ownsRow.mono HL3.out HB1.out.size) HB3.out

set_option maxHeartbeats 1000000 in
set_option maxRecDepth 100000 in
theorem specPitList_no (v : Value) (lo hi : Nat) (g : G) (w : World) (hv : RdM lo hi w v g) (hh : hi ≤ w.heap.size) (h : ¬ g.Valid) :
    Calls Try.prog 47 #[v] w (LvPost ([] : List (Ix 0)) w) := by
  have HC := Lib.hid (specGridInvert_no v lo hi g w hv hh h)
  clear hv h
  go_enter Try.func47, Try.ntmps47
  go_wp2_with fail
  refine HC.out.mono ?_
  rintro e w1 ⟨v1, rfl, ⟨a, l, c, rfl⟩, _, hb1⟩
  have HB1 := Lib.hid (hb1.alloc hb1.size (.cells #[] 3))
  have HL1 := Lib.hid (show Lists w.heap.size (w1.alloc (.cells #[] 3)) (.slice (some ⟨w1.heap.size, 0, none⟩) 0 0) ([] : List (Ix 0)) from World.ownsRow_lit w1 #[] 0 hb1.size (Nat.zero_le _) (by simp))
  clear hb1
  go_wp2
  go_ret
  exact LvPost.mk' rfl HL1.out HB1.out

set_option maxHeartbeats 2000000 in
set_option maxRecDepth 100000 in
theorem implPitList_yes (v : Value) (lo hi : Nat) (g : G) (w : World) (hv : RdM lo hi w v g) (hh : hi ≤ w.heap.size) (h : g.Valid) :
    Calls Try.prog 46 #[v] w (LvPost (invertG g).rkV w) := by
  have HC := Lib.hid (reliefOf_yes v lo hi g w hv hh h)
  have HA := Lib.hid (G.rkV_yes (invert_valid h))
  have HZ := Lib.hid (fun x (hx : x < g.n * g.len 0) => flat_okW h hx)
  have hn7 := h.1.2
  have hl7 := h.2.1.2
  clear hv h
  go_enter Try.func46, Try.ntmps46
  go_wp2_with fail
  refine HC.out.mono ?_
  intro e w1 hq
  obtain ⟨n, gg, cap, rfl, hrv, hb1⟩ := hq.rv
  have HB1 := Lib.hid (hb1.alloc hb1.size (.cells #[.int .i64 g.n, .int .i64 (g.len 0), .slice (some ⟨gg, 0, none⟩) n cap] 50))
  have HRV := Lib.hid (hrv.keep ((Below.refl w1.heap.size w1).alloc (Nat.le_refl _) (.cells #[.int .i64 g.n, .int .i64 (g.len 0), .slice (some ⟨gg, 0, none⟩) n cap] 50)) (Nat.le_refl _))
  have HN := Lib.hid hrv.n_eq
  clear hq hrv hb1
  go_wp2_with fail
  refine (inverted_any g.n (g.len 0) n gg cap g.flat _ HRV.out hn7 hl7 (fun i hi => HZ.out i (by rw [← HN.out]; exact hi))).mono ?_
  rintro e w2 ⟨n2, gg2, cap2, rfl, hrv2, hb2⟩
  have HB2 := Lib.hid (HB1.out.trans (hb2.mono HB1.out.size))
  have HRV2 := Lib.hid hrv2
  clear hrv2 hb2
  go_wp2_with fail
  refine (peaks_any g.n (g.len 0) gg2 cap2 n2 hn7 hl7 (fun i => 99 - g.flat i) _ HRV2.out).mono ?_
  rintro e w3 ⟨v3, rfl, hl3, hb3⟩
  have HB3 := Lib.hid (HB2.out.trans (hb3.mono HB2.out.size))
  have HL3 := Lib.hid hl3
  clear hb3 hl3
  go_wp2
  go_ret
  exact LvPost.mk' HA.out (World.ownsRow.mono HL3.out HB2.out.size) HB3.out

set_option maxHeartbeats 1000000 in
set_option maxRecDepth 100000 in
theorem implPitList_no (v : Value) (lo hi : Nat) (g : G) (w : World) (hv : RdM lo hi w v g) (hh : hi ≤ w.heap.size) (h : ¬ g.Valid) :
    Calls Try.prog 46 #[v] w (LvPost ([] : List (Ix 0)) w) := by
  have HC := Lib.hid (reliefOf_no v lo hi g w hv hh h)
  clear hv h
  go_enter Try.func46, Try.ntmps46
  go_wp2_with fail
  refine HC.out.mono ?_
  rintro e w1 ⟨rfl, hb1⟩
  have HB1 := Lib.hid (hb1.alloc hb1.size (.cells #[.int .i64 0, .int .i64 0, .slice none 0 0] 50))
  clear hb1
  go_wp2
  go_ret
  exact LvPost.mk' rfl (lists_nil _ _) HB1.out

end Go.Proofs.Ytcfeckpbjdipeaa
