/- The law FnPlaces of the promises: its walk. -/
import Derived.Test.YtiilbpkdkbakkaaDl
import Derived.Test.YtiilbpkdkbakkaaStL
import Derived.Test.YtiilbpkdkbakkaaSame
import Derived.BigQuiet
namespace Go.Proofs.Ytiilbpkdkbakkaa
open Go.RowKit
set_option linter.unusedVariables false

/-- places lie in one row and beside their point -/
theorem pc_row {x y a s : Int} (h : PcOk x y a s) (h1 : 1 ≤ a) (i : Nat) (hi : (i : Int) < a) : (0 ≤ pcA x y a s ∧ pcA x y a s + i < 100) ∧ (pcA x y a s + i) / 10 = pcA x y a s / 10 := by
  unfold PcOk at h
  unfold pcA
  omega
theorem pc_apart {x y a s : Int} (hx : 0 ≤ x ∧ x ≤ 9) (hs : 0 ≤ s ∧ s ≤ 3) (ha : 1 ≤ a ∧ a ≤ 5) (i : Nat) (hi : (i : Int) < a) : pcA x y a s + i ≠ 10 * y + x := by
  unfold pcA weX weY
  rcases (by omega : s = 0 ∨ s = 1 ∨ s = 2 ∨ s = 3) with rfl | rfl | rfl | rfl
  · simp; omega
  · simp; omega
  · simp; omega
  · simp; omega
/-- a label alone can be set wherever it lies -/
theorem st_one {x y a g s : Int} (hl : LbOk x y a g) (hs : 0 ≤ s ∧ s ≤ 3) (hp : PcOk x y a s) : StOk 1 (lbZ x y a g) 1 (fun _ => s) := by
  have hls : LsOk 1 (lbZ x y a g) := by
    refine ⟨by omega, fun i hi => ?_⟩
    obtain rfl : i = 0 := by omega
    exact ⟨hl, fun k hk => by omega⟩
  have hz := hls.2 0 (by omega)
  have hpz : PcZ (lbZ x y a g) 0 s := hp
  obtain ⟨ea, _, _, ew⟩ := at_facts hz hpz
  have hft : Fit (lbZ x y a g) (mpK (lbZ x y a g) 1) 0 s := by
    refine ⟨hs, hpz, fun i hi => ?_⟩
    have h1 : ((atA (lbZ x y a g) 0 s + i : Nat) : Int) ≠ 10 * y + x := by
      have := pc_apart (y := y) hl.1 hs hl.2.2.1 i (by have : (wdN (lbZ x y a g) 0 : Int) = a := ew; omega)
      have e2 : (atA (lbZ x y a g) 0 s : Int) = pcA x y a s := ea
      omega
    show (if _ then _ else _) = _
    rw [if_neg]
    · rfl
    · intro h
      apply h1
      have h2 : (lbZ x y a g (0 * 4 + 1)) = y := rfl
      have h3 : (lbZ x y a g (0 * 4)) = x := rfl
      rw [h2, h3] at h
      have := hl.1
      have := hl.2.1
      omega
  refine ⟨hls, rfl, _, alK_yes (i := 0) rfl ?_ hft⟩
  show ¬ s = -1
  omega

set_option maxHeartbeats 16000000 in
set_option maxRecDepth 100000 in
theorem law_FnPlaces (v : Value) (n : Nat) (w : World) (hv : RdB w.heap.size w v n) : Calls Try.prog 3 #[v] w (LawPost w) := by
  have HD := Lib.hid (draw_DrawLabelPlaces v n w.heap.size w hv (Nat.le_refl _))
  obtain ⟨ao, cap, cb, off, Z, rfl, hc1, hc2, _⟩ := hv
  by_cases hn : 1048576 < n
  · have hn' : (1048576 : Int) < n := by omega
    go_enter Try.func3, Try.ntmps3
    go_wp2
    go_ret
    exact ⟨rfl, Below.refl _ _⟩
  have hn' : ¬ (1048576 : Int) < n := by omega
  go_enter Try.func3, Try.ntmps3
  go_wp2_with fail
  refine HD.out.mono ?_
  rintro e w1 ⟨x, y, a, g, s, rfl, ⟨hx, hy, ha, hg, hs⟩, hb1⟩
  have hs1 := hb1.size
  obtain ⟨W1, hW1⟩ : ∃ W1, w1.alloc (.cells #[.int .i64 x, .int .i64 y, .int .i64 a, .int .i64 g] 24) = W1 := ⟨_, rfl⟩
  have HB1 := Lib.hid (show Below w.heap.size w W1 from by rw [← hW1]; exact hb1.alloc hs1 _)
  have HX1 := Lib.hid (show W1.heap[w1.heap.size]? = some (.cells #[.int .i64 x, .int .i64 y, .int .i64 a, .int .i64 g] 24 (0, 0)) from by rw [← hW1]; exact heap_alloc_new w1 _)
  have HI := Lib.hid (fun W : World => implLabelPlaces_any x y a g s W)
  have HS := Lib.hid (fun W : World => specLabelPlaces_any x y a g s W (by omega))
  have hok := (lpL_ok (x := x) (y := y) (a := a) (g := g) (s := s)).1
  have HOK := Lib.hid hok
  obtain ⟨q0, q1, q2, q3⟩ := cellsLb HX1.out
  have hsW1 : w1.heap.size < W1.heap.size := lt_of_block HX1.out
  clear hb1 HD hok
  go_wp2_with fail
  try rw [hW1]
  refine (HI.out _).mono ?_
  rintro e w2 ⟨vo, rfl, hn2, hb2⟩
  have HO2 := Lib.hid (hn2.rdI HOK.out)
  obtain ⟨oa, oc, rfl⟩ := hn2.shape
  have hX2 := (hb2.block _ hsW1).trans HX1.out
  obtain ⟨r0, r1, r2, r3⟩ := cellsLb hX2
  have HX2 := Lib.hid hX2
  have HB2 := Lib.hid (HB1.out.trans (hb2.mono HB1.out.size))
  have hs2 := hb2.size
  clear hb2 hn2 hX2 hW1 q0 q1 q2 q3
  go_wp2_with fail
  refine (HS.out _).mono ?_
  rintro e w3 ⟨vs, rfl, hn3, hb3⟩
  have HO3 := Lib.hid (HO2.out.same (SameIn.below hb3 (Nat.le_refl _)))
  have HS3 := Lib.hid (hn3.rdI HOK.out)
  obtain ⟨sa, sc, rfl⟩ := hn3.shape
  have HX3 := Lib.hid ((hb3.block _ (by omega)).trans HX2.out)
  have HB3 := Lib.hid (HB2.out.trans (hb3.mono HB2.out.size))
  have hs3 := hb3.size
  clear hb3 hn3 HO2 r0 r1 r2 r3
  obtain ⟨ok, eok⟩ : ∃ b, lpB x y a g s = b := ⟨_, rfl⟩
  have HBB := Lib.hid eok
  rw [eok]
  have hbb1 : (ok == ok) = true := by simp
  have hbb2 : (ok != ok) = false := by simp
  clear eok
  go_wp2_with fail
  refine (sameInts_any _ _ _ _ _ _ _ _ _ _ HO3.out HS3.out (fun _ _ => rfl)).mono ?_
  intro e w4 hq
  obtain ⟨rfl, hb4⟩ := hq.bl
  have HB4 := Lib.hid (HB3.out.trans (hb4.mono HB3.out.size))
  have HO4 := Lib.hid (HO3.out.same (SameIn.below hb4 (by omega)))
  have HS4 := Lib.hid (HS3.out.same (SameIn.below hb4 (Nat.le_refl _)))
  have HX4 := Lib.hid ((hb4.block _ (by omega)).trans HX3.out)
  have hs4 := hb4.size
  clear hb4 hq HO3 HS3
  cases ok with
  | false =>
    go_wp2_with fail
    refine (sameInts_any _ _ _ _ _ _ _ _ _ _ HO4.out HS4.out (fun _ _ => rfl)).mono ?_
    intro e w5 hq
    obtain ⟨rfl, hb5⟩ := hq.bl
    have HB5 := Lib.hid (HB4.out.trans (hb5.mono HB4.out.size))
    clear hb5 hq
    go_wp2
    go_ret
    exact ⟨rfl, HB5.out⟩
  | true =>
    have hall : LbOk x y a g ∧ ((0 ≤ s ∧ s ≤ 3) ∧ PcOk x y a s) := by
      have h := HBB.out
      unfold lpB pcB at h
      rw [Bool.and_eq_true] at h
      refine ⟨?_, of_decide_eq_true h.2⟩
      by_cases hl : LbOk x y a g
      · exact hl
      · rw [lbB_no hl] at h; exact absurd h.1 (by simp)
    obtain ⟨hl, hs03, hpc⟩ := hall
    have HL := Lib.hid hl
    have HST := Lib.hid (st_one hl hs03 hpc)
    have HPR := Lib.hid (fun (i : Nat) (hi : (i : Int) < a) => pc_row hpc ha.1 i hi)
    have HPA := Lib.hid (fun (i : Nat) (hi : (i : Int) < a) => pc_apart (y := y) hx hs03 ha i hi)
    have elp : lpL x y a g s = plK (pcA x y a s) a.toNat := by
      unfold lpL pcM
      rw [if_pos (lbB_yes hl), if_pos ⟨hs03, hpc⟩]
    obtain ⟨m, em⟩ : ∃ m : Nat, a = m := ⟨a.toNat, by omega⟩
    obtain ⟨q, eq⟩ : ∃ q, pcA x y a s = q := ⟨_, rfl⟩
    rw [eq] at HPR HPA elp
    have hm0 : a.toNat = m := by omega
    rw [hm0] at elp
    have hlen : (lpL x y a g s).length = m := by rw [elp, plK_len]
    have hat : ∀ i, i < m → nsZ (lpL x y a g s) i = q + i := fun i hi => by rw [elp]; exact plK_at q m i hi
    have hO := HO4.out
    rw [hlen] at hO
    obtain ⟨ob, ooff, ocap, he, hoc, _, hob, hoh⟩ := hO.open (by omega)
    simp only [Value.slice.injEq] at he
    obtain ⟨rfl, _, rfl⟩ := he
    have HOC := Lib.hid (show ∀ i, i < m → w4.cell? ⟨ob, ooff + i, none⟩ = some (.int .i64 (q + i)) from fun i hi => by rw [hoh i hi, hat i hi])
    have hc0 := HOC.out 0 (by omega)
    simp only [Int.natCast_zero, Int.add_zero, Nat.add_zero] at hc0
    obtain ⟨p0, p1, p2, p3⟩ := cellsLb HX4.out
    have hq0 := (HPR.out 0 (by omega)).1
    rw [hlen]
    subst em
    clear hm0 hO hoh hat elp hl hpc eq hlen HI HS
    go_wp2
    go_loopw [9] (fun c wr => ∃ i k : Nat, i ≤ m ∧ c = .int .i64 i ∧ wr = w4.drewN k) (fun c _ => m - (intOf c).toNat)
    case atStart => exact ⟨0, 0, Nat.zero_le _, rfl, rfl⟩
    case round =>
      obtain ⟨i, k, hi, rfl, rfl⟩ := hrel
      by_cases hlt : i < m
      · have hlt' : (i : Int) < m := by omega
        have d1 := HOC.out i hlt
        obtain ⟨hr1, hr2⟩ := HPR.out i hlt'
        have hr3 := HPA.out i hlt'
        have x1 : (q + (i : Int) != q + (i : Int)) = false := by simp
        have x2 : ((q + (i : Int)) / 10 != q / 10) = false := by rw [hr2]; simp
        have x3 : (q + (i : Int) == 10 * y + x) = false := by simpa using hr3
        have x4 : ((q + (i : Int)).tdiv 10 != q.tdiv 10) = false := by rw [Int.tdiv_eq_ediv_of_nonneg (by omega), Int.tdiv_eq_ediv_of_nonneg (by omega), hr2]; simp
        go_wp2
        go_quiet (fail)
        go_wp2
        go_roundw
        case rel => exact ⟨i + 1, k + nq, by omega, by go_num, by simp⟩
        case measure => simp [intOf]; omega
      · obtain rfl : m = i := by omega
        have xe : ((m : Int) == m) = true := by simp
        obtain ⟨WV, hWV⟩ : ∃ WV, ((w4.drewN k).alloc (.cells #[.int .i64 x, .int .i64 y, .int .i64 (m : Int), .int .i64 g] 24)).alloc (.cells #[.int .i64 s] 3) = WV := ⟨_, rfl⟩
        have hv1 : WV.heap[w4.heap.size]? = some (.cells #[.int .i64 x, .int .i64 y, .int .i64 (m : Int), .int .i64 g] 24 (0, 0)) := by rw [← hWV]; exact heap_alloc2_old (w4.drewN k) _ _
        have hv2 : WV.heap[w4.heap.size + 1]? = some (.cells #[.int .i64 s] 3 (0, 0)) := by rw [← hWV]; exact heap_alloc2_new (w4.drewN k) _ _
        have hr1 := rdT_one (W := WV) (B := w4.heap.size) (x := x) (y := y) (a := (m : Int)) (g := g) (by omega) hv1
        have hr2 : RdI 0 WV.heap.size WV (.slice (some ⟨w4.heap.size + 1, 0, none⟩) 1 1) 1 (fun _ => s) := ⟨_, 1, w4.heap.size + 1, 0, rfl, Nat.le_refl _, by omega, fun _ _ => by show _ ≤ s ∧ s ≤ _; omega, fun _ => ⟨rfl, Nat.zero_le _, lt_of_block hv2⟩, fun i hi => by
          obtain rfl : i = 0 := by omega
          simp [World.cell?, hv2]⟩
        have HSV := Lib.hid (implSettingValid_any _ _ 1 _ _ 0 _ 1 _ WV hr1 (Nat.le_refl _) (by omega) hr2 (Nat.le_refl _) (by omega))
        rw [svB_yes HST.out] at HSV
        have HBV := Lib.hid (show Below w.heap.size w WV from by rw [← hWV]; have h := below_drewN HB4.out k; have h2 := h.alloc h.size (.cells #[.int .i64 x, .int .i64 y, .int .i64 (m : Int), .int .i64 g] 24); exact h2.alloc h2.size _)
        clear hv1 hv2 hr1 hr2
        go_wp2_with fail
        try rw [hWV]
        refine HSV.out.mono ?_
        rintro e w6 ⟨rfl, hb6⟩
        have HB6 := Lib.hid (HBV.out.trans (hb6.mono HBV.out.size))
        clear hb6 hWV
        go_wp2
        go_ret
        exact ⟨rfl, HB6.out⟩

end Go.Proofs.Ytiilbpkdkbakkaa
