/- Neighbors of a cell in the promises' laws (without the water). -/
import Derived.Test.YtcfeckpbjdipeaaPHelp
import Derived.Test.YtcfeckpbjdipeaaWtZ
namespace Go.Proofs.Ytcfeckpbjdipeaa
open Go.RowKit
set_option linter.unusedVariables false

set_option maxHeartbeats 2000000 in
set_option maxRecDepth 100000 in
theorem nearOf_any (v : Value) (lo hi : Nat) (g : G) (R C : Nat) (eR : g.n = R) (eC : g.len 0 = C) (i : Ix (R * C)) (w : World) (hv : RdM lo hi w v g) (hh : hi ≤ w.heap.size) (h : g.Valid) :
    Calls Try.prog 15 #[v, .int .i64 i.1] w (NrPost R C i w) := by
  obtain ⟨i0, hi0, hz0, hz1, hz2⟩ := info_parts Try.infoI
  have hn1 : 1 ≤ R := by have := h.1.1; omega
  have hn7 : R ≤ 7 := by have := h.1.2; omega
  have hl1 : 1 ≤ C := by have := h.2.1.1; omega
  have hl7 : C ≤ 7 := by have := h.2.1.2; omega
  obtain ⟨b, off, cap, rfl⟩ : ∃ b off cap, v = .slice (some ⟨b, off, none⟩) R cap := by
    obtain ⟨b, off, cap, e⟩ := hv.shapeW h.1.1
    exact ⟨b, off, cap, by rw [e, eR]⟩
  have hix := i.2
  have h49 := mul_le_49 hn7 hl7
  obtain ⟨a1, c1, h1⟩ := hv.headW h.1.1 C eC
  have hb : b < w.heap.size := by
    obtain ⟨ao, cp', b', off', _, _, e, _, _, h4, _⟩ := hv
    simp only [Value.slice.injEq] at e
    have h5 := h4 h.1.1
    rw [h5.1] at e
    simp only [Option.some.injEq, Addr.mk.injEq] at e
    omega
  clear h hv eR eC
  obtain ⟨ix, ei⟩ : ∃ ix, i.1 = ix := ⟨_, rfl⟩
  obtain ⟨c, ec⟩ : ∃ c, ix % C = c := ⟨_, rfl⟩
  have t2 : (ix : Int) % (C : Int) = (c : Int) := by rw [← ec]; exact (Int.natCast_emod _ _).symm
  obtain ⟨P, eP⟩ : ∃ P, C * (R - 1) = P := ⟨_, rfl⟩
  have t3 : (C : Int) * ((R : Int) - 1) = (P : Int) := by rw [← eP, Int.natCast_mul]; congr 1; omega
  have hP : P + C = R * C := by
    obtain ⟨R', rfl⟩ : ∃ R', R = R' + 1 := ⟨R - 1, by omega⟩
    rw [← eP, Nat.add_sub_cancel, Nat.add_mul, Nat.one_mul, Nat.mul_comm]
  have hP49 : P ≤ 49 := by omega
  have HN := Lib.hid (fun k => nb_cases R C i k)
  have HI := Lib.hid ei
  have HEC := Lib.hid ec
  have HPE := Lib.hid hP
  rw [ei] at hix ⊢
  have hcC : c < C := by rw [← ec]; exact Nat.mod_lt _ hl1
  have hC0 : (0 : Int) < R := by omega
  have hC1 : ¬ (C : Int) = 0 := by omega
  have hC2 : ((C : Int) == 0) = false := by rw [beq_eq_false_iff_ne]; omega
  have hix48 : ix ≤ 48 := by omega
  have hcix : c ≤ ix := by rw [← ec]; exact Nat.mod_le _ _
  clear ei ec eP hP
  go_enter Try.func15, Try.ntmps15
  go_upto_region 1 with (fail)
  go_cut [5] from 7 (fun s5 wx => ∃ v, v = s5 ∧ NrAt R C i w wx v 0)
  case first =>
    go_wp2_with fail
    go_meet
    exact ⟨_, rfl, NrAt.start R C i w⟩
  case rest =>
    obtain ⟨v, rfl, hst0⟩ := hcut
    obtain ⟨wc0, hwc⟩ : ∃ W, W = wc := ⟨_, rfl⟩
    subst hwc
    have c0 : wc0.cell? ⟨b, off, none⟩ = some (.slice a1 C c1) := by
      obtain ⟨_, _, _, hb0⟩ := hst0
      exact (hb0.cell (p := ⟨b, off, none⟩) hb).trans h1
    clear h1
    go_upto_if 14 with (fail)
    go_cut [5] from 12 (fun s5 wx => ∃ v, v = s5 ∧ NrAt R C i w wx v 1)
    case first =>
      have HST := Lib.hid hst0
      obtain ⟨ys, hy1, hy2, hyb⟩ := hst0
      have hlen : ys.length ≤ 4 := by rw [hy2]; unfold ixV; rw [List.length_map]; have := near_len R C i 0; omega
      have HYS := Lib.hid hy2
      have hwx := hyb.size
      clear hy2 hyb
      by_cases hc : C ≤ ix
      · have hq : ((ix - C : Nat) : Int) = (ix : Int) - (C : Int) := by omega
        have HQ := Lib.hid hq
        clear hq
        go_wp2_with (first | (at_builtin; refine wpList_append_own _ rfl _ _ 27 rfl w.heap.size 3 i0 (.int .i64 0) 1 8 Try.underlying27 hi0 hz0 hz1 hz2 rfl (by decide) _ ys.length ys rfl (hy1.alloc _) ⟨wc0.heap.size, 0, none⟩ 1 1 [.int .i64 ((ix : Int) - (C : Int))] rfl rfl (World.news_of_block (cs := #[.int .i64 ((ix : Int) - (C : Int))]) (t := 3) (fr := (0, 0)) (heap_alloc_new wc0 _)) (by simp [Value.oneCell']) (by unfold maxLen; omega) (by omega) (by simp; omega) ?_; intro v' w2 hown2 hg2 _))
        go_meet
        exact ⟨v', rfl, NrAt.push HST.out hy1 ((HN.out 0).1 (by rw [HI.out, HEC.out]; have h5 := HPE.out; simp [nbC]; omega)) (by rw [HQ.out]; exact hown2) (by rw [HI.out]; rfl) HYS.out hg2⟩
      · go_wp2
        go_meet
        exact ⟨_, rfl, NrAt.skip HST.out ((HN.out 0).2 (by rw [HI.out, HEC.out]; have h5 := HPE.out; simp [nbC]; omega))⟩
    case rest =>
      obtain ⟨v, rfl, hst1⟩ := hcut
      obtain ⟨wc1, hwc⟩ : ∃ W, W = wc := ⟨_, rfl⟩
      subst hwc
      go_upto_if 26 with (fail)
      go_cut [5] from 21 (fun s5 wx => ∃ v, v = s5 ∧ NrAt R C i w wx v 2)
      case first =>
        have HST := Lib.hid hst1
        obtain ⟨ys, hy1, hy2, hyb⟩ := hst1
        have hlen : ys.length ≤ 4 := by rw [hy2]; unfold ixV; rw [List.length_map]; have := near_len R C i 1; omega
        have HYS := Lib.hid hy2
        have hwx := hyb.size
        clear hy2 hyb
        by_cases hc : c + 1 < C
        · have hq : ((ix + 1 : Nat) : Int) = (ix : Int) + 1 := by omega
          have HQ := Lib.hid hq
          clear hq
          go_wp2_with (first | (at_builtin; refine wpList_append_own _ rfl _ _ 27 rfl w.heap.size 3 i0 (.int .i64 0) 1 8 Try.underlying27 hi0 hz0 hz1 hz2 rfl (by decide) _ ys.length ys rfl (hy1.alloc _) ⟨wc1.heap.size, 0, none⟩ 1 1 [.int .i64 ((ix : Int) + 1)] rfl rfl (World.news_of_block (cs := #[.int .i64 ((ix : Int) + 1)]) (t := 3) (fr := (0, 0)) (heap_alloc_new wc1 _)) (by simp [Value.oneCell']) (by unfold maxLen; omega) (by omega) (by simp; omega) ?_; intro v' w2 hown2 hg2 _))
          go_meet
          exact ⟨v', rfl, NrAt.push HST.out hy1 ((HN.out 1).1 (by rw [HI.out, HEC.out]; have h5 := HPE.out; simp [nbC]; omega)) (by rw [HQ.out]; exact hown2) (by rw [HI.out]; rfl) HYS.out hg2⟩
        · go_wp2
          go_meet
          exact ⟨_, rfl, NrAt.skip HST.out ((HN.out 1).2 (by rw [HI.out, HEC.out]; have h5 := HPE.out; simp [nbC]; omega))⟩
      case rest =>
        obtain ⟨v, rfl, hst2⟩ := hcut
        obtain ⟨wc2, hwc⟩ : ∃ W, W = wc := ⟨_, rfl⟩
        subst hwc
        go_upto_if 38 with (fail)
        go_cut [5] from 32 (fun s5 wx => ∃ v, v = s5 ∧ NrAt R C i w wx v 3)
        case first =>
          have HST := Lib.hid hst2
          obtain ⟨ys, hy1, hy2, hyb⟩ := hst2
          have hlen : ys.length ≤ 4 := by rw [hy2]; unfold ixV; rw [List.length_map]; have := near_len R C i 2; omega
          have HYS := Lib.hid hy2
          have hwx := hyb.size
          clear hy2 hyb
          by_cases hc : ix < P
          · have hq : ((ix + C : Nat) : Int) = (ix : Int) + (C : Int) := by omega
            have HQ := Lib.hid hq
            clear hq
            go_wp2_with (first | (at_builtin; refine wpList_append_own _ rfl _ _ 27 rfl w.heap.size 3 i0 (.int .i64 0) 1 8 Try.underlying27 hi0 hz0 hz1 hz2 rfl (by decide) _ ys.length ys rfl (hy1.alloc _) ⟨wc2.heap.size, 0, none⟩ 1 1 [.int .i64 ((ix : Int) + (C : Int))] rfl rfl (World.news_of_block (cs := #[.int .i64 ((ix : Int) + (C : Int))]) (t := 3) (fr := (0, 0)) (heap_alloc_new wc2 _)) (by simp [Value.oneCell']) (by unfold maxLen; omega) (by omega) (by simp; omega) ?_; intro v' w2 hown2 hg2 _))
            go_meet
            exact ⟨v', rfl, NrAt.push HST.out hy1 ((HN.out 2).1 (by rw [HI.out, HEC.out]; have h5 := HPE.out; simp [nbC]; omega)) (by rw [HQ.out]; exact hown2) (by rw [HI.out]; rfl) HYS.out hg2⟩
          · go_wp2
            go_meet
            exact ⟨_, rfl, NrAt.skip HST.out ((HN.out 2).2 (by rw [HI.out, HEC.out]; have h5 := HPE.out; simp [nbC]; omega))⟩
        case rest =>
          obtain ⟨v, rfl, hst3⟩ := hcut
          obtain ⟨wc3, hwc⟩ : ∃ W, W = wc := ⟨_, rfl⟩
          subst hwc
          go_upto_if 48 with (fail)
          go_cut [5] from 45 (fun s5 wx => ∃ v, v = s5 ∧ NrAt R C i w wx v 4)
          case first =>
            have HST := Lib.hid hst3
            obtain ⟨ys, hy1, hy2, hyb⟩ := hst3
            have hlen : ys.length ≤ 4 := by rw [hy2]; unfold ixV; rw [List.length_map]; have := near_len R C i 3; omega
            have HYS := Lib.hid hy2
            have hwx := hyb.size
            clear hy2 hyb
            by_cases hc : 0 < c
            · have hq : ((ix - 1 : Nat) : Int) = (ix : Int) - 1 := by omega
              have HQ := Lib.hid hq
              clear hq
              go_wp2_with (first | (at_builtin; refine wpList_append_own _ rfl _ _ 27 rfl w.heap.size 3 i0 (.int .i64 0) 1 8 Try.underlying27 hi0 hz0 hz1 hz2 rfl (by decide) _ ys.length ys rfl (hy1.alloc _) ⟨wc3.heap.size, 0, none⟩ 1 1 [.int .i64 ((ix : Int) - 1)] rfl rfl (World.news_of_block (cs := #[.int .i64 ((ix : Int) - 1)]) (t := 3) (fr := (0, 0)) (heap_alloc_new wc3 _)) (by simp [Value.oneCell']) (by unfold maxLen; omega) (by omega) (by simp; omega) ?_; intro v' w2 hown2 hg2 _))
              go_meet
              exact ⟨v', rfl, NrAt.push HST.out hy1 ((HN.out 3).1 (by rw [HI.out, HEC.out]; have h5 := HPE.out; simp [nbC]; omega)) (by rw [HQ.out]; exact hown2) (by rw [HI.out]; rfl) HYS.out hg2⟩
            · go_wp2
              go_meet
              exact ⟨_, rfl, NrAt.skip HST.out ((HN.out 3).2 (by rw [HI.out, HEC.out]; have h5 := HPE.out; simp [nbC]; omega))⟩
          case rest =>
            obtain ⟨v, rfl, hst4⟩ := hcut
            obtain ⟨ys, hy1, hy2, hyb⟩ := hst4
            obtain ⟨a, c, rfl⟩ := own_shape hy1
            have hl : ys.length = (near R C i 4).length := by rw [hy2]; unfold ixV; rw [List.length_map]
            have hst := NrAt.rdI ⟨ys, hy1, hy2, hyb⟩ h49
            rw [hl] at hst ⊢
            have HST := Lib.hid hst
            have HB := Lib.hid hyb
            clear hy1 hy2 hyb hl hst
            go_wp2
            go_ret
            exact ⟨_, rfl, ⟨_, _, rfl⟩, HST.out, HB.out⟩



end Go.Proofs.Ytcfeckpbjdipeaa
