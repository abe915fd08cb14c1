/- Neighbors of a cell and what a list holds, in the promises' laws. -/
import Derived.Test.YtjllmidagcniaaaPHelp
import Derived.Test.YtjllmidagcniaaaSinkE
import Derived.Test.YtjllmidagcniaaaSinkS
namespace Go.Proofs.Ytjllmidagcniaaa
open Go.RowKit
set_option linter.unusedVariables false

set_option maxHeartbeats 2000000 in
set_option maxRecDepth 100000 in
theorem nearOf_any (v : Value) (lo hi : Nat) (g : G) (R C : Nat) (eR : g.n = R) (eC : g.len 0 = C) (i : Ix (R * C)) (w : World) (hv : RdM lo hi w v g) (hh : hi ≤ w.heap.size) (h : g.Valid) :
    Calls Try.prog 43 #[v, .int .i64 i.1] w (NrPost R C i w) := by
  obtain ⟨i0, hi0, hz0, hz1, hz2⟩ := info_parts Try.infoI
  have hn1 : 1 ≤ R := by have := h.1.1; omega
  have hn7 : R ≤ 7 := by have := h.1.2; omega
  have hl1 : 1 ≤ C := by have := h.2.1.1; omega
  have hl7 : C ≤ 7 := by have := h.2.1.2; omega
  obtain ⟨b, off, cap, rfl⟩ : ∃ b off cap, v = .slice (some ⟨b, off, none⟩) R cap := by
    obtain ⟨b, off, cap, e⟩ := hv.shapeW h.1.1
    exact ⟨b, off, cap, by rw [e, eR]⟩
  have hix := i.2
  have h49 := mul_le_49 hn7 hl7
  obtain ⟨a1, c1, h1⟩ := hv.headW h.1.1 C eC
  have hb : b < w.heap.size := by
    obtain ⟨ao, cp', b', off', _, _, e, _, _, h4, _⟩ := hv
    simp only [Value.slice.injEq] at e
    have h5 := h4 h.1.1
    rw [h5.1] at e
    simp only [Option.some.injEq, Addr.mk.injEq] at e
    omega
  clear h hv eR eC
  obtain ⟨ix, ei⟩ : ∃ ix, i.1 = ix := ⟨_, rfl⟩
  obtain ⟨c, ec⟩ : ∃ c, ix % C = c := ⟨_, rfl⟩
  have t2 : (ix : Int) % (C : Int) = (c : Int) := by rw [← ec]; exact (Int.natCast_emod _ _).symm
  obtain ⟨P, eP⟩ : ∃ P, C * (R - 1) = P := ⟨_, rfl⟩
  have t3 : (C : Int) * ((R : Int) - 1) = (P : Int) := by rw [← eP, Int.natCast_mul]; congr 1; omega
  have hP : P + C = R * C := by
    obtain ⟨R', rfl⟩ : ∃ R', R = R' + 1 := ⟨R - 1, by omega⟩
    rw [← eP, Nat.add_sub_cancel, Nat.add_mul, Nat.one_mul, Nat.mul_comm]
  have hP49 : P ≤ 49 := by omega
  have HN := Lib.hid (fun k => nb_cases R C i k)
  have HI := Lib.hid ei
  have HEC := Lib.hid ec
  have HPE := Lib.hid hP
  rw [ei] at hix ⊢
  have hcC : c < C := by rw [← ec]; exact Nat.mod_lt _ hl1
  have hC0 : (0 : Int) < R := by omega
  have hC1 : ¬ (C : Int) = 0 := by omega
  have hC2 : ((C : Int) == 0) = false := by rw [beq_eq_false_iff_ne]; omega
  have hix48 : ix ≤ 48 := by omega
  have hcix : c ≤ ix := by rw [← ec]; exact Nat.mod_le _ _
  clear ei ec eP hP
  go_enter Try.func43, Try.ntmps43
  go_upto_region 1 with (fail)
  go_cut [5] from 7 (fun s5 wx => ∃ v, v = s5 ∧ NrAt R C i w wx v 0)
  case first =>
    go_wp2_with fail
    go_meet
    exact ⟨_, rfl, NrAt.start R C i w⟩
  case rest =>
    obtain ⟨v, rfl, hst0⟩ := hcut
    obtain ⟨wc0, hwc⟩ : ∃ W, W = wc := ⟨_, rfl⟩
    subst hwc
    have c0 : wc0.cell? ⟨b, off, none⟩ = some (.slice a1 C c1) := by
      obtain ⟨_, _, _, hb0⟩ := hst0
      exact (hb0.cell (p := ⟨b, off, none⟩) hb).trans h1
    clear h1
    go_upto_if 14 with (fail)
    go_cut [5] from 12 (fun s5 wx => ∃ v, v = s5 ∧ NrAt R C i w wx v 1)
    case first =>
      have HST := Lib.hid hst0
      obtain ⟨ys, hy1, hy2, hyb⟩ := hst0
      have hlen : ys.length ≤ 4 := by rw [hy2]; unfold ixV; rw [List.length_map]; have := near_len R C i 0; omega
      have HYS := Lib.hid hy2
      have hwx := hyb.size
      clear hy2 hyb
      by_cases hc : C ≤ ix
      · have hq : ((ix - C : Nat) : Int) = (ix : Int) - (C : Int) := by omega
        have HQ := Lib.hid hq
        clear hq
        go_wp2_with (first | (at_builtin; refine wpList_append_own _ rfl _ _ 34 rfl w.heap.size 3 i0 (.int .i64 0) 1 8 Try.underlying34 hi0 hz0 hz1 hz2 rfl (by decide) _ ys.length ys rfl (hy1.alloc _) ⟨wc0.heap.size, 0, none⟩ 1 1 [.int .i64 ((ix : Int) - (C : Int))] rfl rfl (World.news_of_block (cs := #[.int .i64 ((ix : Int) - (C : Int))]) (t := 3) (fr := (0, 0)) (heap_alloc_new wc0 _)) (by simp [Value.oneCell']) (by unfold maxLen; omega) (by omega) (by simp; omega) ?_; intro v' w2 hown2 hg2 _))
        go_meet
        exact ⟨v', rfl, NrAt.push HST.out hy1 ((HN.out 0).1 (by rw [HI.out, HEC.out]; have h5 := HPE.out; simp [nbC]; omega)) (by rw [HQ.out]; exact hown2) (by rw [HI.out]; rfl) HYS.out hg2⟩
      · go_wp2
        go_meet
        exact ⟨_, rfl, NrAt.skip HST.out ((HN.out 0).2 (by rw [HI.out, HEC.out]; have h5 := HPE.out; simp [nbC]; omega))⟩
    case rest =>
      obtain ⟨v, rfl, hst1⟩ := hcut
      obtain ⟨wc1, hwc⟩ : ∃ W, W = wc := ⟨_, rfl⟩
      subst hwc
      go_upto_if 26 with (fail)
      go_cut [5] from 21 (fun s5 wx => ∃ v, v = s5 ∧ NrAt R C i w wx v 2)
      case first =>
        have HST := Lib.hid hst1
        obtain ⟨ys, hy1, hy2, hyb⟩ := hst1
        have hlen : ys.length ≤ 4 := by rw [hy2]; unfold ixV; rw [List.length_map]; have := near_len R C i 1; omega
        have HYS := Lib.hid hy2
        have hwx := hyb.size
        clear hy2 hyb
        by_cases hc : c + 1 < C
        · have hq : ((ix + 1 : Nat) : Int) = (ix : Int) + 1 := by omega
          have HQ := Lib.hid hq
          clear hq
          go_wp2_with (first | (at_builtin; refine wpList_append_own _ rfl _ _ 34 rfl w.heap.size 3 i0 (.int .i64 0) 1 8 Try.underlying34 hi0 hz0 hz1 hz2 rfl (by decide) _ ys.length ys rfl (hy1.alloc _) ⟨wc1.heap.size, 0, none⟩ 1 1 [.int .i64 ((ix : Int) + 1)] rfl rfl (World.news_of_block (cs := #[.int .i64 ((ix : Int) + 1)]) (t := 3) (fr := (0, 0)) (heap_alloc_new wc1 _)) (by simp [Value.oneCell']) (by unfold maxLen; omega) (by omega) (by simp; omega) ?_; intro v' w2 hown2 hg2 _))
          go_meet
          exact ⟨v', rfl, NrAt.push HST.out hy1 ((HN.out 1).1 (by rw [HI.out, HEC.out]; have h5 := HPE.out; simp [nbC]; omega)) (by rw [HQ.out]; exact hown2) (by rw [HI.out]; rfl) HYS.out hg2⟩
        · go_wp2
          go_meet
          exact ⟨_, rfl, NrAt.skip HST.out ((HN.out 1).2 (by rw [HI.out, HEC.out]; have h5 := HPE.out; simp [nbC]; omega))⟩
      case rest =>
        obtain ⟨v, rfl, hst2⟩ := hcut
        obtain ⟨wc2, hwc⟩ : ∃ W, W = wc := ⟨_, rfl⟩
        subst hwc
        go_upto_if 38 with (fail)
        go_cut [5] from 32 (fun s5 wx => ∃ v, v = s5 ∧ NrAt R C i w wx v 3)
        case first =>
          have HST := Lib.hid hst2
          obtain ⟨ys, hy1, hy2, hyb⟩ := hst2
          have hlen : ys.length ≤ 4 := by rw [hy2]; unfold ixV; rw [List.length_map]; have := near_len R C i 2; omega
          have HYS := Lib.hid hy2
          have hwx := hyb.size
          clear hy2 hyb
          by_cases hc : ix < P
          · have hq : ((ix + C : Nat) : Int) = (ix : Int) + (C : Int) := by omega
            have HQ := Lib.hid hq
            clear hq
            go_wp2_with (first | (at_builtin; refine wpList_append_own _ rfl _ _ 34 rfl w.heap.size 3 i0 (.int .i64 0) 1 8 Try.underlying34 hi0 hz0 hz1 hz2 rfl (by decide) _ ys.length ys rfl (hy1.alloc _) ⟨wc2.heap.size, 0, none⟩ 1 1 [.int .i64 ((ix : Int) + (C : Int))] rfl rfl (World.news_of_block (cs := #[.int .i64 ((ix : Int) + (C : Int))]) (t := 3) (fr := (0, 0)) (heap_alloc_new wc2 _)) (by simp [Value.oneCell']) (by unfold maxLen; omega) (by omega) (by simp; omega) ?_; intro v' w2 hown2 hg2 _))
            go_meet
            exact ⟨v', rfl, NrAt.push HST.out hy1 ((HN.out 2).1 (by rw [HI.out, HEC.out]; have h5 := HPE.out; simp [nbC]; omega)) (by rw [HQ.out]; exact hown2) (by rw [HI.out]; rfl) HYS.out hg2⟩
          · go_wp2
            go_meet
            exact ⟨_, rfl, NrAt.skip HST.out ((HN.out 2).2 (by rw [HI.out, HEC.out]; have h5 := HPE.out; simp [nbC]; omega))⟩
        case rest =>
          obtain ⟨v, rfl, hst3⟩ := hcut
          obtain ⟨wc3, hwc⟩ : ∃ W, W = wc := ⟨_, rfl⟩
          subst hwc
          go_upto_if 48 with (fail)
          go_cut [5] from 45 (fun s5 wx => ∃ v, v = s5 ∧ NrAt R C i w wx v 4)
          case first =>
            have HST := Lib.hid hst3
            obtain ⟨ys, hy1, hy2, hyb⟩ := hst3
            have hlen : ys.length ≤ 4 := by rw [hy2]; unfold ixV; rw [List.length_map]; have := near_len R C i 3; omega
            have HYS := Lib.hid hy2
            have hwx := hyb.size
            clear hy2 hyb
            by_cases hc : 0 < c
            · have hq : ((ix - 1 : Nat) : Int) = (ix : Int) - 1 := by omega
              have HQ := Lib.hid hq
              clear hq
              go_wp2_with (first | (at_builtin; refine wpList_append_own _ rfl _ _ 34 rfl w.heap.size 3 i0 (.int .i64 0) 1 8 Try.underlying34 hi0 hz0 hz1 hz2 rfl (by decide) _ ys.length ys rfl (hy1.alloc _) ⟨wc3.heap.size, 0, none⟩ 1 1 [.int .i64 ((ix : Int) - 1)] rfl rfl (World.news_of_block (cs := #[.int .i64 ((ix : Int) - 1)]) (t := 3) (fr := (0, 0)) (heap_alloc_new wc3 _)) (by simp [Value.oneCell']) (by unfold maxLen; omega) (by omega) (by simp; omega) ?_; intro v' w2 hown2 hg2 _))
              go_meet
              exact ⟨v', rfl, NrAt.push HST.out hy1 ((HN.out 3).1 (by rw [HI.out, HEC.out]; have h5 := HPE.out; simp [nbC]; omega)) (by rw [HQ.out]; exact hown2) (by rw [HI.out]; rfl) HYS.out hg2⟩
            · go_wp2
              go_meet
              exact ⟨_, rfl, NrAt.skip HST.out ((HN.out 3).2 (by rw [HI.out, HEC.out]; have h5 := HPE.out; simp [nbC]; omega))⟩
          case rest =>
            obtain ⟨v, rfl, hst4⟩ := hcut
            obtain ⟨ys, hy1, hy2, hyb⟩ := hst4
            obtain ⟨a, c, rfl⟩ := own_shape hy1
            have hl : ys.length = (near R C i 4).length := by rw [hy2]; unfold ixV; rw [List.length_map]
            have hst := NrAt.rdI ⟨ys, hy1, hy2, hyb⟩ h49
            rw [hl] at hst ⊢
            have HST := Lib.hid hst
            have HB := Lib.hid hyb
            clear hy1 hy2 hyb hl hst
            go_wp2
            go_ret
            exact ⟨_, rfl, ⟨_, _, rfl⟩, HST.out, HB.out⟩


/-- whether a list holds a number -/
def holds {M : Nat} (l : List (Ix M)) (n : Nat) (k : Nat) : Bool := (l.take k).any (fun x => x.1 == n)
def HasPost (b : Bool) (w : World) (e : Ending) (w' : World) : Prop := e = .returned (.bool b) ∧ ∃ n, w' = w.drewN n

set_option maxHeartbeats 1000000 in
theorem hasInt_any (v : Value) (lo hi : Nat) {M : Nat} (l : List (Ix M)) (n : Nat) (w : World) (h : RdI lo hi w v l.length (ixZ l)) (hM : M ≤ 49) (hl : l.length ≤ 49) (hn : n ≤ 49) :
    Calls Try.prog 45 #[v, .int .i64 n] w (HasPost (l.any (fun x => x.1 == n)) w) := by
  obtain ⟨ao, cap, b, off, rfl, a2, a3, a4, a5, a6⟩ := h
  clear a4
  go_enter Try.func45, Try.ntmps45
  go_wp2
  go_loopw [5] (fun i wr => ∃ k m : Nat, k ≤ l.length ∧ i = .int .i64 k ∧ (l.take k).any (fun x => x.1 == n) = false ∧ wr = w.drewN m) (fun i _ => l.length - (intOf i).toNat)
  case atStart => exact ⟨0, 0, Nat.zero_le _, rfl, by simp, rfl⟩
  case round =>
    obtain ⟨k, m, hk, rfl, hA, rfl⟩ := hrel
    by_cases hlt : k < l.length
    · obtain ⟨rfl, _, _⟩ := a5 (by omega)
      have q1 := a6 k hlt
      rw [ixZ_at l hlt] at q1
      have HT := Lib.hid (show (l.take (k + 1)).any (fun x => x.1 == n) = ((l.take k).any (fun x => x.1 == n) || (l[k].1 == n)) by rw [List.take_succ_eq_append_getElem hlt, List.any_append]; simp)
      have HE := Lib.hid (show l[k].1 = n → l.any (fun x => x.1 == n) = true from fun e => List.any_eq_true.2 ⟨l[k], List.getElem_mem hlt, by simp [e]⟩)
      obtain ⟨z, ez⟩ : ∃ z, l[k] = z := ⟨_, rfl⟩
      rw [ez] at q1 HT HE
      rw [hA] at HT
      have hz := z.2
      obtain ⟨y, ey⟩ : ∃ y, z.1 = y := ⟨_, rfl⟩
      rw [ey] at q1 HT HE hz
      clear a5 a6 ez ey hA
      have hlt' : (k : Int) < l.length := by omega
      by_cases hyn : y = n
      · have hx : ((y : Int) == (n : Int)) = true := by simp [hyn]
        have HE2 := Lib.hid (HE.out hyn)
        clear hyn
        go_wp2
        go_ret
        exact ⟨congrArg (fun b => Ending.returned (Value.bool b)) HE2.out.symm, _, rfl⟩
      · have hx : ((y : Int) == (n : Int)) = false := by rw [beq_eq_false_iff_ne]; omega
        go_wp2
        go_roundw
        case rel => exact ⟨k + 1, m, by omega, by go_num, by rw [HT.out]; simp [hyn], rfl⟩
        case measure => simp [intOf]; omega
    · have ek : k = l.length := by omega
      subst ek
      rw [List.take_length] at hA
      have HA := Lib.hid hA
      clear a5 a6 hA
      go_wp2
      go_ret
      exact ⟨congrArg (fun b => Ending.returned (Value.bool b)) HA.out.symm, m, rfl⟩

/-- water stays where no neighbor is lower -/
theorem flowTo_stays {M : Nat} (Z : Nat → Int) (i : Ix M) : ∀ (n : Nat) (l : List (Ix M)), l.length = n → ((flowTo Z i l = i) ↔ ∀ x, x ∈ l → ¬ Z x.1 < Z i.1) ∧ Z (flowTo Z i l).1 ≤ Z i.1
  | 0, l, h => by
    have : l = [] := List.eq_nil_of_length_eq_zero h
    subst this
    exact ⟨⟨fun _ x hx => (by cases hx), fun _ => rfl⟩, Int.le_refl _⟩
  | n + 1, l, h => by
    have hne : l ≠ [] := by intro e; subst e; simp at h
    have h1 := flowTo_stays Z i n l.dropLast (by simp [h])
    have e := List.dropLast_concat_getLast hne
    rw [← e, flowTo_snoc]
    refine ⟨⟨fun h2 x hx => ?_, fun h2 => ?_⟩, ?_⟩
    · by_cases hc : Z (l.getLast hne).1 < Z (flowTo Z i l.dropLast).1
      · rw [if_pos hc] at h2
        rw [h2] at hc
        have := h1.2
        omega
      · rw [if_neg hc] at h2
        rcases List.mem_append.1 hx with hx | hx
        · exact h1.1.1 h2 x hx
        · simp only [List.mem_singleton] at hx
          subst hx
          rw [h2] at hc
          exact hc
    · have h3 := h1.1.2 (fun x hx => h2 x (List.mem_append_left _ hx))
      rw [h3, if_neg (h2 _ (by simp))]
    · split
      · have := h1.2; omega
      · exact h1.2
theorem nxt_stays {R C : Nat} (Z : Nat → Int) (i : Ix (R * C)) : nxt R C Z i = i ↔ ∀ x, x ∈ near R C i 4 → ¬ Z x.1 < Z i.1 := (flowTo_stays Z i _ _ rfl).1

theorem skL_holds {R C : Nat} {Z : Nat → Int} {i : Ix (R * C)} : ∀ {k : Nat}, i ∈ skL R C Z k ↔ i.1 < k ∧ nxt R C Z i = i
  | 0 => by simp [skL]
  | k + 1 => by
    simp only [skL, List.mem_append, skL_holds (k := k)]
    constructor
    · rintro (h | h)
      · exact ⟨by omega, h.2⟩
      · split at h
        · rename_i hk
          split at h
          · rename_i hn
            simp only [List.mem_singleton] at h
            subst h
            exact ⟨by simp, hn⟩
          · cases h
        · cases h
    · rintro ⟨h1, h2⟩
      by_cases e : i.1 = k
      · refine Or.inr ?_
        have hk : k < R * C := by rw [← e]; exact i.2
        have ei : (⟨k, hk⟩ : Ix (R * C)) = i := Subtype.ext e.symm
        rw [dif_pos hk, ei, if_pos h2]
        simp
      · exact Or.inl ⟨by omega, h2⟩
/-- a cell is among the sinks where no neighbor is lower -/
theorem sinkHolds {R C : Nat} {Z : Nat → Int} (i : Ix (R * C)) : (skL R C Z (R * C)).any (fun x => x.1 == i.1) = !((near R C i 4).any (fun x => decide (Z x.1 < Z i.1))) := by
  have h1 : (skL R C Z (R * C)).any (fun x => x.1 == i.1) = true ↔ ¬ (near R C i 4).any (fun x => decide (Z x.1 < Z i.1)) = true := by
    rw [List.any_eq_true, List.any_eq_true]
    constructor
    · rintro ⟨x, hx, e⟩ ⟨y, hy, hz⟩
      have ex : x = i := Subtype.ext (by simpa using e)
      subst ex
      exact (nxt_stays Z x).1 (skL_holds.1 hx).2 y hy (by simpa using hz)
    · intro h
      refine ⟨i, skL_holds.2 ⟨i.2, (nxt_stays Z i).2 fun x hx hz => h ⟨x, hx, by simpa using hz⟩⟩, by simp⟩
  cases hA : (skL R C Z (R * C)).any (fun x => x.1 == i.1) <;> cases hB : (near R C i 4).any (fun x => decide (Z x.1 < Z i.1)) <;> simp_all

end Go.Proofs.Ytjllmidagcniaaa
