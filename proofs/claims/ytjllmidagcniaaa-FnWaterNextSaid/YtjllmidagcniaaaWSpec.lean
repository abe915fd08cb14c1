/- The model's heights and neighbors, by index. -/
import Derived.Test.YtjllmidagcniaaaM2
import Derived.Test.YtjllmidagcniaaaM3
namespace Go.Proofs.Ytjllmidagcniaaa
open Go.RowKit
set_option linter.unusedVariables false

def HgPost (z : Int) (w : World) (e : Ending) (w' : World) : Prop := e = .returned (.int .i64 z) ∧ ∃ n, w' = w.drewN n

theorem div_lt' {i n m : Nat} (hm : 0 < m) (h : i < n * m) : i / m < n ∧ i % m < m := ⟨(Nat.div_lt_iff_lt_mul hm).2 h, Nat.mod_lt _ hm⟩
theorem RdM.shapeW {lo hi : Nat} {w : World} {v : Value} {g : G} (h : RdM lo hi w v g) (h0 : 0 < g.n) : ∃ b off cap, v = .slice (some ⟨b, off, none⟩) g.n cap := by
  obtain ⟨ao, cap, b, off, Ao, Cp, rfl, _, _, h4, _⟩ := h
  exact ⟨b, off, cap, by rw [(h4 h0).1]⟩
theorem RdM.headW {lo hi : Nat} {w : World} {b off n cap : Nat} {g : G} (h : RdM lo hi w (.slice (some ⟨b, off, none⟩) n cap) g) (h0 : 0 < g.n) (k : Nat) (hk : g.len 0 = k) : ∃ ao c0, w.cell? ⟨b, off, none⟩ = some (.slice ao k c0) := by
  subst hk
  obtain ⟨ao, cap', b', off', Ao, Cp, e, _, _, h4, h5, _⟩ := h
  simp only [Value.slice.injEq] at e
  obtain ⟨e1, _, _⟩ := e
  rw [(h4 h0).1] at e1
  simp only [Option.some.injEq, Addr.mk.injEq] at e1
  obtain ⟨rfl, rfl, _⟩ := e1
  exact ⟨_, _, by simpa using h5 0 h0⟩

def BiPost (m : Nat) (w : World) (e : Ending) (w' : World) : Prop := e = .returned (.int .i64 m) ∧ Below w.heap.size w w'

/-- when the k-th neighbor is there, and which it is -/
def nbC (R C i c k : Nat) : Prop := if k = 0 then C ≤ i else if k = 1 then c + 1 < C else if k = 2 then i + C < R * C else 0 < c
def nbV (C i k : Nat) : Nat := if k = 0 then i - C else if k = 1 then i + 1 else if k = 2 then i + C else i - 1
theorem nb_cases (R C : Nat) (i : Ix (R * C)) (k : Nat) : (nbC R C i.1 (i.1 % C) k → ∃ z, nb R C i k = some z ∧ z.1 = nbV C i.1 k) ∧ (¬ nbC R C i.1 (i.1 % C) k → nb R C i k = none) := by
  unfold nbC nbV nb
  constructor
  · intro h
    split
    · rename_i e; simp only [e, if_true] at h; exact ⟨⟨i.1 - C, by have := i.2; omega⟩, by simp [h], rfl⟩
    · rename_i e
      simp only [e, if_false] at h
      split
      · rename_i e1; simp only [e1, if_true] at h; exact ⟨⟨i.1 + 1, east_lt i.2 h⟩, by simp [h], rfl⟩
      · rename_i e1
        simp only [e1, if_false] at h
        split
        · rename_i e2; simp only [e2, if_true] at h; exact ⟨⟨i.1 + C, h⟩, by simp [h], rfl⟩
        · rename_i e2; simp only [e2, if_false] at h; exact ⟨⟨i.1 - 1, by have := i.2; omega⟩, by simp [h], rfl⟩
  · intro h
    split
    · rename_i e; simp only [e, if_true] at h; simp [h]
    · rename_i e
      simp only [e, if_false] at h
      split
      · rename_i e1; simp only [e1, if_true] at h; simp [h]
      · rename_i e1
        simp only [e1, if_false] at h
        split
        · rename_i e2; simp only [e2, if_true] at h; simp [h]
        · rename_i e2; simp only [e2, if_false] at h; simp [h]

/-- a list of indexes as values -/
def ixV {M : Nat} (l : List (Ix M)) : List Value := l.map fun x => .int .i64 x.1
/-- the first k neighbors are listed -/
def NrAt (R C : Nat) (i : Ix (R * C)) (w wr : World) (v : Value) (k : Nat) : Prop :=
  ∃ ys, wr.ownsRow w.heap.size 3 1 v ys.length ys ∧ ys = ixV (near R C i k) ∧ Below w.heap.size w wr

theorem NrAt.start (R C : Nat) (i : Ix (R * C)) (w : World) : NrAt R C i w (w.alloc (.cells #[] 3)) (.slice (some ⟨w.heap.size, 0, none⟩) 0 0) 0 := by
  obtain ⟨ys, h1, h2⟩ := Rw.start w (fun _ => 0)
  have h3 := h1.1
  have : ys = [] := List.length_eq_zero_iff.1 (by simpa using h3)
  subst this
  exact ⟨[], h1, by simp [ixV, near], (Below.refl _ _).alloc (Nat.le_refl _) _⟩

theorem NrAt.push {R C : Nat} {i : Ix (R * C)} {w wr w2 : World} {v v' : Value} {k : Nat} {ys : List Value} {o : Obj} (h : NrAt R C i w wr v k) (hy : wr.ownsRow w.heap.size 3 1 v ys.length ys) (z : ∃ z, nb R C i k = some z ∧ z.1 = nbV C i.1 k) {m : Nat}
    (hown : w2.ownsRow w.heap.size 3 1 v' (ys.length + 1) (ys ++ [.int .i64 m])) (hm : m = nbV C i.1 k) (hys : ys = ixV (near R C i k)) (hg : (wr.alloc o).grownBy w2 v.ownBlock) : NrAt R C i w w2 v' (k + 1) := by
  obtain ⟨z, hz, e⟩ := z
  obtain ⟨_, _, _, hb⟩ := h
  refine ⟨ys ++ [.int .i64 m], by simpa using hown, ?_, (hb.alloc hb.size o).grown hg (by have := hb.size; simp; omega) (fun k hk => (hy.lt k hk).1)⟩
  rw [near_some hz, hys, hm, ← e]; simp [ixV]

theorem NrAt.skip {R C : Nat} {i : Ix (R * C)} {w wr : World} {v : Value} {k : Nat} (h : NrAt R C i w wr v k) (hn : nb R C i k = none) : NrAt R C i w wr v (k + 1) := by
  obtain ⟨ys, h1, h2, h3⟩ := h
  exact ⟨ys, h1, by rw [near_none hn]; exact h2, h3⟩

/-- the j-th of a list of indexes, as a number -/
def ixZ {M : Nat} (l : List (Ix M)) (j : Nat) : Int := ((l[j]?).map fun x => (x.1 : Int)).getD 0
theorem ixZ_at {M : Nat} (l : List (Ix M)) {j : Nat} (h : j < l.length) : ixZ l j = (l[j].1 : Int) := by simp [ixZ, h]

theorem NrAt.rdI {R C : Nat} {i : Ix (R * C)} {w wr : World} {v : Value} (h : NrAt R C i w wr v 4) (h49 : R * C ≤ 49) : RdI w.heap.size wr.heap.size wr v (near R C i 4).length (ixZ (near R C i 4)) := by
  obtain ⟨ys, h1, h2, h3⟩ := h
  have hl : ys.length = (near R C i 4).length := by rw [h2]; simp [ixV]
  rw [hl] at h1
  refine Rw.rdI ⟨ys, h1, fun j hj => ?_⟩ (fun j hj => ?_)
  · rw [h2, ixZ_at _ hj]; simp [ixV, hj]
  · rw [ixZ_at _ hj]; have := (near R C i 4)[j].2; omega

/-- what the list of neighbors leaves -/
def NrPost (R C : Nat) (i : Ix (R * C)) (w : World) (e : Ending) (w' : World) : Prop :=
  ∃ v, e = .returned v ∧ (∃ a c, v = .slice a (near R C i 4).length c) ∧ RdI w.heap.size w'.heap.size w' v (near R C i 4).length (ixZ (near R C i 4)) ∧ Below w.heap.size w w'

set_option maxHeartbeats 1000000 in
set_option maxRecDepth 20000 in
theorem l2Height_any (v : Value) (lo hi : Nat) (g : G) (i : Nat) (w : World) (hv : RdM lo hi w v g) (h : g.Valid) (hi' : i < g.n * g.len 0) :
    Calls Try.prog 95 #[v, .int .i64 i] w (HgPost (g.flat i) w) := by
  obtain ⟨d1, d2⟩ := div_lt' h.2.1.1 hi'
  have hl := (h.2.2 _ d1).1
  obtain ⟨b, off, cap, b1, off1, cp, rfl, p1, p2, _, _⟩ := hv.cellAt d1 (show i % g.len 0 < g.len (i / g.len 0) by omega)
  obtain ⟨a1, c1, h1⟩ := hv.headW h.1.1 (g.len 0) rfl
  obtain ⟨r, er⟩ : ∃ r, r = i / g.len 0 := ⟨_, rfl⟩
  obtain ⟨c, ec⟩ : ∃ c, c = i % g.len 0 := ⟨_, rfl⟩
  have t1 : (i : Int) / (g.len 0 : Int) = (r : Int) := by rw [er]; exact (Int.natCast_ediv _ _).symm
  have t2 : (i : Int) % (g.len 0 : Int) = (c : Int) := by rw [ec]; exact (Int.natCast_emod _ _).symm
  rw [← er] at p1 p2 d1 hl
  rw [← ec] at p2 d2
  rw [hl] at p1
  have HF := Lib.hid (show g.z r c = g.flat i by rw [er, ec]; rfl)
  have h49 := mul_le_49 h.1.2 h.2.1.2
  have d1' : (r : Int) < g.n := by omega
  have d2' : (c : Int) < g.len 0 := by omega
  have h2 : (0 : Int) < g.n := by omega
  have h3 : (0 : Int) < g.len 0 := by omega
  have h3' : ¬ (g.len 0 : Int) = 0 := by omega
  have h3'' : ((g.len 0 : Int) == 0) = false := by rw [beq_eq_false_iff_ne]; omega
  have h4 : (i : Int) ≤ 48 := by omega
  have h4' : i ≤ 48 := by omega
  have h6 : g.len 0 ≤ 7 := h.2.1.2
  have h8 : 0 < g.len 0 := h.2.1.1
  have h7 : (g.len 0 : Int) ≤ 7 := by omega
  have h5 : 0 < g.n := by omega
  have h10 : (r : Int) ≤ 7 := by have := h.1.2; omega
  have h11 : (c : Int) ≤ 7 := by omega
  clear h hv er ec hl hi'
  generalize g.len 0 = L at p1 h1 t1 t2 d2 d2' h3 h3' h3'' h6 h7 h8
  go_enter Try.func95, Try.ntmps95
  go_wp2
  go_quiet (fail)
  go_wp2
  go_ret
  exact ⟨ret_int HF.out, _, rfl⟩

set_option maxHeartbeats 2000000 in
set_option maxRecDepth 100000 in
theorem l2Near_any (v : Value) (lo hi : Nat) (g : G) (R C : Nat) (eR : g.n = R) (eC : g.len 0 = C) (i : Ix (R * C)) (w : World) (hv : RdM lo hi w v g) (hh : hi ≤ w.heap.size) (h : g.Valid) :
    Calls Try.prog 94 #[v, .int .i64 i.1] w (NrPost R C i w) := by
  obtain ⟨i0, hi0, hz0, hz1, hz2⟩ := info_parts Try.infoI
  have hn1 : 1 ≤ R := by have := h.1.1; omega
  have hn7 : R ≤ 7 := by have := h.1.2; omega
  have hl1 : 1 ≤ C := by have := h.2.1.1; omega
  have hl7 : C ≤ 7 := by have := h.2.1.2; omega
  obtain ⟨b, off, cap, rfl⟩ : ∃ b off cap, v = .slice (some ⟨b, off, none⟩) R cap := by
    obtain ⟨b, off, cap, e⟩ := hv.shapeW h.1.1
    exact ⟨b, off, cap, by rw [e, eR]⟩
  have hix := i.2
  have h49 := mul_le_49 hn7 hl7
  obtain ⟨a1, c1, h1⟩ := hv.headW h.1.1 C eC
  have hb : b < w.heap.size := by
    obtain ⟨ao, cp', b', off', _, _, e, _, _, h4, _⟩ := hv
    simp only [Value.slice.injEq] at e
    have h5 := h4 h.1.1
    rw [h5.1] at e
    simp only [Option.some.injEq, Addr.mk.injEq] at e
    omega
  clear h hv eR eC
  obtain ⟨ix, ei⟩ : ∃ ix, i.1 = ix := ⟨_, rfl⟩
  obtain ⟨c, ec⟩ : ∃ c, ix % C = c := ⟨_, rfl⟩
  have t2 : (ix : Int) % (C : Int) = (c : Int) := by rw [← ec]; exact (Int.natCast_emod _ _).symm
  obtain ⟨P, eP⟩ : ∃ P, C * (R - 1) = P := ⟨_, rfl⟩
  have t3 : (C : Int) * ((R : Int) - 1) = (P : Int) := by rw [← eP, Int.natCast_mul]; congr 1; omega
  have hP : P + C = R * C := by
    obtain ⟨R', rfl⟩ : ∃ R', R = R' + 1 := ⟨R - 1, by omega⟩
    rw [← eP, Nat.add_sub_cancel, Nat.add_mul, Nat.one_mul, Nat.mul_comm]
  have hP49 : P ≤ 49 := by omega
  have HN := Lib.hid (fun k => nb_cases R C i k)
  have HI := Lib.hid ei
  have HEC := Lib.hid ec
  have HPE := Lib.hid hP
  rw [ei] at hix ⊢
  have hcC : c < C := by rw [← ec]; exact Nat.mod_lt _ hl1
  have hC0 : (0 : Int) < R := by omega
  have hC1 : ¬ (C : Int) = 0 := by omega
  have hC2 : ((C : Int) == 0) = false := by rw [beq_eq_false_iff_ne]; omega
  have hix48 : ix ≤ 48 := by omega
  have hcix : c ≤ ix := by rw [← ec]; exact Nat.mod_le _ _
  clear ei ec eP hP
  go_enter Try.func94, Try.ntmps94
  go_upto_region 1 with (fail)
  go_cut [5] from 7 (fun s5 wx => ∃ v, v = s5 ∧ NrAt R C i w wx v 0)
  case first =>
    go_wp2_with fail
    go_meet
    exact ⟨_, rfl, NrAt.start R C i w⟩
  case rest =>
    obtain ⟨v, rfl, hst0⟩ := hcut
    obtain ⟨wc0, hwc⟩ : ∃ W, W = wc := ⟨_, rfl⟩
    subst hwc
    have c0 : wc0.cell? ⟨b, off, none⟩ = some (.slice a1 C c1) := by
      obtain ⟨_, _, _, hb0⟩ := hst0
      exact (hb0.cell (p := ⟨b, off, none⟩) hb).trans h1
    clear h1
    go_upto_if 14 with (fail)
    go_cut [5] from 12 (fun s5 wx => ∃ v, v = s5 ∧ NrAt R C i w wx v 1)
    case first =>
      have HST := Lib.hid hst0
      obtain ⟨ys, hy1, hy2, hyb⟩ := hst0
      have hlen : ys.length ≤ 4 := by rw [hy2]; unfold ixV; rw [List.length_map]; have := near_len R C i 0; omega
      have HYS := Lib.hid hy2
      have hwx := hyb.size
      clear hy2 hyb
      by_cases hc : C ≤ ix
      · have hq : ((ix - C : Nat) : Int) = (ix : Int) - (C : Int) := by omega
        have HQ := Lib.hid hq
        clear hq
        go_wp2_with (first | (at_builtin; refine wpList_append_own _ rfl _ _ 34 rfl w.heap.size 3 i0 (.int .i64 0) 1 8 Try.underlying34 hi0 hz0 hz1 hz2 rfl (by decide) _ ys.length ys rfl (hy1.alloc _) ⟨wc0.heap.size, 0, none⟩ 1 1 [.int .i64 ((ix : Int) - (C : Int))] rfl rfl (World.news_of_block (cs := #[.int .i64 ((ix : Int) - (C : Int))]) (t := 3) (fr := (0, 0)) (heap_alloc_new wc0 _)) (by simp [Value.oneCell']) (by unfold maxLen; omega) (by omega) (by simp; omega) ?_; intro v' w2 hown2 hg2 _))
        go_meet
        exact ⟨v', rfl, NrAt.push HST.out hy1 ((HN.out 0).1 (by rw [HI.out, HEC.out]; have h5 := HPE.out; simp [nbC]; omega)) (by rw [HQ.out]; exact hown2) (by rw [HI.out]; rfl) HYS.out hg2⟩
      · go_wp2
        go_meet
        exact ⟨_, rfl, NrAt.skip HST.out ((HN.out 0).2 (by rw [HI.out, HEC.out]; have h5 := HPE.out; simp [nbC]; omega))⟩
    case rest =>
      obtain ⟨v, rfl, hst1⟩ := hcut
      obtain ⟨wc1, hwc⟩ : ∃ W, W = wc := ⟨_, rfl⟩
      subst hwc
      go_upto_if 26 with (fail)
      go_cut [5] from 21 (fun s5 wx => ∃ v, v = s5 ∧ NrAt R C i w wx v 2)
      case first =>
        have HST := Lib.hid hst1
        obtain ⟨ys, hy1, hy2, hyb⟩ := hst1
        have hlen : ys.length ≤ 4 := by rw [hy2]; unfold ixV; rw [List.length_map]; have := near_len R C i 1; omega
        have HYS := Lib.hid hy2
        have hwx := hyb.size
        clear hy2 hyb
        by_cases hc : c + 1 < C
        · have hq : ((ix + 1 : Nat) : Int) = (ix : Int) + 1 := by omega
          have HQ := Lib.hid hq
          clear hq
          go_wp2_with (first | (at_builtin; refine wpList_append_own _ rfl _ _ 34 rfl w.heap.size 3 i0 (.int .i64 0) 1 8 Try.underlying34 hi0 hz0 hz1 hz2 rfl (by decide) _ ys.length ys rfl (hy1.alloc _) ⟨wc1.heap.size, 0, none⟩ 1 1 [.int .i64 ((ix : Int) + 1)] rfl rfl (World.news_of_block (cs := #[.int .i64 ((ix : Int) + 1)]) (t := 3) (fr := (0, 0)) (heap_alloc_new wc1 _)) (by simp [Value.oneCell']) (by unfold maxLen; omega) (by omega) (by simp; omega) ?_; intro v' w2 hown2 hg2 _))
          go_meet
          exact ⟨v', rfl, NrAt.push HST.out hy1 ((HN.out 1).1 (by rw [HI.out, HEC.out]; have h5 := HPE.out; simp [nbC]; omega)) (by rw [HQ.out]; exact hown2) (by rw [HI.out]; rfl) HYS.out hg2⟩
        · go_wp2
          go_meet
          exact ⟨_, rfl, NrAt.skip HST.out ((HN.out 1).2 (by rw [HI.out, HEC.out]; have h5 := HPE.out; simp [nbC]; omega))⟩
      case rest =>
        obtain ⟨v, rfl, hst2⟩ := hcut
        obtain ⟨wc2, hwc⟩ : ∃ W, W = wc := ⟨_, rfl⟩
        subst hwc
        go_upto_if 38 with (fail)
        go_cut [5] from 32 (fun s5 wx => ∃ v, v = s5 ∧ NrAt R C i w wx v 3)
        case first =>
          have HST := Lib.hid hst2
          obtain ⟨ys, hy1, hy2, hyb⟩ := hst2
          have hlen : ys.length ≤ 4 := by rw [hy2]; unfold ixV; rw [List.length_map]; have := near_len R C i 2; omega
          have HYS := Lib.hid hy2
          have hwx := hyb.size
          clear hy2 hyb
          by_cases hc : ix < P
          · have hq : ((ix + C : Nat) : Int) = (ix : Int) + (C : Int) := by omega
            have HQ := Lib.hid hq
            clear hq
            go_wp2_with (first | (at_builtin; refine wpList_append_own _ rfl _ _ 34 rfl w.heap.size 3 i0 (.int .i64 0) 1 8 Try.underlying34 hi0 hz0 hz1 hz2 rfl (by decide) _ ys.length ys rfl (hy1.alloc _) ⟨wc2.heap.size, 0, none⟩ 1 1 [.int .i64 ((ix : Int) + (C : Int))] rfl rfl (World.news_of_block (cs := #[.int .i64 ((ix : Int) + (C : Int))]) (t := 3) (fr := (0, 0)) (heap_alloc_new wc2 _)) (by simp [Value.oneCell']) (by unfold maxLen; omega) (by omega) (by simp; omega) ?_; intro v' w2 hown2 hg2 _))
            go_meet
            exact ⟨v', rfl, NrAt.push HST.out hy1 ((HN.out 2).1 (by rw [HI.out, HEC.out]; have h5 := HPE.out; simp [nbC]; omega)) (by rw [HQ.out]; exact hown2) (by rw [HI.out]; rfl) HYS.out hg2⟩
          · go_wp2
            go_meet
            exact ⟨_, rfl, NrAt.skip HST.out ((HN.out 2).2 (by rw [HI.out, HEC.out]; have h5 := HPE.out; simp [nbC]; omega))⟩
        case rest =>
          obtain ⟨v, rfl, hst3⟩ := hcut
          obtain ⟨wc3, hwc⟩ : ∃ W, W = wc := ⟨_, rfl⟩
          subst hwc
          go_upto_if 48 with (fail)
          go_cut [5] from 45 (fun s5 wx => ∃ v, v = s5 ∧ NrAt R C i w wx v 4)
          case first =>
            have HST := Lib.hid hst3
            obtain ⟨ys, hy1, hy2, hyb⟩ := hst3
            have hlen : ys.length ≤ 4 := by rw [hy2]; unfold ixV; rw [List.length_map]; have := near_len R C i 3; omega
            have HYS := Lib.hid hy2
            have hwx := hyb.size
            clear hy2 hyb
            by_cases hc : 0 < c
            · have hq : ((ix - 1 : Nat) : Int) = (ix : Int) - 1 := by omega
              have HQ := Lib.hid hq
              clear hq
              go_wp2_with (first | (at_builtin; refine wpList_append_own _ rfl _ _ 34 rfl w.heap.size 3 i0 (.int .i64 0) 1 8 Try.underlying34 hi0 hz0 hz1 hz2 rfl (by decide) _ ys.length ys rfl (hy1.alloc _) ⟨wc3.heap.size, 0, none⟩ 1 1 [.int .i64 ((ix : Int) - 1)] rfl rfl (World.news_of_block (cs := #[.int .i64 ((ix : Int) - 1)]) (t := 3) (fr := (0, 0)) (heap_alloc_new wc3 _)) (by simp [Value.oneCell']) (by unfold maxLen; omega) (by omega) (by simp; omega) ?_; intro v' w2 hown2 hg2 _))
              go_meet
              exact ⟨v', rfl, NrAt.push HST.out hy1 ((HN.out 3).1 (by rw [HI.out, HEC.out]; have h5 := HPE.out; simp [nbC]; omega)) (by rw [HQ.out]; exact hown2) (by rw [HI.out]; rfl) HYS.out hg2⟩
            · go_wp2
              go_meet
              exact ⟨_, rfl, NrAt.skip HST.out ((HN.out 3).2 (by rw [HI.out, HEC.out]; have h5 := HPE.out; simp [nbC]; omega))⟩
          case rest =>
            obtain ⟨v, rfl, hst4⟩ := hcut
            obtain ⟨ys, hy1, hy2, hyb⟩ := hst4
            obtain ⟨a, c, rfl⟩ := own_shape hy1
            have hl : ys.length = (near R C i 4).length := by rw [hy2]; unfold ixV; rw [List.length_map]
            have hst := NrAt.rdI ⟨ys, hy1, hy2, hyb⟩ h49
            rw [hl] at hst ⊢
            have HST := Lib.hid hst
            have HB := Lib.hid hyb
            clear hy1 hy2 hyb hl hst
            go_wp2
            go_ret
            exact ⟨_, rfl, ⟨_, _, rfl⟩, HST.out, HB.out⟩

set_option maxHeartbeats 2000000 in
set_option maxRecDepth 100000 in
theorem l2Next_any (v : Value) (lo hi : Nat) (g : G) (R C : Nat) (eR : g.n = R) (eC : g.len 0 = C) (i : Ix (R * C)) (w : World) (hv : RdM lo hi w v g) (hh : hi ≤ w.heap.size) (h : g.Valid) :
    Calls Try.prog 76 #[v, .int .i64 i.1] w (BiPost (nxt R C g.flat i).1 w) := by
  have HN := Lib.hid (l2Near_any v lo hi g R C eR eC i w hv hh h)
  have hRC : R * C = g.n * g.len 0 := by rw [eR, eC]
  have HH := Lib.hid (fun (W : World) (hW : RdM lo hi W v g) (z : Ix (R * C)) => l2Height_any v lo hi g z.1 W hW h (by have := z.2; omega))
  have HV := Lib.hid hv
  have h49 := mul_le_49 (R := R) (C := C) (by have := h.1.2; omega) (by have := h.2.1.2; omega)
  obtain ⟨b0, off0, cap0, rfl⟩ := hv.shapeW h.1.1
  clear eR eC hv h hRC
  go_enter Try.func76, Try.ntmps76
  go_wp2_with fail
  refine HN.out.mono ?_
  rintro e w1 ⟨r, rfl, ⟨a, c, rfl⟩, hr, hb⟩
  have HV1 := Lib.hid (HV.out.same (SameIn.below hb hh))
  have HB := Lib.hid hb
  obtain ⟨l, el⟩ : ∃ l, near R C i 4 = l := ⟨_, rfl⟩
  have HX := Lib.hid (show nxt R C g.flat i = flowTo g.flat i l by rw [← el]; rfl)
  have hl4 : l.length ≤ 4 := by rw [← el]; exact near_len R C i 4
  rw [el] at hr ⊢
  clear hb el
  have HRI := Lib.hid hr
  clear hr
  go_wp2
  go_loopw [5, 7] (fun best s wr => ∃ k m : Nat, k ≤ l.length ∧ s = .int .i64 k ∧ best = .int .i64 (flowTo g.flat i (l.take k)).1 ∧ wr = w1.drewN m) (fun _ s _ => l.length - (intOf s).toNat)
  case atStart => exact ⟨0, 0, Nat.zero_le _, rfl, by simp [flowTo], rfl⟩
  case round =>
    obtain ⟨k, m, hk, rfl, rfl, rfl⟩ := hrel
    by_cases hlt : k < l.length
    · have hlt' : (k : Int) < l.length := by omega
      obtain ⟨ao, cp, b, off, e1, i2, i3, i4, i5, i6⟩ := HRI.out
      have q1 := i6 k hlt
      rw [ixZ_at l hlt] at q1
      simp only [Value.slice.injEq] at e1
      obtain ⟨rfl, _, rfl⟩ := e1
      obtain ⟨rfl, _, _⟩ := i5 (by omega)
      have HS := Lib.hid (show flowTo g.flat i (l.take (k + 1)) = if g.flat (l[k]).1 < g.flat (flowTo g.flat i (l.take k)).1 then l[k] else flowTo g.flat i (l.take k) by rw [List.take_succ_eq_append_getElem hlt, flowTo_snoc])
      obtain ⟨z, ez⟩ : ∃ z, l[k] = z := ⟨_, rfl⟩
      obtain ⟨y, ey⟩ : ∃ y, flowTo g.flat i (l.take k) = y := ⟨_, rfl⟩
      rw [ez, ey] at HS
      rw [ez] at q1
      rw [ey]
      clear ez ey i4 i5 i6
      go_wp2_with fail
      refine (HH.out _ (HV1.out.same (w' := w1.drewN m) (fun _ _ _ => rfl)) z).mono ?_
      rintro e w2 ⟨rfl, m2, rfl⟩
      go_wp2_with fail
      refine (HH.out _ (HV1.out.same (w' := w1.drewN (m + m2)) (fun _ _ _ => rfl)) y).mono ?_
      rintro e w3 ⟨rfl, m3, rfl⟩
      by_cases hz : g.flat z.1 < g.flat y.1
      · have hd : decide (g.flat z.1 < g.flat y.1) = true := by simp [hz]
        go_wp2
        go_roundw
        case rel => exact ⟨k + 1, m + m2 + m3, by omega, by go_num, by rw [HS.out, if_pos hz], rfl⟩
        case measure => simp [intOf]; omega
      · have hd : decide (g.flat z.1 < g.flat y.1) = false := by simp; omega
        go_wp2
        go_roundw
        case rel => exact ⟨k + 1, m + m2 + m3, by omega, by go_num, by rw [HS.out, if_neg (by omega)], rfl⟩
        case measure => simp [intOf]; omega
    · have ek : k = l.length := by omega
      subst ek
      rw [List.take_length, ← HX.out]
      go_wp2
      go_ret
      exact ⟨rfl, below_drewN HB.out m⟩

end Go.Proofs.Ytjllmidagcniaaa
