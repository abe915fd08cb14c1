/- The cell to which water flows, in the program, by contract. -/
import Derived.Test.YtcfeckpbjdipeaaWNb
import Derived.Test.YtcfeckpbjdipeaaM3
import Derived.Test.YtcfeckpbjdipeaaM2
import Derived.Lib.MinMax
namespace Go.Proofs.Ytcfeckpbjdipeaa
open Go.RowKit Go.Shelf
set_option linter.unusedVariables false
attribute [local go_sem] Oper.semAt_some

def NbPostW (R C gg cnt cap i : Nat) (w : World) (e : Ending) (w' : World) : Prop :=
  e = .returned (.func (.func 129) #[] #[.pointer (some ⟨w.heap.size + 1, 0, none⟩), .pointer (some ⟨w.heap.size, 0, none⟩)]) ∧
    w' = (w.alloc (.cells #[.int .i64 R, .int .i64 C, .slice (some ⟨gg, 0, none⟩) cnt cap] 50)).alloc (.cells #[.int .i64 i] 3)

set_option maxHeartbeats 1000000 in
set_option maxRecDepth 20000 in
theorem nb_any (R C gg cnt cap i : Nat) (w : World) :
    Calls Try.prog 117 #[.agg #[.int .i64 R, .int .i64 C, .slice (some ⟨gg, 0, none⟩) cnt cap], .int .i64 i] w (NbPostW R C gg cnt cap i w) := by
  go_enter Try.func117, Try.ntmps117
  go_wp2
  go_ret
  exact ⟨rfl, rfl⟩

theorem three_cells {w : World} {B : Nat} {x y z : Value} {t : TypeId} (h : w.heap[B]? = some (.cells #[x, y, z] t (0, 0))) : w.cell? ⟨B, 0, none⟩ = some x ∧ w.cell? ⟨B, 1, none⟩ = some y ∧ w.cell? ⟨B, 2, none⟩ = some z := ⟨by simp [World.cell?, h], by simp [World.cell?, h], by simp [World.cell?, h]⟩
theorem one_cell {w : World} {B : Nat} {x : Value} {t : TypeId} (h : w.heap[B]? = some (.cells #[x] t (0, 0))) : w.cell? ⟨B, 0, none⟩ = some x := by simp [World.cell?, h]

theorem body_set {W : World} {b : Nat} {v : Value} (nq : Nat) : KeepsOthers W ((W.setCell ⟨b, 0, none⟩ v).drewN nq) := (KeepsOthers.setCell W _ _).trans ⟨Nat.le_refl _, fun _ _ h _ => h⟩

theorem four_allocs (w : World) (o1 o2 o3 o4 : Obj) : let W := (((w.alloc o1).alloc o2).alloc o3).alloc o4
    W.heap[w.heap.size]? = some o1 ∧ W.heap[w.heap.size + 1]? = some o2 ∧ W.heap[w.heap.size + 1 + 1]? = some o3 ∧ W.heap[w.heap.size + 1 + 1 + 1]? = some o4 ∧ W.heap.size = w.heap.size + 4 ∧ Below w.heap.size w W := by
  intro W
  have e1 : (w.alloc o1).heap.size = w.heap.size + 1 := by simp
  have e2 : ((w.alloc o1).alloc o2).heap.size = w.heap.size + 1 + 1 := by simp
  have e3 : (((w.alloc o1).alloc o2).alloc o3).heap.size = w.heap.size + 1 + 1 + 1 := by simp
  have b2 := fun k hk => Below.heap_alloc (w.alloc o1) o2 k hk
  have b3 := fun k hk => Below.heap_alloc ((w.alloc o1).alloc o2) o3 k hk
  have b4 := fun k hk => Below.heap_alloc (((w.alloc o1).alloc o2).alloc o3) o4 k hk
  refine ⟨?_, ?_, ?_, ?_, by simp [W], (((Below.refl _ _).alloc (Nat.le_refl _) _).alloc (by simp) _).alloc (by simp; omega) _ |>.alloc (by simp; omega) _⟩
  · exact ((b4 _ (by omega)).trans ((b3 _ (by omega)).trans (b2 _ (by omega)))).trans (heap_alloc_new w o1)
  · have := heap_alloc_new (w.alloc o1) o2
    rw [e1] at this
    exact ((b4 _ (by omega)).trans (b3 _ (by omega))).trans this
  · have := heap_alloc_new ((w.alloc o1).alloc o2) o3
    rw [e2] at this
    exact (b4 _ (by omega)).trans this
  · have := heap_alloc_new (((w.alloc o1).alloc o2).alloc o3) o4
    rw [e3] at this
    exact this

/-- the iterator over the neighbors, as a loop takes it -/
theorem nb_stops (n : Nat) (hn : 1 ≤ n) (Bi Bm R C gg cap cnt : Nat) (hR : R ≤ 7) (hC : C ≤ 7) (i : Ix (R * C)) (w : World) (hBi : Bi < w.heap.size) (hBm : Bm < w.heap.size) (hi : w.cell? ⟨Bi, 0, none⟩ = some (.int .i64 i.1))
    (hm : w.cell? ⟨Bm, 0, none⟩ = some (.int .i64 R) ∧ w.cell? ⟨Bm, 1, none⟩ = some (.int .i64 C) ∧ w.cell? ⟨Bm, 2, none⟩ = some (.slice (some ⟨gg, 0, none⟩) cnt cap)) :
    SeqStopsK Fence.wide n Try.prog 129 #[.pointer (some ⟨Bi, 0, none⟩), .pointer (some ⟨Bm, 0, none⟩)] (fun x : Ix (R * C) => #[Value.int .i64 x.1]) (Kb Bm) (fun ys => ys = near R C i 4) (fun pre => pre <+: near R C i 4) 4 w := fun l J Jx W hW hJ _ hY h0 =>
  nb1_in n hn l Bi Bm R C gg cap cnt hR hC i J Jx W hJ hY (Nat.lt_of_lt_of_le hBm hW.size) ((hW.cell (p := ⟨Bi, 0, none⟩) hBi).trans hi)
    ((hW.cell (p := ⟨Bm, 0, none⟩) hBm).trans hm.1) ((hW.cell (p := ⟨Bm, 1, none⟩) hBm).trans hm.2.1) ((hW.cell (p := ⟨Bm, 2, none⟩) hBm).trans hm.2.2) h0

set_option maxRecDepth 100000 in
set_option maxHeartbeats 4000000 in
theorem next_any (R C gg cap cnt : Nat) (hR : R ≤ 7) (hC : C ≤ 7) (Z : Nat → Int) (i : Ix (R * C)) (w : World) (h : Rv w R C cnt gg cap Z) :
    Calls Try.prog 131 #[.agg #[.int .i64 R, .int .i64 C, .slice (some ⟨gg, 0, none⟩) cnt cap], .int .i64 i.1] w (IntPost (nxt R C Z i).1 w) := by
  have H := Lib.hid h
  clear h
  refine (callsIn_wide (n := 5)).1 ?_
  refine callsIn_of_wp_marks Try.func131 rfl trivial ?_ rfl
  simp only [Try.ntmps131, List.size_toArray, List.length_cons, List.length_nil, Nat.reduceAdd, Nat.reduceSub, Array.replicate_succ, Array.replicate_zero, List.push_toArray, List.append_toArray, List.nil_append, List.cons_append]
  gi_wp2_with (refine ⟨trivial, ?_⟩; gi_at_call 117; refine (callsIn_wide.2 (nb_any R C gg cnt cap i.1 _)).mono ?_; rintro e w' ⟨rfl, rfl⟩)
  obtain ⟨k1, k2, k3, k4, ksz, kb⟩ := four_allocs w (.cells #[.int .i64 R, .int .i64 C, .slice (some ⟨gg, 0, none⟩) cnt cap] 50) (.cells #[.int .i64 i.1] 3) (.cells #[.int .i64 R, .int .i64 C, .slice (some ⟨gg, 0, none⟩) cnt cap] 50) (.cells #[.int .i64 i.1] 3)
  generalize hW0 : (((w.alloc (.cells #[.int .i64 R, .int .i64 C, .slice (some ⟨gg, 0, none⟩) cnt cap] 50)).alloc (.cells #[.int .i64 i.1] 3)).alloc (.cells #[.int .i64 R, .int .i64 C, .slice (some ⟨gg, 0, none⟩) cnt cap] 50)).alloc (.cells #[.int .i64 i.1] 3) = W0 at k1 k2 k3 k4 ksz kb ⊢
  clear hW0
  have hle : cnt ≤ cap := H.out.le
  have HCN := Lib.hid H.out.n_eq
  have hgl : gg < w.heap.size := H.out.lt
  have hcl := H.out.cell
  have hMC := three_cells k3
  have hBX : Boxed W0 (w.heap.size + 1) 3 (.int .i64 i.1) := k2
  refine wpIn_rangeFunc_ownF rfl (by omega) (gf := 129) (lb := #[.pointer (some ⟨w.heap.size + 1 + 1 + 1, 0, none⟩), .pointer (some ⟨w.heap.size + 1 + 1, 0, none⟩)]) rfl trivial (enters_of Try.func129 (by kernel_rfl) rfl)
    (nb_stops 4 (by omega) (w.heap.size + 1 + 1 + 1) (w.heap.size + 1 + 1) R C gg cap cnt hR hC i W0 (by omega) (by omega) (one_cell k4) hMC) Kb.trans (kb_b (by omega)) (Below.refl _ _) (fun _ => rfl)
    (fun pre W => (Boxed W (w.heap.size + 1) 3 (.int .i64 (flowTo Z i pre).1) ∧ W.heap[w.heap.size]? = some (.cells #[.int .i64 R, .int .i64 C, .slice (some ⟨gg, 0, none⟩) cnt cap] 50 (0, 0))) ∧ Below w.heap.size w W)
    (fun _ _ _ => False)
    ?own (fun _ _ _ _ _ hs _ _ => hs) ?start
    (fun x => { tmps := #[.agg #[.int .i64 R, .int .i64 C, .slice (some ⟨gg, 0, none⟩) cnt cap], .int .i64 i.1, .pointer (some ⟨w.heap.size, 0, none⟩), undef, .int .i64 0, .pointer (some ⟨w.heap.size + 1, 0, none⟩), .int .i64 x.1, .int .i64 i.1, .agg #[.int .i64 R, .int .i64 C, .slice (some ⟨gg, 0, none⟩) cnt cap], .int .i64 i.1, .func (.func 129) #[] #[.pointer (some ⟨w.heap.size + 1 + 1 + 1, 0, none⟩), .pointer (some ⟨w.heap.size + 1 + 1, 0, none⟩)], .int .i64 x.1, undef, undef, undef, undef, undef, undef, undef, undef, undef, undef, undef, undef, undef], defers := [] }) ?assign ?body ?done ?stop
  case own =>
    exact OwnFrom.and (OwnFrom.and (Own.from (boxed_own _ _ _) _) (fun s A B row hs hg hr => (hg.block w.heap.size (by
      rcases Nat.lt_or_ge w.heap.size A.heap.size with h | h
      · exact h
      · rw [Array.getElem?_eq_none h] at hs; cases hs) (fun e => by have := (hr _ e.symm).1; omega)).trans hs)) (ownFrom_below (Nat.le_refl _) (by omega))
  case start => exact ⟨⟨hBX, k1⟩, kb⟩
  case assign =>
    intro l x W K hK
    gi_wp2
    exact hK
  case body =>
    rintro l pre x W ⟨⟨hbx, hm⟩, hB⟩ _
    have c1 := hbx.cell
    have f1 := hbx.frozen
    have c2 := (three_cells hm).2.2
    have hx := x.2
    obtain ⟨y, ey⟩ : ∃ y, flowTo Z i pre = y := ⟨_, rfl⟩
    have hy := y.2
    have q1 := (hB.cell (p := ⟨gg, x.1, none⟩) hgl).trans (hcl x.1 (by rw [HCN.out]; exact x.2))
    have q2 := (hB.cell (p := ⟨gg, y.1, none⟩) hgl).trans (hcl y.1 (by rw [HCN.out]; exact y.2))
    have HS := Lib.hid (flowTo_snoc Z i pre x)
    rw [ey] at c1 hbx HS
    obtain ⟨xi, hxi⟩ : ∃ xi, xi = x.1 := ⟨_, rfl⟩
    obtain ⟨yi, hyi⟩ : ∃ yi, yi = y.1 := ⟨_, rfl⟩
    rw [← hxi] at q1 hx
    rw [← hyi] at q2 hy c1
    have hx' : (xi : Int) < cnt := by have := HCN.out; omega
    have hy' : (yi : Int) < cnt := by have := HCN.out; omega
    have hx'' : xi < cnt := by omega
    have hy'' : yi < cnt := by omega
    have h49 := mul_le_49 hR hC
    have hx48 : (xi : Int) ≤ 48 := by omega
    have hy48 : (yi : Int) ≤ 48 := by omega
    have HXI := Lib.hid hxi
    have HYI := Lib.hid hyi
    have HBX := Lib.hid hbx
    have HM := Lib.hid hm
    have HB := Lib.hid hB
    rw [← hxi]
    clear ey hxi hyi hbx hm hB hcl k1 k2 k3 k4 hMC hBX
    by_cases hlt : Z xi < Z yi
    · have hd : decide (Z xi < Z yi) = true := by simp [hlt]
      gi_wp2
      refine quiet_round l rfl (by kernel_rfl) (by kernel_rfl) (by kernel_rfl) ?_
      repeat (gi_big_quiet_step (fail))
      refine wpQuietIn_nil ?_
      rintro _ ⟨nq, rfl⟩
      gi_wp2
      refine ⟨body_set nq, ⟨by simp [World.setCell], Below.heap_setCell _ _ _ _ (by simp)⟩, ⟨?_, ?_⟩, below_drewN (HB.out.setCell (p := ⟨w.heap.size + 1, 0, none⟩) (Nat.le_succ _) _) nq⟩
      · rw [HS.out, if_pos (by rw [← HXI.out, ← HYI.out]; exact hlt), ← HXI.out]
        exact HBX.out.set _
      · exact (Below.heap_setCell _ _ _ _ (by simp)).trans HM.out
    · have hd : decide (Z xi < Z yi) = false := by simp; omega
      gi_wp2
      refine quiet_round l rfl (by kernel_rfl) (by kernel_rfl) (by kernel_rfl) ?_
      repeat (gi_big_quiet_step (fail))
      refine wpQuietIn_nil ?_
      rintro _ ⟨nq, rfl⟩
      gi_wp2
      refine ⟨⟨Nat.le_refl _, fun _ _ h _ => h⟩, ⟨Nat.le_refl _, rfl⟩, ⟨?_, HM.out⟩, below_drewN HB.out nq⟩
      rw [HS.out, if_neg (by rw [← HXI.out, ← HYI.out]; omega)]
      exact HBX.out
  case done =>
    rintro D ys W hD rfl ⟨⟨hbx, hm⟩, hB⟩ hK
    have cS := hbx.cell
    gi_wp2
    refine ⟨by simp, .inl ⟨_, _, rfl, run_takeDeferred hK, ?_⟩⟩
    exact ⟨_, results_tmp rfl _ _ _, rfl, hB.trans (belowK_b (w := w) (Nat.le_refl _) W D _ _ (by omega) hK rfl rfl)⟩
  case stop =>
    rintro D c pre W _ _ h _
    exact h.elim

end Go.Proofs.Ytcfeckpbjdipeaa

/- The model's heights and neighbors, by index. -/
namespace Go.Proofs.Ytcfeckpbjdipeaa
open Go.RowKit
set_option linter.unusedVariables false

def HgPost (z : Int) (w : World) (e : Ending) (w' : World) : Prop := e = .returned (.int .i64 z) ∧ ∃ n, w' = w.drewN n

theorem div_lt' {i n m : Nat} (hm : 0 < m) (h : i < n * m) : i / m < n ∧ i % m < m := ⟨(Nat.div_lt_iff_lt_mul hm).2 h, Nat.mod_lt _ hm⟩
theorem RdM.shapeW {lo hi : Nat} {w : World} {v : Value} {g : G} (h : RdM lo hi w v g) (h0 : 0 < g.n) : ∃ b off cap, v = .slice (some ⟨b, off, none⟩) g.n cap := by
  obtain ⟨ao, cap, b, off, Ao, Cp, rfl, _, _, h4, _⟩ := h
  exact ⟨b, off, cap, by rw [(h4 h0).1]⟩
theorem RdM.headW {lo hi : Nat} {w : World} {b off n cap : Nat} {g : G} (h : RdM lo hi w (.slice (some ⟨b, off, none⟩) n cap) g) (h0 : 0 < g.n) (k : Nat) (hk : g.len 0 = k) : ∃ ao c0, w.cell? ⟨b, off, none⟩ = some (.slice ao k c0) := by
  subst hk
  obtain ⟨ao, cap', b', off', Ao, Cp, e, _, _, h4, h5, _⟩ := h
  simp only [Value.slice.injEq] at e
  obtain ⟨e1, _, _⟩ := e
  rw [(h4 h0).1] at e1
  simp only [Option.some.injEq, Addr.mk.injEq] at e1
  obtain ⟨rfl, rfl, _⟩ := e1
  exact ⟨_, _, by simpa using h5 0 h0⟩

def BiPost (m : Nat) (w : World) (e : Ending) (w' : World) : Prop := e = .returned (.int .i64 m) ∧ Below w.heap.size w w'

/-- when the k-th neighbor is there, and which it is -/
def nbC (R C i c k : Nat) : Prop := if k = 0 then C ≤ i else if k = 1 then c + 1 < C else if k = 2 then i + C < R * C else 0 < c
def nbV (C i k : Nat) : Nat := if k = 0 then i - C else if k = 1 then i + 1 else if k = 2 then i + C else i - 1
theorem nb_cases (R C : Nat) (i : Ix (R * C)) (k : Nat) : (nbC R C i.1 (i.1 % C) k → ∃ z, nb R C i k = some z ∧ z.1 = nbV C i.1 k) ∧ (¬ nbC R C i.1 (i.1 % C) k → nb R C i k = none) := by
  unfold nbC nbV nb
  constructor
  · intro h
    split
    · rename_i e; simp only [e, if_true] at h; exact ⟨⟨i.1 - C, by have := i.2; omega⟩, by simp [h], rfl⟩
    · rename_i e
      simp only [e, if_false] at h
      split
      · rename_i e1; simp only [e1, if_true] at h; exact ⟨⟨i.1 + 1, east_lt i.2 h⟩, by simp [h], rfl⟩
      · rename_i e1
        simp only [e1, if_false] at h
        split
        · rename_i e2; simp only [e2, if_true] at h; exact ⟨⟨i.1 + C, h⟩, by simp [h], rfl⟩
        · rename_i e2; simp only [e2, if_false] at h; exact ⟨⟨i.1 - 1, by have := i.2; omega⟩, by simp [h], rfl⟩
  · intro h
    split
    · rename_i e; simp only [e, if_true] at h; simp [h]
    · rename_i e
      simp only [e, if_false] at h
      split
      · rename_i e1; simp only [e1, if_true] at h; simp [h]
      · rename_i e1
        simp only [e1, if_false] at h
        split
        · rename_i e2; simp only [e2, if_true] at h; simp [h]
        · rename_i e2; simp only [e2, if_false] at h; simp [h]

/-- a list of indexes as values -/
def ixV {M : Nat} (l : List (Ix M)) : List Value := l.map fun x => .int .i64 x.1
/-- the first k neighbors are listed -/
def NrAt (R C : Nat) (i : Ix (R * C)) (w wr : World) (v : Value) (k : Nat) : Prop :=
  ∃ ys, wr.ownsRow w.heap.size 3 1 v ys.length ys ∧ ys = ixV (near R C i k) ∧ Below w.heap.size w wr

theorem NrAt.start (R C : Nat) (i : Ix (R * C)) (w : World) : NrAt R C i w (w.alloc (.cells #[] 3)) (.slice (some ⟨w.heap.size, 0, none⟩) 0 0) 0 := by
  obtain ⟨ys, h1, h2⟩ := Rw.start w (fun _ => 0)
  have h3 := h1.1
  have : ys = [] := List.length_eq_zero_iff.1 (by simpa using h3)
  subst this
  exact ⟨[], h1, by simp [ixV, near], (Below.refl _ _).alloc (Nat.le_refl _) _⟩

theorem NrAt.push {R C : Nat} {i : Ix (R * C)} {w wr w2 : World} {v v' : Value} {k : Nat} {ys : List Value} {o : Obj} (h : NrAt R C i w wr v k) (hy : wr.ownsRow w.heap.size 3 1 v ys.length ys) (z : ∃ z, nb R C i k = some z ∧ z.1 = nbV C i.1 k) {m : Nat}
    (hown : w2.ownsRow w.heap.size 3 1 v' (ys.length + 1) (ys ++ [.int .i64 m])) (hm : m = nbV C i.1 k) (hys : ys = ixV (near R C i k)) (hg : (wr.alloc o).grownBy w2 v.ownBlock) : NrAt R C i w w2 v' (k + 1) := by
  obtain ⟨z, hz, e⟩ := z
  obtain ⟨_, _, _, hb⟩ := h
  refine ⟨ys ++ [.int .i64 m], by simpa using hown, ?_, (hb.alloc hb.size o).grown hg (by have := hb.size; simp; omega) (fun k hk => (hy.lt k hk).1)⟩
  rw [near_some hz, hys, hm, ← e]; simp [ixV]

theorem NrAt.skip {R C : Nat} {i : Ix (R * C)} {w wr : World} {v : Value} {k : Nat} (h : NrAt R C i w wr v k) (hn : nb R C i k = none) : NrAt R C i w wr v (k + 1) := by
  obtain ⟨ys, h1, h2, h3⟩ := h
  exact ⟨ys, h1, by rw [near_none hn]; exact h2, h3⟩

/-- the j-th of a list of indexes, as a number -/
def ixZ {M : Nat} (l : List (Ix M)) (j : Nat) : Int := ((l[j]?).map fun x => (x.1 : Int)).getD 0
theorem ixZ_at {M : Nat} (l : List (Ix M)) {j : Nat} (h : j < l.length) : ixZ l j = (l[j].1 : Int) := by simp [ixZ, h]

theorem NrAt.rdI {R C : Nat} {i : Ix (R * C)} {w wr : World} {v : Value} (h : NrAt R C i w wr v 4) (h49 : R * C ≤ 49) : RdI w.heap.size wr.heap.size wr v (near R C i 4).length (ixZ (near R C i 4)) := by
  obtain ⟨ys, h1, h2, h3⟩ := h
  have hl : ys.length = (near R C i 4).length := by rw [h2]; simp [ixV]
  rw [hl] at h1
  refine Rw.rdI ⟨ys, h1, fun j hj => ?_⟩ (fun j hj => ?_)
  · rw [h2, ixZ_at _ hj]; simp [ixV, hj]
  · rw [ixZ_at _ hj]; have := (near R C i 4)[j].2; omega

/-- what the list of neighbors leaves -/
def NrPost (R C : Nat) (i : Ix (R * C)) (w : World) (e : Ending) (w' : World) : Prop :=
  ∃ v, e = .returned v ∧ (∃ a c, v = .slice a (near R C i 4).length c) ∧ RdI w.heap.size w'.heap.size w' v (near R C i 4).length (ixZ (near R C i 4)) ∧ Below w.heap.size w w'

set_option maxHeartbeats 1000000 in
set_option maxRecDepth 20000 in
theorem l2Height_any (v : Value) (lo hi : Nat) (g : G) (i : Nat) (w : World) (hv : RdM lo hi w v g) (h : g.Valid) (hi' : i < g.n * g.len 0) :
    Calls Try.prog 71 #[v, .int .i64 i] w (HgPost (g.flat i) w) := by
  obtain ⟨d1, d2⟩ := div_lt' h.2.1.1 hi'
  have hl := (h.2.2 _ d1).1
  obtain ⟨b, off, cap, b1, off1, cp, rfl, p1, p2, _, _⟩ := hv.cellAt d1 (show i % g.len 0 < g.len (i / g.len 0) by omega)
  obtain ⟨a1, c1, h1⟩ := hv.headW h.1.1 (g.len 0) rfl
  obtain ⟨r, er⟩ : ∃ r, r = i / g.len 0 := ⟨_, rfl⟩
  obtain ⟨c, ec⟩ : ∃ c, c = i % g.len 0 := ⟨_, rfl⟩
  have t1 : (i : Int) / (g.len 0 : Int) = (r : Int) := by rw [er]; exact (Int.natCast_ediv _ _).symm
  have t2 : (i : Int) % (g.len 0 : Int) = (c : Int) := by rw [ec]; exact (Int.natCast_emod _ _).symm
  rw [← er] at p1 p2 d1 hl
  rw [← ec] at p2 d2
  rw [hl] at p1
  have HF := Lib.hid (show g.z r c = g.flat i by rw [er, ec]; rfl)
  have h49 := mul_le_49 h.1.2 h.2.1.2
  have d1' : (r : Int) < g.n := by omega
  have d2' : (c : Int) < g.len 0 := by omega
  have h2 : (0 : Int) < g.n := by omega
  have h3 : (0 : Int) < g.len 0 := by omega
  have h3' : ¬ (g.len 0 : Int) = 0 := by omega
  have h3'' : ((g.len 0 : Int) == 0) = false := by rw [beq_eq_false_iff_ne]; omega
  have h4 : (i : Int) ≤ 48 := by omega
  have h4' : i ≤ 48 := by omega
  have h6 : g.len 0 ≤ 7 := h.2.1.2
  have h8 : 0 < g.len 0 := h.2.1.1
  have h7 : (g.len 0 : Int) ≤ 7 := by omega
  have h5 : 0 < g.n := by omega
  have h10 : (r : Int) ≤ 7 := by have := h.1.2; omega
  have h11 : (c : Int) ≤ 7 := by omega
  clear h hv er ec hl hi'
  generalize g.len 0 = L at p1 h1 t1 t2 d2 d2' h3 h3' h3'' h6 h7 h8
  go_enter Try.func71, Try.ntmps71
  go_wp2
  go_quiet (fail)
  go_wp2
  go_ret
  exact ⟨ret_int HF.out, _, rfl⟩

set_option maxHeartbeats 2000000 in
set_option maxRecDepth 100000 in
theorem l2Near_any (v : Value) (lo hi : Nat) (g : G) (R C : Nat) (eR : g.n = R) (eC : g.len 0 = C) (i : Ix (R * C)) (w : World) (hv : RdM lo hi w v g) (hh : hi ≤ w.heap.size) (h : g.Valid) :
    Calls Try.prog 94 #[v, .int .i64 i.1] w (NrPost R C i w) := by
  obtain ⟨i0, hi0, hz0, hz1, hz2⟩ := info_parts Try.infoI
  have hn1 : 1 ≤ R := by have := h.1.1; omega
  have hn7 : R ≤ 7 := by have := h.1.2; omega
  have hl1 : 1 ≤ C := by have := h.2.1.1; omega
  have hl7 : C ≤ 7 := by have := h.2.1.2; omega
  obtain ⟨b, off, cap, rfl⟩ : ∃ b off cap, v = .slice (some ⟨b, off, none⟩) R cap := by
    obtain ⟨b, off, cap, e⟩ := hv.shapeW h.1.1
    exact ⟨b, off, cap, by rw [e, eR]⟩
  have hix := i.2
  have h49 := mul_le_49 hn7 hl7
  obtain ⟨a1, c1, h1⟩ := hv.headW h.1.1 C eC
  have hb : b < w.heap.size := by
    obtain ⟨ao, cp', b', off', _, _, e, _, _, h4, _⟩ := hv
    simp only [Value.slice.injEq] at e
    have h5 := h4 h.1.1
    rw [h5.1] at e
    simp only [Option.some.injEq, Addr.mk.injEq] at e
    omega
  clear h hv eR eC
  obtain ⟨ix, ei⟩ : ∃ ix, i.1 = ix := ⟨_, rfl⟩
  obtain ⟨c, ec⟩ : ∃ c, ix % C = c := ⟨_, rfl⟩
  have t2 : (ix : Int) % (C : Int) = (c : Int) := by rw [← ec]; exact (Int.natCast_emod _ _).symm
  obtain ⟨P, eP⟩ : ∃ P, C * (R - 1) = P := ⟨_, rfl⟩
  have t3 : (C : Int) * ((R : Int) - 1) = (P : Int) := by rw [← eP, Int.natCast_mul]; congr 1; omega
  have hP : P + C = R * C := by
    obtain ⟨R', rfl⟩ : ∃ R', R = R' + 1 := ⟨R - 1, by omega⟩
    rw [← eP, Nat.add_sub_cancel, Nat.add_mul, Nat.one_mul, Nat.mul_comm]
  have hP49 : P ≤ 49 := by omega
  have HN := Lib.hid (fun k => nb_cases R C i k)
  have HI := Lib.hid ei
  have HEC := Lib.hid ec
  have HPE := Lib.hid hP
  rw [ei] at hix ⊢
  have hcC : c < C := by rw [← ec]; exact Nat.mod_lt _ hl1
  have hC0 : (0 : Int) < R := by omega
  have hC1 : ¬ (C : Int) = 0 := by omega
  have hC2 : ((C : Int) == 0) = false := by rw [beq_eq_false_iff_ne]; omega
  have hix48 : ix ≤ 48 := by omega
  have hcix : c ≤ ix := by rw [← ec]; exact Nat.mod_le _ _
  clear ei ec eP hP
  go_enter Try.func94, Try.ntmps94
  go_upto_region 1 with (fail)
  go_cut [5] from 7 (fun s5 wx => ∃ v, v = s5 ∧ NrAt R C i w wx v 0)
  case first =>
    go_wp2_with fail
    go_meet
    exact ⟨_, rfl, NrAt.start R C i w⟩
  case rest =>
    obtain ⟨v, rfl, hst0⟩ := hcut
    obtain ⟨wc0, hwc⟩ : ∃ W, W = wc := ⟨_, rfl⟩
    subst hwc
    have c0 : wc0.cell? ⟨b, off, none⟩ = some (.slice a1 C c1) := by
      obtain ⟨_, _, _, hb0⟩ := hst0
      exact (hb0.cell (p := ⟨b, off, none⟩) hb).trans h1
    clear h1
    go_upto_if 14 with (fail)
    go_cut [5] from 12 (fun s5 wx => ∃ v, v = s5 ∧ NrAt R C i w wx v 1)
    case first =>
      have HST := Lib.hid hst0
      obtain ⟨ys, hy1, hy2, hyb⟩ := hst0
      have hlen : ys.length ≤ 4 := by rw [hy2]; unfold ixV; rw [List.length_map]; have := near_len R C i 0; omega
      have HYS := Lib.hid hy2
      have hwx := hyb.size
      clear hy2 hyb
      by_cases hc : C ≤ ix
      · have hq : ((ix - C : Nat) : Int) = (ix : Int) - (C : Int) := by omega
        have HQ := Lib.hid hq
        clear hq
        go_wp2_with (first | (at_builtin; refine wpList_append_own _ rfl _ _ 27 rfl w.heap.size 3 i0 (.int .i64 0) 1 8 Try.underlying27 hi0 hz0 hz1 hz2 rfl (by decide) _ ys.length ys rfl (hy1.alloc _) ⟨wc0.heap.size, 0, none⟩ 1 1 [.int .i64 ((ix : Int) - (C : Int))] rfl rfl (World.news_of_block (cs := #[.int .i64 ((ix : Int) - (C : Int))]) (t := 3) (fr := (0, 0)) (heap_alloc_new wc0 _)) (by simp [Value.oneCell']) (by unfold maxLen; omega) (by omega) (by simp; omega) ?_; intro v' w2 hown2 hg2 _))
        go_meet
        exact ⟨v', rfl, NrAt.push HST.out hy1 ((HN.out 0).1 (by rw [HI.out, HEC.out]; have h5 := HPE.out; simp [nbC]; omega)) (by rw [HQ.out]; exact hown2) (by rw [HI.out]; rfl) HYS.out hg2⟩
      · go_wp2
        go_meet
        exact ⟨_, rfl, NrAt.skip HST.out ((HN.out 0).2 (by rw [HI.out, HEC.out]; have h5 := HPE.out; simp [nbC]; omega))⟩
    case rest =>
      obtain ⟨v, rfl, hst1⟩ := hcut
      obtain ⟨wc1, hwc⟩ : ∃ W, W = wc := ⟨_, rfl⟩
      subst hwc
      go_upto_if 26 with (fail)
      go_cut [5] from 21 (fun s5 wx => ∃ v, v = s5 ∧ NrAt R C i w wx v 2)
      case first =>
        have HST := Lib.hid hst1
        obtain ⟨ys, hy1, hy2, hyb⟩ := hst1
        have hlen : ys.length ≤ 4 := by rw [hy2]; unfold ixV; rw [List.length_map]; have := near_len R C i 1; omega
        have HYS := Lib.hid hy2
        have hwx := hyb.size
        clear hy2 hyb
        by_cases hc : c + 1 < C
        · have hq : ((ix + 1 : Nat) : Int) = (ix : Int) + 1 := by omega
          have HQ := Lib.hid hq
          clear hq
          go_wp2_with (first | (at_builtin; refine wpList_append_own _ rfl _ _ 27 rfl w.heap.size 3 i0 (.int .i64 0) 1 8 Try.underlying27 hi0 hz0 hz1 hz2 rfl (by decide) _ ys.length ys rfl (hy1.alloc _) ⟨wc1.heap.size, 0, none⟩ 1 1 [.int .i64 ((ix : Int) + 1)] rfl rfl (World.news_of_block (cs := #[.int .i64 ((ix : Int) + 1)]) (t := 3) (fr := (0, 0)) (heap_alloc_new wc1 _)) (by simp [Value.oneCell']) (by unfold maxLen; omega) (by omega) (by simp; omega) ?_; intro v' w2 hown2 hg2 _))
          go_meet
          exact ⟨v', rfl, NrAt.push HST.out hy1 ((HN.out 1).1 (by rw [HI.out, HEC.out]; have h5 := HPE.out; simp [nbC]; omega)) (by rw [HQ.out]; exact hown2) (by rw [HI.out]; rfl) HYS.out hg2⟩
        · go_wp2
          go_meet
          exact ⟨_, rfl, NrAt.skip HST.out ((HN.out 1).2 (by rw [HI.out, HEC.out]; have h5 := HPE.out; simp [nbC]; omega))⟩
      case rest =>
        obtain ⟨v, rfl, hst2⟩ := hcut
        obtain ⟨wc2, hwc⟩ : ∃ W, W = wc := ⟨_, rfl⟩
        subst hwc
        go_upto_if 38 with (fail)
        go_cut [5] from 32 (fun s5 wx => ∃ v, v = s5 ∧ NrAt R C i w wx v 3)
        case first =>
          have HST := Lib.hid hst2
          obtain ⟨ys, hy1, hy2, hyb⟩ := hst2
          have hlen : ys.length ≤ 4 := by rw [hy2]; unfold ixV; rw [List.length_map]; have := near_len R C i 2; omega
          have HYS := Lib.hid hy2
          have hwx := hyb.size
          clear hy2 hyb
          by_cases hc : ix < P
          · have hq : ((ix + C : Nat) : Int) = (ix : Int) + (C : Int) := by omega
            have HQ := Lib.hid hq
            clear hq
            go_wp2_with (first | (at_builtin; refine wpList_append_own _ rfl _ _ 27 rfl w.heap.size 3 i0 (.int .i64 0) 1 8 Try.underlying27 hi0 hz0 hz1 hz2 rfl (by decide) _ ys.length ys rfl (hy1.alloc _) ⟨wc2.heap.size, 0, none⟩ 1 1 [.int .i64 ((ix : Int) + (C : Int))] rfl rfl (World.news_of_block (cs := #[.int .i64 ((ix : Int) + (C : Int))]) (t := 3) (fr := (0, 0)) (heap_alloc_new wc2 _)) (by simp [Value.oneCell']) (by unfold maxLen; omega) (by omega) (by simp; omega) ?_; intro v' w2 hown2 hg2 _))
            go_meet
            exact ⟨v', rfl, NrAt.push HST.out hy1 ((HN.out 2).1 (by rw [HI.out, HEC.out]; have h5 := HPE.out; simp [nbC]; omega)) (by rw [HQ.out]; exact hown2) (by rw [HI.out]; rfl) HYS.out hg2⟩
          · go_wp2
            go_meet
            exact ⟨_, rfl, NrAt.skip HST.out ((HN.out 2).2 (by rw [HI.out, HEC.out]; have h5 := HPE.out; simp [nbC]; omega))⟩
        case rest =>
          obtain ⟨v, rfl, hst3⟩ := hcut
          obtain ⟨wc3, hwc⟩ : ∃ W, W = wc := ⟨_, rfl⟩
          subst hwc
          go_upto_if 48 with (fail)
          go_cut [5] from 45 (fun s5 wx => ∃ v, v = s5 ∧ NrAt R C i w wx v 4)
          case first =>
            have HST := Lib.hid hst3
            obtain ⟨ys, hy1, hy2, hyb⟩ := hst3
            have hlen : ys.length ≤ 4 := by rw [hy2]; unfold ixV; rw [List.length_map]; have := near_len R C i 3; omega
            have HYS := Lib.hid hy2
            have hwx := hyb.size
            clear hy2 hyb
            by_cases hc : 0 < c
            · have hq : ((ix - 1 : Nat) : Int) = (ix : Int) - 1 := by omega
              have HQ := Lib.hid hq
              clear hq
              go_wp2_with (first | (at_builtin; refine wpList_append_own _ rfl _ _ 27 rfl w.heap.size 3 i0 (.int .i64 0) 1 8 Try.underlying27 hi0 hz0 hz1 hz2 rfl (by decide) _ ys.length ys rfl (hy1.alloc _) ⟨wc3.heap.size, 0, none⟩ 1 1 [.int .i64 ((ix : Int) - 1)] rfl rfl (World.news_of_block (cs := #[.int .i64 ((ix : Int) - 1)]) (t := 3) (fr := (0, 0)) (heap_alloc_new wc3 _)) (by simp [Value.oneCell']) (by unfold maxLen; omega) (by omega) (by simp; omega) ?_; intro v' w2 hown2 hg2 _))
              go_meet
              exact ⟨v', rfl, NrAt.push HST.out hy1 ((HN.out 3).1 (by rw [HI.out, HEC.out]; have h5 := HPE.out; simp [nbC]; omega)) (by rw [HQ.out]; exact hown2) (by rw [HI.out]; rfl) HYS.out hg2⟩
            · go_wp2
              go_meet
              exact ⟨_, rfl, NrAt.skip HST.out ((HN.out 3).2 (by rw [HI.out, HEC.out]; have h5 := HPE.out; simp [nbC]; omega))⟩
          case rest =>
            obtain ⟨v, rfl, hst4⟩ := hcut
            obtain ⟨ys, hy1, hy2, hyb⟩ := hst4
            obtain ⟨a, c, rfl⟩ := own_shape hy1
            have hl : ys.length = (near R C i 4).length := by rw [hy2]; unfold ixV; rw [List.length_map]
            have hst := NrAt.rdI ⟨ys, hy1, hy2, hyb⟩ h49
            rw [hl] at hst ⊢
            have HST := Lib.hid hst
            have HB := Lib.hid hyb
            clear hy1 hy2 hyb hl hst
            go_wp2
            go_ret
            exact ⟨_, rfl, ⟨_, _, rfl⟩, HST.out, HB.out⟩

end Go.Proofs.Ytcfeckpbjdipeaa

/- WaterNext of the model and of the program. -/
namespace Go.Proofs.Ytcfeckpbjdipeaa
open Go.RowKit
set_option linter.unusedVariables false

theorem wn_lt {g : G} {r c : Int} (h : g.Cell r c) : r.toNat * g.len 0 + c.toNat < g.n * g.len 0 :=
  cell_lt rfl (by have := h.2.1; omega) (by have := h.2.2; omega)
open Classical in
noncomputable def G.wnV (g : G) (r c : Int) : Int := if h : g.Cell r c then (nxt g.n (g.len 0) g.flat ⟨r.toNat * g.len 0 + c.toNat, wn_lt h⟩).1 else -1
theorem G.wnV_no {g : G} {r c : Int} (h : ¬ g.Cell r c) : g.wnV r c = -1 := by unfold G.wnV; rw [dif_neg h]
theorem G.wnV_yes {g : G} {r c : Nat} (h : g.Cell r c) (i : Ix (g.n * g.len 0)) (hi : i.1 = r * g.len 0 + c) : g.wnV r c = (nxt g.n (g.len 0) g.flat i).1 := by
  unfold G.wnV
  rw [dif_pos h]
  have e : (⟨(r : Int).toNat * g.len 0 + (c : Int).toNat, wn_lt h⟩ : Ix (g.n * g.len 0)) = i := Subtype.ext (by rw [hi]; simp)
  rw [e]

end Go.Proofs.Ytcfeckpbjdipeaa

/- The program's iterator over the run of a cell, by contract. -/
namespace Go.Proofs.Ytcfeckpbjdipeaa
open Go.RowKit Go.Shelf
set_option linter.unusedVariables false
attribute [local go_sem] Oper.semAt_some

set_option maxHeartbeats 1000000 in
set_option maxRecDepth 20000 in
theorem isSink_yes (R C gg cap cnt : Nat) (hR : R ≤ 7) (hC : C ≤ 7) (Z : Nat → Int) (i : Ix (R * C)) (w : World) (h : Rv w R C cnt gg cap Z) (hs : nxt R C Z i = i) :
    Calls Try.prog 123 #[.agg #[.int .i64 R, .int .i64 C, .slice (some ⟨gg, 0, none⟩) cnt cap], .int .i64 i.1] w (BlPost true w) := by
  have hb := (Below.refl w.heap.size w).alloc (Nat.le_refl _) (.cells #[.int .i64 R, .int .i64 C, .slice (some ⟨gg, 0, none⟩) cnt cap] 50)
  have HN := Lib.hid (next_any R C gg cap cnt hR hC Z i _ (h.keep hb (Nat.le_refl _)))
  have HB := Lib.hid hb
  have HS := Lib.hid hs
  clear h hs hb
  go_enter Try.func123, Try.ntmps123
  go_wp2_with fail
  refine HN.out.mono ?_
  rintro e w2 ⟨rfl, hb2⟩
  rw [HS.out]
  have hx : ((i.1 : Int) == (i.1 : Int)) = true := by simp
  go_wp2
  go_ret
  exact ⟨rfl, HB.out.trans (hb2.mono HB.out.size)⟩

set_option maxHeartbeats 1000000 in
set_option maxRecDepth 20000 in
theorem isSink_no (R C gg cap cnt : Nat) (hR : R ≤ 7) (hC : C ≤ 7) (Z : Nat → Int) (i : Ix (R * C)) (w : World) (h : Rv w R C cnt gg cap Z) (hs : nxt R C Z i ≠ i) :
    Calls Try.prog 123 #[.agg #[.int .i64 R, .int .i64 C, .slice (some ⟨gg, 0, none⟩) cnt cap], .int .i64 i.1] w (BlPost false w) := by
  have hb := (Below.refl w.heap.size w).alloc (Nat.le_refl _) (.cells #[.int .i64 R, .int .i64 C, .slice (some ⟨gg, 0, none⟩) cnt cap] 50)
  have HN := Lib.hid (next_any R C gg cap cnt hR hC Z i _ (h.keep hb (Nat.le_refl _)))
  have HB := Lib.hid hb
  obtain ⟨y, ey⟩ : ∃ y, (nxt R C Z i).1 = y := ⟨_, rfl⟩
  obtain ⟨x, ex⟩ : ∃ x, i.1 = x := ⟨_, rfl⟩
  have hne : y ≠ x := fun e => hs (Subtype.ext (by rw [ey, ex, e]))
  have hx1 : ((y : Int) == (x : Int)) = false := by rw [beq_eq_false_iff_ne]; omega
  rw [ey, ex] at HN
  rw [ex]
  clear h hs hb ey ex hne
  go_enter Try.func123, Try.ntmps123
  go_wp2_with fail
  refine HN.out.mono ?_
  rintro e w2 ⟨rfl, hb2⟩
  go_wp2
  go_ret
  exact ⟨rfl, HB.out.trans (hb2.mono HB.out.size)⟩

/-- blocks Bm and gg lie as they lay -/
def Kb2 (Bm gg : Nat) (W W' : World) : Prop := Kb Bm W W' ∧ Kb gg W W'
theorem Kb2.trans {Bm gg : Nat} {A B C : World} (h : Kb2 Bm gg A B) (k : Kb2 Bm gg B C) : Kb2 Bm gg A C := ⟨h.1.trans k.1, h.2.trans k.2⟩
theorem kb2_b {Bm gg : Nat} {w : World} (h1 : Bm < w.heap.size) (h2 : gg < w.heap.size) (W : World) (l : Nat) (o o' : Obj) (hl : w.heap.size ≤ l) (h : W.heap[l]? = some o) (ha : o.isCells = false) (hb : o.isWalk = false) : Kb2 Bm gg W (W.putObj l o') :=
  ⟨kb_b h1 W l o o' hl h ha hb, kb_b h2 W l o o' hl h ha hb⟩
theorem Kb2.of_below {Bm gg n : Nat} {A B : World} (h : Below n A B) (h1 : Bm < n) (h2 : gg < n) : Kb2 Bm gg A B := ⟨Kb.of_below h h1, Kb.of_below h h2⟩
theorem Rv.kb {w w' : World} {R C n gg cap : Nat} {Z : Nat → Int} (h : Rv w R C n gg cap Z) (k : Kb gg w w') : Rv w' R C n gg cap Z :=
  ⟨h.n_eq, Nat.lt_of_lt_of_le h.lt k.1, h.le, fun i hi => (k.cell i).trans (h.cell i hi)⟩

end Go.Proofs.Ytcfeckpbjdipeaa

/- The length of a run, in the program. -/
namespace Go.Proofs.Ytcfeckpbjdipeaa
open Go.RowKit Go.Shelf
set_option linter.unusedVariables false
attribute [local go_sem] Oper.semAt_some

end Go.Proofs.Ytcfeckpbjdipeaa

/- WaterLongest of the program. -/
namespace Go.Proofs.Ytcfeckpbjdipeaa
open Go.RowKit
set_option linter.unusedVariables false

theorem flat_okW {g : G} (h : g.Valid) {i : Nat} (hi : i < g.n * g.len 0) : 0 ≤ g.flat i ∧ g.flat i ≤ 99 := by
  have h0 := h.2.1.1
  have d1 : i / g.len 0 < g.n := (Nat.div_lt_iff_lt_mul h0).2 hi
  exact (h.2.2 _ d1).2 _ (by rw [(h.2.2 _ d1).1]; exact Nat.mod_lt _ h0)

open Classical in
noncomputable def G.lgV (g : G) : Int := if g.Valid then lgst g.n (g.len 0) g.flat (g.n * g.len 0) else -1
theorem G.lgV_yes {g : G} (h : g.Valid) : g.lgV = lgst g.n (g.len 0) g.flat (g.n * g.len 0) := by unfold G.lgV; rw [if_pos h]
theorem G.lgV_no {g : G} (h : ¬ g.Valid) : g.lgV = -1 := by unfold G.lgV; rw [if_neg h]

end Go.Proofs.Ytcfeckpbjdipeaa

/- Runs and WaterLongest of the model. -/
namespace Go.Proofs.Ytcfeckpbjdipeaa
open Go.RowKit
set_option linter.unusedVariables false

/-- the value lists the indexes l -/
def Lists (B : Nat) (wr : World) (v : Value) {M : Nat} (l : List (Ix M)) : Prop := wr.ownsRow B 3 1 v l.length (ixV l)

theorem Lists.rdI {B : Nat} {w : World} {v : Value} {M : Nat} {l : List (Ix M)} (h : Lists B w v l) (hM : M ≤ 49) : RdI B w.heap.size w v l.length (ixZ l) := by
  refine Rw.rdI ⟨ixV l, h, fun j hj => ?_⟩ (fun j hj => ?_)
  · rw [ixZ_at _ hj]; simp [ixV, hj]
  · rw [ixZ_at _ hj]; have := l[j].2; omega

theorem lists_one {w : World} {M : Nat} (i : Ix M) : Lists w.heap.size (w.alloc (.cells #[.int .i64 i.1] 3)) (.slice (some ⟨w.heap.size, 0, none⟩) 1 1) [i] :=
  ⟨by simp [ixV], Or.inr ⟨w.heap.size, 1, #[.int .i64 i.1], rfl, Nat.le_refl _, heap_alloc_new w _, Nat.le_refl _, by decide, rfl, by simp [ixV]⟩⟩

/-- what a list of indexes leaves -/
def LiPost {M : Nat} (l : List (Ix M)) (w : World) (e : Ending) (w' : World) : Prop :=
  ∃ v, e = .returned v ∧ (∃ a c, v = .slice a l.length c) ∧ Lists w.heap.size w' v l ∧ Below w.heap.size w w'

theorem Lists.shape {B : Nat} {w : World} {v : Value} {M : Nat} {l : List (Ix M)} (h : Lists B w v l) : ∃ a c, v = .slice a l.length c := own_shape h
theorem Lists.below {B C : Nat} {w w' : World} {v : Value} {M : Nat} {l : List (Ix M)} (h : Lists B w v l) (hb : Below C w w') (hC : w.heap.size ≤ C) : Lists B w' v l := ownsRow_below h hb (fun k hk => by have := (h.lt k hk).2; omega)

set_option maxHeartbeats 4000000 in
set_option maxRecDepth 100000 in
theorem l2Cells_any (v : Value) (lo hi : Nat) (g : G) (w : World) (hv : RdM lo hi w v g) (h : g.Valid) :
    Calls Try.prog 93 #[v] w fun e w' => e = .returned (.int .i64 ((g.n * g.len 0 : Nat) : Int)) ∧ w = w' := by
  obtain ⟨b, off, cap, rfl⟩ := hv.shapeW h.1.1
  obtain ⟨a1, c1, h1⟩ := hv.headW h.1.1 (g.len 0) rfl
  have h2 : (0 : Int) < g.n := by have := h.1.1; omega
  have h3 : (g.n : Int) * (g.len 0 : Int) = ((g.n * g.len 0 : Nat) : Int) := (Int.natCast_mul _ _).symm
  have h4 : 0 ≤ (g.n : Int) * (g.len 0 : Int) ∧ (g.n : Int) * (g.len 0 : Int) ≤ 49 := by rw [h3]; have := mul_le_49 h.1.2 h.2.1.2; omega
  obtain ⟨h5, h6⟩ := h4
  have H3 := Lib.hid h3
  clear h3 h hv
  go_enter Try.func93, Try.ntmps93
  go_wp2
  go_ret
  exact ⟨ret_int H3.out, rfl⟩

end Go.Proofs.Ytcfeckpbjdipeaa
