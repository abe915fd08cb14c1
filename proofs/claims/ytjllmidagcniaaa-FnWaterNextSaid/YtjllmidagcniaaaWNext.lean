/- The cell to which water flows, in the program, by contract. -/
import Derived.Test.YtjllmidagcniaaaWNb
import Derived.Test.YtjllmidagcniaaaM3
namespace Go.Proofs.Ytjllmidagcniaaa
open Go.RowKit Go.Shelf
set_option linter.unusedVariables false
attribute [local go_sem] Oper.semAt_some

def NbPost (R C gg cnt cap i : Nat) (w : World) (e : Ending) (w' : World) : Prop :=
  e = .returned (.func (.func 103) #[] #[.pointer (some ⟨w.heap.size + 1, 0, none⟩), .pointer (some ⟨w.heap.size, 0, none⟩)]) ∧
    w' = (w.alloc (.cells #[.int .i64 R, .int .i64 C, .slice (some ⟨gg, 0, none⟩) cnt cap] 58)).alloc (.cells #[.int .i64 i] 3)

set_option maxHeartbeats 1000000 in
set_option maxRecDepth 20000 in
theorem nb_any (R C gg cnt cap i : Nat) (w : World) :
    Calls Try.prog 93 #[.agg #[.int .i64 R, .int .i64 C, .slice (some ⟨gg, 0, none⟩) cnt cap], .int .i64 i] w (NbPost R C gg cnt cap i w) := by
  go_enter Try.func93, Try.ntmps93
  go_wp2
  go_ret
  exact ⟨rfl, rfl⟩

theorem three_cells {w : World} {B : Nat} {x y z : Value} {t : TypeId} (h : w.heap[B]? = some (.cells #[x, y, z] t (0, 0))) : w.cell? ⟨B, 0, none⟩ = some x ∧ w.cell? ⟨B, 1, none⟩ = some y ∧ w.cell? ⟨B, 2, none⟩ = some z := ⟨by simp [World.cell?, h], by simp [World.cell?, h], by simp [World.cell?, h]⟩
theorem one_cell {w : World} {B : Nat} {x : Value} {t : TypeId} (h : w.heap[B]? = some (.cells #[x] t (0, 0))) : w.cell? ⟨B, 0, none⟩ = some x := by simp [World.cell?, h]

theorem body_set {W : World} {b : Nat} {v : Value} (nq : Nat) : KeepsOthers W ((W.setCell ⟨b, 0, none⟩ v).drewN nq) := (KeepsOthers.setCell W _ _).trans ⟨Nat.le_refl _, fun _ _ h _ => h⟩

theorem four_allocs (w : World) (o1 o2 o3 o4 : Obj) : let W := (((w.alloc o1).alloc o2).alloc o3).alloc o4
    W.heap[w.heap.size]? = some o1 ∧ W.heap[w.heap.size + 1]? = some o2 ∧ W.heap[w.heap.size + 1 + 1]? = some o3 ∧ W.heap[w.heap.size + 1 + 1 + 1]? = some o4 ∧ W.heap.size = w.heap.size + 4 ∧ Below w.heap.size w W := by
  intro W
  have e1 : (w.alloc o1).heap.size = w.heap.size + 1 := by simp
  have e2 : ((w.alloc o1).alloc o2).heap.size = w.heap.size + 1 + 1 := by simp
  have e3 : (((w.alloc o1).alloc o2).alloc o3).heap.size = w.heap.size + 1 + 1 + 1 := by simp
  have b2 := fun k hk => Below.heap_alloc (w.alloc o1) o2 k hk
  have b3 := fun k hk => Below.heap_alloc ((w.alloc o1).alloc o2) o3 k hk
  have b4 := fun k hk => Below.heap_alloc (((w.alloc o1).alloc o2).alloc o3) o4 k hk
  refine ⟨?_, ?_, ?_, ?_, by simp [W], (((Below.refl _ _).alloc (Nat.le_refl _) _).alloc (by simp) _).alloc (by simp; omega) _ |>.alloc (by simp; omega) _⟩
  · exact ((b4 _ (by omega)).trans ((b3 _ (by omega)).trans (b2 _ (by omega)))).trans (heap_alloc_new w o1)
  · have := heap_alloc_new (w.alloc o1) o2
    rw [e1] at this
    exact ((b4 _ (by omega)).trans (b3 _ (by omega))).trans this
  · have := heap_alloc_new ((w.alloc o1).alloc o2) o3
    rw [e2] at this
    exact (b4 _ (by omega)).trans this
  · have := heap_alloc_new (((w.alloc o1).alloc o2).alloc o3) o4
    rw [e3] at this
    exact this

/-- the iterator over the neighbors, as a loop takes it -/
theorem nb_stops (n : Nat) (hn : 1 ≤ n) (Bi Bm R C gg cap cnt : Nat) (hR : R ≤ 7) (hC : C ≤ 7) (i : Ix (R * C)) (w : World) (hBi : Bi < w.heap.size) (hBm : Bm < w.heap.size) (hi : w.cell? ⟨Bi, 0, none⟩ = some (.int .i64 i.1))
    (hm : w.cell? ⟨Bm, 0, none⟩ = some (.int .i64 R) ∧ w.cell? ⟨Bm, 1, none⟩ = some (.int .i64 C) ∧ w.cell? ⟨Bm, 2, none⟩ = some (.slice (some ⟨gg, 0, none⟩) cnt cap)) :
    SeqStopsK Fence.wide n Try.prog 103 #[.pointer (some ⟨Bi, 0, none⟩), .pointer (some ⟨Bm, 0, none⟩)] (fun x : Ix (R * C) => #[Value.int .i64 x.1]) (Kb Bm) (fun ys => ys = near R C i 4) (fun pre => pre <+: near R C i 4) 4 w := fun l J Jx W hW hJ _ hY h0 =>
  nb1_in n hn l Bi Bm R C gg cap cnt hR hC i J Jx W hJ hY (Nat.lt_of_lt_of_le hBm hW.size) ((hW.cell (p := ⟨Bi, 0, none⟩) hBi).trans hi)
    ((hW.cell (p := ⟨Bm, 0, none⟩) hBm).trans hm.1) ((hW.cell (p := ⟨Bm, 1, none⟩) hBm).trans hm.2.1) ((hW.cell (p := ⟨Bm, 2, none⟩) hBm).trans hm.2.2) h0

set_option maxRecDepth 100000 in
set_option maxHeartbeats 4000000 in
theorem next_any (R C gg cap cnt : Nat) (hR : R ≤ 7) (hC : C ≤ 7) (Z : Nat → Int) (i : Ix (R * C)) (w : World) (h : Rv w R C cnt gg cap Z) :
    Calls Try.prog 75 #[.agg #[.int .i64 R, .int .i64 C, .slice (some ⟨gg, 0, none⟩) cnt cap], .int .i64 i.1] w (IntPost (nxt R C Z i).1 w) := by
  have H := Lib.hid h
  clear h
  refine (callsIn_wide (n := 5)).1 ?_
  refine callsIn_of_wp_marks Try.func75 rfl trivial ?_ rfl
  simp only [Try.ntmps75, List.size_toArray, List.length_cons, List.length_nil, Nat.reduceAdd, Nat.reduceSub, Array.replicate_succ, Array.replicate_zero, List.push_toArray, List.append_toArray, List.nil_append, List.cons_append]
  gi_wp2_with (refine ⟨trivial, ?_⟩; gi_at_call 93; refine (callsIn_wide.2 (nb_any R C gg cnt cap i.1 _)).mono ?_; rintro e w' ⟨rfl, rfl⟩)
  obtain ⟨k1, k2, k3, k4, ksz, kb⟩ := four_allocs w (.cells #[.int .i64 R, .int .i64 C, .slice (some ⟨gg, 0, none⟩) cnt cap] 58) (.cells #[.int .i64 i.1] 3) (.cells #[.int .i64 R, .int .i64 C, .slice (some ⟨gg, 0, none⟩) cnt cap] 58) (.cells #[.int .i64 i.1] 3)
  generalize hW0 : (((w.alloc (.cells #[.int .i64 R, .int .i64 C, .slice (some ⟨gg, 0, none⟩) cnt cap] 58)).alloc (.cells #[.int .i64 i.1] 3)).alloc (.cells #[.int .i64 R, .int .i64 C, .slice (some ⟨gg, 0, none⟩) cnt cap] 58)).alloc (.cells #[.int .i64 i.1] 3) = W0 at k1 k2 k3 k4 ksz kb ⊢
  clear hW0
  have hle : cnt ≤ cap := H.out.le
  have HCN := Lib.hid H.out.n_eq
  have hgl : gg < w.heap.size := H.out.lt
  have hcl := H.out.cell
  have hMC := three_cells k3
  have hBX : Boxed W0 (w.heap.size + 1) 3 (.int .i64 i.1) := k2
  refine wpIn_rangeFunc_ownF rfl (by omega) (gf := 103) (lb := #[.pointer (some ⟨w.heap.size + 1 + 1 + 1, 0, none⟩), .pointer (some ⟨w.heap.size + 1 + 1, 0, none⟩)]) rfl trivial (enters_of Try.func103 (by kernel_rfl) rfl)
    (nb_stops 4 (by omega) (w.heap.size + 1 + 1 + 1) (w.heap.size + 1 + 1) R C gg cap cnt hR hC i W0 (by omega) (by omega) (one_cell k4) hMC) Kb.trans (kb_b (by omega)) (Below.refl _ _) (fun _ => rfl)
    (fun pre W => (Boxed W (w.heap.size + 1) 3 (.int .i64 (flowTo Z i pre).1) ∧ W.heap[w.heap.size]? = some (.cells #[.int .i64 R, .int .i64 C, .slice (some ⟨gg, 0, none⟩) cnt cap] 58 (0, 0))) ∧ Below w.heap.size w W)
    (fun _ _ _ => False)
    ?own (fun _ _ _ _ _ hs _ _ => hs) ?start
    (fun x => { tmps := #[.agg #[.int .i64 R, .int .i64 C, .slice (some ⟨gg, 0, none⟩) cnt cap], .int .i64 i.1, .pointer (some ⟨w.heap.size, 0, none⟩), undef, .int .i64 0, .pointer (some ⟨w.heap.size + 1, 0, none⟩), .int .i64 x.1, .int .i64 i.1, .agg #[.int .i64 R, .int .i64 C, .slice (some ⟨gg, 0, none⟩) cnt cap], .int .i64 i.1, .func (.func 103) #[] #[.pointer (some ⟨w.heap.size + 1 + 1 + 1, 0, none⟩), .pointer (some ⟨w.heap.size + 1 + 1, 0, none⟩)], .int .i64 x.1, undef, undef, undef, undef, undef, undef, undef, undef, undef, undef, undef, undef, undef], defers := [] }) ?assign ?body ?done ?stop
  case own =>
    exact OwnFrom.and (OwnFrom.and (Own.from (boxed_own _ _ _) _) (fun s A B row hs hg hr => (hg.block w.heap.size (by
      rcases Nat.lt_or_ge w.heap.size A.heap.size with h | h
      · exact h
      · rw [Array.getElem?_eq_none h] at hs; cases hs) (fun e => by have := (hr _ e.symm).1; omega)).trans hs)) (ownFrom_below (Nat.le_refl _) (by omega))
  case start => exact ⟨⟨hBX, k1⟩, kb⟩
  case assign =>
    intro l x W K hK
    gi_wp2
    exact hK
  case body =>
    rintro l pre x W ⟨⟨hbx, hm⟩, hB⟩ _
    have c1 := hbx.cell
    have f1 := hbx.frozen
    have c2 := (three_cells hm).2.2
    have hx := x.2
    obtain ⟨y, ey⟩ : ∃ y, flowTo Z i pre = y := ⟨_, rfl⟩
    have hy := y.2
    have q1 := (hB.cell (p := ⟨gg, x.1, none⟩) hgl).trans (hcl x.1 (by rw [HCN.out]; exact x.2))
    have q2 := (hB.cell (p := ⟨gg, y.1, none⟩) hgl).trans (hcl y.1 (by rw [HCN.out]; exact y.2))
    have HS := Lib.hid (flowTo_snoc Z i pre x)
    rw [ey] at c1 hbx HS
    obtain ⟨xi, hxi⟩ : ∃ xi, xi = x.1 := ⟨_, rfl⟩
    obtain ⟨yi, hyi⟩ : ∃ yi, yi = y.1 := ⟨_, rfl⟩
    rw [← hxi] at q1 hx
    rw [← hyi] at q2 hy c1
    have hx' : (xi : Int) < cnt := by have := HCN.out; omega
    have hy' : (yi : Int) < cnt := by have := HCN.out; omega
    have hx'' : xi < cnt := by omega
    have hy'' : yi < cnt := by omega
    have h49 := mul_le_49 hR hC
    have hx48 : (xi : Int) ≤ 48 := by omega
    have hy48 : (yi : Int) ≤ 48 := by omega
    have HXI := Lib.hid hxi
    have HYI := Lib.hid hyi
    have HBX := Lib.hid hbx
    have HM := Lib.hid hm
    have HB := Lib.hid hB
    rw [← hxi]
    clear ey hxi hyi hbx hm hB hcl k1 k2 k3 k4 hMC hBX
    by_cases hlt : Z xi < Z yi
    · have hd : decide (Z xi < Z yi) = true := by simp [hlt]
      gi_wp2
      refine quiet_round l rfl (by kernel_rfl) (by kernel_rfl) (by kernel_rfl) ?_
      repeat (gi_big_quiet_step (fail))
      refine wpQuietIn_nil ?_
      rintro _ ⟨nq, rfl⟩
      gi_wp2
      refine ⟨body_set nq, ⟨by simp [World.setCell], Below.heap_setCell _ _ _ _ (by simp)⟩, ⟨?_, ?_⟩, below_drewN (HB.out.setCell (p := ⟨w.heap.size + 1, 0, none⟩) (Nat.le_succ _) _) nq⟩
      · rw [HS.out, if_pos (by rw [← HXI.out, ← HYI.out]; exact hlt), ← HXI.out]
        exact HBX.out.set _
      · exact (Below.heap_setCell _ _ _ _ (by simp)).trans HM.out
    · have hd : decide (Z xi < Z yi) = false := by simp; omega
      gi_wp2
      refine quiet_round l rfl (by kernel_rfl) (by kernel_rfl) (by kernel_rfl) ?_
      repeat (gi_big_quiet_step (fail))
      refine wpQuietIn_nil ?_
      rintro _ ⟨nq, rfl⟩
      gi_wp2
      refine ⟨⟨Nat.le_refl _, fun _ _ h _ => h⟩, ⟨Nat.le_refl _, rfl⟩, ⟨?_, HM.out⟩, below_drewN HB.out nq⟩
      rw [HS.out, if_neg (by rw [← HXI.out, ← HYI.out]; omega)]
      exact HBX.out
  case done =>
    rintro D ys W hD rfl ⟨⟨hbx, hm⟩, hB⟩ hK
    have cS := hbx.cell
    gi_wp2
    refine ⟨by simp, .inl ⟨_, _, rfl, run_takeDeferred hK, ?_⟩⟩
    exact ⟨_, results_tmp rfl _ _ _, rfl, hB.trans (belowK_b (w := w) (Nat.le_refl _) W D _ _ (by omega) hK rfl rfl)⟩
  case stop =>
    rintro D c pre W _ _ h _
    exact h.elim

end Go.Proofs.Ytjllmidagcniaaa
