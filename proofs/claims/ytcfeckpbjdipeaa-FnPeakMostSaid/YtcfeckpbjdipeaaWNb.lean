/- The program's iterator over the neighbors of a cell, by contract. -/
import Derived.Test.YtcfeckpbjdipeaaM3
import Derived.Test.YtcfeckpbjdipeaaImplG
import Derived.RangeFuncNested
import Derived.RangeFuncBound
import Derived.RangeFuncCalls
import Derived.RangeFuncLeaves
import Derived.Shelf.Abstract
import Derived.Shelf.RegionOpen
import Derived.WalkKit
import Derived.OwnWalkIn
import Derived.TacticsInMore
import Derived.LoopNIn
import Derived.LoopIn
import Derived.Sort.QuietIn
import Derived.Sort.CutIn
namespace Go.Proofs.Ytcfeckpbjdipeaa
open Go.RowKit Go.Shelf
set_option linter.unusedVariables false
attribute [local go_sem] Oper.semAt_some

theorem J_drew {β : Type} {B : Nat} {J : β → World → Prop} (h : AbidesFrom B J) {s : β} {W : World} (hs : J s W) (n : Nat) : J s (W.drewN n) :=
  h s W _ none hs ⟨rfl, rfl, rfl, Nat.le_refl _, fun _ _ _ => rfl⟩ (fun r e => by cases e)
theorem J_below {β : Type} {B : Nat} {J : β → World → Prop} (h : AbidesFrom B J) {s : β} {W W' : World} (hs : J s W) (hb : Below W.heap.size W W') : J s W' :=
  h s W _ none hs ⟨hb.os, hb.tape, hb.output, hb.size, fun k hk _ => hb.block k hk⟩ (fun r e => by cases e)

/-- block Bm lies as it lay -/
def Kb (Bm : Nat) (W W' : World) : Prop := W.heap.size ≤ W'.heap.size ∧ W'.heap[Bm]? = W.heap[Bm]?
theorem Kb.trans {Bm : Nat} {A B C : World} (h : Kb Bm A B) (k : Kb Bm B C) : Kb Bm A C := ⟨Nat.le_trans h.1 k.1, k.2.trans h.2⟩
theorem Kb.cell {Bm : Nat} {A B : World} (h : Kb Bm A B) (o : Nat) : B.cell? ⟨Bm, o, none⟩ = A.cell? ⟨Bm, o, none⟩ := World.cell?_of_block (a := ⟨Bm, o, none⟩) h.2
theorem Kb.of_below {Bm n : Nat} {A B : World} (h : Below n A B) (hl : Bm < n) : Kb Bm A B := ⟨h.size, h.block _ hl⟩
theorem kb_b {Bm : Nat} {w : World} (hn : Bm < w.heap.size) (W : World) (l : Nat) (o o' : Obj) (hl : w.heap.size ≤ l) (h : W.heap[l]? = some o) (_ : o.isCells = false) (_ : o.isWalk = false) : Kb Bm W (W.putObj l o') :=
  ⟨(grownBy_putObj' W l o').size, (grownBy_putObj' W l o').block Bm (by have := (Array.getElem?_eq_some_iff.1 h).1; omega) (fun e => by cases e; omega)⟩

theorem pair_cells {w : World} {B : Nat} {x y : Value} {t : TypeId} (h : w.heap[B]? = some (.cells #[x, y] t (0, 0))) : w.cell? ⟨B, 0, none⟩ = some x ∧ w.cell? ⟨B, 1, none⟩ = some y := ⟨by simp [World.cell?, h], by simp [World.cell?, h]⟩

theorem step_ix0 (w : World) : Sem.run Try.prog (Instr.index 117 (.agg #[.int .i64 (-1), .int .i64 0, .int .i64 0, .int .i64 1, .int .i64 1, .int .i64 0, .int .i64 0, .int .i64 (-1)]) (.int .i64 0)) w = .ok (.agg #[.int .i64 (-1), .int .i64 0]) w := by kernel_rfl
theorem step_ix1 (w : World) : Sem.run Try.prog (Instr.index 117 (.agg #[.int .i64 (-1), .int .i64 0, .int .i64 0, .int .i64 1, .int .i64 1, .int .i64 0, .int .i64 0, .int .i64 (-1)]) (.int .i64 1)) w = .ok (.agg #[.int .i64 0, .int .i64 1]) w := by kernel_rfl
theorem step_ix2 (w : World) : Sem.run Try.prog (Instr.index 117 (.agg #[.int .i64 (-1), .int .i64 0, .int .i64 0, .int .i64 1, .int .i64 1, .int .i64 0, .int .i64 0, .int .i64 (-1)]) (.int .i64 2)) w = .ok (.agg #[.int .i64 1, .int .i64 0]) w := by kernel_rfl
theorem step_ix3 (w : World) : Sem.run Try.prog (Instr.index 117 (.agg #[.int .i64 (-1), .int .i64 0, .int .i64 0, .int .i64 1, .int .i64 1, .int .i64 0, .int .i64 0, .int .i64 (-1)]) (.int .i64 3)) w = .ok (.agg #[.int .i64 0, .int .i64 (-1)]) w := by kernel_rfl
attribute [local go_sem] step_ix0 step_ix1 step_ix2 step_ix3

set_option maxRecDepth 100000 in
set_option maxHeartbeats 4000000 in
theorem nb1_in (n : Nat) (hn : 1 ≤ n) (l Bi Bm R C gg cap cnt : Nat) (hR : R ≤ 7) (hC : C ≤ 7) (i : Ix (R * C)) (J Jx : List (Ix (R * C)) → World → Prop)
    (W : World) (hJ : AbidesFrom W.heap.size J)
    (hY : ∀ pre x W1, J pre W1 → pre.length < 4 → YieldAt Fence.wide (n - 1) Try.prog l #[.int .i64 (x : Ix (R * C)).1] W1 fun e W' =>
      (e = .returned (.bool true) ∧ J (pre ++ [x]) W' ∧ Kb Bm W1 W') ∨ (e = .returned (.bool false) ∧ Jx (pre ++ [x]) W'))
    (hBm : Bm < W.heap.size) (hi : W.cell? ⟨Bi, 0, none⟩ = some (.int .i64 i.1))
    (hm0 : W.cell? ⟨Bm, 0, none⟩ = some (.int .i64 R)) (hm1 : W.cell? ⟨Bm, 1, none⟩ = some (.int .i64 C)) (hm2 : W.cell? ⟨Bm, 2, none⟩ = some (.slice (some ⟨gg, 0, none⟩) cnt cap)) (h0 : J [] W) :
    CallsIn Fence.wide n Try.prog 129 #[.func (.yield l) #[] #[], .pointer (some ⟨Bi, 0, none⟩), .pointer (some ⟨Bm, 0, none⟩)] W fun e W' => (∃ v, e = .returned v) ∧
      ((∃ ys, ys = near R C i 4 ∧ J ys W') ∨ (∃ pre, pre <+: near R C i 4 ∧ Jx pre W')) := by
  have hC0 : 0 < C := by
    rcases Nat.eq_zero_or_pos C with e | e
    · have h := i.2
      have h2 : R * C = 0 := by rw [e]; rfl
      omega
    · exact e
  obtain ⟨r, er⟩ : ∃ r, r = i.1 / C := ⟨_, rfl⟩
  obtain ⟨c, ec⟩ : ∃ c, c = i.1 % C := ⟨_, rfl⟩
  have hr : r < R := by rw [er]; exact (Nat.div_lt_iff_lt_mul hC0).2 i.2
  have hc : c < C := by rw [ec]; exact Nat.mod_lt _ hC0
  have hrc : C * r + c = i.1 := by rw [er, ec]; exact Nat.div_add_mod i.1 C
  have t1 : (i.1 : Int) / (C : Int) = (r : Int) := by rw [er]; exact (Int.natCast_ediv _ _).symm
  have t2 : (i.1 : Int) % (C : Int) = (c : Int) := by rw [ec]; exact (Int.natCast_emod _ _).symm
  have hi48 : i.1 ≤ 48 := by have := i.2; have := mul_le_49 hR hC; omega
  have hC' : ((C : Int) == 0) = false := by rw [beq_eq_false_iff_ne]; omega
  have hC1 : ¬ (C : Int) = 0 := by omega
  have hC2 : (0 : Int) < C := by omega
  have hr' : (r : Int) ≤ 7 := by omega
  have hc' : (c : Int) ≤ 7 := by omega
  have HI := Lib.hid hi
  have H0 := Lib.hid hm0
  have H1 := Lib.hid hm1
  have H2 := Lib.hid hm2
  have HJ := Lib.hid @hJ
  have HJ0 := Lib.hid h0
  have HRC := Lib.hid hrc
  have HER := Lib.hid er
  have HEC := Lib.hid ec
  have HY := Lib.hid hY
  clear hY h0 hJ er ec hrc
  obtain ⟨ix, hix⟩ : ∃ ix, ix = i.1 := ⟨_, rfl⟩
  rw [← hix] at hi t1 t2 hi48
  refine callsIn_of_wp Try.func129 rfl trivial ?_ rfl
  simp only [Try.ntmps129, List.size_toArray, List.length_cons, List.length_nil, Nat.reduceAdd, Nat.reduceSub, Array.replicate_succ, Array.replicate_zero, List.push_toArray, List.append_toArray, List.nil_append, List.cons_append]
  have HIX := Lib.hid hix
  clear hix
  gi_wp2
  gi_quiet (fail)
  gi_wp2
  rw [t2]
  clear t1 t2 hi hm0 hm1 hm2
  gi_loopw [23] (fun s wr => ∃ k : Nat, k ≤ 4 ∧ s = .int .i64 k ∧ J (near R C i k) wr ∧ Kb Bm W wr) (fun s _ => 4 - (intOf s).toNat)
  case atStart => exact ⟨0, by omega, rfl, J_drew HJ.out HJ0.out nq, Nat.le_refl _, rfl⟩
  case round =>
    obtain ⟨k, hk, rfl, hJ, hb⟩ := hrel
    by_cases hlt : k < 4
    · have hcase : k = 0 ∨ k = 1 ∨ k = 2 ∨ k = 3 := by omega
      have m0 := (hb.cell 0).trans H0.out
      have m1 := (hb.cell 1).trans H1.out
      have m2 := (hb.cell 2).trans H2.out
      have hBw : Bm < wr.heap.size := Nat.lt_of_lt_of_le hBm hb.1
      have HB := Lib.hid hb
      have HJK := Lib.hid hJ
      clear hb hJ
      gi_upto_region 3 with (fail)
      gi_cut [7] from 25 (fun s7 wx => ∃ B7, s7 = .pointer (some ⟨B7, 0, none⟩) ∧ wx.cell? ⟨B7, 0, none⟩ = some (.int .i64 (dy k)) ∧ wx.cell? ⟨B7, 1, none⟩ = some (.int .i64 (dx k)) ∧ Below wr.heap.size wr wx)
      case first =>
        rcases hcase with rfl | rfl | rfl | rfl
        all_goals gi_wp2_with fail
        all_goals gi_meet
        all_goals exact ⟨_, rfl, (pair_cells (heap_alloc_new _ _)).1.trans (by simp [dy]), (pair_cells (heap_alloc_new _ _)).2.trans (by simp [dx]), (Below.refl _ _).alloc (Nat.le_refl _) _⟩
      case rest =>
        obtain ⟨B7, rfl, d0, d1, hbx⟩ := hcut
        obtain ⟨e, he⟩ : ∃ e, e = dy k := ⟨_, rfl⟩
        obtain ⟨f, hf⟩ : ∃ f, f = dx k := ⟨_, rfl⟩
        have hye := dy_range k
        have hxe := dx_range k
        rw [← he] at d0 hye
        rw [← hf] at d1 hxe
        obtain ⟨hye1, hye2⟩ := hye
        obtain ⟨hxe1, hxe2⟩ := hxe
        have HNB := Lib.hid (nb_at R C i k r c hlt hc hr HRC.out HEC.out.symm ((r : Int) + e) ((c : Int) + f) (by rw [he]) (by rw [hf]))
        have HBX := Lib.hid hbx
        clear hbx he hf
        gi_upto_region 4 with (fail)
        gi_cut [8, 9] from 26 (fun s8 s9 wx => s8 = .int .i64 ((r : Int) + e) ∧ s9 = .int .i64 ((c : Int) + f) ∧ Below wr.heap.size wr wx)
        case first =>
          gi_quiet (fail)
          gi_wp2_with fail
          gi_meet
          exact ⟨rfl, rfl, below_drewN HBX.out _⟩
        case rest =>
          obtain ⟨rfl, rfl, hbx⟩ := hcut
          clear d0 d1 HBX
          rename_i wd
          have x0 := ((Kb.of_below hbx hBw).cell 0).trans m0
          have x1 := ((Kb.of_below hbx hBw).cell 1).trans m1
          have x2 := ((Kb.of_below hbx hBw).cell 2).trans m2
          have HBX := Lib.hid hbx
          clear hbx m0 m1 m2
          obtain ⟨y, ey⟩ : ∃ y, (r : Int) + e = y := ⟨_, rfl⟩
          obtain ⟨x, ex⟩ : ∃ x, (c : Int) + f = x := ⟨_, rfl⟩
          have hnb := HNB.out
          rw [ey, ex] at hnb ⊢
          clear HNB ey ex
          rcases hnb with ⟨z, hz, y1, y2, z1, z2, hyx⟩ | ⟨hz, hno⟩
          · have HZ := Lib.hid (near_some hz)
            have HYX := Lib.hid hyx
            have hy0 : 0 ≤ y * (C : Int) := Int.mul_nonneg y1 (by omega)
            have hyC : y * (C : Int) ≤ 1000 := by have := z.2; have := mul_le_49 hR hC; omega
            have hz48 : z.1 ≤ 48 := by have := z.2; have := mul_le_49 hR hC; omega
            have hsz := HB.out.1
            clear hyx hz
            gi_wp2_with (first
              | (refine ⟨trivial, ?_⟩; gi_at_call 57; refine (callsIn_wide.2 (has_yes R C cnt gg cap y x _ y1 y2 z1 z2)).mono ?_; rintro e w2 ⟨rfl, hb2⟩; have HB2 := Lib.hid (HBX.out.trans (hb2.mono HBX.out.size)); clear hb2 x0 x1 x2; have x0 := ((Kb.of_below HB2.out hBw).cell 0).trans ((HB.out.cell 0).trans H0.out); have x1 := ((Kb.of_below HB2.out hBw).cell 1).trans ((HB.out.cell 1).trans H1.out); have x2 := ((Kb.of_below HB2.out hBw).cell 2).trans ((HB.out.cell 2).trans H2.out))
              | (refine ⟨trivial, ?_⟩; gi_at_call 58; refine (callsIn_wide.2 (index_any R C cnt gg cap y x z.1 _ HYX.out hy0 hyC (Nat.le_trans hz48 (by omega)))).mono ?_; rintro e w3 ⟨rfl, hb3⟩; have HB3 := Lib.hid (HB2.out.trans (hb3.mono HB2.out.size)); clear hb3; obtain ⟨fn, tmps, assign, body, hy, hR⟩ := HY.out (near R C i k) z w3 (J_below HJ.out HJK.out HB3.out) (by have := near_len R C i k; omega)))
            refine hR.mono ?_
            rintro e W' (⟨rfl, hJ', hk'⟩ | ⟨rfl, hJx'⟩)
            · have HJ' := Lib.hid hJ'
              have HK' := Lib.hid hk'
              clear hJ' hk' hy hR
              gi_wp2
              go_roundw
              case rel => exact ⟨k + 1, by omega, by go_num, by rw [HZ.out]; exact HJ'.out, (HB.out.trans (Kb.of_below HB3.out hBw)).trans HK'.out⟩
              case measure => simp [intOf]; omega
            · have HJX := Lib.hid hJx'
              clear hJx' hy hR
              gi_wp2
              refine bodyPost_ret (results_none rfl _ _ _) rfl ?_
              exact ⟨⟨_, rfl⟩, .inr ⟨_, near_pre R C i (k + 1) 4 (by omega), by rw [HZ.out]; exact HJX.out⟩⟩
          · have HNO := Lib.hid hno
            have HZ := Lib.hid (near_none hz)
            clear hno hz
            gi_wp2_with (refine ⟨trivial, ?_⟩; gi_at_call 57; refine (callsIn_wide.2 (has_no R C cnt gg cap y x _ HNO.out)).mono ?_; rintro e w2 ⟨rfl, hb2⟩; have HB2 := Lib.hid (HBX.out.trans (hb2.mono HBX.out.size)); clear hb2 x0 x1 x2)
            refine ⟨trivial, ?_⟩
            gi_wp2
            refine ⟨fun _ h => (by cases h), ?_⟩
            gi_wp2
            go_roundw
            case rel => exact ⟨k + 1, by omega, by go_num, by rw [HZ.out]; exact J_below HJ.out HJK.out HB2.out, HB.out.trans (Kb.of_below HB2.out hBw)⟩
            case measure => simp [intOf]; omega
    · obtain rfl : k = 4 := by omega
      gi_wp2
      go_end0
      exact ⟨⟨_, rfl⟩, .inl ⟨_, rfl, hJ⟩⟩

end Go.Proofs.Ytcfeckpbjdipeaa
