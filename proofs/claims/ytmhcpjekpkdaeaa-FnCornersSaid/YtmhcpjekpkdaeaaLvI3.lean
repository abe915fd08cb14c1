/- The program's iterator over corners, and their count. -/
import Derived.Test.YtmhcpjekpkdaeaaLvI2
import Derived.IntWalk
namespace Go.Proofs.Ytmhcpjekpkdaeaa
open Go.RowKit Go.Shelf
set_option linter.unusedVariables false
attribute [local go_sem] Oper.semAt_some

/-- a corner at which four cells meet: the row and the column of its first cell -/
abbrev Cr (R C : Nat) := {x : Nat × Nat // x.1 + 1 < R ∧ x.2 + 1 < C}
/-- the corners of the first c columns of row r -/
def crL (R C r : Nat) : Nat → List (Cr R C)
  | 0 => []
  | c + 1 => crL R C r c ++ (if h : r + 1 < R ∧ c + 1 < C then [⟨(r, c), h⟩] else [])
/-- the corners of the first r rows -/
def crA (R C : Nat) : Nat → List (Cr R C)
  | 0 => []
  | r + 1 => crA R C r ++ crL R C r (C - 1)
theorem crL_succ {R C r c : Nat} (h : r + 1 < R ∧ c + 1 < C) : crL R C r (c + 1) = crL R C r c ++ [⟨(r, c), h⟩] := by simp only [crL]; rw [dif_pos h]
theorem crL_pre (R C r : Nat) {a b : Nat} (h : a ≤ b) : crL R C r a <+: crL R C r b := by
  induction b with
  | zero => have : a = 0 := by omega
            subst this; exact List.prefix_refl _
  | succ b ih =>
    by_cases e : a = b + 1
    · subst e; exact List.prefix_refl _
    · exact (ih (by omega)).trans (List.prefix_append _ _)
theorem crA_pre (R C : Nat) {a b : Nat} (h : a ≤ b) : crA R C a <+: crA R C b := by
  induction b with
  | zero => have : a = 0 := by omega
            subst this; exact List.prefix_refl _
  | succ b ih =>
    by_cases e : a = b + 1
    · subst e; exact List.prefix_refl _
    · exact (ih (by omega)).trans (List.prefix_append _ _)
theorem crA_at {R C r c : Nat} (h : r + 1 < R ∧ c + 1 < C) : (crA R C r ++ crL R C r c) ++ [⟨(r, c), h⟩] <+: crA R C (R - 1) := by
  have h1 : crL R C r (c + 1) <+: crL R C r (C - 1) := crL_pre R C r (by omega)
  have h2 : crA R C (r + 1) <+: crA R C (R - 1) := crA_pre R C (by omega)
  rw [crL_succ h] at h1
  refine List.IsPrefix.trans ?_ h2
  simp only [crA, List.append_assoc]
  exact (List.prefix_append_right_inj _).2 h1

/-- the four cells around a corner, as they are handed -/
def cI {R C : Nat} (x : Cr R C) : Nat := x.1.1 * C + x.1.2
def cJ {R C : Nat} (x : Cr R C) : Nat := (x.1.1 + 1) * C + x.1.2
def cEnc (R C : Nat) (x : Cr R C) : Array Value := #[.agg #[.int .i64 (cI x), .int .i64 ((cI x : Int) + 1), .int .i64 (cJ x), .int .i64 ((cJ x : Int) + 1)]]

set_option maxRecDepth 100000 in
set_option maxHeartbeats 8000000 in
theorem corners1_in (n : Nat) (hn : 1 ≤ n) (l Bm R C gg cap cnt : Nat) (hR1 : 1 ≤ R) (hC1 : 1 ≤ C) (hR : R ≤ 7) (hC : C ≤ 7) (J Jx : List (Cr R C) → World → Prop)
    (W : World) (hJ : AbidesFrom W.heap.size J)
    (hY : ∀ pre x W1, J pre W1 → pre.length < (crA R C (R - 1)).length → YieldAt Fence.wide (n - 1) Try.prog l (cEnc R C x) W1 fun e W' =>
      (e = .returned (.bool true) ∧ J (pre ++ [x]) W' ∧ Kb Bm W1 W') ∨ (e = .returned (.bool false) ∧ Jx (pre ++ [x]) W'))
    (hBm : Bm < W.heap.size)
    (hm0 : W.cell? ⟨Bm, 0, none⟩ = some (.int .i64 R)) (hm1 : W.cell? ⟨Bm, 1, none⟩ = some (.int .i64 C)) (hm2 : W.cell? ⟨Bm, 2, none⟩ = some (.slice (some ⟨gg, 0, none⟩) cnt cap)) (h0 : J [] W) :
    CallsIn Fence.wide n Try.prog 86 #[.func (.yield l) #[] #[], .pointer (some ⟨Bm, 0, none⟩)] W fun e W' => (∃ v, e = .returned v) ∧
      ((∃ ys, ys = crA R C (R - 1) ∧ J ys W') ∨ (∃ pre, pre <+: crA R C (R - 1) ∧ Jx pre W')) := by
  have H0 := Lib.hid hm0
  have H1 := Lib.hid hm1
  have H2 := Lib.hid hm2
  have HJ := Lib.hid @hJ
  have HJ0 := Lib.hid h0
  have HY := Lib.hid hY
  clear hY h0 hJ
  refine callsIn_of_wp Try.func86 rfl trivial ?_ rfl
  simp only [Try.ntmps86, List.size_toArray, List.length_cons, List.length_nil, Nat.reduceAdd, Nat.reduceSub, Array.replicate_succ, Array.replicate_zero, List.push_toArray, List.append_toArray, List.nil_append, List.cons_append]
  gi_wp2
  clear hm0 hm1 hm2
  gi_loopw [10] (fun s wr => ∃ r : Nat, r ≤ R - 1 ∧ s = .int .i64 r ∧ J (crA R C r) wr ∧ Kb Bm W wr) (fun s _ => R - (intOf s).toNat)
  case atStart => exact ⟨0, Nat.zero_le _, rfl, HJ0.out, Nat.le_refl _, rfl⟩
  case round =>
    obtain ⟨r, hr, rfl, hJr, hkb⟩ := hrel
    by_cases hlt : r < R - 1
    · have hlt' : (r : Int) < (R : Int) - 1 := by omega
      have x1 := (hkb.cell 1).trans H1.out
      have HKR := Lib.hid hkb
      have HJR := Lib.hid hJr
      clear hkb hJr
      gi_wp2
      clear x1
      gi_loopw [16] (fun s wx => ∃ c : Nat, c ≤ C - 1 ∧ s = .int .i64 c ∧ J (crA R C r ++ crL R C r c) wx ∧ Kb Bm W wx) (fun s _ => C - (intOf s).toNat)
      case atStart => exact ⟨0, Nat.zero_le _, rfl, by simpa [crL] using HJR.out, HKR.out⟩
      case round =>
        obtain ⟨c, hc, rfl, hJc, hkc⟩ := hrel
        by_cases hlc : c < C - 1
        · have hlc' : (c : Int) < (C : Int) - 1 := by omega
          have x0 := (hkc.cell 0).trans H0.out
          have x1 := (hkc.cell 1).trans H1.out
          have x2 := (hkc.cell 2).trans H2.out
          have hBW : Bm < wr.heap.size := Nat.lt_of_lt_of_le hBm hkc.1
          have hrc : r + 1 < R ∧ c + 1 < C := by omega
          have hpl : (crA R C r ++ crL R C r c).length < (crA R C (R - 1)).length := by
            have := (crA_at (R := R) (C := C) hrc).length_le
            simp at this
            simp; omega
          have HPL := Lib.hid hpl
          have HPRE := Lib.hid (crA_at (R := R) (C := C) hrc)
          have HSN := Lib.hid (crL_succ (R := R) (C := C) hrc)
          have HKC := Lib.hid hkc
          have HJC := Lib.hid hJc
          obtain ⟨ia, eia⟩ : ∃ ia, cI (⟨(r, c), hrc⟩ : Cr R C) = ia := ⟨_, rfl⟩
          obtain ⟨ib, eib⟩ : ∃ ib, cJ (⟨(r, c), hrc⟩ : Cr R C) = ib := ⟨_, rfl⟩
          have e1 : (r : Int) * (C : Int) + c = (ia : Int) := by rw [← eia]; simp [cI]
          have e2 : ((r : Int) + 1) * (C : Int) + c = (ib : Int) := by rw [← eib]; simp [cJ]
          have HEA := Lib.hid eia
          have HEB := Lib.hid eib
          have p1 : 0 ≤ (r : Int) * (C : Int) := Int.mul_nonneg (by omega) (by omega)
          have p2 : 0 ≤ ((r : Int) + 1) * (C : Int) := Int.mul_nonneg (by omega) (by omega)
          have q1 : (r + 1) * C ≤ 49 := mul_le_49 (by omega) hC
          have q2 : r * C ≤ 49 := mul_le_49 (by omega) hC
          have ha49 : ia ≤ 98 := by rw [← eia]; unfold cI; simp only; omega
          have hb49 : ib ≤ 98 := by rw [← eib]; unfold cJ; simp only; omega
          have q3 : (r : Int) * (C : Int) ≤ 1000 := by rw [← Int.natCast_mul]; omega
          have q4 : ((r : Int) + 1) * (C : Int) ≤ 1000 := by
            have : ((r : Int) + 1) * (C : Int) = (((r + 1) * C : Nat) : Int) := by simp
            rw [this]; omega
          have HXA := Lib.hid (fun (V : World) => index_any R C cnt gg cap r c ia V e1 p1 q3 (by omega))
          have HXB := Lib.hid (fun (V : World) => index_any R C cnt gg cap ((r : Int) + 1) c ib V e2 p2 q4 (by omega))
          clear hpl hkc hJc e1 e2 p1 p2 q1 q2 q3 q4 eia eib
          gi_upto_region 6 with (fail)
          gi_cut [5, 6, 39] from 19 (fun s5 s6 s39 wx => s39 = u39 ∧ s5 = .int .i64 ia ∧ s6 = .int .i64 ib ∧ Below wr.heap.size wr wx)
          case first =>
            have hw1 : IntKind.i64.wrap ((r : Int) + 1) = (r : Int) + 1 := IntWalk.i64_in _ (by omega)
            refine wpIn_wide.2 ?_
            go_region_held3 (fun w' => w'.cell? ⟨Bm, 0, none⟩ = some (.int .i64 R) ∧ w'.cell? ⟨Bm, 1, none⟩ = some (.int .i64 C) ∧ w'.cell? ⟨Bm, 2, none⟩ = some (.slice (some ⟨gg, 0, none⟩) cnt cap)) (first | go_keep | exact ⟨y0, y1, y2⟩ | exact ⟨z0, z1, z2⟩)
              (first
                | (have ha := HBa.out; go_at_call 81; refine (HXB.out _).mono ?_; rintro e w3 ⟨rfl, hb3⟩; have HBb := Lib.hid (ha.trans (hb3.mono ha.size)); have z0 := (hb3.cell (p := ⟨Bm, 0, none⟩) (Nat.lt_of_lt_of_le hBW ha.size)).trans y0; have z1 := (hb3.cell (p := ⟨Bm, 1, none⟩) (Nat.lt_of_lt_of_le hBW ha.size)).trans y1; have z2 := (hb3.cell (p := ⟨Bm, 2, none⟩) (Nat.lt_of_lt_of_le hBW ha.size)).trans y2; clear hb3 ha)
                | (go_at_call 81; refine (HXA.out _).mono ?_; rintro e w2 ⟨rfl, hb2⟩; have hbu := hb2.undrew; have y0 := (hbu.cell (p := ⟨Bm, 0, none⟩) hBW).trans x0; have y1 := (hbu.cell (p := ⟨Bm, 1, none⟩) hBW).trans x1; have y2 := (hbu.cell (p := ⟨Bm, 2, none⟩) hBW).trans x2; have HBa := Lib.hid hbu; clear hb2 hbu))
            all_goals gi_wp2_with fail
            all_goals gi_meet
            all_goals exact ⟨rfl, rfl, rfl, HBb.out⟩
          case rest =>
            obtain ⟨rfl, rfl, rfl, hbx⟩ := hcut
            obtain ⟨wd, hwd⟩ : ∃ V, V = wc := ⟨_, rfl⟩
            subst hwd
            obtain ⟨fn, tmps, assign, body, hy, hRd⟩ := HY.out (crA R C r ++ crL R C r c) ⟨(r, c), hrc⟩ wd (J_below HJ.out HJC.out hbx) HPL.out
            have HKW := Lib.hid (HKC.out.trans (Kb.of_below hbx hBW))
            simp only [cEnc] at hy
            rw [HEA.out, HEB.out] at hy
            clear hbx x0 x1 x2
            gi_wp2
            refine hRd.mono ?_
            rintro e W' (⟨rfl, hJ', hk'⟩ | ⟨rfl, hJx'⟩)
            · have HJ' := Lib.hid hJ'
              have HK' := Lib.hid (HKW.out.trans hk')
              clear hJ' hk' hy hRd
              gi_wp2
              go_roundw
              case rel => exact ⟨c + 1, by omega, by go_num, by rw [HSN.out, ← List.append_assoc]; exact HJ'.out, HK'.out⟩
              case measure => simp [intOf]; omega
            · have HJX := Lib.hid hJx'
              clear hJx' hy hRd
              gi_wp2
              refine bodyPost_ret (results_none rfl _ _ _) rfl ?_
              exact ⟨⟨_, rfl⟩, .inr ⟨_, HPRE.out, HJX.out⟩⟩
        · have ec : c = C - 1 := by omega
          have HJE := Lib.hid (show J (crA R C (r + 1)) wr by rw [ec] at hJc; exact hJc)
          have HKC := Lib.hid hkc
          have hlc' : ¬ (c : Int) < (C : Int) - 1 := by omega
          clear ec hJc hkc
          gi_wp2
          go_roundw
          case rel => exact ⟨r + 1, by omega, by go_num, HJE.out, HKC.out⟩
          case measure => simp [intOf]; omega
    · have er : r = R - 1 := by omega
      have HJE := Lib.hid (show J (crA R C (R - 1)) wr by rw [er] at hJr; exact hJr)
      have hge : ¬ (r : Int) < (R : Int) - 1 := by omega
      clear er hJr hkb
      gi_wp2
      go_end0
      first | exact ⟨⟨_, rfl⟩, .inl ⟨_, rfl, HJE.out⟩⟩ | exact ⟨⟨_, rfl⟩, .inl HJE.out⟩ | exact .inl HJE.out

theorem corners_stops (n : Nat) (hn : 1 ≤ n) (Bm R C gg cap cnt : Nat) (hR1 : 1 ≤ R) (hC1 : 1 ≤ C) (hR : R ≤ 7) (hC : C ≤ 7) (w : World) (hBm : Bm < w.heap.size)
    (hm : w.cell? ⟨Bm, 0, none⟩ = some (.int .i64 R) ∧ w.cell? ⟨Bm, 1, none⟩ = some (.int .i64 C) ∧ w.cell? ⟨Bm, 2, none⟩ = some (.slice (some ⟨gg, 0, none⟩) cnt cap)) :
    SeqStopsK Fence.wide n Try.prog 86 #[.pointer (some ⟨Bm, 0, none⟩)] (cEnc R C) (Kb Bm) (fun ys => ys = crA R C (R - 1)) (fun pre => pre <+: crA R C (R - 1)) (crA R C (R - 1)).length w := fun l J Jx W hW hJ _ hY h0 =>
  corners1_in n hn l Bm R C gg cap cnt hR1 hC1 hR hC J Jx W hJ hY (Nat.lt_of_lt_of_le hBm hW.size)
    ((hW.cell (p := ⟨Bm, 0, none⟩) hBm).trans hm.1) ((hW.cell (p := ⟨Bm, 1, none⟩) hBm).trans hm.2.1) ((hW.cell (p := ⟨Bm, 2, none⟩) hBm).trans hm.2.2) h0

set_option maxHeartbeats 1000000 in
set_option maxRecDepth 20000 in
theorem corners_any (R C gg cnt cap : Nat) (w : World) :
    Calls Try.prog 79 #[.agg #[.int .i64 R, .int .i64 C, .slice (some ⟨gg, 0, none⟩) cnt cap]] w fun e w' =>
      e = .returned (.func (.func 86) #[] #[.pointer (some ⟨w.heap.size, 0, none⟩)]) ∧ w' = w.alloc (.cells #[.int .i64 R, .int .i64 C, .slice (some ⟨gg, 0, none⟩) cnt cap] 43) := by
  go_enter Try.func79, Try.ntmps79
  go_wp2
  go_ret
  exact ⟨rfl, rfl⟩

end Go.Proofs.Ytmhcpjekpkdaeaa
