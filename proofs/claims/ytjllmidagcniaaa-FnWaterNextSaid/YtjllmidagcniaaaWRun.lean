/- The program's iterator over the run of a cell, by contract. -/
import Derived.Test.YtjllmidagcniaaaWNext
import Derived.Test.YtjllmidagcniaaaM3
namespace Go.Proofs.Ytjllmidagcniaaa
open Go.RowKit Go.Shelf
set_option linter.unusedVariables false
attribute [local go_sem] Oper.semAt_some

set_option maxHeartbeats 1000000 in
set_option maxRecDepth 20000 in
theorem isSink_yes (R C gg cap cnt : Nat) (hR : R ≤ 7) (hC : C ≤ 7) (Z : Nat → Int) (i : Ix (R * C)) (w : World) (h : Rv w R C cnt gg cap Z) (hs : nxt R C Z i = i) :
    Calls Try.prog 99 #[.agg #[.int .i64 R, .int .i64 C, .slice (some ⟨gg, 0, none⟩) cnt cap], .int .i64 i.1] w (BlPost true w) := by
  have hb := (Below.refl w.heap.size w).alloc (Nat.le_refl _) (.cells #[.int .i64 R, .int .i64 C, .slice (some ⟨gg, 0, none⟩) cnt cap] 58)
  have HN := Lib.hid (next_any R C gg cap cnt hR hC Z i _ (h.keep hb (Nat.le_refl _)))
  have HB := Lib.hid hb
  have HS := Lib.hid hs
  clear h hs hb
  go_enter Try.func99, Try.ntmps99
  go_wp2_with fail
  refine HN.out.mono ?_
  rintro e w2 ⟨rfl, hb2⟩
  rw [HS.out]
  have hx : ((i.1 : Int) == (i.1 : Int)) = true := by simp
  go_wp2
  go_ret
  exact ⟨rfl, HB.out.trans (hb2.mono HB.out.size)⟩

set_option maxHeartbeats 1000000 in
set_option maxRecDepth 20000 in
theorem isSink_no (R C gg cap cnt : Nat) (hR : R ≤ 7) (hC : C ≤ 7) (Z : Nat → Int) (i : Ix (R * C)) (w : World) (h : Rv w R C cnt gg cap Z) (hs : nxt R C Z i ≠ i) :
    Calls Try.prog 99 #[.agg #[.int .i64 R, .int .i64 C, .slice (some ⟨gg, 0, none⟩) cnt cap], .int .i64 i.1] w (BlPost false w) := by
  have hb := (Below.refl w.heap.size w).alloc (Nat.le_refl _) (.cells #[.int .i64 R, .int .i64 C, .slice (some ⟨gg, 0, none⟩) cnt cap] 58)
  have HN := Lib.hid (next_any R C gg cap cnt hR hC Z i _ (h.keep hb (Nat.le_refl _)))
  have HB := Lib.hid hb
  obtain ⟨y, ey⟩ : ∃ y, (nxt R C Z i).1 = y := ⟨_, rfl⟩
  obtain ⟨x, ex⟩ : ∃ x, i.1 = x := ⟨_, rfl⟩
  have hne : y ≠ x := fun e => hs (Subtype.ext (by rw [ey, ex, e]))
  have hx1 : ((y : Int) == (x : Int)) = false := by rw [beq_eq_false_iff_ne]; omega
  rw [ey, ex] at HN
  rw [ex]
  clear h hs hb ey ex hne
  go_enter Try.func99, Try.ntmps99
  go_wp2_with fail
  refine HN.out.mono ?_
  rintro e w2 ⟨rfl, hb2⟩
  go_wp2
  go_ret
  exact ⟨rfl, HB.out.trans (hb2.mono HB.out.size)⟩

def RunPost (R C gg cnt cap i : Nat) (w : World) (e : Ending) (w' : World) : Prop :=
  e = .returned (.func (.func 98) #[] #[.pointer (some ⟨w.heap.size + 1, 0, none⟩), .pointer (some ⟨w.heap.size, 0, none⟩)]) ∧
    w' = (w.alloc (.cells #[.int .i64 R, .int .i64 C, .slice (some ⟨gg, 0, none⟩) cnt cap] 58)).alloc (.cells #[.int .i64 i] 3)

set_option maxHeartbeats 1000000 in
set_option maxRecDepth 20000 in
theorem run_any (R C gg cnt cap i : Nat) (w : World) :
    Calls Try.prog 79 #[.agg #[.int .i64 R, .int .i64 C, .slice (some ⟨gg, 0, none⟩) cnt cap], .int .i64 i] w (RunPost R C gg cnt cap i w) := by
  go_enter Try.func79, Try.ntmps79
  go_wp2
  go_ret
  exact ⟨rfl, rfl⟩

/-- blocks Bm and gg lie as they lay -/
def Kb2 (Bm gg : Nat) (W W' : World) : Prop := Kb Bm W W' ∧ Kb gg W W'
theorem Kb2.trans {Bm gg : Nat} {A B C : World} (h : Kb2 Bm gg A B) (k : Kb2 Bm gg B C) : Kb2 Bm gg A C := ⟨h.1.trans k.1, h.2.trans k.2⟩
theorem kb2_b {Bm gg : Nat} {w : World} (h1 : Bm < w.heap.size) (h2 : gg < w.heap.size) (W : World) (l : Nat) (o o' : Obj) (hl : w.heap.size ≤ l) (h : W.heap[l]? = some o) (ha : o.isCells = false) (hb : o.isWalk = false) : Kb2 Bm gg W (W.putObj l o') :=
  ⟨kb_b h1 W l o o' hl h ha hb, kb_b h2 W l o o' hl h ha hb⟩
theorem Kb2.of_below {Bm gg n : Nat} {A B : World} (h : Below n A B) (h1 : Bm < n) (h2 : gg < n) : Kb2 Bm gg A B := ⟨Kb.of_below h h1, Kb.of_below h h2⟩
theorem Rv.kb {w w' : World} {R C n gg cap : Nat} {Z : Nat → Int} (h : Rv w R C n gg cap Z) (k : Kb gg w w') : Rv w' R C n gg cap Z :=
  ⟨h.n_eq, Nat.lt_of_lt_of_le h.lt k.1, h.le, fun i hi => (k.cell i).trans (h.cell i hi)⟩

set_option maxRecDepth 100000 in
set_option maxHeartbeats 4000000 in
theorem run1_in (n : Nat) (hn : 1 ≤ n) (l Bi Bm R C gg cap cnt : Nat) (hR : R ≤ 7) (hC : C ≤ 7) (Z : Nat → Int) (hZ : ∀ x, x < R * C → 0 ≤ Z x ∧ Z x ≤ 99) (i : Ix (R * C)) (J Jx : List (Ix (R * C)) → World → Prop)
    (W : World) (hJ : AbidesFrom W.heap.size J)
    (hY : ∀ pre x W1, J pre W1 → pre.length < (runL R C Z i).length → YieldAt Fence.wide (n - 1) Try.prog l #[.int .i64 (x : Ix (R * C)).1] W1 fun e W' =>
      (e = .returned (.bool true) ∧ J (pre ++ [x]) W' ∧ Kb2 Bm gg W1 W') ∨ (e = .returned (.bool false) ∧ Jx (pre ++ [x]) W'))
    (hBm : Bm < W.heap.size) (hi : W.cell? ⟨Bi, 0, none⟩ = some (.int .i64 i.1))
    (hm0 : W.cell? ⟨Bm, 0, none⟩ = some (.int .i64 R)) (hm1 : W.cell? ⟨Bm, 1, none⟩ = some (.int .i64 C)) (hm2 : W.cell? ⟨Bm, 2, none⟩ = some (.slice (some ⟨gg, 0, none⟩) cnt cap)) (hrv : Rv W R C cnt gg cap Z) (h0 : J [] W) :
    CallsIn Fence.wide n Try.prog 98 #[.func (.yield l) #[] #[], .pointer (some ⟨Bi, 0, none⟩), .pointer (some ⟨Bm, 0, none⟩)] W fun e W' => (∃ v, e = .returned v) ∧
      ((∃ ys, ys = runL R C Z i ∧ J ys W') ∨ (∃ pre, pre <+: runL R C Z i ∧ Jx pre W')) := by
  have HRUN := Lib.hid (runL_is hZ i)
  obtain ⟨L, eL⟩ : ∃ L, runL R C Z i = L := ⟨_, rfl⟩
  rw [eL] at hY HRUN ⊢
  have H0 := Lib.hid hm0
  have H1 := Lib.hid hm1
  have H2 := Lib.hid hm2
  have HRV := Lib.hid hrv
  have HJ := Lib.hid @hJ
  have HJ0 := Lib.hid h0
  have HY := Lib.hid hY
  have HZ := Lib.hid hZ
  clear hY h0 hJ eL hm0 hm1 hm2 hrv hZ
  refine callsIn_of_wp Try.func98 rfl trivial ?_ rfl
  simp only [Try.ntmps98, List.size_toArray, List.length_cons, List.length_nil, Nat.reduceAdd, Nat.reduceSub, Array.replicate_succ, Array.replicate_zero, List.push_toArray, List.append_toArray, List.nil_append, List.cons_append]
  gi_wp2
  clear hi
  gi_loopw [4] (fun s wr => ∃ (pre rest : List (Ix (R * C))) (j : Ix (R * C)), s = .int .i64 j.1 ∧ L = pre ++ rest ∧ IsRun R C Z j rest ∧ J pre wr ∧ Kb2 Bm gg W wr) (fun s _ => (Z (intOf s).toNat).toNat)
  case atStart => exact ⟨[], L, i, rfl, rfl, HRUN.out, HJ0.out, ⟨Nat.le_refl _, rfl⟩, Nat.le_refl _, rfl⟩
  case round =>
    obtain ⟨pre, rest, j, rfl, hL, hrun, hJs, hk⟩ := hrel
    have hlen : pre.length < L.length := by
      rw [hL, List.length_append]
      rcases hrun.cons with ⟨_, e⟩ | ⟨_, t, e, _⟩ <;> rw [e] <;> simp
    obtain ⟨fn, tmps, assign, body, hy, hRd⟩ := HY.out pre j wr hJs hlen
    have HL := Lib.hid hL
    have HK := Lib.hid hk
    have HRN := Lib.hid hrun
    clear hL hk hrun hlen hJs
    gi_wp2
    refine hRd.mono ?_
    rintro e W' (⟨rfl, hJ', hk'⟩ | ⟨rfl, hJx'⟩)
    · have HJ' := Lib.hid hJ'
      have HK' := Lib.hid (HK.out.trans hk')
      have x0 := (HK'.out.1.cell 0).trans H0.out
      have x1 := (HK'.out.1.cell 1).trans H1.out
      have x2 := (HK'.out.1.cell 2).trans H2.out
      have HRV' := Lib.hid (HRV.out.kb HK'.out.2)
      have hB1 : Bm < W'.heap.size := Nat.lt_of_lt_of_le hBm HK'.out.1.1
      have hG1 : gg < W'.heap.size := HRV'.out.lt
      clear hJ' hk' hy hRd
      rcases HRN.out.cons with ⟨hs, hr⟩ | ⟨hs, t, hr, hrt⟩
      · have HS := Lib.hid hs
        have HR := Lib.hid hr
        clear hs hr
        gi_wp2_with (refine ⟨trivial, ?_⟩; gi_at_call 99; refine (callsIn_wide.2 (isSink_yes R C gg cap cnt hR hC Z j _ HRV'.out HS.out)).mono ?_; rintro e w2 ⟨rfl, hb2⟩; have HB2 := Lib.hid hb2; clear hb2 x0 x1 x2)
        refine bodyPost_ret (results_none rfl _ _ _) rfl ?_
        exact ⟨⟨_, rfl⟩, .inl ⟨_, rfl, by rw [HL.out, HR.out]; exact J_below HJ.out HJ'.out HB2.out⟩⟩
      · have HS := Lib.hid hs
        have HR := Lib.hid hr
        have HRT := Lib.hid hrt
        have HLOW := Lib.hid (nxt_low R C Z j hs)
        clear hs hr hrt
        gi_wp2_with (first
          | (refine ⟨trivial, ?_⟩; gi_at_call 99; refine (callsIn_wide.2 (isSink_no R C gg cap cnt hR hC Z j _ HRV'.out HS.out)).mono ?_; rintro e w2 ⟨rfl, hb2⟩; have HB2 := Lib.hid hb2; clear hb2 x0 x1 x2; have HK2 := Lib.hid (Kb2.of_below HB2.out hB1 hG1); have x0 := (HK2.out.1.cell 0).trans ((HK'.out.1.cell 0).trans H0.out); have x1 := (HK2.out.1.cell 1).trans ((HK'.out.1.cell 1).trans H1.out); have x2 := (HK2.out.1.cell 2).trans ((HK'.out.1.cell 2).trans H2.out))
          | (refine ⟨trivial, ?_⟩; gi_at_call 75; refine (callsIn_wide.2 (next_any R C gg cap cnt hR hC Z j _ (HRV'.out.kb HK2.out.2))).mono ?_; rintro e w3 ⟨rfl, hb3⟩; have HB3 := Lib.hid (HB2.out.trans (hb3.mono HB2.out.size)); clear hb3 x0 x1 x2))
        go_roundw
        case rel => exact ⟨pre ++ [j], t, nxt R C Z j, rfl, by rw [HL.out, HR.out]; simp, HRT.out, J_below HJ.out HJ'.out HB3.out, HK'.out.trans (Kb2.of_below HB3.out hB1 hG1)⟩
        case measure =>
          have h1 := HLOW.out
          have h2 := HZ.out _ (nxt R C Z j).2
          simp [intOf]; omega
    · have HJX := Lib.hid hJx'
      clear hJx' hy hRd
      gi_wp2
      go_end0
      exact ⟨⟨_, rfl⟩, .inr ⟨_, by
        rw [HL.out]
        rcases HRN.out.cons with ⟨_, e⟩ | ⟨_, t, e, _⟩
        · rw [e]; exact List.prefix_refl _
        · rw [e]; exact ⟨t, by simp⟩, HJX.out⟩⟩

end Go.Proofs.Ytjllmidagcniaaa
