/- The iterator of the sinks, in the program. -/
import Derived.Test.YtjllmidagcniaaaWRun
import Derived.Test.YtjllmidagcniaaaSinkM
namespace Go.Proofs.Ytjllmidagcniaaa
open Go.RowKit Go.Shelf
set_option linter.unusedVariables false

set_option maxRecDepth 100000 in
set_option maxHeartbeats 4000000 in
theorem sinks1_in (n : Nat) (hn : 1 ≤ n) (l Bm R C gg cap cnt : Nat) (hR : R ≤ 7) (hC : C ≤ 7) (Z : Nat → Int) (J Jx : List (Ix (R * C)) → World → Prop)
    (W : World) (hJ : AbidesFrom W.heap.size J)
    (hY : ∀ pre x W1, J pre W1 → pre.length < (skL R C Z (R * C)).length → YieldAt Fence.wide (n - 1) Try.prog l #[.int .i64 (x : Ix (R * C)).1] W1 fun e W' =>
      (e = .returned (.bool true) ∧ J (pre ++ [x]) W' ∧ Kb2 Bm gg W1 W') ∨ (e = .returned (.bool false) ∧ Jx (pre ++ [x]) W'))
    (hBm : Bm < W.heap.size)
    (hm0 : W.cell? ⟨Bm, 0, none⟩ = some (.int .i64 R)) (hm1 : W.cell? ⟨Bm, 1, none⟩ = some (.int .i64 C)) (hm2 : W.cell? ⟨Bm, 2, none⟩ = some (.slice (some ⟨gg, 0, none⟩) cnt cap)) (hrv : Rv W R C cnt gg cap Z) (h0 : J [] W) :
    CallsIn Fence.wide n Try.prog 100 #[.func (.yield l) #[] #[], .pointer (some ⟨Bm, 0, none⟩)] W fun e W' => (∃ v, e = .returned v) ∧
      ((∃ ys, ys = skL R C Z (R * C) ∧ J ys W') ∨ (∃ pre, pre <+: skL R C Z (R * C) ∧ Jx pre W')) := by
  have H0 := Lib.hid hm0
  have H1 := Lib.hid hm1
  have H2 := Lib.hid hm2
  have HRV := Lib.hid hrv
  have HJ := Lib.hid @hJ
  have HJ0 := Lib.hid h0
  have HY := Lib.hid hY
  have hcn := hrv.n_eq
  have h49 := mul_le_49 hR hC
  have hcn49 : cnt ≤ 49 := by omega
  have HCN := Lib.hid hcn
  clear hY h0 hJ hm0 hm1 hrv hcn
  refine callsIn_of_wp Try.func100 rfl trivial ?_ rfl
  simp only [Try.ntmps100, List.size_toArray, List.length_cons, List.length_nil, Nat.reduceAdd, Nat.reduceSub, Array.replicate_succ, Array.replicate_zero, List.push_toArray, List.append_toArray, List.nil_append, List.cons_append]
  gi_wp2
  clear hm2
  gi_loopw [7] (fun s wr => ∃ k : Nat, k ≤ cnt ∧ s = .int .i64 k ∧ J (skL R C Z k) wr ∧ Kb2 Bm gg W wr) (fun s _ => cnt - (intOf s).toNat)
  case atStart => exact ⟨0, Nat.zero_le _, rfl, HJ0.out, ⟨Nat.le_refl _, rfl⟩, Nat.le_refl _, rfl⟩
  case round =>
    obtain ⟨k, hk, rfl, hJs, hkb⟩ := hrel
    by_cases hlt : k < cnt
    · obtain ⟨i, hi'⟩ : ∃ i : Ix (R * C), i.1 = k := ⟨⟨k, by rw [← HCN.out]; exact hlt⟩, rfl⟩
      subst hi'
      have x0 := (hkb.1.cell 0).trans H0.out
      have x1 := (hkb.1.cell 1).trans H1.out
      have x2 := (hkb.1.cell 2).trans H2.out
      have HRVr := Lib.hid (HRV.out.kb hkb.2)
      have hB0 : Bm < wr.heap.size := Nat.lt_of_lt_of_le hBm hkb.1.1
      have hG0 : gg < wr.heap.size := HRVr.out.lt
      have HK := Lib.hid hkb
      have HJK := Lib.hid hJs
      have hi48 := i.2
      clear hkb hJs
      by_cases hs : nxt R C Z i = i
      · have HS := Lib.hid hs
        have HL := Lib.hid (skL_yes i hs)
        have HPRE := Lib.hid (skL_mono R C Z (a := i.1 + 1) (b := R * C) (by omega))
        have HLEN := Lib.hid (show (skL R C Z i.1).length < (skL R C Z (R * C)).length by
          have := HPRE.out.length_le
          rw [HL.out] at this
          simp at this
          omega)
        clear hs
        gi_wp2_with (first
          | (refine ⟨trivial, ?_⟩; gi_at_call 99; refine (callsIn_wide.2 (isSink_yes R C gg cap cnt hR hC Z i _ HRVr.out HS.out)).mono ?_; rintro e w2 ⟨rfl, hb2⟩; have HB2 := Lib.hid hb2; clear hb2 x0 x1 x2; obtain ⟨fn, tmps, assign, body, hy, hRd⟩ := HY.out (skL R C Z i.1) i w2 (J_below HJ.out HJK.out HB2.out) HLEN.out))
        refine hRd.mono ?_
        rintro e W' (⟨rfl, hJ', hk'⟩ | ⟨rfl, hJx'⟩)
        · have HJ' := Lib.hid hJ'
          have HK' := Lib.hid hk'
          clear hJ' hk' hy hRd
          gi_wp2
          go_roundw
          case rel => exact ⟨i.1 + 1, by omega, by go_num, by rw [HL.out]; exact HJ'.out, (HK.out.trans (Kb2.of_below HB2.out hB0 hG0)).trans HK'.out⟩
          case measure => simp [intOf]; omega
        · have HJX := Lib.hid hJx'
          clear hJx' hy hRd
          gi_wp2
          refine bodyPost_ret (results_none rfl _ _ _) rfl ?_
          exact ⟨⟨_, rfl⟩, .inr ⟨_, HPRE.out, by rw [HL.out]; exact HJX.out⟩⟩
      · have HS := Lib.hid hs
        have HL := Lib.hid (skL_no i hs)
        clear hs
        gi_wp2_with (refine ⟨trivial, ?_⟩; gi_at_call 99; refine (callsIn_wide.2 (isSink_no R C gg cap cnt hR hC Z i _ HRVr.out HS.out)).mono ?_; rintro e w2 ⟨rfl, hb2⟩; have HB2 := Lib.hid hb2; clear hb2 x0 x1 x2)
        refine ⟨fun _ h => (by cases h), ?_⟩
        gi_wp2
        go_roundw
        case rel => exact ⟨i.1 + 1, by omega, by go_num, by rw [HL.out]; exact J_below HJ.out HJK.out HB2.out, HK.out.trans (Kb2.of_below HB2.out hB0 hG0)⟩
        case measure => simp [intOf]; omega
    · obtain rfl : k = cnt := by omega
      have HJK := Lib.hid hJs
      clear hJs hkb
      gi_wp2
      go_end0
      exact ⟨⟨_, rfl⟩, .inl ⟨_, rfl, by rw [← HCN.out]; exact HJK.out⟩⟩

theorem sinks_stops (n : Nat) (hn : 1 ≤ n) (Bm R C gg cap cnt : Nat) (hR : R ≤ 7) (hC : C ≤ 7) (Z : Nat → Int) (w : World) (hBm : Bm < w.heap.size)
    (hm : w.cell? ⟨Bm, 0, none⟩ = some (.int .i64 R) ∧ w.cell? ⟨Bm, 1, none⟩ = some (.int .i64 C) ∧ w.cell? ⟨Bm, 2, none⟩ = some (.slice (some ⟨gg, 0, none⟩) cnt cap)) (hrv : Rv w R C cnt gg cap Z) :
    SeqStopsK Fence.wide n Try.prog 100 #[.pointer (some ⟨Bm, 0, none⟩)] (fun x : Ix (R * C) => #[Value.int .i64 x.1]) (Kb2 Bm gg) (fun ys => ys = skL R C Z (R * C)) (fun pre => pre <+: skL R C Z (R * C)) (skL R C Z (R * C)).length w := fun l J Jx W hW hJ _ hY h0 =>
  sinks1_in n hn l Bm R C gg cap cnt hR hC Z J Jx W hJ hY (Nat.lt_of_lt_of_le hBm hW.size)
    ((hW.cell (p := ⟨Bm, 0, none⟩) hBm).trans hm.1) ((hW.cell (p := ⟨Bm, 1, none⟩) hBm).trans hm.2.1) ((hW.cell (p := ⟨Bm, 2, none⟩) hBm).trans hm.2.2) (hrv.keep hW (Nat.le_refl _)) h0

set_option maxHeartbeats 1000000 in
set_option maxRecDepth 20000 in
theorem sinks_any (R C gg cnt cap : Nat) (w : World) :
    Calls Try.prog 81 #[.agg #[.int .i64 R, .int .i64 C, .slice (some ⟨gg, 0, none⟩) cnt cap]] w fun e w' =>
      e = .returned (.func (.func 100) #[] #[.pointer (some ⟨w.heap.size, 0, none⟩)]) ∧ w' = w.alloc (.cells #[.int .i64 R, .int .i64 C, .slice (some ⟨gg, 0, none⟩) cnt cap] 58) := by
  go_enter Try.func81, Try.ntmps81
  go_wp2
  go_ret
  exact ⟨rfl, rfl⟩

end Go.Proofs.Ytjllmidagcniaaa
