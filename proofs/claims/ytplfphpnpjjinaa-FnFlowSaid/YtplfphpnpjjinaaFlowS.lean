/- The model's flow. -/
import Derived.Test.YtplfphpnpjjinaaFlowM
import Derived.Test.YtplfphpnpjjinaaBasS
import Derived.StillTailTactics
namespace Go.Proofs.Ytplfphpnpjjinaa
open Go.RowKit
set_option linter.unusedVariables false

set_option maxHeartbeats 8000000 in
set_option maxRecDepth 100000 in
theorem specWaterFlow_any (v : Value) (lo hi : Nat) (g : G) (w : World) (hv : RdM lo hi w v g) (hh : hi ≤ w.heap.size) (b : Bool) (hbb : b = true ↔ g.Valid) :
    Calls Try.prog 37 #[v] w (LgPost b g.flW g.flZ w) := by
  have HC := Lib.hid (specValid_any v lo hi g w hv)
  by_cases h : g.Valid
  case neg =>
    have HB := Lib.hid (G.vB_no h)
    have HA := Lib.hid (G.flW_no h)
    obtain rfl : b = false := by cases b; rfl; exact absurd (hbb.1 rfl) h
    clear hv h hbb
    go_enter Try.func37, Try.ntmps37
    go_wp2_with fail
    refine HC.out.mono ?_
    rintro e w1 ⟨rfl, n1, rfl⟩
    rw [HB.out]
    have HO := Lib.hid (show OwI w.heap.size ((w.drewN n1).alloc (.cells #[] 3)).heap.size ((w.drewN n1).alloc (.cells #[] 3)) (.slice (some ⟨w.heap.size, 0, none⟩) 0 0) 0 g.flZ from
      Or.inr ⟨w.heap.size, 0, 0, fun _ => .int .i64 0, rfl, Nat.le_refl _, by simp, ⟨#[], heap_alloc_new (w.drewN n1) _, rfl, fun i hi => by omega⟩, Nat.le_refl _, Nat.le_refl _, by omega, fun i hi => by omega, fun i hi => by omega⟩)
    go_wp2
    go_ret2
    exact ⟨_, rfl, ⟨_, _, _, rfl⟩, by rw [HA.out]; exact HO.out, (below_drewN (Below.refl _ _) _).alloc (Nat.le_refl _) _⟩
  case pos =>
    have HB := Lib.hid (G.vB_yes h)
    have HA := Lib.hid (G.flW_yes h)
    have HZ := Lib.hid (fun x (hx : x < g.n * g.len 0) => flat_okW h hx)
    obtain rfl : b = true := hbb.2 h
    have h49 := mul_le_49 h.1.2 h.2.1.2
    have HFR := Lib.hid (G.flZ_range g h49)
    obtain ⟨b0, off0, cap0, rfl⟩ := hv.shapeW h.1.1
    have HV := Lib.hid hv
    have HH := Lib.hid h
    have HCE := Lib.hid (fun n => l2Cells_any _ lo hi g (w.drewN n) (hv.same (fun _ _ _ => rfl)) h)
    have HRN := Lib.hid (fun (i : Ix (g.n * g.len 0)) (W : World) (hR : RdM lo hi W (.slice (some ⟨b0, off0, none⟩) g.n cap0) g) (hs : hi ≤ W.heap.size) => l2Run_any _ lo hi g g.n (g.len 0) rfl rfl i W hR hs h (fun x hx => flat_okW h hx))
    have HRL := Lib.hid (fun (i : Ix (g.n * g.len 0)) => runL_len g.n (g.len 0) g.flat i)
    have HFL := Lib.hid (fun k j => flN_le g.n (g.len 0) g.flat k j)
    obtain ⟨N, eN⟩ : ∃ N, g.n * g.len 0 = N := ⟨_, rfl⟩
    have EN := Lib.hid eN
    rw [eN] at h49
    have HZE := Lib.hid (show g.flZ = fun j => ((flN g.n (g.len 0) g.flat N j : Nat) : Int) by funext j; unfold G.flZ; rw [eN])
    clear hv h hbb eN
    have hmk := run_make_row' (P := Try.prog) 33 3 (.int .i64 0) 8 Try.underlying33 Try.infoI rfl .i64 .i64 N (by omega) (by omega)
    go_enter Try.func37, Try.ntmps37
    go_wp2_with fail
    refine HC.out.mono ?_
    rintro e w1 ⟨rfl, n1, rfl⟩
    rw [HB.out]
    go_wp2_with fail
    refine (HCE.out n1).mono ?_
    rintro e w1 ⟨rfl, rfl⟩
    rw [EN.out]
    have hrow0 := (World.rowIs_made (w.drewN n1) (.int .i64 0) N 3).congr (g := flF g.n (g.len 0) g.flat 0 []) (fun j _ => (flF_start j).symm)
    have hbel0 : Below w.heap.size w ((w.drewN n1).alloc (.cells (madeCells #[.int .i64 0] N) 3)) := (below_drewN (Below.refl _ _) n1).alloc (Nat.le_refl _) _
    have HR0 := Lib.hid hrow0
    have HB0 := Lib.hid hbel0
    clear hrow0 hbel0
    go_wp2
    clear hmk
    go_loopw [5, 6, 7] (fun x5 _ _ wr => ∃ k : Nat, k ≤ N ∧ x5 = .int .i64 k ∧ wr.rowIs w.heap.size 3 N (flF g.n (g.len 0) g.flat k []) ∧ Below w.heap.size w wr) (fun x5 _ _ _ => N - (intOf x5).toNat)
    case atStart => exact ⟨0, Nat.zero_le _, rfl, HR0.out, HB0.out⟩
    case round =>
      obtain ⟨k, hk, rfl, hrow, hb⟩ := hrel
      have HROW := Lib.hid hrow
      have HBK := Lib.hid hb
      have hlt0 := hrow.lt
      have hsz := hb.size
      have HRD := Lib.hid (HV.out.same (SameIn.below hb hh))
      clear hrow hb
      by_cases hlt : k < N
      case pos =>
        have hlt' : (k : Int) < N := by omega
        obtain ⟨i, hi'⟩ : ∃ i : Ix (g.n * g.len 0), i.1 = k := ⟨⟨k, by rw [EN.out]; exact hlt⟩, rfl⟩
        have HNI := Lib.hid (HRN.out i wr HRD.out (by omega))
        rw [hi'] at HNI
        have HI := Lib.hid hi'
        have HLL := Lib.hid (HRL.out i)
        clear hi'
        go_wp2_with fail
        refine HNI.out.mono ?_
        rintro e w3 ⟨r, rfl, ⟨a, c, rfl⟩, hli, hb3⟩
        have HB3 := Lib.hid (HBK.out.trans (hb3.mono hsz))
        have HROW3 := Lib.hid (HROW.out.of_block (hb3.block _ hlt0))
        have HLI := Lib.hid (hli.rdI (by rw [EN.out]; exact h49))
        have hs3 := hb3.size
        have HFX := Lib.hid (fun (W : World) (f : Nat → Value) (h : W.rowIs w.heap.size 3 N f) (e : ∀ j, f j = flF g.n (g.len 0) g.flat k (runL g.n (g.len 0) g.flat i) j) => show W.rowIs w.heap.size 3 N (flF g.n (g.len 0) g.flat (k + 1) []) from h.congr (fun j _ => by rw [e j, ← HI.out]; exact flF_next i j))
        clear hli hb3 HNI
        obtain ⟨l, el⟩ : ∃ l, runL g.n (g.len 0) g.flat i = l := ⟨_, rfl⟩
        rw [el] at HLI HLL HFX ⊢
        have hl100 := HLL.out
        clear el
        generalize wr = wo at *
        go_wp2
        go_loopw [7] (fun x7 wr2 => ∃ m : Nat, m ≤ l.length ∧ x7 = .int .i64 m ∧ wr2.rowIs w.heap.size 3 N (flF g.n (g.len 0) g.flat k (l.take m)) ∧ RdI wo.heap.size w3.heap.size wr2 (.slice a l.length c) l.length (ixZ l) ∧ Below w.heap.size w wr2) (fun x7 _ => l.length - (intOf x7).toNat)
        case atStart => exact ⟨0, Nat.zero_le _, rfl, HROW3.out, HLI.out, HB3.out⟩
        case round =>
          obtain ⟨m, hm, rfl, hrow, hli, hb⟩ := hrel
          by_cases hml : m < l.length
          case pos =>
            have hml' : (m : Int) < l.length := by omega
            obtain ⟨ao, cp, b, off, e1, i2, i3, i4, i5, i6⟩ := hli
            have q1 := i6 m hml
            rw [ixZ_at l hml] at q1
            simp only [Value.slice.injEq] at e1
            obtain ⟨rfl, _, rfl⟩ := e1
            obtain ⟨rfl, hb1, hb2⟩ := i5 (by omega)
            have HLI2 := Lib.hid (show RdI wo.heap.size w3.heap.size wr (.slice (some ⟨b, off, none⟩) l.length c) l.length (ixZ l) from ⟨_, _, b, off, rfl, i2, i3, i4, i5, i6⟩)
            have HS := Lib.hid (show l.take (m + 1) = l.take m ++ [l[m]] from List.take_succ_eq_append_getElem hml)
            obtain ⟨x, ex⟩ : ∃ x, l[m] = x := ⟨_, rfl⟩
            rw [ex] at q1 HS
            have hxc : x.1 < N := by rw [← EN.out]; exact x.2
            have hcl := cntL_le (l.take m) x.1
            have htl : (l.take m).length ≤ 100 := by rw [List.length_take]; omega
            have hfl := HFL.out k x.1
            obtain ⟨q, hq2⟩ : ∃ q, flN g.n (g.len 0) g.flat k x.1 + cntL (l.take m) x.1 = q := ⟨_, rfl⟩
            have c3 : wr.cell? ⟨w.heap.size, x.1, none⟩ = some (.int .i64 q) := by rw [hrow.cell hxc]; unfold flF; rw [hq2]
            have f1 : wr.frozen? ⟨w.heap.size, x.1, none⟩ = false := hrow.frozen x.1
            have R1 := Lib.hid ((hrow.drew.set x.1 (.int .i64 ((q + 1 : Nat) : Int))).congr (g := flF g.n (g.len 0) g.flat k (l.take m ++ [x])) (fun j _ => flF_put k (l.take m) x q hq2 j))
            have HB2 := Lib.hid hb
            have hq5 : q ≤ 5000 := by omega
            obtain ⟨xi, exi⟩ : ∃ xi, x.1 = xi := ⟨_, rfl⟩
            rw [exi] at c3 f1 R1 hxc q1
            have hx' : (xi : Int) < N := by omega
            have hw : IntKind.i64.wrap ((q : Int) + 1) = ((q + 1 : Nat) : Int) := by rw [IntWalk.i64_in _ (by omega)]; omega
            have hbne : b ≠ w.heap.size := by omega
            clear hrow hb hq2 exi hcl hfl htl ex i4 i5 i6 HLL
            go_wp2
            go_still_tail 14, (by kernel_rfl)
            change wpList _ _ _ _ _ wr.drew
            go_wp2
            go_roundw
            case rel => exact ⟨m + 1, by omega, by go_num, by rw [HS.out]; exact R1.out, HLI2.out.same (fun kk h1 h2 => Below.heap_setCell wr.drew _ _ kk (by simp; omega)), (show Below w.heap.size w wr.drew from below_drewN HB2.out 1).setCell (p := ⟨w.heap.size, xi, none⟩) (Nat.le_refl _) _⟩
            case measure => simp [intOf]; omega
          case neg =>
            have ek : m = l.length := by omega
            subst ek
            have R2 := Lib.hid (HFX.out _ _ hrow (fun j => by rw [List.take_length]))
            have HB2 := Lib.hid hb
            have hge : ¬ (l.length : Int) < l.length := by omega
            clear hrow hli hb
            go_wp2
            go_roundw
            case rel => exact ⟨k + 1, by omega, by go_num, R2.out, HB2.out⟩
            case measure => simp [intOf]; omega
      case neg =>
        have ek : k = N := by omega
        have hge : ¬ (k : Int) < N := by omega
        have HO := Lib.hid (show OwI w.heap.size wr.heap.size wr (.slice (some ⟨w.heap.size, 0, none⟩) N N) g.flW g.flZ from by
          rw [HA.out, EN.out, HZE.out]
          refine Or.inr ⟨w.heap.size, N, N, _, rfl, Nat.le_refl _, hlt0, HROW.out, Nat.le_refl _, Nat.le_refl _, by omega, fun j hj => by unfold flF; rw [cntL_nil, ek]; rfl, fun j _ => ?_⟩
          have h1 := HFR.out j
          rw [HZE.out] at h1
          dsimp only at h1
          show -9223372036854775808 ≤ ((flN g.n (g.len 0) g.flat N j : Nat) : Int) ∧ ((flN g.n (g.len 0) g.flat N j : Nat) : Int) ≤ 9223372036854775807
          omega)
        clear ek
        go_wp2
        go_ret2
        exact ⟨_, rfl, ⟨_, _, _, rfl⟩, HO.out, HBK.out⟩

end Go.Proofs.Ytplfphpnpjjinaa
