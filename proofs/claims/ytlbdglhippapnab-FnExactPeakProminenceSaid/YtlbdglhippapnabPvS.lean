/- The passes from a cell to all others, in the model. -/
import Derived.Test.YtlbdglhippapnabPvM
import Derived.Test.YtlbdglhippapnabPkS
import Derived.Deep.RegionLaw
import Derived.BigRegion
import Derived.BigQuiet
namespace Go.Proofs.Ytlbdglhippapnab
open Go.RowKit
set_option linter.unusedVariables false

def ivF (f : Nat → Int) (j : Nat) : Value := .int .i64 (f j)
theorem ivF_set {w : World} {b N : Nat} {f : Nat → Int} (h : w.rowIs b 3 N (ivF f)) (y : Nat) (v : Int) : (w.setCell ⟨b, y, none⟩ (.int .i64 v)).rowIs b 3 N (ivF (updZ f y v)) :=
  (h.set y (.int .i64 v)).congr (fun j _ => by
    unfold ivF updZ
    by_cases e : j = y <;> simp [e])

/-- what the passes leave -/
def PvPost (R C : Nat) (Z : Nat → Int) (a : Ix (R * C)) (w : World) (e : Ending) (w' : World) : Prop :=
  ∃ b, e = .returned (.slice (some ⟨b, 0, none⟩) (R * C) (R * C)) ∧ w.heap.size ≤ b ∧ w'.rowIs b 3 (R * C) (ivF (psV R C Z a)) ∧ Below w.heap.size w w'

set_option maxHeartbeats 20000000 in
set_option maxRecDepth 100000 in
theorem l4Passes_any (v : Value) (lo hi : Nat) (g : G) (R C : Nat) (eR : g.n = R) (eC : g.len 0 = C) (a : Ix (R * C)) (w : World) (hv : RdM lo hi w v g) (hh : hi ≤ w.heap.size) (h : g.Valid) :
    Calls Try.prog 45 #[v, .int .i64 a.1] w (PvPost R C g.flat a w) := by
  have hRC : R * C = g.n * g.len 0 := by rw [eR, eC]
  have h49 : R * C ≤ 49 := mul_le_49 (R := R) (C := C) (by have := h.1.2; omega) (by have := h.2.1.2; omega)
  have HCE := Lib.hid (l2Cells_any v lo hi g w hv h)
  have HNR := Lib.hid (fun (i : Ix (R * C)) (W : World) (hW : RdM lo hi W v g) (hs : hi ≤ W.heap.size) => l2Near_any v lo hi g R C eR eC i W hW hs h)
  have HHT := Lib.hid (fun (i : Nat) (hi' : i < R * C) (W : World) (hW : RdM lo hi W v g) => l2Height_any v lo hi g i W hW h (by omega))
  have HZ := Lib.hid (show ∀ x, x < R * C → 0 ≤ g.flat x ∧ g.flat x ≤ 99 from fun x hx => flat_okW h (by omega))
  have HV := Lib.hid hv
  have HDN := Lib.hid (show ∀ x : Ix (R * C), rxR R C g.flat (rx0 g.flat a.1) (R * C) x.1 = psV R C g.flat a x.1 from fun x => rxR_done (fun y hy => flat_okW h (by omega)) a x)
  obtain ⟨b0, off0, cap0, rfl⟩ := hv.shapeW h.1.1
  obtain ⟨Z, eZ⟩ : ∃ Z, g.flat = Z := ⟨_, rfl⟩
  rw [← hRC] at HCE
  rw [eZ] at HHT HZ HDN ⊢
  have hax := a.2
  obtain ⟨ax, eax⟩ : ∃ x, a.1 = x := ⟨_, rfl⟩
  have HAX := Lib.hid eax
  rw [eax] at hax HDN ⊢
  obtain ⟨N, eN⟩ : ∃ N, R * C = N := ⟨_, rfl⟩
  have EN := Lib.hid eN
  have HCE2 := Lib.hid (show Calls Try.prog 36 #[.slice (some ⟨b0, off0, none⟩) g.n cap0] w (fun e w' => e = .returned (.int .i64 (N : Nat)) ∧ w = w') from by rw [← eN]; exact HCE.out)
  have hNa : ax < N := by omega
  have hN49 : N ≤ 49 := by omega
  clear hv h eR eC hRC eZ eax hax h49 eN HCE
  have hmk := run_make_row' (P := Try.prog) 24 3 (.int .i64 0) 8 Try.underlying24 Try.infoI rfl .i64 .i64 N (by omega) (by omega)
  have HR0 := Lib.hid ((World.rowIs_made w (.int .i64 0) N 3).congr (g := fun j => if j < 0 then .int .i64 (-1) else .int .i64 0) (fun j _ => by simp))
  have HB0 := Lib.hid ((Below.refl w.heap.size w).alloc (Nat.le_refl _) (.cells (madeCells #[.int .i64 0] N) 3))
  go_enter Try.func45, Try.ntmps45
  go_wp2_with fail
  refine HCE2.out.mono ?_
  rintro e w1 ⟨rfl, rfl⟩
  go_wp2
  clear hmk
  go_loopw [6] (fun s wr => ∃ k : Nat, k ≤ N ∧ s = .int .i64 k ∧ wr.rowIs w.heap.size 3 N (fun j => if j < k then .int .i64 (-1) else .int .i64 0) ∧ Below w.heap.size w wr) (fun s _ => N - (intOf s).toNat)
  case atStart => exact ⟨0, Nat.zero_le _, rfl, HR0.out, HB0.out⟩
  case round =>
    obtain ⟨k, hk, rfl, hrow, hb⟩ := hrel
    clear HR0 HB0
    have HROW := Lib.hid hrow
    have HB := Lib.hid hb
    by_cases hlt : k < N
    case pos =>
      have hlt' : (k : Int) < N := by omega
      have c1 := hrow.cell hlt
      have f1 : wr.frozen? ⟨w.heap.size, k, none⟩ = false := hrow.frozen k
      simp only [Nat.lt_irrefl, if_false] at c1
      have R1 := Lib.hid ((hrow.set k (.int .i64 (-1))).congr (g := fun j => if j < k + 1 then .int .i64 (-1) else .int .i64 0) (fun j hj => by
        by_cases e : j = k
        · subst e; simp
        · by_cases e2 : j < k
          · simp [e, e2, Nat.lt_succ_of_lt e2]
          · have : ¬ j < k + 1 := by omega
            simp [e, e2, this]))
      have B1 := Lib.hid (hb.setCell (p := ⟨w.heap.size, k, none⟩) (Nat.le_refl _) (.int .i64 (-1)))
      clear hrow hb
      go_wp2
      go_roundw
      case rel => exact ⟨k + 1, by omega, by go_num, R1.out, B1.out⟩
      case measure => simp [intOf]; omega
    case neg =>
      have ek : k = N := by omega
      have hge : ¬ (k : Int) < N := by omega
      have c1 := hrow.cell hNa
      have f1 : wr.frozen? ⟨w.heap.size, ax, none⟩ = false := hrow.frozen ax
      rw [if_pos (show ax < k by omega)] at c1
      have hNa' : (ax : Int) < N := by omega
      have HHA := Lib.hid (HHT.out ax (by rw [EN.out]; exact hNa) wr (HV.out.same (SameIn.below hb hh)))
      obtain ⟨za, eza⟩ : ∃ z, Z ax = z := ⟨_, rfl⟩
      rw [eza] at HHA
      have R1 := Lib.hid (fun m : Nat => show ((wr.drewN m).setCell ⟨w.heap.size, ax, none⟩ (.int .i64 za)).rowIs w.heap.size 3 N (ivF (rxR R C Z (rx0 Z ax) 0)) from
        ((hrow.of_block (w' := wr.drewN m) rfl).set ax (.int .i64 za)).congr (fun j hj => by
          show _ = ivF (rx0 Z ax) j
          unfold ivF rx0
          by_cases e : j = ax
          · subst e; simp [eza]
          · simp [e, show j < k by omega]))
      have B1 := Lib.hid (fun m : Nat => (below_drewN hb m).setCell (p := ⟨w.heap.size, ax, none⟩) (Nat.le_refl _) (.int .i64 za))
      clear hrow hb ek eza hlt
      go_wp2_with fail
      refine HHA.out.mono ?_
      rintro e w2 ⟨rfl, m0, rfl⟩
      go_wp2
      have R2 := Lib.hid (R1.out m0)
      have B2 := Lib.hid (B1.out m0)
      generalize hV2 : (wr.drewN m0).setCell ⟨w.heap.size, ax, none⟩ (.int .i64 za) = V2 at R2 B2 ⊢
      clear hV2 R1 B1 c1 f1 HROW HB HHA
      obtain ⟨wo, rfl⟩ : ∃ wo : World, wo = wr := ⟨_, rfl⟩
      go_loopw [7] (fun s wr => ∃ r : Nat, r ≤ N ∧ s = .int .i64 r ∧ wr.rowIs w.heap.size 3 N (ivF (rxR R C Z (rx0 Z ax) r)) ∧ Below w.heap.size w wr) (fun s _ => N - (intOf s).toNat)
      case atStart => exact ⟨0, Nat.zero_le _, rfl, R2.out, B2.out⟩
      case round =>
        obtain ⟨r, hr, rfl, hrow, hb⟩ := hrel
        clear R2 B2
        have HROW := Lib.hid hrow
        have HB := Lib.hid hb
        clear hrow hb
        by_cases hlt : r < N
        case neg =>
          have er : r = N := by omega
          have hge : ¬ (r : Int) < N := by omega
          have HE := Lib.hid (show wr.rowIs w.heap.size 3 (R * C) (ivF (psV R C Z a)) from by
            rw [EN.out]
            refine HROW.out.congr (fun j hj => ?_)
            unfold ivF
            have := HDN.out ⟨j, by rw [EN.out]; exact hj⟩
            rw [er, ← EN.out]
            exact congrArg (Value.int .i64) this)
          clear er hlt
          go_wp2
          go_ret
          exact ⟨w.heap.size, by rw [EN.out] <;> rfl, Nat.le_refl _, HE.out, HB.out⟩
        case pos =>
          have hlt' : (r : Int) < N := by omega
          obtain ⟨f0, ef0⟩ : ∃ f, rxR R C Z (rx0 Z ax) r = f := ⟨_, rfl⟩
          have HSUC := Lib.hid (show rxR R C Z (rx0 Z ax) (r + 1) = rxN R C Z f0 (R * C) by rw [← ef0]; rfl)
          rw [ef0] at HROW
          clear ef0 hlt
          go_wp2
          obtain ⟨wp, rfl⟩ : ∃ wp : World, wp = wr := ⟨_, rfl⟩
          go_loopw [8] (fun s wr => ∃ k : Nat, k ≤ N ∧ s = .int .i64 k ∧ wr.rowIs w.heap.size 3 N (ivF (rxN R C Z f0 k)) ∧ Below w.heap.size w wr) (fun s _ => N - (intOf s).toNat)
          case atStart => exact ⟨0, Nat.zero_le _, rfl, HROW.out, HB.out⟩
          case round =>
            obtain ⟨i, hi, rfl, hrow, hb⟩ := hrel
            clear HROW HB
            have HROW := Lib.hid hrow
            have HB := Lib.hid hb
            have hsz := hb.size
            have hblt := hrow.lt
            clear hrow hb
            by_cases hlt : i < N
            case neg =>
              have ei : i = N := by omega
              have hge : ¬ (i : Int) < N := by omega
              have HRN := Lib.hid (show wr.rowIs w.heap.size 3 N (ivF (rxR R C Z (rx0 Z ax) (r + 1))) by rw [HSUC.out, EN.out]; have h := HROW.out; rw [ei] at h; exact h)
              clear ei hlt
              go_wp2
              go_roundw
              case rel => exact ⟨r + 1, by omega, by go_num, HRN.out, HB.out⟩
              case measure => simp [intOf]; omega
            case pos =>
              have hlt' : (i : Int) < N := by omega
              obtain ⟨y, hy⟩ : ∃ y : Ix (R * C), y.1 = i := ⟨⟨i, by rw [EN.out]; exact hlt⟩, rfl⟩
              have HY := Lib.hid hy
              have HNI := Lib.hid (HNR.out y wr (HV.out.same (SameIn.below HB.out hh)) (by omega))
              rw [hy] at HNI
              have HSI := Lib.hid (show rxN R C Z f0 (i + 1) = rxL Z i (near R C y 4) (rxN R C Z f0 i) by rw [← hy]; exact rxN_succ y)
              have hl4 := near_len R C y 4
              clear hy
              go_wp2_with fail
              refine HNI.out.mono ?_
              rintro e w3 ⟨rv, rfl, ⟨ao, c, rfl⟩, hnr, hb3⟩
              have HB3 := Lib.hid (HB.out.trans (hb3.mono hsz))
              have HR3 := Lib.hid (HROW.out.of_block (hb3.block _ hblt))
              have HNL := Lib.hid hnr
              have hs3 := hb3.size
              clear hnr hb3
              obtain ⟨l, el⟩ : ∃ l, near R C y 4 = l := ⟨_, rfl⟩
              rw [el] at HNL hl4 HSI ⊢
              clear el
              obtain ⟨f1, ef1⟩ : ∃ f, rxN R C Z f0 i = f := ⟨_, rfl⟩
              rw [ef1] at HR3 HSI
              clear ef1 HROW HB
              go_wp2
              obtain ⟨wq, hwq⟩ : ∃ wq : World, wq = wr := ⟨_, rfl⟩
              rw [← hwq] at HNL hs3
              subst hwq
              go_loopw [10] (fun s wr => ∃ k : Nat, k ≤ l.length ∧ s = .int .i64 k ∧ wr.rowIs w.heap.size 3 N (ivF (rxL Z i (l.take k) f1)) ∧ RdI wq.heap.size w3.heap.size wr (.slice ao l.length c) l.length (ixZ l) ∧ w3.heap.size ≤ wr.heap.size ∧ Below w.heap.size w wr) (fun s _ => l.length - (intOf s).toNat)
              case atStart => exact ⟨0, Nat.zero_le _, rfl, HR3.out, HNL.out, Nat.le_refl _, HB3.out⟩
              case round =>
                obtain ⟨k, hk, rfl, hrow, hnl, hs4, hb⟩ := hrel
                clear HR3 HNL HB3
                have HB := Lib.hid hb
                by_cases hlt : k < l.length
                case neg =>
                  have ek : k = l.length := by omega
                  have hge : ¬ (k : Int) < l.length := by omega
                  have HRN := Lib.hid (show wr.rowIs w.heap.size 3 N (ivF (rxN R C Z f0 (i + 1))) by rw [HSI.out]; rw [ek, List.take_length] at hrow; exact hrow)
                  clear hrow hnl hb ek hlt
                  go_wp2
                  go_roundw
                  case rel => exact ⟨i + 1, by omega, by go_num, HRN.out, HB.out⟩
                  case measure => simp [intOf]; omega
                case pos =>
                  have hlt' : (k : Int) < l.length := by omega
                  have hlk := hlt
                  obtain ⟨ao', cp, b, off, e1, i2, i3, i4, i5, i6⟩ := hnl
                  have q1 := i6 k hlk
                  rw [ixZ_at l hlk] at q1
                  simp only [Value.slice.injEq] at e1
                  obtain ⟨rfl, _, rfl⟩ := e1
                  obtain ⟨rfl, i7, i8⟩ := i5 (by omega)
                  have HNL := Lib.hid (show RdI wq.heap.size w3.heap.size wr (.slice (some ⟨b, off, none⟩) l.length c) l.length (ixZ l) from ⟨_, c, b, off, rfl, i2, i3, i4, fun _ => ⟨rfl, i7, i8⟩, i6⟩)
                  have HTK := Lib.hid (show rxL Z i (l.take (k + 1)) f1 = rx1 Z (rxL Z i (l.take k) f1) i (l[k]).1 by rw [List.take_succ_eq_append_getElem hlk, rxL_snoc])
                  obtain ⟨f2, ef2⟩ : ∃ f, rxL Z i (l.take k) f1 = f := ⟨_, rfl⟩
                  rw [ef2] at hrow HTK
                  have hxN : (l[k]).1 < N := by rw [← EN.out]; exact (l[k]).2
                  obtain ⟨x, ex⟩ : ∃ x, (l[k]).1 = x := ⟨_, rfl⟩
                  rw [ex] at q1 HTK hxN
                  have hiN : i < N := by omega
                  have c1 := hrow.cell hiN
                  have c2 := hrow.cell hxN
                  have f3 : wr.frozen? ⟨w.heap.size, i, none⟩ = false := hrow.frozen i
                  unfold ivF at c1 c2
                  have HROW := Lib.hid hrow
                  have HHI := Lib.hid (fun n => HHT.out i (by rw [EN.out]; exact hiN) (wr.drewN n) (HV.out.same (fun k _ hk => hb.block k (by omega))))
                  obtain ⟨p1, ep1⟩ : ∃ z, f2 i = z := ⟨_, rfl⟩
                  obtain ⟨p2, ep2⟩ : ∃ z, f2 x = z := ⟨_, rfl⟩
                  obtain ⟨p3, ep3⟩ : ∃ z, Z i = z := ⟨_, rfl⟩
                  obtain ⟨p4, ep4⟩ : ∃ z, min p3 p2 = z := ⟨_, rfl⟩
                  obtain ⟨p5, ep5⟩ : ∃ z, max p1 p4 = z := ⟨_, rfl⟩
                  have HUP := Lib.hid (show rx1 Z f2 i x = updZ f2 i p5 by unfold rx1; rw [ep1, ep2, ep3, ep4, ep5])
                  rw [ep1] at c1
                  rw [ep2] at c2
                  rw [ep3] at HHI
                  have hlt2 : (i : Int) < N := by omega
                  have hxN' : (x : Int) < N := by omega
                  have hbne : w.heap.size ≠ b := by omega
                  clear i2 i3 i4 i5 i6 hlt ef2 ex ep1 ep2 ep3 hrow hb
                  have R1 := Lib.hid (fun m : Nat => show ((wr.drewN m).setCell ⟨w.heap.size, i, none⟩ (.int .i64 p5)).rowIs w.heap.size 3 N (ivF (rxL Z i (l.take (k + 1)) f1)) from by rw [HTK.out, HUP.out]; exact ivF_set (HROW.out.of_block (w' := wr.drewN m) rfl) i p5)
                  have B1 := Lib.hid (fun m : Nat => (below_drewN HB.out m).setCell (p := ⟨w.heap.size, i, none⟩) (Nat.le_refl _) (.int .i64 p5))
                  have N1 := Lib.hid (fun m : Nat => show RdI wq.heap.size w3.heap.size ((wr.drewN m).setCell ⟨w.heap.size, i, none⟩ (.int .i64 p5)) (.slice (some ⟨b, off, none⟩) l.length c) l.length (ixZ l) from HNL.out.same (fun k hk1 hk2 => Below.heap_setCell (wr.drewN m) _ _ _ (by show k ≠ w.heap.size; omega)))
                  have S1 := Lib.hid (fun m : Nat => show w3.heap.size ≤ ((wr.drewN m).setCell ⟨w.heap.size, i, none⟩ (.int .i64 p5)).heap.size by simpa [World.setCell] using hs4)
                  go_wp2_with fail
                  go_region_law (first
                    | (go_simp; (refine (HHI.out 1).mono ?_); rintro e w5 ⟨rfl, m5, rfl⟩))
                  all_goals
                    go_wp2
                    go_roundw
                    case rel => exact ⟨k + 1, by omega, by go_num, R1.out (1 + m5), N1.out (1 + m5), S1.out (1 + m5), B1.out (1 + m5)⟩
                    case measure => simp [intOf]; omega

end Go.Proofs.Ytlbdglhippapnab
