/- PeakIsland of the model. -/
import Derived.Test.YtplfphpnpjjinabIslM
import Derived.Test.YtplfphpnpjjinabPkS
import Derived.Test.YtplfphpnpjjinabRegS
namespace Go.Proofs.Ytplfphpnpjjinab
open Go.RowKit
set_option linter.unusedVariables false

set_option maxHeartbeats 4000000 in
set_option maxRecDepth 100000 in
theorem specPeakIsland_any (v : Value) (lo hi : Nat) (g : G) (lv s : Int) (w : World) (hv : RdM lo hi w v g) (hh : hi ≤ w.heap.size) :
    Calls Try.prog 24 #[v, .int .i64 lv, .int .i64 s] w (IntPost (g.ilV lv s) w) := by
  have HLA := Lib.hid (specLevelArea_any v lo hi g lv s w hv hh)
  by_cases h : g.IlOk lv s
  case neg =>
    have HA := Lib.hid (G.arV_no (g := g) (lv := lv) (s := s) h)
    have HE := Lib.hid (G.ilV_no h)
    rw [HA.out] at HLA
    clear hv h
    go_enter Try.func24, Try.ntmps24
    go_wp2_with fail
    refine HLA.out.mono ?_
    rintro e w1 ⟨rfl, hb1⟩
    have HB1 := Lib.hid hb1
    clear hb1
    go_wp2
    go_ret
    exact ⟨ret_int HE.out.symm, HB1.out⟩
  case pos =>
    have HA := Lib.hid (G.arV_yes h.1 h.2.1 h.2.2)
    have HE := Lib.hid (G.ilV_yes h)
    have HNZ := Lib.hid (G.nmN_yes h.1)
    have HV := Lib.hid h.1.1
    have h49 := mul_le_49 h.1.1.1.2 h.1.1.2.1.2
    rw [HA.out] at HLA
    obtain ⟨ct, ect⟩ : ∃ ct, cntZ (numZ g.n (g.len 0) g.flat lv) s (g.n * g.len 0) = ct := ⟨_, rfl⟩
    rw [ect] at HLA
    have hd : decide ((ct : Int) < 0) = false := by simp
    obtain ⟨b0, off0, cap0, rfl⟩ := hv.shapeW h.1.1.1.1
    have HVR := Lib.hid hv
    have HLN := Lib.hid (fun (W : World) (hb : Below w.heap.size w W) => specLevelNumbers_any (.slice (some ⟨b0, off0, none⟩) g.n cap0) lo hi g lv W (hv.same (SameIn.below hb hh)) (Nat.le_trans hh hb.size))
    clear hv h ect
    obtain ⟨N, eN⟩ : ∃ N, g.n * g.len 0 = N := ⟨_, rfl⟩
    have EN := Lib.hid eN
    rw [eN] at h49
    clear eN
    go_enter Try.func24, Try.ntmps24
    go_wp2_with fail
    refine HLA.out.mono ?_
    rintro e w1 ⟨rfl, hb1⟩
    have HB1 := Lib.hid hb1
    have hs1 := hb1.size
    clear hb1
    go_wp2_with fail
    refine (HLN.out _ HB1.out).mono ?_
    rintro e w2 ⟨q, rfl, _, ho, hb2⟩
    rw [HNZ.out, EN.out] at ho
    obtain ⟨a, c, rfl⟩ := ho.shapeN
    have HO := Lib.hid ho.rd
    have HB2 := Lib.hid (HB1.out.trans (hb2.mono hs1))
    have hs2 := HB2.out.size
    clear hb2 ho
    go_wp2
    go_loopw [9, 10] (fun o i wr => ∃ k : Nat, k ≤ N ∧ i = .int .i64 k ∧ o = .int .i64 (pcN g.n (g.len 0) g.flat lv s k) ∧ Below w2.heap.size w2 wr) (fun _ i _ => N - (intOf i).toNat)
    case atStart => exact ⟨0, Nat.zero_le _, rfl, rfl, Below.refl _ _⟩
    case round =>
      obtain ⟨k, hk, rfl, rfl, hbk⟩ := hrel
      have hle := pcN_le g.n (g.len 0) g.flat lv s k
      have HBK := Lib.hid hbk
      have hsk := hbk.size
      have HRK := Lib.hid (HVR.out.same (SameIn.below (HB2.out.trans (hbk.mono hs2)) hh))
      obtain ⟨ao, cp, b, off, e1, i2, i3, i4, i5, i6⟩ := HO.out.same (SameIn.below hbk (Nat.le_refl _))
      simp only [Value.slice.injEq] at e1
      obtain ⟨rfl, _, rfl⟩ := e1
      have H5 := Lib.hid i5
      have H6 := Lib.hid i6
      clear hbk i4 i5 i6
      by_cases hlt : k < N
      · have hlt' : (k : Int) < N := by omega
        obtain ⟨rfl, _, _⟩ := H5.out (by omega)
        have c1 := H6.out k hlt
        by_cases hzz : numZ g.n (g.len 0) g.flat lv k = s
        · rw [hzz] at c1
          have hx : (s == s) = true := by simp
          obtain ⟨x, ex⟩ : ∃ x : Ix (g.n * g.len 0), x.1 = k := ⟨⟨k, by rw [EN.out]; exact hlt⟩, rfl⟩
          have HIP := Lib.hid (l4Peak_any _ lo hi g _ _ rfl rfl x wr HRK.out (by omega) HV.out)
          have HPE := Lib.hid (pkAt_eq (Z := g.flat) x)
          rw [ex] at HIP HPE
          rw [← HPE.out] at HIP
          obtain ⟨pq, epq⟩ : ∃ pq, pkAt g.n (g.len 0) g.flat k = pq := ⟨_, rfl⟩
          have HT := Lib.hid (show pcN g.n (g.len 0) g.flat lv s (k + 1) = pcN g.n (g.len 0) g.flat lv s k + (if pq = true then 1 else 0) by
            cases pq
            · rw [pcN_no (fun h => by rw [epq] at h; exact absurd h.2 (by simp))]; simp
            · rw [pcN_yes hzz epq]; simp)
          rw [epq] at HIP
          clear ex HPE epq hzz
          generalize pcN g.n (g.len 0) g.flat lv s k = q at hle HT ⊢
          go_wp2_with fail
          refine HIP.out.mono ?_
          rintro e w4 ⟨rfl, hb4⟩
          have HB4 := Lib.hid (HBK.out.trans (hb4.mono hsk))
          clear hb4
          cases pq
          · go_wp2
            go_roundw
            case rel => exact ⟨k + 1, by omega, by go_num, by rw [HT.out]; simp, HB4.out⟩
            case measure => simp [intOf]; omega
          · go_wp2
            go_roundw
            case rel => exact ⟨k + 1, by omega, by go_num, by rw [HT.out]; simp, HB4.out⟩
            case measure => simp [intOf]; omega
        · have HT := Lib.hid (pcN_no (R := g.n) (C := g.len 0) (Z := g.flat) (lv := lv) (s := s) (k := k) (fun h => hzz h.1))
          obtain ⟨zz, ezz⟩ : ∃ zz, numZ g.n (g.len 0) g.flat lv k = zz := ⟨_, rfl⟩
          rw [ezz] at c1 hzz
          have hx : (zz == s) = false := by rw [beq_eq_false_iff_ne]; exact hzz
          generalize pcN g.n (g.len 0) g.flat lv s k = q at hle HT ⊢
          clear ezz
          go_wp2
          go_roundw
          case rel => exact ⟨k + 1, by omega, by go_num, by rw [HT.out], HBK.out⟩
          case measure => simp [intOf]; omega
      · have ek : k = N := by omega
        have HA2 := Lib.hid (show ((pcN g.n (g.len 0) g.flat lv s k : Nat) : Int) = g.ilV lv s by rw [HE.out, ek, EN.out])
        rw [HA2.out]
        have hge : ¬ (k : Int) < N := by omega
        clear ek
        go_wp2
        go_ret
        exact ⟨rfl, HB2.out.trans (HBK.out.mono hs2)⟩

end Go.Proofs.Ytplfphpnpjjinab
