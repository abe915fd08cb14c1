/- Peaks of a region: what is reckoned. -/
import Derived.Test.YtcfeckpbjdipeaaPkZ
import Derived.Test.YtcfeckpbjdipeaaRgZ
import Derived.Test.YtcfeckpbjdipeaaPqZ
namespace Go.Proofs.Ytcfeckpbjdipeaa
set_option linter.unusedVariables false

def pkAt (R C : Nat) (Z : Nat → Int) (k : Nat) : Bool := if h : k < R * C then pkQ R C Z ⟨k, h⟩ else false
theorem pkAt_eq {R C : Nat} {Z : Nat → Int} (x : Ix (R * C)) : pkAt R C Z x.1 = pkQ R C Z x := by unfold pkAt; rw [dif_pos x.2]
/-- how many of the first k cells are peaks of region s -/
def pcN (R C : Nat) (Z : Nat → Int) (lv s : Int) : Nat → Nat
  | 0 => 0
  | k + 1 => pcN R C Z lv s k + (if numZ R C Z lv k = s ∧ pkAt R C Z k = true then 1 else 0)
theorem pcN_yes {R C : Nat} {Z : Nat → Int} {lv s : Int} {k : Nat} (h : numZ R C Z lv k = s) (e : pkAt R C Z k = true) : pcN R C Z lv s (k + 1) = pcN R C Z lv s k + 1 := by simp [pcN, h, e]
theorem pcN_no {R C : Nat} {Z : Nat → Int} {lv s : Int} {k : Nat} (h : ¬ (numZ R C Z lv k = s ∧ pkAt R C Z k = true)) : pcN R C Z lv s (k + 1) = pcN R C Z lv s k := by simp only [pcN]; rw [if_neg h]; rfl
theorem pcN_le (R C : Nat) (Z : Nat → Int) (lv s : Int) : ∀ k, pcN R C Z lv s k ≤ k
  | 0 => Nat.le_refl _
  | k + 1 => by have := pcN_le R C Z lv s k; unfold pcN; split <;> omega

/-- when a grid has the region, and how many peaks it has -/
def G.IlOk (g : G) (lv s : Int) : Prop := g.LvOk lv ∧ 0 ≤ s ∧ s < rgN g.n (g.len 0) g.flat lv (g.n * g.len 0)
noncomputable def G.ilV (g : G) (lv s : Int) : Int := open Classical in if g.IlOk lv s then (pcN g.n (g.len 0) g.flat lv s (g.n * g.len 0) : Int) else -1
theorem G.ilV_yes {g : G} {lv s : Int} (h : g.IlOk lv s) : g.ilV lv s = pcN g.n (g.len 0) g.flat lv s (g.n * g.len 0) := by unfold G.ilV; rw [if_pos h]
theorem G.ilV_no {g : G} {lv s : Int} (h : ¬ g.IlOk lv s) : g.ilV lv s = -1 := by unfold G.ilV; rw [if_neg h]

end Go.Proofs.Ytcfeckpbjdipeaa

/- PeakIsland of the model. -/
namespace Go.Proofs.Ytcfeckpbjdipeaa
open Go.RowKit
set_option linter.unusedVariables false

set_option maxHeartbeats 4000000 in
set_option maxRecDepth 100000 in
theorem specPeakIsland_any (v : Value) (lo hi : Nat) (g : G) (lv s : Int) (w : World) (hv : RdM lo hi w v g) (hh : hi ≤ w.heap.size) :
    Calls Try.prog 39 #[v, .int .i64 lv, .int .i64 s] w (IntPost (g.ilV lv s) w) := by
  have HLA := Lib.hid (specLevelArea_any v lo hi g lv s w hv hh)
  by_cases h : g.IlOk lv s
  case neg =>
    have HA := Lib.hid (G.arV_no (g := g) (lv := lv) (s := s) h)
    have HE := Lib.hid (G.ilV_no h)
    rw [HA.out] at HLA
    clear hv h
    go_enter Try.func39, Try.ntmps39
    go_wp2_with fail
    refine HLA.out.mono ?_
    rintro e w1 ⟨rfl, hb1⟩
    have HB1 := Lib.hid hb1
    clear hb1
    go_wp2
    go_ret
    exact ⟨ret_int HE.out.symm, HB1.out⟩
  case pos =>
    have HA := Lib.hid (G.arV_yes h.1 h.2.1 h.2.2)
    have HE := Lib.hid (G.ilV_yes h)
    have HNZ := Lib.hid (G.nmN_yes h.1)
    have HV := Lib.hid h.1.1
    have h49 := mul_le_49 h.1.1.1.2 h.1.1.2.1.2
    rw [HA.out] at HLA
    obtain ⟨ct, ect⟩ : ∃ ct, cntZ (numZ g.n (g.len 0) g.flat lv) s (g.n * g.len 0) = ct := ⟨_, rfl⟩
    rw [ect] at HLA
    have hd : decide ((ct : Int) < 0) = false := by simp
    obtain ⟨b0, off0, cap0, rfl⟩ := hv.shapeW h.1.1.1.1
    have HVR := Lib.hid hv
    have HLN := Lib.hid (fun (W : World) (hb : Below w.heap.size w W) => specLevelNumbers_any (.slice (some ⟨b0, off0, none⟩) g.n cap0) lo hi g lv W (hv.same (SameIn.below hb hh)) (Nat.le_trans hh hb.size))
    clear hv h ect
    obtain ⟨N, eN⟩ : ∃ N, g.n * g.len 0 = N := ⟨_, rfl⟩
    have EN := Lib.hid eN
    rw [eN] at h49
    clear eN
    go_enter Try.func39, Try.ntmps39
    go_wp2_with fail
    refine HLA.out.mono ?_
    rintro e w1 ⟨rfl, hb1⟩
    have HB1 := Lib.hid hb1
    have hs1 := hb1.size
    clear hb1
    go_wp2_with fail
    refine (HLN.out _ HB1.out).mono ?_
    rintro e w2 ⟨q, rfl, _, ho, hb2⟩
    rw [HNZ.out, EN.out] at ho
    obtain ⟨a, c, rfl⟩ := ho.shapeN
    have HO := Lib.hid ho.rd
    have HB2 := Lib.hid (HB1.out.trans (hb2.mono hs1))
    have hs2 := HB2.out.size
    clear hb2 ho
    go_wp2
    go_loopw [9, 10] (fun o i wr => ∃ k : Nat, k ≤ N ∧ i = .int .i64 k ∧ o = .int .i64 (pcN g.n (g.len 0) g.flat lv s k) ∧ Below w2.heap.size w2 wr) (fun _ i _ => N - (intOf i).toNat)
    case atStart => exact ⟨0, Nat.zero_le _, rfl, rfl, Below.refl _ _⟩
    case round =>
      obtain ⟨k, hk, rfl, rfl, hbk⟩ := hrel
      have hle := pcN_le g.n (g.len 0) g.flat lv s k
      have HBK := Lib.hid hbk
      have hsk := hbk.size
      have HRK := Lib.hid (HVR.out.same (SameIn.below (HB2.out.trans (hbk.mono hs2)) hh))
      obtain ⟨ao, cp, b, off, e1, i2, i3, i4, i5, i6⟩ := HO.out.same (SameIn.below hbk (Nat.le_refl _))
      simp only [Value.slice.injEq] at e1
      obtain ⟨rfl, _, rfl⟩ := e1
      have H5 := Lib.hid i5
      have H6 := Lib.hid i6
      clear hbk i4 i5 i6
      by_cases hlt : k < N
      · have hlt' : (k : Int) < N := by omega
        obtain ⟨rfl, _, _⟩ := H5.out (by omega)
        have c1 := H6.out k hlt
        by_cases hzz : numZ g.n (g.len 0) g.flat lv k = s
        · rw [hzz] at c1
          have hx : (s == s) = true := by simp
          obtain ⟨x, ex⟩ : ∃ x : Ix (g.n * g.len 0), x.1 = k := ⟨⟨k, by rw [EN.out]; exact hlt⟩, rfl⟩
          have HIP := Lib.hid (l4Peak_any _ lo hi g _ _ rfl rfl x wr HRK.out (by omega) HV.out)
          have HPE := Lib.hid (pkAt_eq (Z := g.flat) x)
          rw [ex] at HIP HPE
          rw [← HPE.out] at HIP
          obtain ⟨pq, epq⟩ : ∃ pq, pkAt g.n (g.len 0) g.flat k = pq := ⟨_, rfl⟩
          have HT := Lib.hid (show pcN g.n (g.len 0) g.flat lv s (k + 1) = pcN g.n (g.len 0) g.flat lv s k + (if pq = true then 1 else 0) by
            cases pq
            · rw [pcN_no (fun h => by rw [epq] at h; exact absurd h.2 (by simp))]; simp
            · rw [pcN_yes hzz epq]; simp)
          rw [epq] at HIP
          clear ex HPE epq hzz
          generalize pcN g.n (g.len 0) g.flat lv s k = q at hle HT ⊢
          go_wp2_with fail
          refine HIP.out.mono ?_
          rintro e w4 ⟨rfl, hb4⟩
          have HB4 := Lib.hid (HBK.out.trans (hb4.mono hsk))
          clear hb4
          cases pq
          · go_wp2
            go_roundw
            case rel => exact ⟨k + 1, by omega, by go_num, by rw [HT.out]; simp, HB4.out⟩
            case measure => simp [intOf]; omega
          · go_wp2
            go_roundw
            case rel => exact ⟨k + 1, by omega, by go_num, by rw [HT.out]; simp, HB4.out⟩
            case measure => simp [intOf]; omega
        · have HT := Lib.hid (pcN_no (R := g.n) (C := g.len 0) (Z := g.flat) (lv := lv) (s := s) (k := k) (fun h => hzz h.1))
          obtain ⟨zz, ezz⟩ : ∃ zz, numZ g.n (g.len 0) g.flat lv k = zz := ⟨_, rfl⟩
          rw [ezz] at c1 hzz
          have hx : (zz == s) = false := by rw [beq_eq_false_iff_ne]; exact hzz
          generalize pcN g.n (g.len 0) g.flat lv s k = q at hle HT ⊢
          clear ezz
          go_wp2
          go_roundw
          case rel => exact ⟨k + 1, by omega, by go_num, by rw [HT.out], HBK.out⟩
          case measure => simp [intOf]; omega
      · have ek : k = N := by omega
        have HA2 := Lib.hid (show ((pcN g.n (g.len 0) g.flat lv s k : Nat) : Int) = g.ilV lv s by rw [HE.out, ek, EN.out])
        rw [HA2.out]
        have hge : ¬ (k : Int) < N := by omega
        clear ek
        go_wp2
        go_ret
        exact ⟨rfl, HB2.out.trans (HBK.out.mono hs2)⟩

end Go.Proofs.Ytcfeckpbjdipeaa

/- PeakIsland of the program. -/
namespace Go.Proofs.Ytcfeckpbjdipeaa
open Go.RowKit
set_option linter.unusedVariables false

set_option maxHeartbeats 4000000 in
set_option maxRecDepth 100000 in
theorem implPeakIsland_any (v : Value) (lo hi : Nat) (g : G) (lv s : Int) (w : World) (hv : RdM lo hi w v g) (hh : hi ≤ w.heap.size) :
    Calls Try.prog 38 #[v, .int .i64 lv, .int .i64 s] w (IntPost (g.ilV lv s) w) := by
  by_cases h : g.LvOk lv
  case neg =>
    have HC := Lib.hid (layerOf_no v lo hi g lv w hv hh h)
    have HA := Lib.hid (G.ilV_no (g := g) (lv := lv) (s := s) (fun k => h k.1))
    clear hv h
    go_enter Try.func38, Try.ntmps38
    go_wp2_with fail
    refine HC.out.mono ?_
    rintro e w1 ⟨rfl, hb1⟩
    have HB1 := Lib.hid (hb1.alloc hb1.size (.cells #[.int .i64 0, .int .i64 0, .slice none 0 0, .int .i64 0] 65))
    clear hb1
    go_wp2
    go_ret
    exact ⟨ret_int HA.out.symm, HB1.out⟩
  case pos =>
    have HC := Lib.hid (layerOf_yes v lo hi g lv w hv hh h)
    have HH := Lib.hid h
    have HY := Lib.hid (fun (h1 : 0 ≤ s) h2 => G.ilV_yes (g := g) (lv := lv) (s := s) ⟨HH.out, h1, h2⟩)
    have HNO := Lib.hid (fun k => G.ilV_no (g := g) (lv := lv) (s := s) k)
    have h71 := h.1.1.2
    have h72 := h.1.2.1.2
    have h49 := mul_le_49 h71 h72
    have hrl := rgN_le g.n (g.len 0) g.flat lv (g.n * g.len 0)
    clear hv h
    go_enter Try.func38, Try.ntmps38
    go_wp2_with fail
    refine HC.out.mono ?_
    rintro e w1 ⟨n, gg, cap, rfl, hrv, hb1⟩
    have hne := hrv.n_eq
    have HNE := Lib.hid hne
    unfold G.IlOk at HNO
    rw [← hne] at HY HNO h49 hrl
    have HB1 := Lib.hid (hb1.alloc hb1.size (.cells #[.int .i64 g.n, .int .i64 (g.len 0), .slice (some ⟨gg, 0, none⟩) n cap, .int .i64 lv] 65))
    have hrv2 := hrv.keep ((Below.refl w1.heap.size w1).alloc (Nat.le_refl _) (.cells #[.int .i64 g.n, .int .i64 (g.len 0), .slice (some ⟨gg, 0, none⟩) n cap, .int .i64 lv] 65)) (Nat.le_refl _)
    have HRV := Lib.hid hrv2
    have HL := Lib.hid (numI_nm g.n (g.len 0) gg cap n h71 h72 g.flat lv _ hrv2)
    have HLOC := Lib.hid (heap_alloc_new w1 (.cells #[.int .i64 g.n, .int .i64 (g.len 0), .slice (some ⟨gg, 0, none⟩) n cap, .int .i64 lv] 65))
    have HS1 := Lib.hid (show (w1.alloc (.cells #[.int .i64 g.n, .int .i64 (g.len 0), .slice (some ⟨gg, 0, none⟩) n cap, .int .i64 lv] 65)).heap.size = w1.heap.size + 1 by simp)
    obtain ⟨rg, erg⟩ : ∃ rg, rgN g.n (g.len 0) g.flat lv n = rg := ⟨_, rfl⟩
    have ERG := Lib.hid erg
    rw [erg] at HY HNO hrl
    have hs1 := hb1.size
    clear hrv hrv2 hb1 erg hne
    go_wp2_with fail
    refine HL.out.mono ?_
    rintro e w3 ⟨q, rfl, ⟨a, c, rfl⟩, ho, hb3⟩
    rw [ERG.out]
    have HB3 := Lib.hid (HB1.out.trans (hb3.mono HB1.out.size))
    have HRV3 := Lib.hid (HRV.out.keep hb3 (Nat.le_refl _))
    have hsz3 := hb3.size
    rw [HS1.out] at hsz3
    have HLOC3 := Lib.hid ((hb3.block w1.heap.size (by rw [HS1.out]; omega)).trans HLOC.out)
    have HO := Lib.hid ho.rd
    clear hb3 ho HL
    by_cases hs : s < 0
    · have HA := Lib.hid (HNO.out (fun k => by have := k.2.1; omega))
      go_wp2
      go_ret
      exact ⟨ret_int HA.out.symm, HB3.out⟩
    · by_cases hz : s < rg
      · have HA := Lib.hid (HY.out (by omega) hz)
        have hz' : ¬ (rg : Int) ≤ s := by omega
        go_wp2
        go_loopw [11, 36] (fun o i wr => ∃ k : Nat, k ≤ n ∧ i = .int .i64 k ∧ o = .int .i64 (pcN g.n (g.len 0) g.flat lv s k) ∧ Below w3.heap.size w3 wr) (fun _ i _ => n - (intOf i).toNat)
        case atStart => exact ⟨0, Nat.zero_le _, rfl, rfl, Below.refl _ _⟩
        case round =>
          obtain ⟨k, hk, rfl, rfl, hbk⟩ := hrel
          have hle := pcN_le g.n (g.len 0) g.flat lv s k
          have HBK := Lib.hid hbk
          have hsk := hbk.size
          have HRVK := Lib.hid (HRV3.out.keep hbk (Nat.le_refl _))
          have HLK := Lib.hid ((hbk.block w1.heap.size (by omega)).trans HLOC3.out)
          obtain ⟨ao, cp, b, off, e1, i2, i3, i4, i5, i6⟩ := HO.out.same (SameIn.below hbk (Nat.le_refl _))
          simp only [Value.slice.injEq] at e1
          obtain ⟨rfl, _, rfl⟩ := e1
          have H5 := Lib.hid i5
          have H6 := Lib.hid i6
          clear hbk i4 i5 i6
          by_cases hlt : k < n
          · have hlt' : (k : Int) < n := by omega
            obtain ⟨rfl, _, _⟩ := H5.out (by omega)
            have c1 := H6.out k hlt
            by_cases hzz : numZ g.n (g.len 0) g.flat lv k = s
            · rw [hzz] at c1
              have hx : (s == s) = true := by simp
              obtain ⟨d0, d1, d2, d3⟩ := cells4 HLK.out
              obtain ⟨x, ex⟩ : ∃ x : Ix (g.n * g.len 0), x.1 = k := ⟨⟨k, by rw [← HNE.out]; exact hlt⟩, rfl⟩
              have HIP := Lib.hid (isPeak_any g.n (g.len 0) gg cap n h71 h72 g.flat x wr HRVK.out)
              have HPE := Lib.hid (pkAt_eq (Z := g.flat) x)
              rw [ex] at HIP HPE
              rw [← HPE.out] at HIP
              obtain ⟨pq, epq⟩ : ∃ pq, pkAt g.n (g.len 0) g.flat k = pq := ⟨_, rfl⟩
              have HT := Lib.hid (show pcN g.n (g.len 0) g.flat lv s (k + 1) = pcN g.n (g.len 0) g.flat lv s k + (if pq = true then 1 else 0) by
                cases pq
                · rw [pcN_no (fun h => by rw [epq] at h; exact absurd h.2 (by simp))]; simp
                · rw [pcN_yes hzz epq]; simp)
              rw [epq] at HIP
              clear ex HPE epq hzz
              generalize pcN g.n (g.len 0) g.flat lv s k = q at hle HT ⊢
              go_wp2_with fail
              refine HIP.out.mono ?_
              rintro e w4 ⟨rfl, hb4⟩
              have HB4 := Lib.hid (HBK.out.trans (hb4.mono hsk))
              clear hb4 d0 d1 d2 d3
              cases pq
              · go_wp2
                go_roundw
                case rel => exact ⟨k + 1, by omega, by go_num, by rw [HT.out]; simp, HB4.out⟩
                case measure => simp [intOf]; omega
              · go_wp2
                go_roundw
                case rel => exact ⟨k + 1, by omega, by go_num, by rw [HT.out]; simp, HB4.out⟩
                case measure => simp [intOf]; omega
            · have HT := Lib.hid (pcN_no (R := g.n) (C := g.len 0) (Z := g.flat) (lv := lv) (s := s) (k := k) (fun h => hzz h.1))
              obtain ⟨zz, ezz⟩ : ∃ zz, numZ g.n (g.len 0) g.flat lv k = zz := ⟨_, rfl⟩
              rw [ezz] at c1 hzz
              have hx : (zz == s) = false := by rw [beq_eq_false_iff_ne]; exact hzz
              generalize pcN g.n (g.len 0) g.flat lv s k = q at hle HT ⊢
              clear ezz
              go_wp2
              go_roundw
              case rel => exact ⟨k + 1, by omega, by go_num, by rw [HT.out], HBK.out⟩
              case measure => simp [intOf]; omega
          · have ek : k = n := by omega
            have HA2 := Lib.hid (show ((pcN g.n (g.len 0) g.flat lv s k : Nat) : Int) = g.ilV lv s by rw [HA.out, ek])
            rw [HA2.out]
            have hge : ¬ (k : Int) < n := by omega
            clear ek
            go_wp2
            go_ret
            exact ⟨rfl, HB3.out.trans (HBK.out.mono HB3.out.size)⟩
      · have HA := Lib.hid (HNO.out (fun k => by omega))
        have hz' : (rg : Int) ≤ s := by omega
        go_wp2
        go_ret
        exact ⟨ret_int HA.out.symm, HB3.out⟩

end Go.Proofs.Ytcfeckpbjdipeaa
