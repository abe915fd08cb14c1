/- Keys and prominences in the model. -/
import Derived.Test.YtlbdglhippapnabKeyM
import Derived.Test.YtlbdglhippapnabPvS
import Derived.Test.YtlbdglhippapnabRange
namespace Go.Proofs.Ytlbdglhippapnab
open Go.RowKit
set_option linter.unusedVariables false

theorem pkB_inS {g : G} {i : Int} (h : g.pkB i = true) : g.PkIn i := by
  apply Classical.byContradiction
  intro k
  rw [G.pkB_no k] at h
  cases h

set_option maxHeartbeats 8000000 in
set_option maxRecDepth 100000 in
theorem specPeakKey_any (v : Value) (lo hi : Nat) (g : G) (i : Int) (w : World) (hv : RdM lo hi w v g) (hh : hi ≤ w.heap.size) :
    Calls Try.prog 24 #[v, .int .i64 i] w (IntPost (g.kyV i) w) := by
  have HP := Lib.hid (specPeakIs_any v lo hi g i w hv hh)
  by_cases hp : g.pkB i = true
  case neg =>
    have hp' : g.pkB i = false := by simpa using hp
    have HA := Lib.hid (G.kyV_no hp')
    rw [hp'] at HP
    clear hv hp hp'
    go_enter Try.func24, Try.ntmps24
    go_wp2_with fail
    refine HP.out.mono ?_
    rintro e w1 ⟨rfl, hb1⟩
    have HB1 := Lib.hid hb1
    clear hb1
    go_wp2
    go_ret
    exact ⟨ret_int HA.out.symm, HB1.out⟩
  case pos =>
    have hin := pkB_inS hp
    rw [hp] at HP
    obtain ⟨x, hx⟩ : ∃ x : Ix (g.n * g.len 0), (x.1 : Int) = i := ⟨⟨i.toNat, by have := hin.2; omega⟩, by have := hin.2; show ((i.toNat : Nat) : Int) = i; omega⟩
    subst hx
    have hval := hin.1
    have HA := Lib.hid (G.kyV_yes hval hp)
    have hx48 := x.2
    have h49 := mul_le_49 hval.1.2 hval.2.1.2
    have HZ := Lib.hid (show ∀ a, a < g.n * g.len 0 → 0 ≤ g.flat a ∧ g.flat a ≤ 99 from fun a ha => flat_okW hval ha)
    obtain ⟨N, eN⟩ : ∃ N, g.n * g.len 0 = N := ⟨_, rfl⟩
    have EN := Lib.hid eN
    have HPV := Lib.hid (fun (W : World) (hW : RdM lo hi W v g) (hs : hi ≤ W.heap.size) => show Calls Try.prog 45 #[v, .int .i64 x.1] W (fun e w' => ∃ b, e = .returned (.slice (some ⟨b, 0, none⟩) N N) ∧ W.heap.size ≤ b ∧ w'.rowIs b 3 N (ivF (psV g.n (g.len 0) g.flat x)) ∧ Below W.heap.size W w') from by
      rw [← eN]
      exact l4Passes_any v lo hi g g.n (g.len 0) rfl rfl x W hW hs hval)
    have HHI := Lib.hid (fun (a : Nat) (ha : a < g.n * g.len 0) (W : World) (hW : RdM lo hi W v g) => l4Higher_any v lo hi g a x.1 W hW hval ha x.2)
    have HGR := Lib.hid (fun (W : World) (hW : RdM lo hi W v g) => specGridRange_yes v lo hi g W hW hval)
    have HV := Lib.hid hv
    obtain ⟨xx, exx⟩ : ∃ a, x.1 = a := ⟨_, rfl⟩
    have exx2 := Lib.hid exx
    rw [eN] at h49
    rw [exx] at HP HPV HHI HA ⊢
    clear hv hp hin hval eN exx hx48
    go_enter Try.func24, Try.ntmps24
    go_wp2_with fail
    refine HP.out.mono ?_
    rintro e w1 ⟨rfl, hb1⟩
    have HB1 := Lib.hid hb1
    have hs1 := hb1.size
    have HPV1 := Lib.hid (HPV.out w1 (HV.out.same (SameIn.below hb1 hh)) (by omega))
    clear hb1
    go_wp2_with fail
    refine HPV1.out.mono ?_
    rintro e w2 ⟨b, rfl, hbb, hrow, hb2⟩
    have HB2 := Lib.hid (HB1.out.trans (hb2.mono hs1))
    have HROW := Lib.hid hrow
    have HV2 := Lib.hid (HV.out.same (SameIn.below HB2.out hh))
    clear hb2 hrow
    go_wp2
    go_loopw [6, 7] (fun s6 s7 wr => ∃ k m : Nat, k ≤ N ∧ s7 = .int .i64 k ∧ s6 = .int .i64 (kyN g.n (g.len 0) g.flat x k) ∧ wr = w2.drewN m) (fun _ s7 _ => N - (intOf s7).toNat)
    case atStart => exact ⟨0, 0, Nat.zero_le _, rfl, rfl, rfl⟩
    case round =>
      obtain ⟨k, m, hk, rfl, rfl, rfl⟩ := hrel
      by_cases hlt : k < N
      case pos =>
        have hlt' : (k : Int) < N := by omega
        have c1 : (w2.drewN m).cell? ⟨b, k, none⟩ = some (.int .i64 (psV g.n (g.len 0) g.flat x k)) := HROW.out.cell hlt
        have HHK := Lib.hid (HHI.out k (by rw [EN.out]; exact hlt) (w2.drewN m) (HV2.out.same (fun _ _ _ => rfl)))
        have HKY := Lib.hid (fun (h : hiB g.flat k xx = true) => kyN_yes (R := g.n) (C := g.len 0) (Z := g.flat) (i := x) (k := k) (by rw [exx2.out]; exact h))
        have HKN := Lib.hid (fun (h : hiB g.flat k xx = false) => kyN_no (R := g.n) (C := g.len 0) (Z := g.flat) (i := x) (k := k) (by rw [exx2.out]; exact h))
        obtain ⟨t, et⟩ : ∃ t, hiB g.flat k xx = t := ⟨_, rfl⟩
        rw [et] at HHK HKY HKN
        obtain ⟨p, ep⟩ : ∃ p, psV g.n (g.len 0) g.flat x k = p := ⟨_, rfl⟩
        rw [ep] at c1 HKY
        obtain ⟨q, eq⟩ : ∃ q, kyN g.n (g.len 0) g.flat x k = q := ⟨_, rfl⟩
        rw [eq] at HKY HKN ⊢
        clear et ep eq hlt
        cases t
        case true =>
          have HS := Lib.hid (HKY.out rfl)
          go_wp2_with fail
          refine HHK.out.mono ?_
          rintro e w3 ⟨rfl, m2, rfl⟩
          have c2 : (w2.drewN (m + m2)).cell? ⟨b, k, none⟩ = some (.int .i64 p) := c1
          clear c1
          go_wp2
          go_roundw
          case rel => exact ⟨k + 1, m + m2, by omega, by go_num, by rw [HS.out], rfl⟩
          case measure => simp [intOf]; omega
        case false =>
          have HS := Lib.hid (HKN.out rfl)
          go_wp2_with fail
          refine HHK.out.mono ?_
          rintro e w3 ⟨rfl, m2, rfl⟩
          clear c1
          go_wp2
          go_roundw
          case rel => exact ⟨k + 1, m + m2, by omega, by go_num, by rw [HS.out], rfl⟩
          case measure => simp [intOf]; omega
      case neg =>
        have ek : k = g.n * g.len 0 := by rw [EN.out]; omega
        have hge : ¬ (k : Int) < N := by omega
        have HKV := Lib.hid (show keyV g.n (g.len 0) g.flat x = if kyN g.n (g.len 0) g.flat x k < 0 then mn g.flat (g.n * g.len 0) else kyN g.n (g.len 0) g.flat x k by rw [ek]; rfl)
        obtain ⟨q, eq⟩ : ∃ q, kyN g.n (g.len 0) g.flat x k = q := ⟨_, rfl⟩
        rw [eq] at HKV ⊢
        clear ek eq hlt
        by_cases h0 : q < 0
        case pos =>
          have HE := Lib.hid (show g.kyV (xx : Int) = mn g.flat (g.n * g.len 0) by rw [HA.out, HKV.out, if_pos h0])
          have HG := Lib.hid (HGR.out (w2.drewN m) (HV2.out.same (fun _ _ _ => rfl)))
          go_wp2_with fail
          refine HG.out.mono ?_
          rintro e w3 ⟨rfl, hb3⟩
          have HB3 := Lib.hid ((below_drewN HB2.out m).trans (hb3.mono HB2.out.size))
          clear hb3
          go_wp2
          go_ret
          exact ⟨ret_int HE.out.symm, HB3.out⟩
        case neg =>
          have HE := Lib.hid (show g.kyV (xx : Int) = q by rw [HA.out, HKV.out, if_neg h0])
          have h0' : decide (q < 0) = false := by simpa using h0
          go_wp2
          go_ret
          exact ⟨ret_int HE.out.symm, below_drewN HB2.out m⟩

/-- prominences -/
noncomputable def G.prV (g : G) (i : Int) : Int := if g.pkB i = true then g.flat i.toNat - g.kyV i else -1

set_option maxHeartbeats 1000000 in
set_option maxRecDepth 100000 in
theorem specPeakProminence_any (v : Value) (lo hi : Nat) (g : G) (i : Int) (w : World) (hv : RdM lo hi w v g) (hh : hi ≤ w.heap.size) :
    Calls Try.prog 26 #[v, .int .i64 i] w (IntPost (g.prV i) w) := by
  have HK := Lib.hid (specPeakKey_any v lo hi g i w hv hh)
  by_cases hp : g.pkB i = true
  case neg =>
    have hp' : g.pkB i = false := by simpa using hp
    rw [G.kyV_no hp'] at HK
    have HA := Lib.hid (show g.prV i = -1 by unfold G.prV; rw [if_neg hp])
    clear hv hp hp'
    go_enter Try.func26, Try.ntmps26
    go_wp2_with fail
    refine HK.out.mono ?_
    rintro e w1 ⟨rfl, hb1⟩
    have HB1 := Lib.hid hb1
    clear hb1
    go_wp2
    go_ret
    exact ⟨ret_int HA.out.symm, HB1.out⟩
  case pos =>
    have hin := pkB_inS hp
    obtain ⟨x, hx⟩ : ∃ x : Ix (g.n * g.len 0), (x.1 : Int) = i := ⟨⟨i.toNat, by have := hin.2; omega⟩, by have := hin.2; show ((i.toNat : Nat) : Int) = i; omega⟩
    subst hx
    have hval := hin.1
    have hr := keyV_range (fun a ha => flat_okW hval ha) x
    have hz := flat_okW hval x.2
    have HA := Lib.hid (show g.prV (x.1 : Int) = g.flat x.1 - g.kyV (x.1 : Int) by unfold G.prV; rw [if_pos hp]; rfl)
    rw [← G.kyV_yes hval hp] at hr
    have HHT := Lib.hid (fun (W : World) (hW : RdM lo hi W v g) => l2Height_any v lo hi g x.1 W hW hval x.2)
    have HV := Lib.hid hv
    obtain ⟨k, ek⟩ : ∃ k, g.kyV (x.1 : Int) = k := ⟨_, rfl⟩
    rw [ek] at HK HA hr
    obtain ⟨z, ez⟩ : ∃ z, g.flat x.1 = z := ⟨_, rfl⟩
    rw [ez] at HHT HA hz
    obtain ⟨hr1, hr2⟩ := hr
    obtain ⟨hz1, hz2⟩ := hz
    obtain ⟨xx, exx⟩ : ∃ a, x.1 = a := ⟨_, rfl⟩
    rw [exx] at HK HHT HA ⊢
    have hk0 : ¬ k < 0 := by omega
    clear hv hp hin hval ek ez exx
    go_enter Try.func26, Try.ntmps26
    go_wp2_with fail
    refine HK.out.mono ?_
    rintro e w1 ⟨rfl, hb1⟩
    have HB1 := Lib.hid hb1
    have HH1 := Lib.hid (HHT.out w1 (HV.out.same (SameIn.below hb1 hh)))
    clear hb1
    go_wp2_with fail
    refine HH1.out.mono ?_
    rintro e w2 ⟨rfl, m, rfl⟩
    go_wp2
    go_ret
    exact ⟨ret_int HA.out.symm, below_drewN HB1.out m⟩

end Go.Proofs.Ytlbdglhippapnab
