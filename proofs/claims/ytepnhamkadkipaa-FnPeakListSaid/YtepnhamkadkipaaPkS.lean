/- Peaks of the model. -/
import Derived.Test.YtepnhamkadkipaaPkM
import Derived.Test.YtepnhamkadkipaaLongS
namespace Go.Proofs.Ytepnhamkadkipaa
open Go.RowKit
set_option linter.unusedVariables false

set_option maxHeartbeats 1000000 in
set_option maxRecDepth 20000 in
theorem l4Higher_any (v : Value) (lo hi : Nat) (g : G) (a b : Nat) (w : World) (hv : RdM lo hi w v g) (h : g.Valid) (ha : a < g.n * g.len 0) (hb : b < g.n * g.len 0) :
    Calls Try.prog 51 #[v, .int .i64 a, .int .i64 b] w (EqPost (hiB g.flat a b) w) := by
  have HA := Lib.hid (fun n => l2Height_any v lo hi g a (w.drewN n) (hv.same (fun _ _ _ => rfl)) h ha)
  have HB := Lib.hid (fun n => l2Height_any v lo hi g b (w.drewN n) (hv.same (fun _ _ _ => rfl)) h hb)
  clear hv h ha hb
  by_cases h1 : g.flat b < g.flat a
  · have HE := Lib.hid (hiB_gt h1)
    have hd : decide (g.flat b < g.flat a) = true := by simp [h1]
    clear h1
    go_enter Try.func51, Try.ntmps51
    go_wp2_with fail
    refine (HA.out 0).mono ?_
    rintro e w1 ⟨rfl, n1, rfl⟩
    go_wp2_with fail
    refine (HB.out _).mono ?_
    rintro e w1 ⟨rfl, n2, rfl⟩
    go_wp2
    go_ret
    exact ⟨by rw [HE.out] <;> rfl, _, rfl⟩
  · have hd : decide (g.flat b < g.flat a) = false := by simp; omega
    by_cases h2 : g.flat a = g.flat b
    · have HE := Lib.hid (hiB_eq h2)
      have hd2 : (g.flat a == g.flat b) = true := by simp [h2]
      clear h1 h2
      go_enter Try.func51, Try.ntmps51
      go_wp2_with fail
      refine (HA.out 0).mono ?_
      rintro e w1 ⟨rfl, n1, rfl⟩
      go_wp2_with fail
      refine (HB.out _).mono ?_
      rintro e w1 ⟨rfl, n2, rfl⟩
      go_wp2_with fail
      refine (HA.out _).mono ?_
      rintro e w1 ⟨rfl, n3, rfl⟩
      go_wp2_with fail
      refine (HB.out _).mono ?_
      rintro e w1 ⟨rfl, n4, rfl⟩
      go_wp2
      go_ret
      exact ⟨by rw [HE.out]; simp, _, rfl⟩
    · have HE := Lib.hid (hiB_lt (Z := g.flat) (a := a) (b := b) (by omega))
      have hd2 : (g.flat a == g.flat b) = false := by simp [h2]
      clear h1 h2
      go_enter Try.func51, Try.ntmps51
      go_wp2_with fail
      refine (HA.out 0).mono ?_
      rintro e w1 ⟨rfl, n1, rfl⟩
      go_wp2_with fail
      refine (HB.out _).mono ?_
      rintro e w1 ⟨rfl, n2, rfl⟩
      go_wp2_with fail
      refine (HA.out _).mono ?_
      rintro e w1 ⟨rfl, n3, rfl⟩
      go_wp2_with fail
      refine (HB.out _).mono ?_
      rintro e w1 ⟨rfl, n4, rfl⟩
      go_wp2
      go_ret
      exact ⟨by rw [HE.out] <;> rfl, _, rfl⟩

set_option maxHeartbeats 2000000 in
set_option maxRecDepth 100000 in
theorem l4Peak_any (v : Value) (lo hi : Nat) (g : G) (R C : Nat) (eR : g.n = R) (eC : g.len 0 = C) (i : Ix (R * C)) (w : World) (hv : RdM lo hi w v g) (hh : hi ≤ w.heap.size) (h : g.Valid) :
    Calls Try.prog 50 #[v, .int .i64 i.1] w (BlPost (pkQ R C g.flat i) w) := by
  have HN := Lib.hid (l2Near_any v lo hi g R C eR eC i w hv hh h)
  have hRC : R * C = g.n * g.len 0 := by rw [eR, eC]
  have HH := Lib.hid (fun (W : World) (hW : RdM lo hi W v g) (z : Ix (R * C)) => l4Higher_any v lo hi g z.1 i.1 W hW h (by have := z.2; omega) (by have := i.2; omega))
  have HV := Lib.hid hv
  have h49 := mul_le_49 (R := R) (C := C) (by have := h.1.2; omega) (by have := h.2.1.2; omega)
  obtain ⟨b0, off0, cap0, rfl⟩ := hv.shapeW h.1.1
  clear eR eC hv h hRC
  go_enter Try.func50, Try.ntmps50
  go_wp2_with fail
  refine HN.out.mono ?_
  rintro e w1 ⟨r, rfl, ⟨a, c, rfl⟩, hr, hb⟩
  have HV1 := Lib.hid (HV.out.same (SameIn.below hb hh))
  have HB := Lib.hid hb
  obtain ⟨l, el⟩ : ∃ l, near R C i 4 = l := ⟨_, rfl⟩
  have HX := Lib.hid (show pkQ R C g.flat i = pkL g.flat i.1 l by rw [← el]; rfl)
  have hl4 : l.length ≤ 4 := by rw [← el]; exact near_len R C i 4
  rw [el] at hr ⊢
  clear hb el
  have HRI := Lib.hid hr
  clear hr
  go_wp2
  go_loopw [6] (fun s wr => ∃ k m : Nat, k ≤ l.length ∧ s = .int .i64 k ∧ pkL g.flat i.1 (l.take k) = true ∧ wr = w1.drewN m) (fun s _ => l.length - (intOf s).toNat)
  case atStart => exact ⟨0, 0, Nat.zero_le _, rfl, rfl, rfl⟩
  case round =>
    obtain ⟨k, m, hk, rfl, hpk, rfl⟩ := hrel
    have HPK := Lib.hid hpk
    clear hpk
    by_cases hlt : k < l.length
    · have hlt' : (k : Int) < l.length := by omega
      obtain ⟨ao, cp, b, off, e1, i2, i3, i4, i5, i6⟩ := HRI.out
      have q1 := i6 k hlt
      rw [ixZ_at l hlt] at q1
      simp only [Value.slice.injEq] at e1
      obtain ⟨rfl, _, rfl⟩ := e1
      obtain ⟨rfl, _, _⟩ := i5 (by omega)
      have HS := Lib.hid (show l.take (k + 1) = l.take k ++ [l[k]] from List.take_succ_eq_append_getElem hlt)
      have HM := Lib.hid (List.getElem_mem hlt)
      obtain ⟨z, ez⟩ : ∃ z, l[k] = z := ⟨_, rfl⟩
      rw [ez] at HS HM
      rw [ez] at q1
      clear ez i4 i5 i6
      go_wp2_with fail
      refine (HH.out _ (HV1.out.same (w' := w1.drewN m) (fun _ _ _ => rfl)) z).mono ?_
      rintro e w2 ⟨rfl, m2, rfl⟩
      by_cases hz : hiB g.flat z.1 i.1 = true
      · rw [hz]
        have HR := Lib.hid (pkL_hit (Z := g.flat) HM.out hz)
        go_wp2
        go_ret
        exact ⟨by rw [HX.out, HR.out] <;> rfl, below_drewN HB.out (m + m2)⟩
      · have hz : hiB g.flat z.1 i.1 = false := by simpa using hz
        rw [hz]
        have HR := Lib.hid (pkL_step HPK.out hz)
        go_wp2
        go_roundw
        case rel => exact ⟨k + 1, m + m2, by omega, by go_num, by rw [HS.out]; exact HR.out, rfl⟩
        case measure => simp [intOf]; omega
    · have ek : k = l.length := by omega
      subst ek
      have HR := Lib.hid (show pkL g.flat i.1 l = true by have := HPK.out; rwa [List.take_length] at this)
      go_wp2
      go_ret
      exact ⟨by rw [HX.out, HR.out] <;> rfl, below_drewN HB.out m⟩

set_option maxHeartbeats 2000000 in
set_option maxRecDepth 100000 in
theorem specPeakIs_any (v : Value) (lo hi : Nat) (g : G) (i : Int) (w : World) (hv : RdM lo hi w v g) (hh : hi ≤ w.heap.size) :
    Calls Try.prog 56 #[v, .int .i64 i] w (BlPost (g.pkB i) w) := by
  have HAS : ∃ b, (b = true ↔ g.PkIn i) ∧ Calls Try.prog 40 #[v, .int .i64 i] w (EqPost b w) := by
    have HV := Lib.hid (specValid_any v lo hi g w hv)
    by_cases h : g.Valid
    · have HB := Lib.hid (G.vB_yes h)
      have h49 := mul_le_49 h.1.2 h.2.1.2
      have h0 : 1 ≤ g.n * g.len 0 := Nat.mul_le_mul h.1.1 h.2.1.1
      have HC := Lib.hid (fun n => l2Cells_any v lo hi g (w.drewN n) (hv.same (fun _ _ _ => rfl)) h)
      obtain ⟨N, eN⟩ : ∃ N, g.n * g.len 0 = N := ⟨_, rfl⟩
      have hP : g.PkIn i ↔ 0 ≤ i ∧ i < (N : Int) := by unfold G.PkIn; rw [eN]; exact ⟨fun x => x.2, fun x => ⟨h, x⟩⟩
      rw [eN] at h49 h0 HC
      have HP := Lib.hid hP
      clear hP eN hv
      by_cases hi : 0 ≤ i ∧ i < (N : Int)
      · refine ⟨true, ⟨fun _ => HP.out.2 hi, fun _ => rfl⟩, ?_⟩
        obtain ⟨hi1, hi2⟩ := hi
        clear h
        go_enter Try.func40, Try.ntmps40
        go_wp2_with fail
        refine HV.out.mono ?_
        rintro e w1 ⟨rfl, n1, rfl⟩
        rw [HB.out]
        go_wp2_with fail
        refine (HC.out n1).mono ?_
        rintro e w1 ⟨rfl, rfl⟩
        go_wp2_with fail
        refine (l6In_yes _ _ _ _ hi1 (by omega)).mono ?_
        rintro e w1 ⟨rfl, rfl⟩
        go_wp2
        go_ret
        exact ⟨rfl, _, rfl⟩
      · refine ⟨false, ⟨fun e => (by cases e), fun e => absurd (HP.out.1 e) hi⟩, ?_⟩
        have hi3 : i < 0 ∨ (N : Int) - 1 < i := by omega
        have HI := Lib.hid hi3
        clear h hi hi3
        go_enter Try.func40, Try.ntmps40
        go_wp2_with fail
        refine HV.out.mono ?_
        rintro e w1 ⟨rfl, n1, rfl⟩
        rw [HB.out]
        go_wp2_with fail
        refine (HC.out n1).mono ?_
        rintro e w1 ⟨rfl, rfl⟩
        go_wp2_with fail
        refine (l6In_no _ _ _ _ HI.out).mono ?_
        rintro e w1 ⟨rfl, rfl⟩
        go_wp2
        go_ret
        exact ⟨rfl, _, rfl⟩
    · have HB := Lib.hid (G.vB_no h)
      refine ⟨false, ⟨fun e => (by cases e), fun e => absurd e.1 h⟩, ?_⟩
      clear h hv
      go_enter Try.func40, Try.ntmps40
      go_wp2_with fail
      refine HV.out.mono ?_
      rintro e w1 ⟨rfl, n1, rfl⟩
      rw [HB.out]
      go_wp2
      go_ret
      exact ⟨rfl, _, rfl⟩
  obtain ⟨b, hb, hcall⟩ := HAS
  have HCALL := Lib.hid hcall
  by_cases h : g.PkIn i
  · obtain rfl : b = true := hb.2 h
    obtain ⟨x, hx⟩ : ∃ x : Ix (g.n * g.len 0), (x.1 : Int) = i := ⟨⟨i.toNat, by have := h.2; omega⟩, by have := h.2; show ((i.toNat : Nat) : Int) = i; omega⟩
    subst hx
    have HX := Lib.hid (G.pkB_yes (i := x) h.1)
    have HP := Lib.hid (fun n => l4Peak_any v lo hi g _ _ rfl rfl x (w.drewN n) (hv.same (fun _ _ _ => rfl)) hh h.1)
    clear hcall hb h hv
    obtain ⟨q, eq⟩ : ∃ q, pkQ g.n (g.len 0) g.flat x = q := ⟨_, rfl⟩
    rw [eq] at HX HP
    clear eq
    go_enter Try.func56, Try.ntmps56
    go_wp2_with fail
    refine HCALL.out.mono ?_
    rintro e w1 ⟨rfl, n1, rfl⟩
    go_wp2_with fail
    refine (HP.out n1).mono ?_
    rintro e w2 ⟨rfl, hb2⟩
    have HB2 := Lib.hid ((below_drewN (Below.refl w.heap.size w) n1).trans hb2)
    clear hb2
    go_wp2
    go_ret
    exact ⟨by rw [HX.out] <;> rfl, HB2.out⟩
  · obtain rfl : b = false := by
      cases b
      · rfl
      · exact absurd (hb.1 rfl) h
    have HX := Lib.hid (G.pkB_no h)
    clear hcall hb h hv
    go_enter Try.func56, Try.ntmps56
    go_wp2_with fail
    refine HCALL.out.mono ?_
    rintro e w1 ⟨rfl, n1, rfl⟩
    go_wp2
    go_ret
    exact ⟨by rw [HX.out] <;> rfl, below_drewN (Below.refl w.heap.size w) n1⟩

end Go.Proofs.Ytepnhamkadkipaa
