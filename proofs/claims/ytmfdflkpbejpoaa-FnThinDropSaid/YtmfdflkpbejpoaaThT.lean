/- Thinned lines of the model: errors of lists, heights, half of the points. -/
import Derived.Test.YtmfdflkpbejpoaaThS
namespace Go.Proofs.Ytmfdflkpbejpoaa
open Go.RowKit
set_option linter.unusedVariables false

set_option maxHeartbeats 4000000 in
set_option maxRecDepth 20000 in
theorem specThinError_yes (v u : Value) (lo hi lo2 hi2 n m : Nat) (Z Y : Nat → Int) (w : World) (hv : RdI lo hi w v n Z) (hu : RdI lo2 hi2 w u m Y) (hh : hi ≤ w.heap.size) (hh2 : hi2 ≤ w.heap.size) (h : ThOk n Z m Y) :
    Calls Try.prog 20 #[v, u] w (IntPost (erL Z Y (m - 1)) w) := by
  have hn20 := h.1.1.2
  have hmn := h.len
  have hm1 := h.2.1
  have HV := Lib.hid (specThinValid_any v u lo hi lo2 hi2 n m Z Y w hv hu (by omega) (by omega))
  have HTB := Lib.hid (thB_yes h)
  have HE := Lib.hid (fun (W : World) (hb : Below w.heap.size w W) (a b : Nat) (hab : a < b) (hbn : b < n) => l6hMost_any v lo hi n Z a b W (hv.same (SameIn.below hb hh)) (Nat.le_trans hh hb.size) h.1 hab hbn)
  have HR := Lib.hid (fun (a b : Nat) (hab : a < b) (hbn : b < n) => (⟨erB_nonneg Z a b, erB_top h.1.2 hn20 hab hbn⟩ : 0 ≤ erB Z a b ∧ erB Z a b ≤ 99))
  have HL := Lib.hid (fun (t : Nat) (ht : t + 1 ≤ m) => (⟨erL_nonneg Z Y t, erL_top h t ht⟩ : 0 ≤ erL Z Y t ∧ erL Z Y t ≤ 99))
  have HG := Lib.hid (fun (t : Nat) (ht : t + 1 < m) => (show ∃ a b : Nat, Y t = a ∧ Y (t + 1) = b ∧ a < b ∧ b < n ∧ erL Z Y (t + 1) = max (erL Z Y t) (erB Z a b) from by
    have h1 := h.range t (by omega)
    have h2 := h.range (t + 1) ht
    have h3 := h.gap t ht
    exact ⟨(Y t).toNat, (Y (t + 1)).toNat, by omega, by omega, h3.1, h3.2, rfl⟩))
  obtain ⟨va, vc, rfl⟩ := hv.shape
  obtain ⟨b, off, cap, rfl, hcap, _, hbh, hc⟩ := hu.open (by omega)
  have HC := Lib.hid (fun (W : World) (hb : Below w.heap.size w W) (x : Nat) (hx : x < m) => (hb.cell (p := ⟨b, off + x, none⟩) (by show b < _; omega)).trans (hc x hx))
  clear hv hu h hc
  go_enter Try.func20, Try.ntmps20
  go_wp2_with fail
  refine HV.out.mono ?_
  rintro e w1 ⟨rfl, rfl⟩
  rw [HTB.out]
  go_wp2
  go_loopw [5, 6] (fun o c wr => ∃ t : Nat, t + 1 ≤ m ∧ c = .int .i64 ((t + 1 : Nat) : Int) ∧ o = .int .i64 (erL Z Y t) ∧ Below w.heap.size w wr) (fun _ c _ => m - (intOf c).toNat)
  case atStart => exact ⟨0, by omega, by go_num, rfl, Below.refl _ _⟩
  case round =>
    obtain ⟨t, ht, rfl, rfl, hb⟩ := hrel
    have HB1 := Lib.hid hb
    obtain ⟨he1, he2⟩ := HL.out t ht
    clear hb
    by_cases hlt : t + 1 < m
    · have hlt' : (t : Int) + 1 < m := by omega
      obtain ⟨a, b', ea, eb, hab, hbn, hst⟩ := HG.out t hlt
      have HST := Lib.hid hst
      have c1 := HC.out _ HB1.out t (by omega)
      have c2 := HC.out _ HB1.out (t + 1) hlt
      rw [ea] at c1
      rw [eb] at c2
      obtain ⟨hr1, hr2⟩ := HR.out a b' hab hbn
      have HC1 := Lib.hid (fun (W : World) (hb : Below w.heap.size w W) => (HC.out W hb t (by omega)).trans (by rw [ea]))
      have HC2 := Lib.hid (fun (W : World) (hb : Below w.heap.size w W) => (HC.out W hb (t + 1) hlt).trans (by rw [eb]))
      have HEC := Lib.hid (fun (W : World) (hb : Below w.heap.size w W) => HE.out W hb a b' hab hbn)
      obtain ⟨M, eM⟩ : ∃ M, erL Z Y t = M := ⟨_, rfl⟩
      obtain ⟨E, eE⟩ : ∃ E, erB Z a b' = E := ⟨_, rfl⟩
      rw [eM] at he1 he2 HST ⊢
      rw [eE] at hr1 hr2 HST HEC
      have h0t : 0 ≤ (t : Int) := by omega
      have h0t1 : 0 ≤ (t : Int) + 1 := by omega
      have htn : ((t : Int) + 1).toNat = t + 1 := by omega
      have hw0 : IntKind.i64.wrap (t : Int) = (t : Int) := IntWalk.i64_in _ (by omega)
      have htm : (t : Int) < m := by omega
      have htm' : t < m := by omega
      clear hst ea eb eM eE
      have s00 : wr.drew.cell? ⟨b, off + t, none⟩ = some (.int .i64 (a : Int)) ∧ wr.drew.cell? ⟨b, off + (t + 1), none⟩ = some (.int .i64 (b' : Int)) := ⟨c1, c2⟩
      go_wp2_with fail
      go_region_held3 (fun w' => w'.cell? ⟨b, off + t, none⟩ = some (.int .i64 (a : Int)) ∧ w'.cell? ⟨b, off + (t + 1), none⟩ = some (.int .i64 (b' : Int))) (first | with_reducible exact s00 | with_reducible exact s0 | go_keep | exact s0 | exact s00)
        ((go_at_call 57; refine (HEC.out wr.drew (below_drewN HB1.out 1)).mono ?_; rintro e w2 ⟨rfl, hb2⟩; have HB2 := Lib.hid ((below_drewN HB1.out 1).trans (hb2.mono (below_drewN HB1.out 1).size)); have s0 : w2.cell? ⟨b, off + t, none⟩ = some (.int .i64 (a : Int)) ∧ w2.cell? ⟨b, off + (t + 1), none⟩ = some (.int .i64 (b' : Int)) := ⟨HC1.out _ HB2.out, HC2.out _ HB2.out⟩; clear hb2))
      all_goals go_wp2
      all_goals go_roundw
      all_goals first
        | exact ⟨t + 1, by omega, by go_num, by rw [HST.out], HB2.out⟩
        | (simp [intOf]; omega)
    · have hlt' : ¬ (t : Int) + 1 < m := by omega
      have HF := Lib.hid (show erL Z Y t = erL Z Y (m - 1) by rw [show m - 1 = t by omega])
      go_wp2
      go_ret
      exact ⟨ret_int HF.out, HB1.out⟩

set_option maxHeartbeats 4000000 in
set_option maxRecDepth 20000 in
theorem specThinError_any (v u : Value) (lo hi lo2 hi2 n m : Nat) (Z Y : Nat → Int) (w : World) (hv : RdI lo hi w v n Z) (hu : RdI lo2 hi2 w u m Y) (hh : hi ≤ w.heap.size) (hh2 : hi2 ≤ w.heap.size) (hn : n ≤ 1048576) (hm : m ≤ 1048576) :
    Calls Try.prog 20 #[v, u] w (IntPost (thE n Z m Y) w) := by
  by_cases h : ThOk n Z m Y
  · rw [thE_yes h]
    exact specThinError_yes v u lo hi lo2 hi2 n m Z Y w hv hu hh hh2 h
  · have HV := Lib.hid (specThinValid_any v u lo hi lo2 hi2 n m Z Y w hv hu hn hm)
    have HTB := Lib.hid (thB_no h)
    rw [thE_no h]
    obtain ⟨va, vc, rfl⟩ := hv.shape
    obtain ⟨ua, uc, rfl⟩ := hu.shape
    clear hv hu h
    go_enter Try.func20, Try.ntmps20
    go_wp2_with fail
    refine HV.out.mono ?_
    rintro e w1 ⟨rfl, rfl⟩
    rw [HTB.out]
    go_wp2
    go_ret
    exact ⟨rfl, Below.refl _ _⟩

set_option maxHeartbeats 4000000 in
set_option maxRecDepth 20000 in
theorem specThinKeeps_any (v u : Value) (lo hi lo2 hi2 n m : Nat) (Z Y : Nat → Int) (e : Int) (w : World) (hv : RdI lo hi w v n Z) (hu : RdI lo2 hi2 w u m Y) (hh : hi ≤ w.heap.size) (hh2 : hi2 ≤ w.heap.size) (hn : n ≤ 1048576) (hm : m ≤ 1048576) :
    Calls Try.prog 23 #[v, u, .int .i64 e] w (BlPost (thK n Z m Y e) w) := by
  have HV := Lib.hid (specThinValid_any v u lo hi lo2 hi2 n m Z Y w hv hu hn hm)
  have HE := Lib.hid (specThinError_any v u lo hi lo2 hi2 n m Z Y w hv hu hh hh2 hn hm)
  obtain ⟨va, vc, rfl⟩ := hv.shape
  obtain ⟨ua, uc, rfl⟩ := hu.shape
  clear hv hu
  by_cases h : ThOk n Z m Y
  · have HTB := Lib.hid (thB_yes h)
    by_cases he : 0 ≤ e ∧ e ≤ 99
    · obtain ⟨he1, he2⟩ := he
      by_cases hk : thE n Z m Y ≤ e
      · have HA := Lib.hid (thK_yes ⟨h, ⟨he1, he2⟩, hk⟩)
        obtain ⟨x, ex⟩ : ∃ x, thE n Z m Y = x := ⟨_, rfl⟩
        rw [ex] at hk HE
        clear h ex
        go_enter Try.func23, Try.ntmps23
        go_wp2_with fail
        refine HV.out.mono ?_
        rintro e' w1 ⟨rfl, rfl⟩
        rw [HTB.out]
        go_wp2_with fail
        refine (l6In_yes _ _ _ _ he1 he2).mono ?_
        rintro e' w1 ⟨rfl, rfl⟩
        go_wp2_with fail
        refine HE.out.mono ?_
        rintro e' w2 ⟨rfl, hb2⟩
        have HB2 := Lib.hid hb2
        clear hb2
        go_wp2
        go_ret
        exact bl_post HA.out HB2.out
      · have HA := Lib.hid (thK_no (n := n) (z := Z) (m := m) (y := Y) (e := e) (fun g => hk g.2.2))
        obtain ⟨x, ex⟩ : ∃ x, thE n Z m Y = x := ⟨_, rfl⟩
        rw [ex] at hk HE
        have hd : decide (x ≤ e) = false := by simp; omega
        clear h ex hk
        go_enter Try.func23, Try.ntmps23
        go_wp2_with fail
        refine HV.out.mono ?_
        rintro e' w1 ⟨rfl, rfl⟩
        rw [HTB.out]
        go_wp2_with fail
        refine (l6In_yes _ _ _ _ he1 he2).mono ?_
        rintro e' w1 ⟨rfl, rfl⟩
        go_wp2_with fail
        refine HE.out.mono ?_
        rintro e' w2 ⟨rfl, hb2⟩
        have HB2 := Lib.hid hb2
        clear hb2
        go_wp2
        go_ret
        exact bl_post HA.out HB2.out
    · have HA := Lib.hid (thK_no (n := n) (z := Z) (m := m) (y := Y) (e := e) (fun g => he g.2.1))
      clear h
      go_enter Try.func23, Try.ntmps23
      go_wp2_with fail
      refine HV.out.mono ?_
      rintro e' w1 ⟨rfl, rfl⟩
      rw [HTB.out]
      go_wp2_with fail
      refine (l6In_no _ _ _ _ (by omega)).mono ?_
      rintro e' w1 ⟨rfl, rfl⟩
      go_wp2
      go_ret
      exact bl_post HA.out (Below.refl _ _)
  · have HTB := Lib.hid (thB_no h)
    have HA := Lib.hid (thK_no (n := n) (z := Z) (m := m) (y := Y) (e := e) (fun g => h g.1))
    clear h
    go_enter Try.func23, Try.ntmps23
    go_wp2_with fail
    refine HV.out.mono ?_
    rintro e' w1 ⟨rfl, rfl⟩
    rw [HTB.out]
    go_wp2
    go_ret
    exact bl_post HA.out (Below.refl _ _)

end Go.Proofs.Ytmfdflkpbejpoaa
