/- The model's FixesDo and FixesValid. -/
import Derived.Test.YtidlloelinmnnaaFx
import Derived.Test.YtidlloelinmnnaaFs
import Derived.BigQuiet
import Derived.BigRegion
namespace Go.Proofs.Ytidlloelinmnnaa
open Go.RowKit
set_option linter.unusedVariables false

theorem _root_.Go.Calls.quiet_ofE {P : Program} {f : FuncId} {args : Array Value} {w : World} {n : Nat} {b : Bool}
    (h : Calls P f args (w.drewN n) (EqPost b (w.drewN n))) : Calls P f args (w.drewN n) fun e w'' => e = .returned (.bool b) ∧ ∃ m, w'' = w.drewN m :=
  h.mono fun _ _ ⟨he, m, hm⟩ => ⟨he, n + m, by rw [hm, World.drewN_drewN]⟩
theorem RdM.drewN {lo hi : Nat} {w : World} {v : Value} {g : G} (h : RdM lo hi w v g) (k : Nat) : RdM lo hi (w.drewN k) v g := h.same fun _ _ _ => rfl

set_option maxRecDepth 20000 in
set_option maxHeartbeats 8000000 in
theorem l9Can_any (v : Value) (lo hi : Nat) (g : G) (r c o n : Int) (w : World) (hv : RdM lo hi w v g) (hh : hi ≤ w.heap.size) (hval : g.Valid) :
    Calls Try.prog 96 #[v, .agg #[.int .i64 r, .int .i64 c, .int .i64 o, .int .i64 n]] w (BlPost (canB g.n (g.len 0) g.flat ⟨r, c, o, n⟩) w) := by
  have HB1 := Lib.hid (show Below w.heap.size w (w.alloc (.cells #[.int .i64 r, .int .i64 c, .int .i64 o, .int .i64 n] 63)) from (Below.refl _ _).alloc (Nat.le_refl _) _)
  have hv1 := hv.same (SameIn.below HB1.out hh)
  have HC := Lib.hid (fun (W : World) (hs : SameIn lo hi w W) => l1Cell_any v lo hi g r c W (hv.same hs))
  obtain ⟨c0, c1, c2, c3⟩ := cellsLb (heap_alloc_new w (.cells #[.int .i64 r, .int .i64 c, .int .i64 o, .int .i64 n] 63))
  by_cases hcell : g.Cell r c
  case neg =>
    have HN := Lib.hid (canB_no (R := g.n) (C := g.len 0) (h := g.flat) (f := ⟨r, c, o, n⟩) (fun k => hcell ⟨hval, ⟨k.1.1.1, by have := k.1.1.2; simp only at this; omega⟩, k.1.2.1, by have := k.1.2.2; simp only at this; omega⟩))
    rw [G.cB_no hcell] at HC
    clear hv hv1 hcell hval
    go_enter Try.func96, Try.ntmps96
    go_wp2_with fail
    generalize w.alloc (.cells #[.int .i64 _, .int .i64 _, .int .i64 _, .int .i64 _] 63) = W1 at HB1 c0 c1 c2 c3 ⊢
    go_quiet ((go_at_call 65; exact Calls.quiet_ofE (HC.out _ (fun k _ h2 => HB1.out.block k (by omega)))))
    go_wp2
    go_ret
    exact ⟨by rw [HN.out]; rfl, below_drewN HB1.out _⟩
  rw [G.cB_yes hcell] at HC
  obtain ⟨r, rfl⟩ := Int.eq_ofNat_of_zero_le hcell.2.1.1
  obtain ⟨c, rfl⟩ := Int.eq_ofNat_of_zero_le hcell.2.2.1
  have hr : r < g.n := by have := hcell.2.1.2; omega
  have hc : c < g.len 0 := by have := hcell.2.2.2; omega
  have hlr : g.len r = g.len 0 := (hval.2.2 r hr).1
  have hcr : c < g.len r := by omega
  have hr' : (r : Int) < g.n := by omega
  have hc' : (c : Int) < g.len r := by omega
  obtain ⟨b, off, cap, b1, off1, cp, rfl, p1, p2, _, _⟩ := hv1.cellAt hr hcr
  have HF := Lib.hid (show Can g.n (g.len 0) g.flat ⟨(r : Int), (c : Int), o, n⟩ ↔ (g.z r c = o ∧ (0 ≤ n ∧ n ≤ 99) ∧ n ≠ o) from by
    unfold Can
    simp only [Int.toNat_natCast]
    rw [g.flat_at r c hc]
    constructor
    · rintro ⟨_, h⟩; exact h
    · intro h; exact ⟨⟨⟨by omega, by omega⟩, by omega, by omega⟩, h⟩)
  obtain ⟨x, ex⟩ : ∃ x, g.z r c = x := ⟨_, rfl⟩
  rw [ex] at p2 HF
  clear hv hv1 hcell hval ex hc hlr
  by_cases h1 : x = o
  case neg =>
    have HN := Lib.hid (canB_no (fun k => h1 (HF.out.1 k).1))
    have h1' : (x == o) = false := by simpa using h1
    clear HF h1
    go_enter Try.func96, Try.ntmps96
    go_wp2_with fail
    generalize w.alloc (.cells #[.int .i64 _, .int .i64 _, .int .i64 _, .int .i64 _] 63) = W1 at HB1 c0 c1 c2 c3 p1 p2 ⊢
    go_quiet ((go_at_call 65; exact Calls.quiet_ofE (HC.out _ (fun k _ h2 => HB1.out.block k (by omega)))))
    go_wp2
    go_ret
    exact ⟨by rw [HN.out]; rfl, below_drewN HB1.out _⟩
  subst h1
  have h1' : (x == x) = true := by simp
  by_cases h2 : 0 ≤ n ∧ n ≤ 99
  case neg =>
    have HN := Lib.hid (canB_no (fun k => h2 (HF.out.1 k).2.1))
    have HI := Lib.hid (fun W => (l6In_no n 0 99 W (by omega)).mono (fun _ _ h => (⟨h.1, h.2.symm⟩ : _ ∧ _ = W)))
    clear HF h2
    go_enter Try.func96, Try.ntmps96
    go_wp2_with fail
    generalize w.alloc (.cells #[.int .i64 _, .int .i64 _, .int .i64 _, .int .i64 _] 63) = W1 at HB1 c0 c1 c2 c3 p1 p2 ⊢
    go_quiet (first | (go_at_call 65; exact Calls.quiet_ofE (HC.out _ (fun k _ h2 => HB1.out.block k (by omega)))) | (go_at_call 98; exact Calls.quiet_of_same (HI.out _)))
    go_wp2
    go_ret
    exact ⟨by rw [HN.out]; rfl, below_drewN HB1.out _⟩
  have HI := Lib.hid (fun W => (l6In_yes n 0 99 W h2.1 h2.2).mono (fun _ _ h => (⟨h.1, h.2.symm⟩ : _ ∧ _ = W)))
  have HN := Lib.hid (show (n != x) = canB g.n (g.len 0) g.flat ⟨(r : Int), (c : Int), x, n⟩ from by
    by_cases h3 : n = x
    · rw [canB_no (fun k => (HF.out.1 k).2.2 h3)]; simpa using h3
    · rw [canB_yes (HF.out.2 ⟨rfl, h2, h3⟩)]; simpa using h3)
  clear HF h2
  go_enter Try.func96, Try.ntmps96
  go_wp2_with fail
  generalize w.alloc (.cells #[.int .i64 _, .int .i64 _, .int .i64 _, .int .i64 _] 63) = W1 at HB1 c0 c1 c2 c3 p1 p2 ⊢
  go_quiet (first | (go_at_call 65; exact Calls.quiet_ofE (HC.out _ (fun k _ h2 => HB1.out.block k (by omega)))) | (go_at_call 98; exact Calls.quiet_of_same (HI.out _)))
  go_wp2
  go_ret
  exact ⟨by rw [← HN.out]; rfl, below_drewN HB1.out _⟩

theorem doOk_le {R C : Nat} {h : Nat → Int} {Z : Nat → Int} {n k : Nat} (hk : k ≤ n) (ho : DoOk R C h (fxF Z 0 n)) : DoOk R C h (fxF Z 0 k) := by
  have e : n = k + (n - k) := by omega
  rw [e, fxF_app] at ho
  exact ((DoOk_app R C _ _ h).1 ho).1
theorem doOk_snoc {R C : Nat} {h : Nat → Int} {Z : Nat → Int} {k : Nat} : DoOk R C h (fxF Z 0 (k + 1)) ↔ DoOk R C h (fxF Z 0 k) ∧ Can R C (doH C h (fxF Z 0 k)) (fxAt Z k) := by
  rw [fxF_snoc, DoOk_app, Nat.zero_add]
  constructor
  · rintro ⟨a, b⟩; exact ⟨a, b.1⟩
  · rintro ⟨a, b⟩; exact ⟨a, b, trivial⟩
theorem doH_snoc {C : Nat} {h : Nat → Int} {Z : Nat → Int} {k : Nat} : doH C h (fxF Z 0 (k + 1)) = put C (doH C h (fxF Z 0 k)) (fxAt Z k) := by
  rw [fxF_snoc, doH_app, Nat.zero_add]
  rfl
theorem fx_free {g : G} {n : Nat} {Z : Nat → Int} (hv : g.Valid) (hn : n ≤ 60) {k : Nat} (hk : k < n) (hc : ¬ Can g.n (g.len 0) (doH (g.len 0) g.flat (fxF Z 0 k)) (fxAt Z k)) : ¬ FxOk g n Z := fun h =>
  hc (doOk_snoc.1 (doOk_le (show k + 1 ≤ n from hk) h.2.2)).2

set_option maxRecDepth 20000 in
set_option maxHeartbeats 16000000 in
theorem specFixesDo_any (v u : Value) (lo hi n : Nat) (g : G) (Z : Nat → Int) (w : World) (hv : RdM lo hi w v g) (hu : RdT lo hi w u n Z) (hh : hi ≤ w.heap.size) (hn : n ≤ 1048576) :
    Calls Try.prog 62 #[v, u] w (SPost (fxB g n Z) (exG g n Z) w) := by
  have HV := Lib.hid (specValid_any v lo hi g w hv)
  obtain ⟨au, cu, rfl⟩ := hu.shape
  by_cases hval : g.Valid
  case neg =>
    have hno : ¬ FxOk g n Z := fun h => hval h.1
    rw [fxB_no hno, exG_no hno]
    rw [G.vB_no hval] at HV
    clear hv hu hval hno
    go_enter Try.func62, Try.ntmps62
    go_wp2_with fail
    refine HV.out.mono ?_
    rintro e w1 ⟨rfl, n1, rfl⟩
    go_wp2
    go_ret2
    exact ⟨_, rfl, ⟨_, _, _, rfl⟩, RdM.empty _ _ _ _ _ (by omega), below_drewN ((Below.refl _ _).alloc (Nat.le_refl _) _) _⟩
  rw [G.vB_yes hval] at HV
  by_cases hn6 : n ≤ 60
  case neg =>
    have hno : ¬ FxOk g n Z := fun h => hn6 h.2.1
    rw [fxB_no hno, exG_no hno]
    have hn6' : (60 : Int) < n := by omega
    clear hv hu hval hno hn6
    go_enter Try.func62, Try.ntmps62
    go_wp2_with fail
    refine HV.out.mono ?_
    rintro e w1 ⟨rfl, n1, rfl⟩
    go_wp2
    go_ret2
    exact ⟨_, rfl, ⟨_, _, _, rfl⟩, RdM.empty _ _ _ _ _ (by omega), below_drewN ((Below.refl _ _).alloc (Nat.le_refl _) _) _⟩
  have hn6' : ¬ (60 : Int) < n := by omega
  have HVal := Lib.hid hval
  have HCP := Lib.hid (fun (W : World) (hb : Below w.heap.size w W) => l1Copy_any v lo hi g W (hv.same (SameIn.below hb hh)) (Nat.le_trans hh hb.size) (by have := hval.1; omega) (fun i hi' => by have := (hval.2.2 i hi').1; have := hval.2.1; omega))
  have HU := Lib.hid hu
  have hcn : n ≤ cu ∧ cu ≤ 9223372036854775807 := by obtain ⟨_, _, _, _, he, q1, q2, _⟩ := hu; simp only [Value.slice.injEq] at he; omega
  clear hv hu hval
  go_enter Try.func62, Try.ntmps62
  go_wp2_with fail
  refine HV.out.mono ?_
  rintro e w1 ⟨rfl, n1, rfl⟩
  have HB1 := Lib.hid (below_drewN (Below.refl w.heap.size w) n1)
  go_wp2_with fail
  refine (HCP.out _ HB1.out).mono ?_
  clear HCP
  rintro e w2 ⟨v2, B, RV, rfl, hgr⟩
  obtain ⟨a2, c2, rfl⟩ := own_shape hgr.top
  have HG := Lib.hid (hgr.congrF (g' := edK g g.flat) (fun r hr => ⟨rfl, fun c hc => (g.flat_at r c (by have := (HVal.out.2.2 r hr).1; omega))⟩))
  have HB2 := Lib.hid (HB1.out.trans hgr.below)
  clear hgr
  go_wp2
  go_loopw [7] (fun i wr => ∃ k : Nat, k ≤ n ∧ i = .int .i64 k ∧ DoOk g.n (g.len 0) g.flat (fxF Z 0 k) ∧ Gr (w.drewN n1) wr (.slice a2 g.n c2) g.n B RV (edK g (doH (g.len 0) g.flat (fxF Z 0 k)))) (fun i _ => n - (intOf i).toNat)
  case atStart => exact ⟨0, Nat.zero_le _, rfl, trivial, HG.out⟩
  case round =>
    obtain ⟨k, hk, rfl, hok, hgr⟩ := hrel
    have HOK := Lib.hid hok
    have HGR := Lib.hid hgr
    have hbw := hgr.below
    by_cases hlt : k < n
    · obtain ⟨b, off, cap, hsl, hc1, hc2, _, hbh, hcell⟩ := (HU.out.same (SameIn.below (HB1.out.trans hbw) hh)).open (by omega)
      simp only [Value.slice.injEq] at hsl
      obtain ⟨rfl, _, rfl⟩ := hsl
      have hlt' : (k : Int) < n := by omega
      obtain ⟨q0, q1, q2, q3⟩ := four_of hcell hlt
      have HR := Lib.hid (doH_range _ hok (flat_range HVal.out))
      have hM := Gr.rdM (g := edK g (doH (g.len 0) g.flat (fxF Z 0 k))) hgr (fun r hr c hc => by
        have := HR.out (r * g.len 0 + c) (cell_lt (R := g.n) (C := g.len 0) rfl hr (by have := (HVal.out.2.2 r hr).1; have hc' : c < g.len r := hc; omega))
        show -9223372036854775808 ≤ doH (g.len 0) g.flat (fxF Z 0 k) (r * g.len 0 + c) ∧ doH (g.len 0) g.flat (fxF Z 0 k) (r * g.len 0 + c) ≤ 9223372036854775807
        omega)
      have HC := Lib.hid (l9Can_any _ w.heap.size wr.heap.size _ (Z (k * 4)) (Z (k * 4 + 1)) (Z (k * 4 + 2)) (Z (k * 4 + 3)) wr hM (Nat.le_refl _) (edK_valid HVal.out HR.out))
      have HE := Lib.hid (show canB (edK g (doH (g.len 0) g.flat (fxF Z 0 k))).n ((edK g (doH (g.len 0) g.flat (fxF Z 0 k))).len 0) (edK g (doH (g.len 0) g.flat (fxF Z 0 k))).flat ⟨Z (k * 4), Z (k * 4 + 1), Z (k * 4 + 2), Z (k * 4 + 3)⟩ = canB g.n (g.len 0) (doH (g.len 0) g.flat (fxF Z 0 k)) (fxAt Z k) from by
        by_cases h : Can g.n (g.len 0) (doH (g.len 0) g.flat (fxF Z 0 k)) (fxAt Z k)
        · exact (canB_yes (show Can g.n (g.len 0) _ (fxAt Z k) from h.congr (fun i hi => (edK_flat HVal.out _ i hi).symm))).trans (canB_yes h).symm
        · exact (canB_no (fun h' => h (Can.congr (R := g.n) (C := g.len 0) h' (fun i hi => edK_flat HVal.out _ i hi)))).trans (canB_no h).symm)
      rw [HE.out] at HC
      by_cases hcan : Can g.n (g.len 0) (doH (g.len 0) g.flat (fxF Z 0 k)) (fxAt Z k)
      case neg =>
        rw [canB_no hcan] at HC
        have hno := fx_free HVal.out hn6 hlt hcan
        rw [fxB_no hno, exG_no hno]
        have HBW := Lib.hid (HB1.out.trans hbw)
        clear hgr hcan hno hM hbw hcell hok HGR
        go_wp2_with fail
        refine HC.out.mono ?_
        rintro e w3 ⟨rfl, hb3⟩
        have HB3 := Lib.hid (HBW.out.trans (hb3.mono HBW.out.size))
        clear hb3
        go_wp2
        go_ret2
        exact ⟨_, rfl, ⟨_, _, _, rfl⟩, RdM.empty _ _ _ _ _ (by omega), HB3.out.alloc HB3.out.size _⟩
      rw [canB_yes hcan] at HC
      have hcan' := hcan
      obtain ⟨⟨⟨r0, r1⟩, s0, s1⟩, _, ⟨x0, x1⟩, _⟩ := hcan'
      simp only [fxAt] at r0 r1 s0 s1 x0 x1
      obtain ⟨r, er⟩ := Int.eq_ofNat_of_zero_le r0
      obtain ⟨c, ec⟩ := Int.eq_ofNat_of_zero_le s0
      have hlr := (HVal.out.2.2 r (by omega)).1
      have HST := Lib.hid (edK_upd HVal.out _ hcan)
      have HDO := Lib.hid (doOk_snoc.2 ⟨hok, hcan⟩)
      have HFA := Lib.hid (show (fxAt Z k).r.toNat = r ∧ (fxAt Z k).c.toNat = c ∧ (fxAt Z k).n = Z (k * 4 + 3) from ⟨by simp [fxAt, er], by simp [fxAt, ec], rfl⟩)
      have HBW := Lib.hid (HB1.out.trans hbw)
      rw [er] at q0 r0 r1 HC
      rw [ec] at q1 s0 s1 HC
      obtain ⟨X, eX⟩ : ∃ X, Z (k * 4 + 3) = X := ⟨_, rfl⟩
      rw [eX] at q3 HC HFA
      obtain ⟨O, eO⟩ : ∃ O, Z (k * 4 + 2) = O := ⟨_, rfl⟩
      rw [eO] at q2 HC
      have hbl : b < w.heap.size := by omega
      have hcr : (c : Int) < g.len r := by omega
      clear hgr hcan hM hbw hcell hok er ec eX eO HOK x0 x1
      go_wp2_with fail
      refine HC.out.mono ?_
      rintro e w3 ⟨rfl, hb3⟩
      have hgr3 := HGR.out.keep (hb3.mono (Nat.le_trans HGR.out.hi (Nat.le_refl _)))
      have hq : ∀ o, w3.cell? ⟨b, o, none⟩ = wr.cell? ⟨b, o, none⟩ := fun o => hb3.cell (p := ⟨b, o, none⟩) (by show b < _; have := HBW.out.size; omega)
      rw [← hq] at q0 q1 q2 q3
      obtain ⟨bt, capt, bq, cq, hsl, hRV, p1, p2, p3⟩ := hgr3.cellAt (r := r) (c := c) (by omega) (show c < g.len r by omega)
      simp only [Value.slice.injEq] at hsl
      obtain ⟨rfl, _, rfl⟩ := hsl
      change w3.cell? ⟨bt, r, none⟩ = some (.slice (some ⟨bq, 0, none⟩) (g.len r) cq) at p1
      have HST2 := Lib.hid (hgr3.store (r := r) (c := c) (by omega) (show c < g.len r by omega) hRV X)
      have hdisj : ¬ b = bq := fun e => by
        have h1 := hgr3.rows r (by omega)
        obtain ⟨ys, hy1, hy2, _⟩ := h1
        have := (hy1.lt bq (by rw [hRV]; rfl)).1
        have hz : (w.drewN n1).heap.size = w.heap.size := rfl
        omega
      clear hgr3 hRV hb3 hq HGR
      go_wp2
      go_region
      all_goals go_wp2
      all_goals go_roundw
      case rel => exact ⟨k + 1, by omega, by go_num, HDO.out, (HST2.out.drewG.congrF (g' := edK g (doH (g.len 0) g.flat (fxF Z 0 (k + 1)))) (fun i hi => ⟨rfl, fun j hj => by
        have h := HST.out i hi j hj
        rw [HFA.out.1, HFA.out.2.1, HFA.out.2.2] at h
        rw [doH_snoc]
        exact h.symm⟩))⟩
      case measure => simp [intOf]; omega
    · obtain rfl : k = n := by omega
      have hyes : FxOk g k Z := ⟨HVal.out, hn6, HOK.out⟩
      have HYB := Lib.hid (fxB_yes hyes)
      have HYG := Lib.hid (exG_yes hyes)
      have HR := Lib.hid (edH_range hyes)
      have HM := Lib.hid (Gr.rdM (g := edK g (edH g k Z)) hgr (fun r hr c hc => by
        have := HR.out (r * g.len 0 + c) (cell_lt (R := g.n) (C := g.len 0) rfl hr (by have := (HVal.out.2.2 r hr).1; have hc' : c < g.len r := hc; omega))
        show -9223372036854775808 ≤ edH g k Z (r * g.len 0 + c) ∧ edH g k Z (r * g.len 0 + c) ≤ 9223372036854775807
        omega))
      have HBW := Lib.hid (HB1.out.trans hbw)
      clear hgr hok hyes hbw
      go_wp2
      go_ret2
      refine ⟨.slice a2 g.n c2, ?_, ⟨_, _, _, rfl⟩, ?_, HBW.out⟩
      · rw [HYB.out]; rfl
      · rw [HYG.out]; exact HM.out

set_option maxRecDepth 20000 in
set_option maxHeartbeats 4000000 in
theorem specFixesValid_any (v u : Value) (lo hi n : Nat) (g : G) (Z : Nat → Int) (w : World) (hv : RdM lo hi w v g) (hu : RdT lo hi w u n Z) (hh : hi ≤ w.heap.size) (hn : n ≤ 1048576) :
    Calls Try.prog 37 #[v, u] w (BlPost (fxB g n Z) w) := by
  have HD := Lib.hid (specFixesDo_any v u lo hi n g Z w hv hu hh hn)
  clear hv hu
  go_enter Try.func37, Try.ntmps37
  go_wp2_with fail
  refine HD.out.mono ?_
  rintro e w1 ⟨v1, rfl, ⟨_, _, _, rfl⟩, _, hb⟩
  go_wp2
  go_ret
  exact ⟨rfl, hb⟩

end Go.Proofs.Ytidlloelinmnnaa
