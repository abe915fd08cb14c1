/- Keys and prominences of the program. -/
import Derived.Test.YtlbdglhippapnabKeyS
import Derived.Test.YtlbdglhippapnabPsT
import Derived.Test.YtlbdglhippapnabPkI2
import Derived.Test.YtlbdglhippapnabPkLI
namespace Go.Proofs.Ytlbdglhippapnab
open Go.RowKit
set_option linter.unusedVariables false

theorem callFunc_key : ∀ (args : Array Value) (W : World), Sem.run Try.prog (callFunc 71 args) W = .ok (.enter 71 args) W := fun _ _ => by kernel_rfl

set_option maxHeartbeats 2000000 in
set_option maxRecDepth 20000 in
theorem clos_key (R C n gg cap A B : Nat) (Z : Nat → Int) (x i : Nat) (W : World) (h0 : W.cell? ⟨A, 0, none⟩ = some (.int .i64 R)) (h1 : W.cell? ⟨A, 1, none⟩ = some (.int .i64 C)) (h2 : W.cell? ⟨A, 2, none⟩ = some (.slice (some ⟨gg, 0, none⟩) n cap))
    (h3 : W.cell? ⟨B, 0, none⟩ = some (.int .i64 i)) (hA : A < W.heap.size) (hB : B < W.heap.size)
    (hr : Rv W R C n gg cap Z) (hi : i < n) (hn : n ≤ 1000) :
    Calls Try.prog 71 #[.agg #[.int .i64 (Z x), .int .i64 x], .pointer (some ⟨A, 0, none⟩), .pointer (some ⟨B, 0, none⟩)] W (BlPost (hiB Z x i) W) := by
  have hb0 := (Below.refl W.heap.size W).alloc (Nat.le_refl _) (.cells #[.int .i64 (Z x), .int .i64 x] 60)
  have HS := Lib.hid (spot_any R C gg cap n Z i (W.alloc (.cells #[.int .i64 (Z x), .int .i64 x] 60)).drew (hr.keep hb0.drew (Nat.le_refl _)) hi hn)
  have HAB := Lib.hid (fun U => show Calls Try.prog 72 #[.agg #[.int .i64 (Z x), .int .i64 x], .agg #[.int .i64 (Z i), .int .i64 i]] U (BlPost (hiB Z x i) U) from above_any _ _ _ _ U)
  obtain ⟨t, et⟩ : ∃ t, hiB Z x i = t := ⟨_, rfl⟩
  rw [et] at HAB ⊢
  obtain ⟨zx, ezx⟩ : ∃ t, Z x = t := ⟨_, rfl⟩
  rw [ezx] at HAB hb0 HS ⊢
  obtain ⟨zi, ezi⟩ : ∃ t, Z i = t := ⟨_, rfl⟩
  rw [ezi] at HAB HS
  have HB0 := Lib.hid hb0
  obtain ⟨d0, d1, _, _⟩ := cells2 (heap_alloc_new W (.cells #[.int .i64 zx, .int .i64 x] 60))
  have hs0 : (W.alloc (.cells #[.int .i64 zx, .int .i64 x] 60)).heap.size = W.heap.size + 1 := by simp
  have c0 := (hb0.cell (p := ⟨A, 0, none⟩) hA).trans h0
  have c1 := (hb0.cell (p := ⟨A, 1, none⟩) hA).trans h1
  have c2 := (hb0.cell (p := ⟨A, 2, none⟩) hA).trans h2
  have c3 := (hb0.cell (p := ⟨B, 0, none⟩) hB).trans h3
  have HI := Lib.hid (show (W.alloc (.cells #[.int .i64 zx, .int .i64 x] 60)).drew.cell? ⟨A, 0, none⟩ = some (.int .i64 R) ∧ (W.alloc (.cells #[.int .i64 zx, .int .i64 x] 60)).drew.cell? ⟨A, 1, none⟩ = some (.int .i64 C) ∧ (W.alloc (.cells #[.int .i64 zx, .int .i64 x] 60)).drew.cell? ⟨A, 2, none⟩ = some (.slice (some ⟨gg, 0, none⟩) n cap) ∧ (W.alloc (.cells #[.int .i64 zx, .int .i64 x] 60)).drew.cell? ⟨B, 0, none⟩ = some (.int .i64 i) ∧ (W.alloc (.cells #[.int .i64 zx, .int .i64 x] 60)).drew.cell? ⟨W.heap.size, 0, none⟩ = some (.int .i64 zx) ∧ (W.alloc (.cells #[.int .i64 zx, .int .i64 x] 60)).drew.cell? ⟨W.heap.size, 1, none⟩ = some (.int .i64 x) from ⟨c0, c1, c2, c3, d0, d1⟩)
  have HKP := Lib.hid (fun (U V : World) (h : Below U.heap.size U V) (hs : W.heap.size + 1 ≤ U.heap.size) (k : U.cell? ⟨A, 0, none⟩ = some (.int .i64 R) ∧ U.cell? ⟨A, 1, none⟩ = some (.int .i64 C) ∧ U.cell? ⟨A, 2, none⟩ = some (.slice (some ⟨gg, 0, none⟩) n cap) ∧ U.cell? ⟨B, 0, none⟩ = some (.int .i64 i) ∧ U.cell? ⟨W.heap.size, 0, none⟩ = some (.int .i64 zx) ∧ U.cell? ⟨W.heap.size, 1, none⟩ = some (.int .i64 x)) => (show V.cell? ⟨A, 0, none⟩ = some (.int .i64 R) ∧ V.cell? ⟨A, 1, none⟩ = some (.int .i64 C) ∧ V.cell? ⟨A, 2, none⟩ = some (.slice (some ⟨gg, 0, none⟩) n cap) ∧ V.cell? ⟨B, 0, none⟩ = some (.int .i64 i) ∧ V.cell? ⟨W.heap.size, 0, none⟩ = some (.int .i64 zx) ∧ V.cell? ⟨W.heap.size, 1, none⟩ = some (.int .i64 x) from
    ⟨(h.cell (p := ⟨A, 0, none⟩) (by show A < _; omega)).trans k.1, (h.cell (p := ⟨A, 1, none⟩) (by show A < _; omega)).trans k.2.1, (h.cell (p := ⟨A, 2, none⟩) (by show A < _; omega)).trans k.2.2.1, (h.cell (p := ⟨B, 0, none⟩) (by show B < _; omega)).trans k.2.2.2.1, (h.cell (p := ⟨W.heap.size, 0, none⟩) (by show W.heap.size < _; omega)).trans k.2.2.2.2.1, (h.cell (p := ⟨W.heap.size, 1, none⟩) (by show W.heap.size < _; omega)).trans k.2.2.2.2.2⟩))
  clear hr et ezx ezi hb0 c0 c1 c2 c3 d0 d1 h0 h1 h2 h3
  go_enter Try.func71, Try.ntmps71
  go_wp2_with fail
  go_region_held3 (fun w' => w'.cell? ⟨A, 0, none⟩ = some (.int .i64 R) ∧ w'.cell? ⟨A, 1, none⟩ = some (.int .i64 C) ∧ w'.cell? ⟨A, 2, none⟩ = some (.slice (some ⟨gg, 0, none⟩) n cap) ∧ w'.cell? ⟨B, 0, none⟩ = some (.int .i64 i) ∧ w'.cell? ⟨W.heap.size, 0, none⟩ = some (.int .i64 zx) ∧ w'.cell? ⟨W.heap.size, 1, none⟩ = some (.int .i64 x))
    (first | exact HI.out | exact s4 | exact s5)
    (first | (go_at_call 63; refine HS.out.mono ?_; rintro e w2 ⟨rfl, hb1⟩; have hb2 := hb1.undrew; have hs2 := hb2.size; have s4 := HKP.out _ w2 hb2 (by omega) HI.out; have HB2 := Lib.hid (HB0.out.trans (hb2.mono (by omega))); clear hb1 hb2) | (go_at_call 72; refine (HAB.out _).mono ?_; rintro e w3 ⟨rfl, hb3⟩; have s5 := HKP.out _ w3 hb3 (by omega) s4; have HB3 := Lib.hid (HB2.out.trans (hb3.mono HB2.out.size)); clear hb3))
  all_goals go_wp2
  all_goals go_ret
  all_goals exact ⟨rfl, HB3.out⟩

set_option maxHeartbeats 2000000 in
set_option maxRecDepth 20000 in
theorem key_any (R C gg cap cnt : Nat) (hR : R ≤ 7) (hC : C ≤ 7) (Z : Nat → Int) (hZ : ∀ x, x < R * C → 0 ≤ Z x ∧ Z x ≤ 99) (i : Ix (R * C)) (w : World) (h : Rv w R C cnt gg cap Z) :
    Calls Try.prog 51 #[.agg #[.int .i64 R, .int .i64 C, .slice (some ⟨gg, 0, none⟩) cnt cap], .int .i64 i.1] w (IntPost (keyV R C Z i) w) := by
  have hn49 : cnt ≤ 49 := by rw [h.n_eq]; exact mul_le_49 hR hC
  have hic : i.1 < cnt := by rw [h.n_eq]; exact i.2
  obtain ⟨W0, hW0⟩ : ∃ W0, W0 = (w.alloc (.cells #[.int .i64 R, .int .i64 C, .slice (some ⟨gg, 0, none⟩) cnt cap] 38)).alloc (.cells #[.int .i64 i.1] 3) := ⟨_, rfl⟩
  have hs0 : W0.heap.size = w.heap.size + 2 := by rw [hW0]; simp
  have hb0 : Below w.heap.size w W0 := by rw [hW0]; exact ((Below.refl _ _).alloc (Nat.le_refl _) _).alloc (by simp) _
  have hbox : W0.heap[w.heap.size]? = some (.cells #[.int .i64 R, .int .i64 C, .slice (some ⟨gg, 0, none⟩) cnt cap] 38 (0, 0)) := by rw [hW0]; exact heap_alloc2_old _ _ _
  have hkb : W0.heap[w.heap.size + 1]? = some (.cells #[.int .i64 i.1] 3 (0, 0)) := by rw [hW0]; exact heap_alloc2_new _ _ _
  have h0 := h.keep hb0 (Nat.le_refl _)
  have HC := Lib.hid (show Calls Try.prog 69 #[.agg #[.int .i64 R, .int .i64 C, .slice (some ⟨gg, 0, none⟩) cnt cap], .int .i64 i.1, .func (.func 71) #[] #[.pointer (some ⟨w.heap.size, 0, none⟩), .pointer (some ⟨w.heap.size + 1, 0, none⟩)]] W0 (IntPost (keyV R C Z i) W0) from
    (passTo_any R C gg cap cnt hR hC Z hZ i 71 #[.pointer (some ⟨w.heap.size, 0, none⟩), .pointer (some ⟨w.heap.size + 1, 0, none⟩)] (fun x => hiB Z x.1 i.1) W0 h0 callFunc_key (fun x W hbel => by
      obtain ⟨k0, k1, k2, _, _, _⟩ := cells3 ((hbel.block _ (by omega)).trans hbox)
      have kk := cell_of_one ((hbel.block _ (by omega)).trans hkb)
      have hsz := hbel.size
      exact clos_key R C cnt gg cap w.heap.size (w.heap.size + 1) Z x.1 i.1 W k0 k1 k2 kk (by omega) (by omega) (h0.keep hbel (Nat.le_refl _)) hic (by omega))).mono (by
        rintro e w' ⟨v, rfl, hv, hb⟩
        exact ⟨by rw [hv.eq (keyV_is hZ i)], hb⟩))
  have HB0 := Lib.hid hb0
  have HS0 := Lib.hid hs0
  rw [hW0] at HC HB0 HS0
  obtain ⟨q, eq⟩ : ∃ q, keyV R C Z i = q := ⟨_, rfl⟩
  rw [eq] at HC ⊢
  clear h hZ h0 hbox hkb hb0 hs0 hW0 eq W0
  go_enter Try.func51, Try.ntmps51
  go_wp2_with fail
  refine HC.out.mono ?_
  rintro e w2 ⟨rfl, hb2⟩
  have HB2 := Lib.hid (HB0.out.trans (hb2.mono (by rw [HS0.out]; omega)))
  clear hb2
  go_wp2
  go_ret
  exact ⟨rfl, HB2.out⟩

set_option maxHeartbeats 2000000 in
set_option maxRecDepth 20000 in
theorem prominence_any (R C gg cap cnt : Nat) (hR : R ≤ 7) (hC : C ≤ 7) (Z : Nat → Int) (hZ : ∀ x, x < R * C → 0 ≤ Z x ∧ Z x ≤ 99) (i : Ix (R * C)) (w : World) (h : Rv w R C cnt gg cap Z) :
    Calls Try.prog 53 #[.agg #[.int .i64 R, .int .i64 C, .slice (some ⟨gg, 0, none⟩) cnt cap], .int .i64 i.1] w (IntPost (Z i.1 - keyV R C Z i) w) := by
  have hn49 : cnt ≤ 49 := by rw [h.n_eq]; exact mul_le_49 hR hC
  have hic : i.1 < cnt := by rw [h.n_eq]; exact i.2
  have hgl := h.lt
  have hle := h.le
  have HZI := Lib.hid (fun (U : World) (hU : Below w.heap.size w U) => show U.cell? ⟨gg, i.1, none⟩ = some (.int .i64 (Z i.1)) from (hU.cell (p := ⟨gg, i.1, none⟩) hgl).trans (h.cell i.1 hic))
  have HK := Lib.hid (fun (U : World) (hU : Below w.heap.size w U) => key_any R C gg cap cnt hR hC Z hZ i U (h.keep hU (Nat.le_refl _)))
  obtain ⟨hk1, hk2⟩ := keyV_range hZ i
  obtain ⟨hz1, hz2⟩ := hZ i.1 i.2
  obtain ⟨q, eq⟩ : ∃ q, keyV R C Z i = q := ⟨_, rfl⟩
  rw [eq] at HK hk1 hk2 ⊢
  obtain ⟨z, ez⟩ : ∃ q, Z i.1 = q := ⟨_, rfl⟩
  rw [ez] at HZI hz1 hz2 ⊢
  obtain ⟨x, ex⟩ : ∃ q, i.1 = q := ⟨_, rfl⟩
  rw [ex] at HZI hic HK ⊢
  have hb0 := (Below.refl w.heap.size w).alloc (Nat.le_refl _) (.cells #[.int .i64 R, .int .i64 C, .slice (some ⟨gg, 0, none⟩) cnt cap] 38)
  have HB0 := Lib.hid hb0
  obtain ⟨d0, d1, d2, _, _, _⟩ := cells3 (heap_alloc_new w (.cells #[.int .i64 R, .int .i64 C, .slice (some ⟨gg, 0, none⟩) cnt cap] 38))
  have hcz := HZI.out _ hb0
  have hs0 : (w.alloc (.cells #[.int .i64 R, .int .i64 C, .slice (some ⟨gg, 0, none⟩) cnt cap] 38)).heap.size = w.heap.size + 1 := by simp
  have hw : IntKind.i64.wrap (z - q) = z - q := IntWalk.i64_in _ (by omega)
  have hxc : (x : Int) < cnt := by omega
  have HI := Lib.hid (show (w.alloc (.cells #[.int .i64 R, .int .i64 C, .slice (some ⟨gg, 0, none⟩) cnt cap] 38)).drew.cell? ⟨w.heap.size, 0, none⟩ = some (.int .i64 R) ∧ (w.alloc (.cells #[.int .i64 R, .int .i64 C, .slice (some ⟨gg, 0, none⟩) cnt cap] 38)).drew.cell? ⟨w.heap.size, 1, none⟩ = some (.int .i64 C) ∧ (w.alloc (.cells #[.int .i64 R, .int .i64 C, .slice (some ⟨gg, 0, none⟩) cnt cap] 38)).drew.cell? ⟨w.heap.size, 2, none⟩ = some (.slice (some ⟨gg, 0, none⟩) cnt cap) ∧ (w.alloc (.cells #[.int .i64 R, .int .i64 C, .slice (some ⟨gg, 0, none⟩) cnt cap] 38)).drew.cell? ⟨gg, x, none⟩ = some (.int .i64 z) from ⟨d0, d1, d2, hcz⟩)
  have HKP := Lib.hid (fun (V : World) (h : Below ((w.alloc (.cells #[.int .i64 R, .int .i64 C, .slice (some ⟨gg, 0, none⟩) cnt cap] 38)).drew).heap.size ((w.alloc (.cells #[.int .i64 R, .int .i64 C, .slice (some ⟨gg, 0, none⟩) cnt cap] 38)).drew) V) => (show V.cell? ⟨w.heap.size, 0, none⟩ = some (.int .i64 R) ∧ V.cell? ⟨w.heap.size, 1, none⟩ = some (.int .i64 C) ∧ V.cell? ⟨w.heap.size, 2, none⟩ = some (.slice (some ⟨gg, 0, none⟩) cnt cap) ∧ V.cell? ⟨gg, x, none⟩ = some (.int .i64 z) from
    ⟨(h.cell (p := ⟨w.heap.size, 0, none⟩) (by show w.heap.size < (w.alloc _).heap.size; simp)).trans d0, (h.cell (p := ⟨w.heap.size, 1, none⟩) (by show w.heap.size < (w.alloc _).heap.size; simp)).trans d1, (h.cell (p := ⟨w.heap.size, 2, none⟩) (by show w.heap.size < (w.alloc _).heap.size; simp)).trans d2, (h.cell (p := ⟨gg, x, none⟩) (by show gg < (w.alloc _).heap.size; simp; omega)).trans hcz⟩))
  clear d0 d1 d2 hcz h hZ eq ez ex hb0
  go_enter Try.func53, Try.ntmps53
  go_wp2_with fail
  go_region_held3 (fun w' => w'.cell? ⟨w.heap.size, 0, none⟩ = some (.int .i64 R) ∧ w'.cell? ⟨w.heap.size, 1, none⟩ = some (.int .i64 C) ∧ w'.cell? ⟨w.heap.size, 2, none⟩ = some (.slice (some ⟨gg, 0, none⟩) cnt cap) ∧ w'.cell? ⟨gg, x, none⟩ = some (.int .i64 z))
    (first | exact HI.out | exact s4)
    (first | (go_at_call 51; refine (HK.out _ HB0.out.drew).mono ?_; rintro e w2 ⟨rfl, hb2⟩; have s4 := HKP.out w2 hb2; have HB2 := Lib.hid (HB0.out.drew.trans (hb2.mono (show w.heap.size ≤ (w.alloc _).heap.size by simp))); clear hb2))
  all_goals go_wp2
  all_goals go_ret
  all_goals exact ⟨rfl, HB2.out⟩

set_option maxHeartbeats 2000000 in
set_option maxRecDepth 20000 in
theorem implPeakKey_any (v : Value) (lo hi : Nat) (g : G) (i : Int) (w : World) (hv : RdM lo hi w v g) (hh : hi ≤ w.heap.size) :
    Calls Try.prog 25 #[v, .int .i64 i] w (IntPost (G.kyV g i) w) := by
  have HC := Lib.hid (reliefOfPeak_any v lo hi g i w hv hh)
  clear hv
  by_cases h : g.pkB i = true
  · have HC2 := Lib.hid (HC.out.mono (fun e w' k => k.1 h))
    have hin := pkB_in h
    have hval := hin.1
    have h7 := hval.1.2
    have h77 := hval.2.1.2
    obtain ⟨x, hx⟩ : ∃ x : Ix (g.n * g.len 0), (x.1 : Int) = i := ⟨⟨i.toNat, by have := hin.2; omega⟩, by have := hin.2; show ((i.toNat : Nat) : Int) = i; omega⟩
    subst hx
    have HV := Lib.hid (show G.kyV g (x.1 : Int) = keyV g.n (g.len 0) g.flat x by exact G.kyV_yes hval h)
    have HK := Lib.hid (fun (gg cap cnt : Nat) (W : World) (hr : Rv W g.n (g.len 0) cnt gg cap g.flat) => key_any g.n (g.len 0) gg cap cnt h7 h77 g.flat (fun a ha => flat_okW hval ha) x W hr)
    rw [← HV.out] at HK
    obtain ⟨q, eq⟩ : ∃ q, G.kyV g (x.1 : Int) = q := ⟨_, rfl⟩
    rw [eq] at HK ⊢
    obtain ⟨xx, exx⟩ : ∃ q, x.1 = q := ⟨_, rfl⟩
    rw [exx] at HK HC2 ⊢
    clear HC h hin hval HV eq exx
    go_enter Try.func25, Try.ntmps25
    go_wp2_with fail
    refine HC2.out.mono ?_
    rintro e w1 ⟨n, gg, cap, rfl, hrv, _, hb1⟩
    have HB1 := Lib.hid (hb1.alloc hb1.size (.cells #[.int .i64 g.n, .int .i64 (g.len 0), .slice (some ⟨gg, 0, none⟩) n cap] 38))
    have HKC := Lib.hid (HK.out gg cap n _ (hrv.keep ((Below.refl w1.heap.size w1).alloc (Nat.le_refl _) (.cells #[.int .i64 g.n, .int .i64 (g.len 0), .slice (some ⟨gg, 0, none⟩) n cap] 38)) (Nat.le_refl _)))
    obtain ⟨d0, d1, d2, _, _, _⟩ := cells3 (heap_alloc_new w1 (.cells #[.int .i64 g.n, .int .i64 (g.len 0), .slice (some ⟨gg, 0, none⟩) n cap] 38))
    clear hb1 hrv
    go_wp2_with fail
    refine HKC.out.mono ?_
    rintro e w2 ⟨rfl, hb2⟩
    have HB2 := Lib.hid (HB1.out.trans (hb2.mono HB1.out.size))
    clear hb2
    go_wp2
    go_ret
    exact ⟨rfl, HB2.out⟩
  · have HC2 := Lib.hid (HC.out.mono (fun e w' k => k.2 h))
    have h' : g.pkB i = false := by simpa using h
    have HH := Lib.hid (show G.kyV g i = -1 by exact G.kyV_no h')
    clear HC h h'
    go_enter Try.func25, Try.ntmps25
    go_wp2_with fail
    refine HC2.out.mono ?_
    rintro e w1 ⟨rfl, hb1⟩
    have HB1 := Lib.hid (hb1.alloc hb1.size (.cells #[.int .i64 0, .int .i64 0, .slice none 0 0] 38))
    clear hb1
    go_wp2
    go_ret
    exact ⟨ret_int HH.out.symm, HB1.out⟩

set_option maxHeartbeats 2000000 in
set_option maxRecDepth 20000 in
theorem implPeakProminence_any (v : Value) (lo hi : Nat) (g : G) (i : Int) (w : World) (hv : RdM lo hi w v g) (hh : hi ≤ w.heap.size) :
    Calls Try.prog 27 #[v, .int .i64 i] w (IntPost (G.prV g i) w) := by
  have HC := Lib.hid (reliefOfPeak_any v lo hi g i w hv hh)
  clear hv
  by_cases h : g.pkB i = true
  · have HC2 := Lib.hid (HC.out.mono (fun e w' k => k.1 h))
    have hin := pkB_in h
    have hval := hin.1
    have h7 := hval.1.2
    have h77 := hval.2.1.2
    obtain ⟨x, hx⟩ : ∃ x : Ix (g.n * g.len 0), (x.1 : Int) = i := ⟨⟨i.toNat, by have := hin.2; omega⟩, by have := hin.2; show ((i.toNat : Nat) : Int) = i; omega⟩
    subst hx
    have HV := Lib.hid (show G.prV g (x.1 : Int) = g.flat x.1 - keyV g.n (g.len 0) g.flat x by unfold G.prV; rw [if_pos h, G.kyV_yes hval h]; rfl)
    have HK := Lib.hid (fun (gg cap cnt : Nat) (W : World) (hr : Rv W g.n (g.len 0) cnt gg cap g.flat) => prominence_any g.n (g.len 0) gg cap cnt h7 h77 g.flat (fun a ha => flat_okW hval ha) x W hr)
    rw [← HV.out] at HK
    obtain ⟨q, eq⟩ : ∃ q, G.prV g (x.1 : Int) = q := ⟨_, rfl⟩
    rw [eq] at HK ⊢
    obtain ⟨xx, exx⟩ : ∃ q, x.1 = q := ⟨_, rfl⟩
    rw [exx] at HK HC2 ⊢
    clear HC h hin hval HV eq exx
    go_enter Try.func27, Try.ntmps27
    go_wp2_with fail
    refine HC2.out.mono ?_
    rintro e w1 ⟨n, gg, cap, rfl, hrv, _, hb1⟩
    have HB1 := Lib.hid (hb1.alloc hb1.size (.cells #[.int .i64 g.n, .int .i64 (g.len 0), .slice (some ⟨gg, 0, none⟩) n cap] 38))
    have HKC := Lib.hid (HK.out gg cap n _ (hrv.keep ((Below.refl w1.heap.size w1).alloc (Nat.le_refl _) (.cells #[.int .i64 g.n, .int .i64 (g.len 0), .slice (some ⟨gg, 0, none⟩) n cap] 38)) (Nat.le_refl _)))
    obtain ⟨d0, d1, d2, _, _, _⟩ := cells3 (heap_alloc_new w1 (.cells #[.int .i64 g.n, .int .i64 (g.len 0), .slice (some ⟨gg, 0, none⟩) n cap] 38))
    clear hb1 hrv
    go_wp2_with fail
    refine HKC.out.mono ?_
    rintro e w2 ⟨rfl, hb2⟩
    have HB2 := Lib.hid (HB1.out.trans (hb2.mono HB1.out.size))
    clear hb2
    go_wp2
    go_ret
    exact ⟨rfl, HB2.out⟩
  · have HC2 := Lib.hid (HC.out.mono (fun e w' k => k.2 h))
    have h' : g.pkB i = false := by simpa using h
    have HH := Lib.hid (show G.prV g i = -1 by unfold G.prV; rw [if_neg h])
    clear HC h h'
    go_enter Try.func27, Try.ntmps27
    go_wp2_with fail
    refine HC2.out.mono ?_
    rintro e w1 ⟨rfl, hb1⟩
    have HB1 := Lib.hid (hb1.alloc hb1.size (.cells #[.int .i64 0, .int .i64 0, .slice none 0 0] 38))
    clear hb1
    go_wp2
    go_ret
    exact ⟨ret_int HH.out.symm, HB1.out⟩

end Go.Proofs.Ytlbdglhippapnab
