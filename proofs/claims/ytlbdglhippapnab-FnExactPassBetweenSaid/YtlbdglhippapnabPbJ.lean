/- The pass between two cells: both functions by contract. -/
import Derived.Test.YtlbdglhippapnabPbI
namespace Go.Proofs.Ytlbdglhippapnab
open Go.RowKit
set_option linter.unusedVariables false

set_option maxHeartbeats 2000000 in
set_option maxRecDepth 100000 in
theorem specPassBetween_any (v : Value) (lo hi : Nat) (g : G) (a b : Int) (w : World) (hv : RdM lo hi w v g) (hh : hi ≤ w.heap.size) :
    Calls Try.prog 22 #[v, .int .i64 a, .int .i64 b] w (IntPost (g.psB a b) w) := by
  obtain ⟨p, hp, hcp⟩ := l4Has_any v lo hi g a w hv
  have HCP := Lib.hid hcp
  by_cases ha : g.PkIn a
  case neg =>
    have HA := Lib.hid (G.psB_no (a := a) (b := b) (g := g) (fun h => ha h.1))
    obtain rfl : p = false := by
      cases p with
      | false => rfl
      | true => exact absurd (hp.1 rfl) ha
    clear hv hcp hp ha
    go_enter Try.func22, Try.ntmps22
    go_wp2_with fail
    refine HCP.out.mono ?_
    rintro e w1 ⟨rfl, m, rfl⟩
    go_wp2
    go_ret
    exact ⟨ret_int HA.out.symm, below_drewN (Below.refl _ _) m⟩
  case pos =>
    obtain rfl : p = true := hp.2 ha
    have HQ := Lib.hid (fun m => l4Has_any v lo hi g b (w.drewN m) (hv.same (fun _ _ _ => rfl)))
    by_cases hb : g.PkIn b
    case neg =>
      have HA := Lib.hid (G.psB_no (a := a) (b := b) (g := g) (fun h => hb h.2))
      have HQ2 := Lib.hid (fun m => show Calls Try.prog 44 #[v, .int .i64 b] (w.drewN m) (EqPost false (w.drewN m)) from by
        obtain ⟨q, hq, hcq⟩ := HQ.out m
        obtain rfl : q = false := by
          cases q with
          | false => rfl
          | true => exact absurd (hq.1 rfl) hb
        exact hcq)
      clear hv hcp hp ha hb HQ
      go_enter Try.func22, Try.ntmps22
      go_wp2_with fail
      refine HCP.out.mono ?_
      rintro e w1 ⟨rfl, m, rfl⟩
      go_wp2_with fail
      refine (HQ2.out m).mono ?_
      rintro e w1 ⟨rfl, m2, rfl⟩
      go_wp2
      go_ret
      exact ⟨ret_int HA.out.symm, below_drewN (Below.refl _ _) (m + m2)⟩
    case pos =>
      have HQ2 := Lib.hid (fun m => show Calls Try.prog 44 #[v, .int .i64 b] (w.drewN m) (EqPost true (w.drewN m)) from by
        obtain ⟨q, hq, hcq⟩ := HQ.out m
        obtain rfl : q = true := hq.2 hb
        exact hcq)
      have hval := ha.1
      obtain ⟨x, hx⟩ : ∃ x : Ix (g.n * g.len 0), (x.1 : Int) = a := ⟨⟨a.toNat, by have := ha.2; omega⟩, by have := ha.2; show ((a.toNat : Nat) : Int) = a; omega⟩
      obtain ⟨y, hy⟩ : ∃ y : Ix (g.n * g.len 0), (y.1 : Int) = b := ⟨⟨b.toNat, by have := hb.2; omega⟩, by have := hb.2; show ((b.toNat : Nat) : Int) = b; omega⟩
      subst hx hy
      have HA := Lib.hid (G.psB_yes (a := x) (b := y) hval)
      have h49 := mul_le_49 hval.1.2 hval.2.1.2
      have hy2 := y.2
      obtain ⟨N, eN⟩ : ∃ N, g.n * g.len 0 = N := ⟨_, rfl⟩
      have HPV := Lib.hid (fun (W : World) (hW : RdM lo hi W v g) (hs : hi ≤ W.heap.size) => show Calls Try.prog 45 #[v, .int .i64 x.1] W (fun e w' => ∃ b, e = .returned (.slice (some ⟨b, 0, none⟩) N N) ∧ W.heap.size ≤ b ∧ w'.rowIs b 3 N (ivF (psV g.n (g.len 0) g.flat x)) ∧ Below W.heap.size W w') from by
        rw [← eN]
        exact l4Passes_any v lo hi g g.n (g.len 0) rfl rfl x W hW hs hval)
      have hy3 : y.1 < N := by rw [← eN]; exact hy2
      rw [eN] at h49
      clear hy2
      have HV := Lib.hid hv
      obtain ⟨q, eq⟩ : ∃ q, psV g.n (g.len 0) g.flat x y.1 = q := ⟨_, rfl⟩
      have EQ := Lib.hid eq
      obtain ⟨xx, exx⟩ : ∃ a, x.1 = a := ⟨_, rfl⟩
      obtain ⟨yy, eyy⟩ : ∃ a, y.1 = a := ⟨_, rfl⟩
      rw [exx] at HCP HPV HA
      rw [eyy] at HQ2 HA EQ hy3
      rw [exx, eyy]
      have hyN : (yy : Int) < N := by omega
      clear hv hcp hp ha hb HQ hval eq exx eyy eN
      go_enter Try.func22, Try.ntmps22
      go_wp2_with fail
      refine HCP.out.mono ?_
      rintro e w1 ⟨rfl, m, rfl⟩
      go_wp2_with fail
      refine (HQ2.out m).mono ?_
      rintro e w1 ⟨rfl, m2, rfl⟩
      have HBD := Lib.hid (show Below w.heap.size w (w.drewN (m + m2)) from below_drewN (Below.refl _ _) (m + m2))
      have HPV2 := Lib.hid (HPV.out (w.drewN (m + m2)) (HV.out.same (fun _ _ _ => rfl)) hh)
      go_wp2_with fail
      refine HPV2.out.mono ?_
      rintro e w4 ⟨b4, rfl, hb4, hrow, hbel⟩
      have HB4 := Lib.hid (HBD.out.trans (hbel.mono (show w.heap.size ≤ w.heap.size from Nat.le_refl _)))
      have c1 : w4.cell? ⟨b4, yy, none⟩ = some (.int .i64 q) := by
        have := hrow.cell hy3
        rw [← EQ.out]
        exact this
      clear hrow hbel
      go_wp2
      go_ret
      exact ⟨ret_int (by rw [HA.out, EQ.out]), HB4.out⟩

theorem callFunc_pass : ∀ (args : Array Value) (W : World), Sem.run Try.prog (callFunc 70 args) W = .ok (.enter 70 args) W := fun _ _ => by kernel_rfl

set_option maxHeartbeats 2000000 in
set_option maxRecDepth 20000 in
theorem clos_pass (B : Nat) (z : Int) (x i : Nat) (W : World) (h3 : W.cell? ⟨B, 0, none⟩ = some (.int .i64 i)) (hB : B < W.heap.size) :
    Calls Try.prog 70 #[.agg #[.int .i64 z, .int .i64 x], .pointer (some ⟨B, 0, none⟩)] W (BlPost (decide (x = i)) W) := by
  have hb0 := (Below.refl W.heap.size W).alloc (Nat.le_refl _) (.cells #[.int .i64 z, .int .i64 x] 60)
  have HB0 := Lib.hid hb0
  obtain ⟨d0, d1, _, _⟩ := cells2 (heap_alloc_new W (.cells #[.int .i64 z, .int .i64 x] 60))
  have c3 := (hb0.cell (p := ⟨B, 0, none⟩) hB).trans h3
  have HE := Lib.hid (show ((x : Int) == (i : Int)) = decide (x = i) by
    by_cases h : x = i
    · subst h; simp
    · rw [decide_eq_false h, beq_eq_false_iff_ne]; omega)
  obtain ⟨t, et⟩ : ∃ t, ((x : Int) == (i : Int)) = t := ⟨_, rfl⟩
  rw [et] at HE
  clear hb0
  go_enter Try.func70, Try.ntmps70
  go_wp2
  go_ret
  exact ⟨by rw [← HE.out]; rfl, HB0.out⟩

set_option maxHeartbeats 2000000 in
set_option maxRecDepth 20000 in
theorem pass_any (R C gg cap cnt : Nat) (hR : R ≤ 7) (hC : C ≤ 7) (Z : Nat → Int) (hZ : ∀ x, x < R * C → 0 ≤ Z x ∧ Z x ≤ 99) (a b : Ix (R * C)) (w : World) (h : Rv w R C cnt gg cap Z) :
    Calls Try.prog 47 #[.agg #[.int .i64 R, .int .i64 C, .slice (some ⟨gg, 0, none⟩) cnt cap], .int .i64 a.1, .int .i64 b.1] w (IntPost (psV R C Z a b.1) w) := by
  obtain ⟨W0, hW0⟩ : ∃ W0, W0 = (w.alloc (.cells #[.int .i64 R, .int .i64 C, .slice (some ⟨gg, 0, none⟩) cnt cap] 38)).alloc (.cells #[.int .i64 b.1] 3) := ⟨_, rfl⟩
  have hs0 : W0.heap.size = w.heap.size + 2 := by rw [hW0]; simp
  have hb0 : Below w.heap.size w W0 := by rw [hW0]; exact ((Below.refl _ _).alloc (Nat.le_refl _) _).alloc (by simp) _
  have hkb : W0.heap[w.heap.size + 1]? = some (.cells #[.int .i64 b.1] 3 (0, 0)) := by rw [hW0]; exact heap_alloc2_new _ _ _
  have h0 := h.keep hb0 (Nat.le_refl _)
  have hps : PsTo R C Z a (fun x => decide (x.1 = b.1)) (psV R C Z a b.1) := Or.inl ⟨b, by simp, psV_is hZ a b, fun y q hy hq => by
    have e : y = b := Subtype.ext (by simpa using hy)
    subst e
    have := hq.eq (psV_is hZ a y)
    omega⟩
  have HC := Lib.hid (show Calls Try.prog 69 #[.agg #[.int .i64 R, .int .i64 C, .slice (some ⟨gg, 0, none⟩) cnt cap], .int .i64 a.1, .func (.func 70) #[] #[.pointer (some ⟨w.heap.size + 1, 0, none⟩)]] W0 (IntPost (psV R C Z a b.1) W0) from
    (passTo_any R C gg cap cnt hR hC Z hZ a 70 #[.pointer (some ⟨w.heap.size + 1, 0, none⟩)] (fun x => decide (x.1 = b.1)) W0 h0 callFunc_pass (fun x W hbel => by
      have kk := cell_of_one ((hbel.block _ (by omega)).trans hkb)
      have hsz := hbel.size
      exact clos_pass (w.heap.size + 1) (Z x.1) x.1 b.1 W kk (by omega))).mono (by
        rintro e w' ⟨v, rfl, hv, hb⟩
        exact ⟨by rw [hv.eq hps], hb⟩))
  have HB0 := Lib.hid hb0
  have HS0 := Lib.hid hs0
  rw [hW0] at HC HB0 HS0
  obtain ⟨q, eq⟩ : ∃ q, psV R C Z a b.1 = q := ⟨_, rfl⟩
  rw [eq] at HC ⊢
  clear h hZ h0 hkb hb0 hs0 hW0 eq hps W0
  go_enter Try.func47, Try.ntmps47
  go_wp2_with fail
  refine HC.out.mono ?_
  rintro e w2 ⟨rfl, hb2⟩
  have HB2 := Lib.hid (HB0.out.trans (hb2.mono (by rw [HS0.out]; omega)))
  clear hb2
  go_wp2
  go_ret
  exact ⟨rfl, HB2.out⟩

set_option maxHeartbeats 2000000 in
set_option maxRecDepth 20000 in
theorem implPassBetween_any (v : Value) (lo hi : Nat) (g : G) (a b : Int) (w : World) (hv : RdM lo hi w v g) (hh : hi ≤ w.heap.size) :
    Calls Try.prog 23 #[v, .int .i64 a, .int .i64 b] w (IntPost (g.psB a b) w) := by
  have hb0 := (Below.refl w.heap.size w).alloc (Nat.le_refl _) (.cells #[.int .i64 a, .int .i64 b] 3)
  have HB0 := Lib.hid hb0
  have hs0 : (w.alloc (.cells #[.int .i64 a, .int .i64 b] 3)).heap.size = w.heap.size + 1 := by simp
  have HC := Lib.hid (reliefWith_all v lo hi g (fun j => if j = 0 then a else b) 2 (by omega) (by omega) w.heap.size (w.alloc (.cells #[.int .i64 a, .int .i64 b] 3)) (hv.same (SameIn.below hb0 hh)) (Nat.le_trans hh hb0.size) (fun j hj => by
    obtain ⟨d0, d1, _, _⟩ := cells2 (heap_alloc_new w (.cells #[.int .i64 a, .int .i64 b] 3))
    by_cases e : j = 0
    · subst e; exact d0
    · obtain rfl : j = 1 := by omega
      exact d1))
  have hiff : (∀ j, j < 2 → g.PkIn ((fun j : Nat => if j = 0 then a else b) j)) ↔ (g.PkIn a ∧ g.PkIn b) := ⟨fun h => ⟨h 0 (by omega), h 1 (by omega)⟩, fun h j hj => by
    by_cases e : j = 0
    · subst e; exact h.1
    · obtain rfl : j = 1 := by omega
      exact h.2⟩
  clear hv hb0
  by_cases h : g.PkIn a ∧ g.PkIn b
  · have HC2 := Lib.hid (HC.out.mono (fun e w' k => k.1 (hiff.2 h)))
    have hval := h.1.1
    have h7 := hval.1.2
    have h77 := hval.2.1.2
    obtain ⟨x, hx⟩ : ∃ x : Ix (g.n * g.len 0), (x.1 : Int) = a := ⟨⟨a.toNat, by have := h.1.2; omega⟩, by have := h.1.2; show ((a.toNat : Nat) : Int) = a; omega⟩
    obtain ⟨y, hy⟩ : ∃ y : Ix (g.n * g.len 0), (y.1 : Int) = b := ⟨⟨b.toNat, by have := h.2.2; omega⟩, by have := h.2.2; show ((b.toNat : Nat) : Int) = b; omega⟩
    subst hx hy
    have HV := Lib.hid (G.psB_yes (a := x) (b := y) hval)
    have HK := Lib.hid (fun (gg cap cnt : Nat) (W : World) (hr : Rv W g.n (g.len 0) cnt gg cap g.flat) => pass_any g.n (g.len 0) gg cap cnt h7 h77 g.flat (fun a ha => flat_okW hval ha) x y W hr)
    rw [← HV.out] at HK
    obtain ⟨q, eq⟩ : ∃ q, g.psB (x.1 : Int) (y.1 : Int) = q := ⟨_, rfl⟩
    rw [eq] at HK ⊢
    obtain ⟨xx, exx⟩ : ∃ q, x.1 = q := ⟨_, rfl⟩
    obtain ⟨yy, eyy⟩ : ∃ q, y.1 = q := ⟨_, rfl⟩
    rw [exx, eyy] at HK HC2 HB0 hs0
    rw [exx, eyy]
    clear HC h hiff hval HV eq exx eyy
    go_enter Try.func23, Try.ntmps23
    go_wp2_with fail
    refine HC2.out.mono ?_
    rintro e w1 ⟨n, gg, cap, rfl, hrv, _, hb1⟩
    have hbw := HB0.out.trans (hb1.mono (by rw [hs0]; omega))
    have HB1 := Lib.hid (hbw.alloc hbw.size (.cells #[.int .i64 g.n, .int .i64 (g.len 0), .slice (some ⟨gg, 0, none⟩) n cap] 38))
    have HKC := Lib.hid (HK.out gg cap n _ (hrv.keep ((Below.refl w1.heap.size w1).alloc (Nat.le_refl _) (.cells #[.int .i64 g.n, .int .i64 (g.len 0), .slice (some ⟨gg, 0, none⟩) n cap] 38)) (Nat.le_refl _)))
    obtain ⟨d0, d1, d2, _, _, _⟩ := cells3 (heap_alloc_new w1 (.cells #[.int .i64 g.n, .int .i64 (g.len 0), .slice (some ⟨gg, 0, none⟩) n cap] 38))
    clear hb1 hrv hbw
    go_wp2_with fail
    refine HKC.out.mono ?_
    rintro e w2 ⟨rfl, hb2⟩
    have HB2 := Lib.hid (HB1.out.trans (hb2.mono HB1.out.size))
    clear hb2
    go_wp2
    go_ret
    exact ⟨rfl, HB2.out⟩
  · have HC2 := Lib.hid (HC.out.mono (fun e w' k => k.2 (fun z => h (hiff.1 z))))
    have HH := Lib.hid (G.psB_no h)
    clear HC h hiff
    go_enter Try.func23, Try.ntmps23
    go_wp2_with fail
    refine HC2.out.mono ?_
    rintro e w1 ⟨rfl, hb1⟩
    have hbw := HB0.out.trans (hb1.mono (by rw [hs0]; omega))
    have HB1 := Lib.hid (hbw.alloc hbw.size (.cells #[.int .i64 0, .int .i64 0, .slice none 0 0] 38))
    clear hb1 hbw
    go_wp2
    go_ret
    exact ⟨ret_int HH.out.symm, HB1.out⟩

end Go.Proofs.Ytlbdglhippapnab
