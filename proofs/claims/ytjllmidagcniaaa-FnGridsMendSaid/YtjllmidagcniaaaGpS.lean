/- Two grids side by side: what is reckoned of their common side; the model's GridsGap and GridsAgree. -/
import Derived.Test.YtjllmidagcniaaaM2
import Derived.Lib.MinMax
namespace Go.Proofs.Ytjllmidagcniaaa
open Go.RowKit
set_option linter.unusedVariables false

/-- an integer without its sign -/
def absI (n : Int) : Int := max n (0 - n)
theorem absI_sub (x y : Int) : absI (x - y) = max (x - y) (y - x) := by unfold absI; omega
theorem absI_range {n : Int} (h1 : -99 ≤ n) (h2 : n ≤ 99) : 0 ≤ absI n ∧ absI n ≤ 99 := by unfold absI; omega

/-- two grids of as many rows -/
def RwOk (a b : G) : Prop := a.Valid ∧ b.Valid ∧ a.n = b.n
noncomputable def rwB (a b : G) : Bool := @decide (RwOk a b) (Classical.propDecidable _)
theorem rwB_yes {a b : G} (h : RwOk a b) : rwB a b = true := by simp [rwB, h]
theorem rwB_no {a b : G} (h : ¬ RwOk a b) : rwB a b = false := by simp [rwB, h]

/-- the difference of row r at the common side, and the sum of the first ones -/
def dfV (a b : G) (r : Nat) : Int := a.z r (a.len 0 - 1) - b.z r 0
def gapS (a b : G) : Nat → Int
  | 0 => 0
  | r + 1 => gapS a b r + absI (dfV a b r)
theorem dfV_range {a b : G} (h : RwOk a b) {r : Nat} (hr : r < a.n) : -99 ≤ dfV a b r ∧ dfV a b r ≤ 99 := by
  obtain ⟨ha, hb, hn⟩ := h
  have h1 := ha.2.2 r hr
  have h2 := hb.2.2 r (by omega)
  have a1 := ha.2.1.1
  have b1 := hb.2.1.1
  have h3 := h1.2 (a.len 0 - 1) (by omega)
  have h4 := h2.2 0 (by omega)
  unfold dfV; omega
theorem gapS_ok {a b : G} (h : RwOk a b) : ∀ r, r ≤ a.n → 0 ≤ gapS a b r ∧ gapS a b r ≤ 99 * r
  | 0, _ => by simp [gapS]
  | r + 1, hr => by
    have h1 := gapS_ok h r (by omega)
    have h2 := dfV_range h (r := r) (by omega)
    have h3 := absI_range h2.1 h2.2
    simp only [gapS]; omega
noncomputable def gapV (a b : G) : Int := if rwB a b = true then gapS a b a.n else -1
theorem gapV_yes {a b : G} (h : RwOk a b) : gapV a b = gapS a b a.n := by simp [gapV, rwB_yes h]
theorem gapV_no {a b : G} (h : ¬ RwOk a b) : gapV a b = -1 := by simp [gapV, rwB_no h]
theorem gapV_range (a b : G) : -1 ≤ gapV a b ∧ gapV a b ≤ 1000 := by
  by_cases h : RwOk a b
  · have h1 := gapS_ok h a.n (Nat.le_refl _)
    have h2 := h.1.1.2
    rw [gapV_yes h]; omega
  · rw [gapV_no h]; omega

theorem l7Size_any (n : Int) (w : World) (h1 : -1000000 ≤ n) (h2 : n ≤ 1000000) :
    Calls Try.prog 65 #[.int .i64 n] w fun e w' => e = .returned (.int .i64 (absI n)) ∧ w' = w := by
  go_enter Try.func65, Try.ntmps65
  go_wp2
  go_ret
  exact ⟨ret_int (by unfold absI; omega), rfl⟩

set_option maxHeartbeats 1000000 in
theorem l7Rows_any (v u : Value) (lo hi : Nat) (a b : G) (w : World) (hv : RdM lo hi w v a) (hu : RdM lo hi w u b) :
    Calls Try.prog 64 #[v, u] w (EqPost (rwB a b) w) := by
  have HA := Lib.hid (specValid_any v lo hi a w hv)
  have HB := Lib.hid (fun k => specValid_any u lo hi b (w.drewN k) (hu.same (fun _ _ _ => rfl)))
  obtain ⟨_, _, _, _, _, _, rfl, n1, n2, _⟩ := hv
  obtain ⟨_, _, _, _, _, _, rfl, n3, n4, _⟩ := hu
  by_cases ha : a.Valid
  case neg =>
    have HV := Lib.hid (G.vB_no ha)
    have HE := Lib.hid (rwB_no (a := a) (b := b) (fun h => ha h.1))
    clear ha
    go_enter Try.func64, Try.ntmps64
    go_wp2_with fail
    refine HA.out.mono ?_
    rintro e w1 ⟨rfl, k1, rfl⟩
    rw [HV.out]
    go_wp2
    go_ret
    exact eq_post HE.out _ _
  case pos =>
    have HV := Lib.hid (G.vB_yes ha)
    by_cases hb : b.Valid
    case neg =>
      have HW := Lib.hid (G.vB_no hb)
      have HE := Lib.hid (rwB_no (a := a) (b := b) (fun h => hb h.2.1))
      clear ha hb
      go_enter Try.func64, Try.ntmps64
      go_wp2_with fail
      refine HA.out.mono ?_
      rintro e w1 ⟨rfl, k1, rfl⟩
      rw [HV.out]
      go_wp2_with fail
      refine (HB.out _).mono ?_
      rintro e w1 ⟨rfl, k2, rfl⟩
      rw [HW.out]
      go_wp2
      go_ret
      exact eq_post HE.out _ _
    case pos =>
      have HW := Lib.hid (G.vB_yes hb)
      by_cases hn : a.n = b.n
      · have HE := Lib.hid (rwB_yes (a := a) (b := b) ⟨ha, hb, hn⟩)
        have hne : (((a.n : Nat) : Int) == ((b.n : Nat) : Int)) = true := by simp [hn]
        have hne2 : decide (a.n = b.n) = true := by simp [hn]
        clear ha hb hn
        go_enter Try.func64, Try.ntmps64
        go_wp2_with fail
        refine HA.out.mono ?_
        rintro e w1 ⟨rfl, k1, rfl⟩
        rw [HV.out]
        go_wp2_with fail
        refine (HB.out _).mono ?_
        rintro e w1 ⟨rfl, k2, rfl⟩
        rw [HW.out]
        go_wp2
        go_ret
        exact eq_post HE.out _ _
      · have HE := Lib.hid (rwB_no (a := a) (b := b) (fun h => hn h.2.2))
        have hne : (((a.n : Nat) : Int) == ((b.n : Nat) : Int)) = false := by simp; omega
        have hne2 : decide (a.n = b.n) = false := by simp [hn]
        clear ha hb hn
        go_enter Try.func64, Try.ntmps64
        go_wp2_with fail
        refine HA.out.mono ?_
        rintro e w1 ⟨rfl, k1, rfl⟩
        rw [HV.out]
        go_wp2_with fail
        refine (HB.out _).mono ?_
        rintro e w1 ⟨rfl, k2, rfl⟩
        rw [HW.out]
        go_wp2
        go_ret
        exact eq_post HE.out _ _

set_option maxHeartbeats 2000000 in
theorem specGridsGap_no (v u : Value) (lo hi : Nat) (a b : G) (w : World) (hv : RdM lo hi w v a) (hu : RdM lo hi w u b) (h : ¬ RwOk a b) :
    Calls Try.prog 24 #[v, u] w (IntPost (-1) w) := by
  have HA := Lib.hid (l7Rows_any v u lo hi a b w hv hu)
  have HE := Lib.hid (rwB_no h)
  clear hv hu h
  go_enter Try.func24, Try.ntmps24
  go_wp2_with fail
  refine HA.out.mono ?_
  rintro e w1 ⟨rfl, k1, rfl⟩
  rw [HE.out]
  go_wp2
  go_ret
  exact ⟨rfl, below_drewN (Below.refl _ _) _⟩

set_option maxHeartbeats 4000000 in
set_option maxRecDepth 20000 in
theorem specGridsGap_yes (v u : Value) (lo hi : Nat) (a b : G) (w : World) (hv : RdM lo hi w v a) (hu : RdM lo hi w u b) (h : RwOk a b) :
    Calls Try.prog 24 #[v, u] w (IntPost (gapS a b a.n) w) := by
  have HA := Lib.hid (l7Rows_any v u lo hi a b w hv hu)
  have HE := Lib.hid (rwB_yes h)
  have HH := Lib.hid h
  have HV := Lib.hid (fun (r : Nat) (hr : r < a.n) => hv.cellAt (r := r) (c := a.len 0 - 1) hr (by have := h.1.2.2 r hr; have := h.1.2.1.1; omega))
  have HU := Lib.hid (fun (r : Nat) (hr : r < a.n) => hu.cellAt (r := r) (c := 0) (by have := h.2.2; omega) (by have := h.2.1.2.2 r (by have := h.2.2; omega); have := h.2.1.2.1.1; omega))
  have hn7 := h.1.1.2
  obtain ⟨b0, of0, cap0, _, _, _, rfl, _, _, _, _⟩ := hv.cellAt (r := 0) (c := 0) (by have := h.1.1.1; omega) (by have := h.1.2.1.1; omega)
  obtain ⟨b1, of1, cap1, _, _, _, rfl, _, _, _, _⟩ := hu.cellAt (r := 0) (c := 0) (by have := h.2.1.1.1; omega) (by have := h.2.1.2.1.1; omega)
  have hbn : (b.n : Int) = a.n := by have := h.2.2; omega
  have HBN := Lib.hid h.2.2
  clear h hv hu hbn
  go_enter Try.func24, Try.ntmps24
  go_wp2_with fail
  refine HA.out.mono ?_
  rintro e w1 ⟨rfl, k1, rfl⟩
  rw [HE.out]
  go_wp2
  go_loopw [5, 6] (fun s i wr => ∃ r : Nat, r ≤ a.n ∧ i = .int .i64 r ∧ s = .int .i64 (gapS a b r) ∧ ∃ n, wr = w.drewN n) (fun _ i _ => a.n - (intOf i).toNat)
  case atStart => exact ⟨0, Nat.zero_le _, rfl, rfl, _, rfl⟩
  case round =>
    obtain ⟨r, hr, rfl, rfl, hwr⟩ := hrel
    have hg := gapS_ok HH.out r hr
    have hcl : ∀ x, wr.cell? x = w.cell? x := by obtain ⟨n, rfl⟩ := hwr; intro x; rfl
    have HWR := Lib.hid hwr
    clear hwr
    by_cases hlt : r < a.n
    · have hlt' : (r : Int) < a.n := by omega
      have hltb : (r : Int) < b.n := by have := HBN.out; omega
      have hlr : a.len r = a.len 0 := (HH.out.1.2.2 r hlt).1
      have hlb : b.len r = b.len 0 := (HH.out.2.1.2.2 r (by have := HBN.out; omega)).1
      have hl1 := HH.out.1.2.1.1
      have hl7 := HH.out.1.2.1.2
      have hm1 := HH.out.2.1.2.1.1
      have hm7 := HH.out.2.1.2.1.2
      obtain ⟨x1, y1, z1, c1, d1, cp1, e1, p1, p2, _, _⟩ := HV.out r hlt
      simp only [Value.slice.injEq, Option.some.injEq, Addr.mk.injEq, and_true, true_and] at e1
      obtain ⟨⟨rfl, rfl⟩, rfl⟩ := e1
      obtain ⟨x1, y1, z1, c2, d2, cp2, e1, p3, p4, _, _⟩ := HU.out r hlt
      simp only [Value.slice.injEq, Option.some.injEq, Addr.mk.injEq, and_true, true_and] at e1
      obtain ⟨⟨rfl, rfl⟩, rfl⟩ := e1
      rw [hlr] at p1
      rw [hlb] at p3
      have q1 := (hcl _).trans p1
      have q2 := (hcl _).trans p2
      have q3 := (hcl _).trans p3
      have q4 := (hcl _).trans p4
      have hd := dfV_range HH.out hlt
      have hab := absI_range hd.1 hd.2
      have za := (HH.out.1.2.2 r hlt).2 (a.len 0 - 1) (by omega)
      have zb := (HH.out.2.1.2.2 r (by have := HBN.out; omega)).2 0 (by omega)
      obtain ⟨A, hA⟩ : ∃ A, a.z r (a.len 0 - 1) = A := ⟨_, rfl⟩
      obtain ⟨B, hB⟩ : ∃ B, b.z r 0 = B := ⟨_, rfl⟩
      rw [hA] at q2 za
      rw [hB] at q4 zb
      have hD : dfV a b r = A - B := by unfold dfV; rw [hA, hB]
      rw [hD] at hab hd
      have HD := Lib.hid hD
      have q4' : wr.cell? ⟨c2, d2, none⟩ = some (.int .i64 B) := by simpa using q4
      have hi1 : (0 : Int) ≤ (a.len 0 : Int) - 1 := by omega
      have hi2 : ((a.len 0 : Int) - 1).toNat = a.len 0 - 1 := by omega
      have hi3 : (a.len 0 : Int) - 1 < a.len 0 := by omega
      have hb0 : 0 < b.len 0 := by omega
      have hb0' : (0 : Int) < b.len 0 := by omega
      have hS : IntKind.i64.wrap (A - B) = A - B := IntWalk.i64_in _ (by omega)
      have hS2 : IntKind.i64.wrap (gapS a b r + absI (A - B)) = gapS a b r + absI (A - B) := IntWalk.i64_in _ (by omega)
      have hS3 : IntKind.i64.wrap ((a.len 0 : Int) - 1) = (a.len 0 : Int) - 1 := IntWalk.i64_in _ (by omega)
      have HSZ := Lib.hid (fun W : World => l7Size_any (A - B) W (by omega) (by omega))
      clear hA hB hD hlr hlb hcl p1 p2 p3 p4 q4
      go_wp2_with fail
      go_quiet ((go_at_call 65; exact Calls.quiet_of_same (HSZ.out _)))
      clear hS hS2 hS3
      go_wp2
      go_roundw
      case rel => exact ⟨r + 1, by omega, by go_num, by show _ = Value.int .i64 (gapS a b r + absI (dfV a b r)); rw [HD.out], by obtain ⟨n, rfl⟩ := HWR.out; exact ⟨_, World.drewN_drewN ..⟩⟩
      case measure => simp [intOf]; omega
    · have e : r = a.n := by omega
      subst e
      have hb : Below w.heap.size w wr := by obtain ⟨n, rfl⟩ := HWR.out; exact below_drewN (Below.refl _ _) _
      have HB := Lib.hid hb
      clear hg hb hcl
      go_wp2
      go_ret
      exact ⟨rfl, HB.out⟩

end Go.Proofs.Ytjllmidagcniaaa
