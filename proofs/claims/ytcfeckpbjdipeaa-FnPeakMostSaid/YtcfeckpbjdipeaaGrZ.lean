/- The model's GridRaise and GridInvert. -/
import Derived.Test.YtcfeckpbjdipeaaImplG
import Derived.Lib.MinMax
namespace Go.Proofs.Ytcfeckpbjdipeaa
open Go.RowKit
set_option linter.unusedVariables false

/-- heights times a number plus another one -/
def chgG (g : G) (t k : Int) : G := { n := g.n, len := g.len, z := fun r c => t * g.z r c + k }
/-- the rows below r are changed, and those of row r below column c -/
def midG (g : G) (t k : Int) (r c : Nat) : G := { n := g.n, len := g.len, z := fun i j => if i < r ∨ (i = r ∧ j < c) then t * g.z i j + k else g.z i j }

theorem Gr.congr {w wr : World} {v : Value} {n B : Nat} {RV : Nat → Value} {g g' : G} (h : Gr w wr v n B RV g) (e : ∀ r, r < n → g.len r = g'.len r ∧ ∀ c, c < g.len r → g.z r c = g'.z r c) : Gr w wr v n B RV g' := by
  obtain ⟨a1, a2, a3, a4, a5, a6, a7⟩ := h
  refine ⟨a1, a2, a3, a4, a5, fun r hr => ?_, a7⟩
  obtain ⟨ys, c1, c2, c3⟩ := a6 r hr
  obtain ⟨e1, e2⟩ := e r hr
  exact ⟨ys, by rw [← e1]; exact c1, c2, fun c hc => by rw [← e2 c (by omega)]; exact c3 c (by omega)⟩

theorem Rd_below {lo hi : Nat} {w w' : World} {v : Value} {g : G} (h : RdM lo hi w v g) (hb : Below w.heap.size w w') (hh : hi ≤ w.heap.size) : RdM lo hi w' v g := h.same (SameIn.below hb hh)

theorem below_drew {B : Nat} (w : World) : Below B w w.drew := ⟨rfl, rfl, rfl, Nat.le_refl _, fun _ _ => rfl⟩

/-- what l1Change leaves: the changed grid, if it is one -/
def ChPost (g : G) (t k : Int) (w : World) (e : Ending) (w' : World) : Prop :=
  ((chgG g t k).Valid → SPost true (chgG g t k) w e w') ∧ (¬ (chgG g t k).Valid → SPost false G0 w e w')

set_option maxHeartbeats 4000000 in
set_option maxRecDepth 20000 in
theorem l1Change_any (v : Value) (lo hi : Nat) (g : G) (t k : Int) (w : World) (hv : RdM lo hi w v g) (hh : hi ≤ w.heap.size) (h : g.Valid) (ht : -1 ≤ t ∧ t ≤ 1) (hk : -99 ≤ k ∧ k ≤ 99) :
    Calls Try.prog 120 #[v, .int .i64 t, .int .i64 k] w (ChPost g t k w) := by
  have HCP := Lib.hid (l1Copy_any v lo hi g w hv hh (by have := h.1; omega) (fun i hi' => by have := (h.2.2 i hi').1; have := h.2.1; omega))
  have HH := Lib.hid h
  obtain ⟨ht0, ht1⟩ := ht
  obtain ⟨hk0, hk1⟩ := hk
  have hn1 := h.1.1
  have hn7 := h.1.2
  clear hv h
  go_enter Try.func120, Try.ntmps120
  go_wp2_with fail
  refine HCP.out.mono ?_
  rintro e w1 ⟨v1, B, RV, rfl, hgr⟩
  obtain ⟨bo, co, rfl⟩ : ∃ bo co, v1 = .slice (some ⟨bo, 0, none⟩) g.n co := by
    obtain ⟨bo, co, _, _, h3⟩ := own_slice hgr.top
    rcases h3 with h3 | h3
    · exact ⟨bo, co, h3.1⟩
    · omega
  have HG1 := Lib.hid hgr
  clear hgr
  go_wp2
  go_loopw [9] (fun i wr => ∃ r : Nat, r ≤ g.n ∧ i = .int .i64 r ∧ Gr w wr (.slice (some ⟨bo, 0, none⟩) g.n co) g.n B RV (midG g t k r 0)) (fun i _ => g.n - (intOf i).toNat)
  case atStart => exact ⟨0, Nat.zero_le _, rfl, HG1.out.congr (fun r hr => ⟨rfl, fun c hc => by simp [midG]⟩)⟩
  case round =>
    obtain ⟨r, hr, rfl, hgr⟩ := hrel
    by_cases hlt : r < g.n
    · have hlt' : (r : Int) < g.n := by omega
      have HGR := Lib.hid hgr
      clear hgr
      go_wp2
      obtain ⟨wo, rfl⟩ : ∃ wo : World, wo = wr := ⟨_, rfl⟩
      go_loopw [10] (fun i wr => ∃ c : Nat, c ≤ g.len r ∧ i = .int .i64 c ∧ Gr w wr (.slice (some ⟨bo, 0, none⟩) g.n co) g.n B RV (midG g t k r c)) (fun i _ => g.len r - (intOf i).toNat)
      case atStart => exact ⟨0, Nat.zero_le _, rfl, HGR.out⟩
      case round =>
        obtain ⟨c, hc, rfl, hgr⟩ := hrel
        have hl0 : 0 < g.len r := by have := (HH.out.2.2 r hlt).1; have := HH.out.2.1; omega
        obtain ⟨b2, cap2, bq, cq, e2, hRV, p1, _, _⟩ := hgr.cellAt (g := midG g t k r c) hlt (c := 0) hl0
        simp only [Value.slice.injEq, Option.some.injEq, Addr.mk.injEq, and_true, true_and] at e2
        obtain ⟨rfl, rfl⟩ := e2
        have p1' : wr.cell? ⟨bo, r, none⟩ = some (.slice (some ⟨bq, 0, none⟩) (g.len r) cq) := p1
        clear p1
        by_cases hcl : c < g.len r
        · have hcl' : (c : Int) < g.len r := by omega
          have hc0 : (0 : Int) ≤ c := by omega
          have hr0 : (0 : Int) ≤ r := by omega
          obtain ⟨_, _, bq', cq', _, hRV', _, p2, p3⟩ := hgr.cellAt (g := midG g t k r c) hlt (c := c) hcl
          have e3 : bq' = bq := by
            rw [hRV] at hRV'
            simp only [Value.slice.injEq, Option.some.injEq, Addr.mk.injEq, and_true, true_and] at hRV'
            exact hRV'.1.symm
          subst e3
          have ez : (midG g t k r c).z r c = g.z r c := by simp [midG]
          rw [ez] at p2
          have hz := (HH.out.2.2 r hlt).2 c hcl
          obtain ⟨hz0, hz1⟩ := hz
          have htz : t * g.z r c = 0 ∨ t * g.z r c = g.z r c ∨ t * g.z r c = - g.z r c := by
            have : t = 0 ∨ t = 1 ∨ t = -1 := by omega
            rcases this with h | h | h <;> subst h <;> simp
          have hp0 : -99 ≤ t * g.z r c := by omega
          have hp1 : t * g.z r c ≤ 99 := by omega
          have hst := hgr.store (g := midG g t k r c) hlt hcl hRV (t * g.z r c + k)
          have HST := Lib.hid (hst.congr (g' := midG g t k r (c + 1)) (fun i hi => ⟨rfl, fun j hj => by
            simp only [G.upd, midG]
            by_cases e1 : i = r ∧ j = c
            · rw [if_pos e1, if_pos (Or.inr ⟨e1.1, by omega⟩), e1.1, e1.2]
            · rw [if_neg e1]
              by_cases e2 : i < r ∨ (i = r ∧ j < c)
              · rw [if_pos e2, if_pos (by omega)]
              · rw [if_neg e2, if_neg (by omega)]⟩))
          have HRV := Lib.hid hRV
          clear hgr hst ez hRV hRV' htz
          have hw1 : IntKind.i64.wrap (t * g.z r c) = t * g.z r c := IntWalk.i64_in _ (by omega)
          have hw2 : IntKind.i64.wrap (t * g.z r c + k) = t * g.z r c + k := IntWalk.i64_in _ (by omega)
          go_wp2
          go_still_tail 17, (by kernel_rfl)
          change wpList _ _ _ _ _ wr.drew
          clear hw1 hw2
          have hl7 : g.len r ≤ 7 := by have := (HH.out.2.2 r hlt).1; have := HH.out.2.1; omega
          go_wp2
          go_roundw
          case rel => exact ⟨c + 1, by omega, by go_num, HST.out.keep (below_drew _)⟩
          case measure => simp [intOf]; omega
        · have ec : c = g.len r := by omega
          have HEC := Lib.hid ec
          have HG2 := Lib.hid (hgr.congr (g' := midG g t k (r + 1) 0) (fun i hi => ⟨rfl, fun j hj => by
            simp only [midG] at hj ⊢
            have hlen : i = r → j < c := fun e => by rw [e] at hj; omega
            by_cases e2 : i < r ∨ (i = r ∧ j < c)
            · rw [if_pos e2, if_pos (by omega)]
            · rw [if_neg e2, if_neg (by omega)]⟩))
          clear hgr hRV ec
          go_wp2
          go_roundw
          case rel => exact ⟨r + 1, by omega, by go_num, HG2.out⟩
          case measure => simp [intOf]; omega
    · have er : r = g.n := by omega
      subst er
      have hfin := hgr.congr (g' := chgG g t k) (fun i hi => ⟨rfl, fun j hj => by
        simp only [midG, chgG]
        rw [if_pos (Or.inl hi)]⟩)
      have hM := Gr.rdM (g := chgG g t k) hfin (fun i hi j hj => by
        have hz := (HH.out.2.2 i hi).2 j hj
        have : t = 0 ∨ t = 1 ∨ t = -1 := by omega
        simp only [chgG]
        rcases this with h | h | h <;> subst h <;> omega)
      have HM := Lib.hid hM
      have HBl := Lib.hid hfin.below
      clear hgr hfin hM
      go_wp2_with fail
      refine (specValid_any _ _ _ _ _ HM.out).mono ?_
      intro e w2 hq
      obtain ⟨rfl, hb2⟩ := hq.below
      have HM2 := Lib.hid (HM.out.keep hb2)
      have HB2 := Lib.hid (HBl.out.trans (hb2.mono HBl.out.size))
      have hs2 := hb2.size
      clear hb2 hq
      by_cases hval : (chgG g t k).Valid
      · rw [G.vB_yes hval]
        have HVal := Lib.hid hval
        clear hval
        go_wp2
        go_ret2
        exact ⟨fun _ => ⟨_, rfl, ⟨_, _, _, rfl⟩, HM2.out.mono (Nat.le_refl _) hs2, HB2.out⟩, fun h => absurd HVal.out h⟩
      · rw [G.vB_no hval]
        have HVal := Lib.hid hval
        clear hval
        go_wp2
        go_ret2
        exact ⟨fun h => absurd h HVal.out, fun _ => ⟨_, rfl, ⟨_, _, _, rfl⟩, RdM.empty _ _ _ _ _ (by omega), HB2.out.alloc HB2.out.size _⟩⟩

theorem raise_eqv (g : G) (k : Int) : G.Eqv (chgG g 1 k) { n := g.n, len := g.len, z := fun r c => g.z r c + k } :=
  ⟨rfl, fun r hr => ⟨rfl, fun c hc => by simp [chgG]⟩⟩

set_option maxHeartbeats 1000000 in
set_option maxRecDepth 20000 in
theorem specGridInvert_yes (v : Value) (lo hi : Nat) (g : G) (w : World) (hv : RdM lo hi w v g) (hh : hi ≤ w.heap.size) (h : g.Valid) :
    Calls Try.prog 85 #[v] w (SPost true (invertG g) w) := by
  have hE : G.Eqv (chgG g (-1) 99) (invertG g) := ⟨rfl, fun r hr => ⟨(h.2.2 r hr).1, fun c hc => by simp only [chgG, invertG]; omega⟩⟩
  have hval : (chgG g (-1) 99).Valid := ⟨h.1, h.2.1, fun r hr => ⟨(h.2.2 r hr).1, fun c hc => by have := (h.2.2 r hr).2 c hc; simp only [chgG]; omega⟩⟩
  have HV := Lib.hid (specValid_any v lo hi g w hv)
  have HB := Lib.hid (G.vB_yes h)
  have HCH := Lib.hid (fun (W : World) (hb : Below w.heap.size w W) => l1Change_any v lo hi g (-1) 99 W (hv.same (SameIn.below hb hh)) (Nat.le_trans hh hb.size) h (by omega) (by omega))
  have HE := Lib.hid hE
  have HVal := Lib.hid hval
  clear hE hval hv h
  go_enter Try.func85, Try.ntmps85
  go_wp2_with fail
  refine HV.out.mono ?_
  intro e w1 hq
  obtain ⟨rfl, hb1⟩ := hq.below
  rw [HB.out]
  have HB1 := Lib.hid hb1
  clear hb1 hq
  go_wp2_with fail
  refine (HCH.out _ HB1.out).mono ?_
  intro e w2 hp
  obtain ⟨v2, rfl, ⟨a, l, c, rfl⟩, ho, hb2⟩ := hp.1 HVal.out
  have HM := Lib.hid ((ho.mono HB1.out.size (Nat.le_refl _)).congr HE.out)
  have HB2 := Lib.hid (HB1.out.trans (hb2.mono HB1.out.size))
  clear hp ho hb2
  go_wp2
  go_ret2
  exact ⟨_, rfl, ⟨_, _, _, rfl⟩, HM.out, HB2.out⟩

set_option maxHeartbeats 1000000 in
set_option maxRecDepth 20000 in
theorem specGridInvert_no (v : Value) (lo hi : Nat) (g : G) (w : World) (hv : RdM lo hi w v g) (hh : hi ≤ w.heap.size) (h : ¬ g.Valid) :
    Calls Try.prog 85 #[v] w (SPost false G0 w) := by
  have HV := Lib.hid (specValid_any v lo hi g w hv)
  have HB := Lib.hid (G.vB_no h)
  clear hv h
  go_enter Try.func85, Try.ntmps85
  go_wp2_with fail
  refine HV.out.mono ?_
  intro e w1 hq
  obtain ⟨rfl, hb1⟩ := hq.below
  rw [HB.out]
  have HB1 := Lib.hid hb1
  clear hb1 hq
  go_wp2
  go_ret2
  exact ⟨_, rfl, ⟨_, _, _, rfl⟩, RdM.empty _ _ _ _ _ (by omega), HB1.out.alloc HB1.out.size _⟩

/-- what GridRaise asks, and its answer -/
def raiseG (g : G) (k : Int) : G := { n := g.n, len := fun _ => g.len 0, z := fun r c => g.z r c + k }
def G.RaiseOk (g : G) (k : Int) : Prop := g.Valid ∧ (-99 ≤ k ∧ k ≤ 99) ∧ (raiseG g k).Valid

theorem chg_raise {g : G} (h : g.Valid) (k : Int) : G.Eqv (chgG g 1 k) (raiseG g k) := ⟨rfl, fun r hr => ⟨(h.2.2 r hr).1, fun c hc => by simp only [chgG, raiseG]; omega⟩⟩
theorem chg_raise_valid {g : G} (h : g.Valid) (k : Int) : (chgG g 1 k).Valid ↔ (raiseG g k).Valid := by
  constructor
  · rintro ⟨h1, h2, h3⟩
    refine ⟨h1, h2, fun r hr => ⟨rfl, fun c hc => ?_⟩⟩
    have := (h3 r hr).2 c (by have := (h.2.2 r hr).1; simp only [chgG, raiseG] at *; omega)
    simp only [chgG, raiseG] at *
    omega
  · rintro ⟨h1, h2, h3⟩
    refine ⟨h1, h2, fun r hr => ⟨(h.2.2 r hr).1, fun c hc => ?_⟩⟩
    have := (h3 r hr).2 c (by have := (h.2.2 r hr).1; simp only [chgG, raiseG] at *; omega)
    simp only [chgG, raiseG] at *
    omega

def RsPost (g : G) (k : Int) (w : World) (e : Ending) (w' : World) : Prop := (g.RaiseOk k → SPost true (raiseG g k) w e w') ∧ (¬ g.RaiseOk k → SPost false G0 w e w')

end Go.Proofs.Ytcfeckpbjdipeaa

/- The program's GridRaise. -/
namespace Go.Proofs.Ytcfeckpbjdipeaa
open Go.RowKit
set_option linter.unusedVariables false

theorem callFunc_raised : ∀ (args : Array Value) (W : World), Sem.run Try.prog (callFunc 108 args) W = .ok (.enter 108 args) W := fun _ _ => by kernel_rfl

set_option maxHeartbeats 1000000 in
set_option maxRecDepth 20000 in
theorem clos_raised (R C n gg cap B r c m : Nat) (k Zm : Int) (W : World) (h0 : W.cell? ⟨B, 0, none⟩ = some (.int .i64 R)) (h1 : W.cell? ⟨B, 1, none⟩ = some (.int .i64 C)) (h2 : W.cell? ⟨B, 2, none⟩ = some (.slice (some ⟨gg, 0, none⟩) n cap))
    (h3 : W.cell? ⟨B + 1, 0, none⟩ = some (.int .i64 k)) (hB : B + 1 < W.heap.size)
    (hr : r < R) (hc : c < C) (hR : R ≤ 7) (hC : C ≤ 7) (hm : m = r * C + c) (hmn : m < n) (hn : n ≤ 49) (hcell : W.cell? ⟨gg, m, none⟩ = some (.int .i64 Zm)) (hz : 0 ≤ Zm ∧ Zm ≤ 99) (hk : -99 ≤ k ∧ k ≤ 99) :
    Calls Try.prog 108 #[.int .i64 r, .int .i64 c, .pointer (some ⟨B, 0, none⟩), .pointer (some ⟨B + 1, 0, none⟩)] W (IntPost (Zm + k) W) := by
  have hmi : (r : Int) * (C : Int) + (c : Int) = (m : Int) := by
    rw [hm, Int.natCast_add, Int.natCast_mul]
  have hp0 : 0 ≤ (r : Int) * (C : Int) := Int.mul_nonneg (by omega) (by omega)
  have hp1 : (r : Int) * (C : Int) ≤ 1000 := by omega
  have HA := Lib.hid (at_any R C n gg cap Zm (r : Int) (c : Int) m W.drew hmi hp0 hp1 hmn (by omega) hcell)
  obtain ⟨hz0, hz1⟩ := hz
  obtain ⟨hk0, hk1⟩ := hk
  have hw : IntKind.i64.wrap (Zm + k) = Zm + k := IntWalk.i64_in _ (by omega)
  clear hcell hmi hm hp0 hp1
  go_enter Try.func108, Try.ntmps108
  go_wp2_with fail
  go_region_held3 (fun w' => w'.cell? ⟨B, 0, none⟩ = some (.int .i64 R) ∧ w'.cell? ⟨B, 1, none⟩ = some (.int .i64 C) ∧ w'.cell? ⟨B, 2, none⟩ = some (.slice (some ⟨gg, 0, none⟩) n cap) ∧ w'.cell? ⟨B + 1, 0, none⟩ = some (.int .i64 k))
    (first | exact ⟨h0, h1, h2, h3⟩ | exact s4)
    (first | (go_at_call 109; refine HA.out.mono ?_; rintro e w2 ⟨rfl, hb0⟩; have hb2 := hb0.undrew; have s4 := (⟨(hb2.cell (p := ⟨B, 0, none⟩) (by show B < _; omega)).trans h0, (hb2.cell (p := ⟨B, 1, none⟩) (by show B < _; omega)).trans h1, (hb2.cell (p := ⟨B, 2, none⟩) (by show B < _; omega)).trans h2, (hb2.cell (p := ⟨B + 1, 0, none⟩) (by show B + 1 < _; omega)).trans h3⟩ : w2.cell? ⟨B, 0, none⟩ = some (.int .i64 R) ∧ w2.cell? ⟨B, 1, none⟩ = some (.int .i64 C) ∧ w2.cell? ⟨B, 2, none⟩ = some (.slice (some ⟨gg, 0, none⟩) n cap) ∧ w2.cell? ⟨B + 1, 0, none⟩ = some (.int .i64 k)); have HB2 := Lib.hid hb2; clear hb0 hb2))
  all_goals clear hw
  all_goals go_wp2
  all_goals go_ret
  all_goals exact ⟨rfl, HB2.out⟩

set_option maxHeartbeats 2000000 in
set_option maxRecDepth 20000 in
theorem raised_any (R C n gg cap : Nat) (Z : Nat → Int) (k : Int) (w : World) (h : Rv w R C n gg cap Z) (hR : R ≤ 7) (hC : C ≤ 7) (hz : ∀ i, i < n → 0 ≤ Z i ∧ Z i ≤ 99) (hk : -99 ≤ k ∧ k ≤ 99) :
    Calls Try.prog 72 #[.agg #[.int .i64 R, .int .i64 C, .slice (some ⟨gg, 0, none⟩) n cap], .int .i64 k] w (MPost R C (fun i => Z i + k) w) := by
  have hn49 : n ≤ 49 := by rw [h.n_eq]; exact mul_le_49 hR hC
  obtain ⟨W0, hW0⟩ : ∃ W0, W0 = ((w.alloc (.cells #[.int .i64 R, .int .i64 C, .slice (some ⟨gg, 0, none⟩) n cap] 50)).alloc (.cells #[.int .i64 k] 3)).alloc (.cells #[.int .i64 0, .int .i64 0, .slice none 0 0] 50) := ⟨_, rfl⟩
  have hs0 : W0.heap.size = w.heap.size + 3 := by rw [hW0]; simp
  have hb0 : Below w.heap.size w W0 := by rw [hW0]; exact (((Below.refl _ _).alloc (Nat.le_refl _) _).alloc (by simp) _).alloc (by simp; omega) _
  have hbox : W0.heap[w.heap.size]? = some (.cells #[.int .i64 R, .int .i64 C, .slice (some ⟨gg, 0, none⟩) n cap] 50 (0, 0)) := by
    rw [hW0, Below.heap_alloc _ _ _ (by simp; omega)]; exact heap_alloc2_old _ _ _
  have hkb : W0.heap[w.heap.size + 1]? = some (.cells #[.int .i64 k] 3 (0, 0)) := by
    rw [hW0, Below.heap_alloc _ _ _ (by simp)]; exact heap_alloc2_new _ _ _
  have hres : W0.heap[w.heap.size + 1 + 1]? = some (.cells #[.int .i64 0, .int .i64 0, .slice none 0 0] 50 (0, 0)) := by rw [hW0]; exact heap_alloc3_new _ _ _ _
  have h0 := h.keep hb0 (Nat.le_refl _)
  have hcon := newRelief_any R C 108 #[.pointer (some ⟨w.heap.size, 0, none⟩), .pointer (some ⟨w.heap.size + 1, 0, none⟩)] (fun i => Z i + k) W0 (by omega) (by omega) callFunc_raised (fun r c W hr hc hbel => by
    obtain ⟨k0, k1, k2, _, _, _⟩ := cells3 ((hbel.block _ (by omega)).trans hbox)
    have kk := cell_of_one ((hbel.block _ (by omega)).trans hkb)
    have hv := h0.keep hbel (Nat.le_refl _)
    have hlt : r * C + c < n := cell_lt h0.n_eq hr hc
    have key := clos_raised R C n gg cap w.heap.size r c (r * C + c) k (Z (r * C + c)) W k0 k1 k2 kk (by have := hbel.size; omega) hr hc hR hC rfl hlt hn49 (hv.cell _ hlt) (hz _ hlt) hk
    refine key.mono fun e w' hp => ⟨?_, hp.2⟩
    rw [hp.1])
  have HC := Lib.hid hcon
  have HRES := Lib.hid hres
  have HB0 := Lib.hid hb0
  have HS0 := Lib.hid hs0
  rw [hW0] at HC
  clear hcon h0 hbox hkb hres hb0 hs0 h hz
  go_enter Try.func72, Try.ntmps72
  go_wp2_with fail
  refine HC.out.mono ?_
  rintro e w2 ⟨n', gg', cap', xs, hn', rfl, hown, hval, hb2⟩
  have hb3 : Below W0.heap.size W0 w2 := by rw [hW0]; exact hb2
  have hown' := hown
  rw [← hW0] at hown'
  have R3 := (hb3.block (w.heap.size + 1 + 1) (by have := HS0.out; omega)).trans HRES.out
  obtain ⟨r0, r1, r2, g0, g1, g2⟩ := cells3 R3
  have hlo := (hown'.lt gg' rfl).1
  have hE := three_set w2 (w.heap.size + 1 + 1) _ _ _ (.int .i64 R) (.int .i64 C) (.slice (some ⟨gg', 0, none⟩) n' cap') R3
  have O1 := own3 hown' (x := w.heap.size + 1 + 1) (by have := HS0.out; omega) (.int .i64 R) (.int .i64 C) (.slice (some ⟨gg', 0, none⟩) n' cap')
  have B1 := below3 (HB0.out.trans (hb3.mono HB0.out.size)) (x := w.heap.size + 1 + 1) (by omega) (.int .i64 R) (.int .i64 C) (.slice (some ⟨gg', 0, none⟩) n' cap')
  have HRV := Lib.hid (Rv.of_own O1 hn' hval)
  have HE := Lib.hid hE
  have HB1 := Lib.hid B1
  clear hE R3 O1 B1 hown hown' hval hb2 hb3 hn' hW0
  go_wp2
  exact bodyPost_ret (results_cell_row rfl _ _ (w.heap.size + 1 + 1) _ #[.int .i64 R, .int .i64 C, .slice (some ⟨gg', 0, none⟩) n' cap'] _ _ rfl HE.out Try.underlying50 rfl Try.sizeRel) rfl ⟨n', gg', cap', rfl, HRV.out, HB1.out⟩

def RgPost (g : G) (k : Int) (w : World) (e : Ending) (w' : World) : Prop := (g.RaiseOk k → GPost true (raiseG g k) w e w') ∧ (¬ g.RaiseOk k → GPost false G0 w e w')

set_option maxHeartbeats 2000000 in
set_option maxRecDepth 20000 in
theorem implGridRaise_any (v : Value) (lo hi : Nat) (g : G) (k : Int) (w : World) (hv : RdM lo hi w v g) (hh : hi ≤ w.heap.size) :
    Calls Try.prog 32 #[v, .int .i64 k] w (RgPost g k w) := by
  by_cases h : g.Valid
  case neg =>
    have HC := Lib.hid (reliefOf_no v lo hi g w hv hh h)
    have HN := Lib.hid (show ¬ g.RaiseOk k from fun hr => h hr.1)
    clear hv h
    go_enter Try.func32, Try.ntmps32
    go_wp2_with fail
    refine HC.out.mono ?_
    rintro e w1 ⟨rfl, hb1⟩
    have HB2 := Lib.hid (hb1.alloc hb1.size (.cells #[.int .i64 0, .int .i64 0, .slice none 0 0] 50))
    clear hb1
    go_wp2
    go_ret2
    exact ⟨fun hr => absurd hr HN.out, fun _ => ⟨_, rfl, ⟨_, _, _, rfl⟩, OwM.none _ _ _, HB2.out⟩⟩
  case pos =>
    have HC := Lib.hid (reliefOf_yes v lo hi g w hv hh h)
    have HH := Lib.hid h
    clear hv h
    by_cases hk0 : k < -99
    · have HN := Lib.hid (show ¬ g.RaiseOk k from fun hr => by have := hr.2.1; omega)
      go_enter Try.func32, Try.ntmps32
      go_wp2_with fail
      refine HC.out.mono ?_
      intro e w1 hq
      obtain ⟨n, gg, cap, rfl, hrv, hb1⟩ := hq.rv
      have HB1 := Lib.hid (hb1.alloc hb1.size (.cells #[.int .i64 g.n, .int .i64 (g.len 0), .slice (some ⟨gg, 0, none⟩) n cap] 50))
      clear hq hrv hb1
      go_wp2
      go_ret2
      exact ⟨fun hr => absurd hr HN.out, fun _ => ⟨_, rfl, ⟨_, _, _, rfl⟩, OwM.none _ _ _, HB1.out⟩⟩
    · by_cases hk1 : 99 < k
      · have HN := Lib.hid (show ¬ g.RaiseOk k from fun hr => by have := hr.2.1; omega)
        go_enter Try.func32, Try.ntmps32
        go_wp2_with fail
        refine HC.out.mono ?_
        intro e w1 hq
        obtain ⟨n, gg, cap, rfl, hrv, hb1⟩ := hq.rv
        have HB1 := Lib.hid (hb1.alloc hb1.size (.cells #[.int .i64 g.n, .int .i64 (g.len 0), .slice (some ⟨gg, 0, none⟩) n cap] 50))
        clear hq hrv hb1
        go_wp2
        go_ret2
        exact ⟨fun hr => absurd hr HN.out, fun _ => ⟨_, rfl, ⟨_, _, _, rfl⟩, OwM.none _ _ _, HB1.out⟩⟩
      · go_enter Try.func32, Try.ntmps32
        go_wp2_with fail
        refine HC.out.mono ?_
        intro e w1 hq
        obtain ⟨n, gg, cap, rfl, hrv, hb1⟩ := hq.rv
        have hb2 := hb1.alloc hb1.size (.cells #[.int .i64 g.n, .int .i64 (g.len 0), .slice (some ⟨gg, 0, none⟩) n cap] 50)
        have hrv2 := hrv.keep ((Below.refl w1.heap.size w1).alloc (Nat.le_refl _) (.cells #[.int .i64 g.n, .int .i64 (g.len 0), .slice (some ⟨gg, 0, none⟩) n cap] 50)) (Nat.le_refl _)
        have HM := Lib.hid (raised_any g.n (g.len 0) n gg cap g.flat k _ hrv2 HH.out.1.2 HH.out.2.1.2 (rel_ok HH.out hrv.n_eq).2.2 ⟨by omega, by omega⟩)
        have HB2 := Lib.hid hb2
        clear hq hrv hb1 hb2 hrv2
        go_wp2_with fail
        refine HM.out.mono ?_
        rintro e w2 ⟨n', gg', cap', rfl, hrv', hb3⟩
        have HB3 := Lib.hid (HB2.out.trans (hb3.mono HB2.out.size))
        have HRV := Lib.hid hrv'
        clear hrv' hb3
        by_cases hval : (raiseG g k).Valid
        · have HOK := Lib.hid (show g.RaiseOk k from ⟨HH.out, by omega, hval⟩)
          have HG := Lib.hid (grid_yes g.n (g.len 0) n' gg' cap' _ w2 HRV.out (relOk_of HRV.out.n_eq HH.out.1 HH.out.2.1 (fun r hr c hc => by
            have := (hval.2.2 r hr).2 c hc
            show 0 ≤ g.flat (r * g.len 0 + c) + k ∧ g.flat (r * g.len 0 + c) + k ≤ 99
            rw [g.flat_at r c hc]
            exact this)))
          clear hval
          go_wp2_with fail
          refine HG.out.mono ?_
          rintro e w3 ⟨v3, rfl, ⟨a, l, c, rfl⟩, ho, hb4⟩
          have HP : Hid (GPost true (raiseG g k) w (.returned (.tuple #[.slice a l c, .bool true])) w3) := GPost.up ⟨_, rfl, ⟨_, _, _, rfl⟩, ho, hb4⟩ HB3.out ⟨rfl, fun r hr => ⟨rfl, fun c hc => by
            show g.flat (r * g.len 0 + c) + k = g.z r c + k
            rw [g.flat_at r c hc]⟩⟩
          clear ho hb4
          go_wp2
          go_ret2
          exact ⟨fun _ => HP.out, fun h => absurd HOK.out h⟩
        · have HOK := Lib.hid (show ¬ g.RaiseOk k from fun h => hval h.2.2)
          have HG := Lib.hid (grid_no g.n (g.len 0) n' gg' cap' _ w2 HRV.out (fun hok => hval ⟨HH.out.1, HH.out.2.1, fun r hr => ⟨rfl, fun c hc => by
            have hc' : c < g.len 0 := hc
            have : 0 ≤ g.flat (r * g.len 0 + c) + k ∧ g.flat (r * g.len 0 + c) + k ≤ 99 := hok.2.2 (r * g.len 0 + c) (cell_lt HRV.out.n_eq hr hc')
            rw [g.flat_at r c hc'] at this
            exact this⟩⟩) (by rw [HRV.out.n_eq]; have := mul_le_49 HH.out.1.2 HH.out.2.1.2; omega) (by have := HH.out.1; omega) (by have := HH.out.2.1; omega))
          clear hval
          go_wp2_with fail
          refine HG.out.mono ?_
          rintro e w3 ⟨v3, rfl, ⟨a, l, c, rfl⟩, ho, hb4⟩
          have HP : Hid (GPost false G0 w (.returned (.tuple #[.slice a l c, .bool false])) w3) := GPost.up ⟨_, rfl, ⟨_, _, _, rfl⟩, ho, hb4⟩ HB3.out (G.Eqv.refl _)
          clear ho hb4
          go_wp2
          go_ret2
          exact ⟨fun h => absurd h HOK.out, fun _ => HP.out⟩

end Go.Proofs.Ytcfeckpbjdipeaa

/- The program's GridPart. -/
namespace Go.Proofs.Ytcfeckpbjdipeaa
open Go.RowKit
set_option linter.unusedVariables false

/-- what GridPart asks, and its answer -/
def G.PartOk (g : G) (t b l r : Int) : Prop := g.Cell t l ∧ g.Cell b r ∧ t ≤ b ∧ l ≤ r
def partG (g : G) (t b l r : Nat) : G := { n := b - t + 1, len := fun _ => r - l + 1, z := fun i j => g.z (t + i) (l + j) }

theorem has_of_cell {g : G} {r c : Int} (h : g.Cell r c) : 0 ≤ r ∧ r < g.n ∧ 0 ≤ c ∧ c < g.len 0 := ⟨h.2.1.1, by have := h.2.1.2; omega, h.2.2.1, by have := h.2.2.2; omega⟩
theorem cell_of_has {g : G} {r c : Int} (hv : g.Valid) (h : 0 ≤ r ∧ r < g.n ∧ 0 ≤ c ∧ c < g.len 0) : g.Cell r c := ⟨hv, ⟨h.1, by omega⟩, h.2.2.1, by omega⟩

end Go.Proofs.Ytcfeckpbjdipeaa

/- The model's GridPart. -/
namespace Go.Proofs.Ytcfeckpbjdipeaa
open Go.RowKit
set_option linter.unusedVariables false

theorem part_valid {g : G} {t b l r : Nat} (h : g.PartOk t b l r) : (partG g t b l r).Valid := by
  obtain ⟨hc1, hc2, htb, hlr⟩ := h
  have p := has_of_cell hc1
  have q := has_of_cell hc2
  have h7 := hc1.1.1
  have l7 := hc1.1.2.1
  refine ⟨by simp only [partG]; omega, by simp only [partG]; omega, fun i hi => ⟨rfl, fun j hj => ?_⟩⟩
  simp only [partG] at *
  exact valid_at hc1.1 (by omega) (by omega)

end Go.Proofs.Ytcfeckpbjdipeaa

/- GridRange of the model and of the program. -/
namespace Go.Proofs.Ytcfeckpbjdipeaa
open Go.RowKit
set_option linter.unusedVariables false

/-- the least and the greatest of the first numbers -/
def mn (Z : Nat → Int) : Nat → Int
  | 0 => Z 0
  | k + 1 => min (mn Z k) (Z k)
def mx (Z : Nat → Int) : Nat → Int
  | 0 => Z 0
  | k + 1 => max (mx Z k) (Z k)

theorem mn_succ (Z : Nat → Int) (k : Nat) : mn Z (k + 1) = min (mn Z k) (Z k) := rfl
theorem mx_succ (Z : Nat → Int) (k : Nat) : mx Z (k + 1) = max (mx Z k) (Z k) := rfl
theorem mn_one (Z : Nat → Int) : mn Z 1 = Z 0 := by simp [mn]
theorem mx_one (Z : Nat → Int) : mx Z 1 = Z 0 := by simp [mx]

set_option maxHeartbeats 1000000 in
theorem slicesMin_any (n gg cap : Nat) (Z : Nat → Int) (w : World) (h1 : 1 ≤ n) (h2 : n ≤ 1000) (hc : ∀ i, i < n → w.cell? ⟨gg, i, none⟩ = some (.int .i64 (Z i))) :
    Calls Try.prog 68 #[.slice (some ⟨gg, 0, none⟩) n cap] w fun e w' => e = .returned (.int .i64 (mn Z n)) ∧ w' = w := by
  have HC := Lib.hid hc
  have hc0 := hc 0 (by omega)
  have hn0 : (0 : Int) < n := by omega
  have hn1 : 0 < n := by omega
  clear hc
  go_enter Try.func68, Try.ntmps68
  go_wp2
  go_loop [3, 4] (fun m i => ∃ k : Nat, 1 ≤ k ∧ k ≤ n ∧ i = .int .i64 k ∧ m = .int .i64 (mn Z k)) (fun _ i => n - (intOf i).toNat)
  case atStart => exact ⟨1, by omega, by omega, rfl, by rw [mn_one]⟩
  case round =>
    obtain ⟨k, hk1, hk, rfl, rfl⟩ := hrel
    by_cases hlt : k < n
    · have hlt' : (k : Int) < n := by omega
      have q1 := HC.out k hlt
      clear hc0
      go_wp2
      go_round
      case rel => exact ⟨k + 1, by omega, by omega, by go_num, by simp only [mn]⟩
      case measure => simp [intOf]; omega
    · have e : k = n := by omega
      subst e
      clear hc0
      go_wp2
      go_ret
      exact ⟨rfl, rfl⟩

set_option maxHeartbeats 1000000 in
theorem slicesMax_any (n gg cap : Nat) (Z : Nat → Int) (w : World) (h1 : 1 ≤ n) (h2 : n ≤ 1000) (hc : ∀ i, i < n → w.cell? ⟨gg, i, none⟩ = some (.int .i64 (Z i))) :
    Calls Try.prog 69 #[.slice (some ⟨gg, 0, none⟩) n cap] w fun e w' => e = .returned (.int .i64 (mx Z n)) ∧ w' = w := by
  have HC := Lib.hid hc
  have hc0 := hc 0 (by omega)
  have hn0 : (0 : Int) < n := by omega
  have hn1 : 0 < n := by omega
  clear hc
  go_enter Try.func69, Try.ntmps69
  go_wp2
  go_loop [3, 4] (fun m i => ∃ k : Nat, 1 ≤ k ∧ k ≤ n ∧ i = .int .i64 k ∧ m = .int .i64 (mx Z k)) (fun _ i => n - (intOf i).toNat)
  case atStart => exact ⟨1, by omega, by omega, rfl, by rw [mx_one]⟩
  case round =>
    obtain ⟨k, hk1, hk, rfl, rfl⟩ := hrel
    by_cases hlt : k < n
    · have hlt' : (k : Int) < n := by omega
      have q1 := HC.out k hlt
      clear hc0
      go_wp2
      go_round
      case rel => exact ⟨k + 1, by omega, by omega, by go_num, by simp only [mx]⟩
      case measure => simp [intOf]; omega
    · have e : k = n := by omega
      subst e
      clear hc0
      go_wp2
      go_ret
      exact ⟨rfl, rfl⟩

def TriPost (a b : Int) (c : Bool) (w : World) (e : Ending) (w' : World) : Prop := e = .returned (.tuple #[.int .i64 a, .int .i64 b, .bool c]) ∧ Below w.heap.size w w'

set_option maxHeartbeats 2000000 in
theorem specGridRange_yes (v : Value) (lo hi : Nat) (g : G) (w : World) (hv : RdM lo hi w v g) (h : g.Valid) :
    Calls Try.prog 67 #[v] w (TriPost (mn g.flat (g.n * g.len 0)) (mx g.flat (g.n * g.len 0)) true w) := by
  have HV := Lib.hid (specValid_any v lo hi g w hv)
  have HB := Lib.hid (G.vB_yes h)
  have HH := Lib.hid h
  have hn1 := h.1.1
  have hn7 := h.1.2
  have hl1 := h.2.1.1
  have hl7 := h.2.1.2
  have HRD := Lib.hid hv
  obtain ⟨b, off, cap, b1, off1, cp, rfl, p1, p2, _, _⟩ := hv.cellAt (r := 0) (c := 0) (by omega) (by omega)
  have hn0 : (0 : Int) < g.n := by omega
  have hn0' : 0 < g.n := by omega
  have hl0 : (0 : Int) < g.len 0 := by omega
  have hl0' : 0 < g.len 0 := by omega
  have P1 : w.cell? ⟨b, off, none⟩ = some (.slice (some ⟨b1, off1, none⟩) (g.len 0) cp) := by simpa using p1
  have P2 : w.cell? ⟨b1, off1, none⟩ = some (.int .i64 (g.flat 0)) := by
    have e : g.flat 0 = g.z 0 0 := by
      have := g.flat_at 0 0 hl0'
      simpa using this
    rw [e]; simpa using p2
  clear h hv p1 p2
  go_enter Try.func67, Try.ntmps67
  go_wp2_with fail
  refine HV.out.mono ?_
  rintro e w1 ⟨rfl, n1, rfl⟩
  rw [HB.out]
  go_wp2
  go_loop [5, 6, 7] (fun lw hg i => ∃ r : Nat, r ≤ g.n ∧ i = .int .i64 r ∧ lw = .int .i64 (mn g.flat (r * g.len 0)) ∧ hg = .int .i64 (mx g.flat (r * g.len 0))) (fun _ _ i => g.n - (intOf i).toNat)
  case atStart => exact ⟨0, Nat.zero_le _, rfl, by simp [mn], by simp [mx]⟩
  case round =>
    obtain ⟨r, hr, rfl, rfl, rfl⟩ := hrel
    clear P1 P2
    by_cases hlt : r < g.n
    · have hlt' : (r : Int) < g.n := by omega
      have hlr : g.len r = g.len 0 := (HH.out.2.2 r hlt).1
      obtain ⟨b', off', cap', b2, off2, cp2, e1, p1, _, _, _⟩ := HRD.out.cellAt (r := r) (c := 0) hlt (by omega)
      simp only [Value.slice.injEq, Option.some.injEq, Addr.mk.injEq, and_true, true_and] at e1
      obtain ⟨⟨rfl, rfl⟩, rfl⟩ := e1
      have HLR := Lib.hid hlr
      have hlr7 : g.len r ≤ 7 := by omega
      clear hlr
      go_wp2
      go_loop [5, 6, 8] (fun lw hg i => ∃ c : Nat, c ≤ g.len r ∧ i = .int .i64 c ∧ lw = .int .i64 (mn g.flat (r * g.len 0 + c)) ∧ hg = .int .i64 (mx g.flat (r * g.len 0 + c))) (fun _ _ i => g.len r - (intOf i).toNat)
      case atStart => exact ⟨0, Nat.zero_le _, rfl, rfl, rfl⟩
      case round =>
        obtain ⟨c, hc, rfl, rfl, rfl⟩ := hrel
        by_cases hcl : c < g.len r
        · have hcl' : (c : Int) < g.len r := by omega
          obtain ⟨b', off', cap', b3, off3, cp3, e1, p3, p4, _, _⟩ := HRD.out.cellAt (r := r) (c := c) hlt hcl
          simp only [Value.slice.injEq, Option.some.injEq, Addr.mk.injEq, and_true, true_and] at e1
          obtain ⟨⟨rfl, rfl⟩, rfl⟩ := e1
          have hz := g.flat_at r c (by have := HLR.out; omega)
          rw [← hz] at p4
          have HZ := Lib.hid hz
          clear hz p1
          go_wp2
          go_round
          case rel => exact ⟨c + 1, by omega, by go_num, by rw [← Nat.add_assoc, mn_succ], by rw [← Nat.add_assoc, mx_succ]⟩
          case measure => simp [intOf]; omega
        · have ec : c = g.len r := by omega
          have E1 : Hid (r * g.len 0 + c = (r + 1) * g.len 0) := by
            show r * g.len 0 + c = (r + 1) * g.len 0
            rw [Nat.add_mul, ec, HLR.out]; omega
          clear ec
          go_wp2
          go_round
          case rel => exact ⟨r + 1, by omega, by go_num, by rw [E1.out], by rw [E1.out]⟩
          case measure => simp [intOf]; omega
    · have er : r = g.n := by omega
      subst er
      go_wp2
      go_ret3
      exact ⟨rfl, below_drewN (Below.refl _ _) _⟩

set_option maxHeartbeats 1000000 in
theorem specGridRange_no (v : Value) (lo hi : Nat) (g : G) (w : World) (hv : RdM lo hi w v g) (h : ¬ g.Valid) :
    Calls Try.prog 67 #[v] w (TriPost 0 0 false w) := by
  have HV := Lib.hid (specValid_any v lo hi g w hv)
  have HB := Lib.hid (G.vB_no h)
  clear h hv
  go_enter Try.func67, Try.ntmps67
  go_wp2_with fail
  refine HV.out.mono ?_
  rintro e w1 ⟨rfl, n1, rfl⟩
  rw [HB.out]
  go_wp2
  go_ret3
  exact ⟨rfl, below_drewN (Below.refl _ _) _⟩

set_option maxHeartbeats 1000000 in
theorem implGridRange_no (v : Value) (lo hi : Nat) (g : G) (w : World) (hv : RdM lo hi w v g) (hh : hi ≤ w.heap.size) (h : ¬ g.Valid) :
    Calls Try.prog 28 #[v] w (TriPost 0 0 false w) := by
  have HC := Lib.hid (reliefOf_no v lo hi g w hv hh h)
  clear hv h
  go_enter Try.func28, Try.ntmps28
  go_wp2_with fail
  refine HC.out.mono ?_
  rintro e w1 ⟨rfl, hb1⟩
  have HB2 := Lib.hid (hb1.alloc hb1.size (.cells #[.int .i64 0, .int .i64 0, .slice none 0 0] 50))
  clear hb1
  go_wp2
  go_ret3
  exact ⟨rfl, HB2.out⟩

set_option maxHeartbeats 2000000 in
theorem implGridRange_yes (v : Value) (lo hi : Nat) (g : G) (w : World) (hv : RdM lo hi w v g) (hh : hi ≤ w.heap.size) (h : g.Valid) :
    Calls Try.prog 28 #[v] w (TriPost (mn g.flat (g.n * g.len 0)) (mx g.flat (g.n * g.len 0)) true w) := by
  have HC := Lib.hid (reliefOf_yes v lo hi g w hv hh h)
  have HH := Lib.hid h
  clear hv h
  go_enter Try.func28, Try.ntmps28
  go_wp2_with fail
  refine HC.out.mono ?_
  intro e w1 hq
  obtain ⟨n, gg, cap, rfl, hrv, hb1⟩ := hq.rv
  have hn : 1 ≤ n ∧ n ≤ 1000 := by
    rw [hrv.n_eq]
    have h1 := mul_le_49 HH.out.1.2 HH.out.2.1.2
    have h2 := Nat.mul_le_mul HH.out.1.1 HH.out.2.1.1
    omega
  have HNE := Lib.hid hrv.n_eq
  have HB1 := Lib.hid (hb1.alloc hb1.size (.cells #[.int .i64 g.n, .int .i64 (g.len 0), .slice (some ⟨gg, 0, none⟩) n cap] 50))
  have hrv2 := hrv.keep ((Below.refl w1.heap.size w1).alloc (Nat.le_refl _) (.cells #[.int .i64 g.n, .int .i64 (g.len 0), .slice (some ⟨gg, 0, none⟩) n cap] 50)) (Nat.le_refl _)
  have HMN := Lib.hid (fun (W : World) (hW : W.heap = (w1.alloc (.cells #[.int .i64 g.n, .int .i64 (g.len 0), .slice (some ⟨gg, 0, none⟩) n cap] 50)).heap) => slicesMin_any n gg cap g.flat W hn.1 hn.2 (fun i hi => (World.cell?_of_block (a := ⟨gg, i, none⟩) (by rw [hW])).trans (hrv2.cell i hi)))
  have HMX := Lib.hid (fun (W : World) (hW : W.heap = (w1.alloc (.cells #[.int .i64 g.n, .int .i64 (g.len 0), .slice (some ⟨gg, 0, none⟩) n cap] 50)).heap) => slicesMax_any n gg cap g.flat W hn.1 hn.2 (fun i hi => (World.cell?_of_block (a := ⟨gg, i, none⟩) (by rw [hW])).trans (hrv2.cell i hi)))
  clear hq hrv hb1 hrv2 hn
  go_wp2
  go_quiet ((first | (go_at_call 68; exact Calls.quiet_of_same (HMN.out _ rfl)) | (go_at_call 69; exact Calls.quiet_of_same (HMX.out _ rfl))))
  go_wp2
  go_ret3
  exact ⟨by rw [← HNE.out]; rfl, below_drewN HB1.out _⟩

end Go.Proofs.Ytcfeckpbjdipeaa
