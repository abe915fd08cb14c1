/- The model's GridRaise and GridInvert. -/
import Derived.Test.YtlbdglhippapnabImplG
namespace Go.Proofs.Ytlbdglhippapnab
open Go.RowKit
set_option linter.unusedVariables false

/-- heights times a number plus another one -/
def chgG (g : G) (t k : Int) : G := { n := g.n, len := g.len, z := fun r c => t * g.z r c + k }
/-- the rows below r are changed, and those of row r below column c -/
def midG (g : G) (t k : Int) (r c : Nat) : G := { n := g.n, len := g.len, z := fun i j => if i < r ∨ (i = r ∧ j < c) then t * g.z i j + k else g.z i j }

theorem Gr.congr {w wr : World} {v : Value} {n B : Nat} {RV : Nat → Value} {g g' : G} (h : Gr w wr v n B RV g) (e : ∀ r, r < n → g.len r = g'.len r ∧ ∀ c, c < g.len r → g.z r c = g'.z r c) : Gr w wr v n B RV g' := by
  obtain ⟨a1, a2, a3, a4, a5, a6, a7⟩ := h
  refine ⟨a1, a2, a3, a4, a5, fun r hr => ?_, a7⟩
  obtain ⟨ys, c1, c2, c3⟩ := a6 r hr
  obtain ⟨e1, e2⟩ := e r hr
  exact ⟨ys, by rw [← e1]; exact c1, c2, fun c hc => by rw [← e2 c (by omega)]; exact c3 c (by omega)⟩

theorem Rd_below {lo hi : Nat} {w w' : World} {v : Value} {g : G} (h : RdM lo hi w v g) (hb : Below w.heap.size w w') (hh : hi ≤ w.heap.size) : RdM lo hi w' v g := h.same (SameIn.below hb hh)

theorem below_drew {B : Nat} (w : World) : Below B w w.drew := ⟨rfl, rfl, rfl, Nat.le_refl _, fun _ _ => rfl⟩

/-- what l1Change leaves: the changed grid, if it is one -/
def ChPost (g : G) (t k : Int) (w : World) (e : Ending) (w' : World) : Prop :=
  ((chgG g t k).Valid → SPost true (chgG g t k) w e w') ∧ (¬ (chgG g t k).Valid → SPost false G0 w e w')

set_option maxHeartbeats 4000000 in
set_option maxRecDepth 20000 in
theorem l1Change_any (v : Value) (lo hi : Nat) (g : G) (t k : Int) (w : World) (hv : RdM lo hi w v g) (hh : hi ≤ w.heap.size) (h : g.Valid) (ht : -1 ≤ t ∧ t ≤ 1) (hk : -99 ≤ k ∧ k ≤ 99) :
    Calls Try.prog 65 #[v, .int .i64 t, .int .i64 k] w (ChPost g t k w) := by
  have HCP := Lib.hid (l1Copy_any v lo hi g w hv hh (by have := h.1; omega) (fun i hi' => by have := (h.2.2 i hi').1; have := h.2.1; omega))
  have HH := Lib.hid h
  obtain ⟨ht0, ht1⟩ := ht
  obtain ⟨hk0, hk1⟩ := hk
  have hn1 := h.1.1
  have hn7 := h.1.2
  clear hv h
  go_enter Try.func65, Try.ntmps65
  go_wp2_with fail
  refine HCP.out.mono ?_
  rintro e w1 ⟨v1, B, RV, rfl, hgr⟩
  obtain ⟨bo, co, rfl⟩ : ∃ bo co, v1 = .slice (some ⟨bo, 0, none⟩) g.n co := by
    obtain ⟨bo, co, _, _, h3⟩ := own_slice hgr.top
    rcases h3 with h3 | h3
    · exact ⟨bo, co, h3.1⟩
    · omega
  have HG1 := Lib.hid hgr
  clear hgr
  go_wp2
  go_loopw [9] (fun i wr => ∃ r : Nat, r ≤ g.n ∧ i = .int .i64 r ∧ Gr w wr (.slice (some ⟨bo, 0, none⟩) g.n co) g.n B RV (midG g t k r 0)) (fun i _ => g.n - (intOf i).toNat)
  case atStart => exact ⟨0, Nat.zero_le _, rfl, HG1.out.congr (fun r hr => ⟨rfl, fun c hc => by simp [midG]⟩)⟩
  case round =>
    obtain ⟨r, hr, rfl, hgr⟩ := hrel
    by_cases hlt : r < g.n
    · have hlt' : (r : Int) < g.n := by omega
      have HGR := Lib.hid hgr
      clear hgr
      go_wp2
      obtain ⟨wo, rfl⟩ : ∃ wo : World, wo = wr := ⟨_, rfl⟩
      go_loopw [10] (fun i wr => ∃ c : Nat, c ≤ g.len r ∧ i = .int .i64 c ∧ Gr w wr (.slice (some ⟨bo, 0, none⟩) g.n co) g.n B RV (midG g t k r c)) (fun i _ => g.len r - (intOf i).toNat)
      case atStart => exact ⟨0, Nat.zero_le _, rfl, HGR.out⟩
      case round =>
        obtain ⟨c, hc, rfl, hgr⟩ := hrel
        have hl0 : 0 < g.len r := by have := (HH.out.2.2 r hlt).1; have := HH.out.2.1; omega
        obtain ⟨b2, cap2, bq, cq, e2, hRV, p1, _, _⟩ := hgr.cellAt (g := midG g t k r c) hlt (c := 0) hl0
        simp only [Value.slice.injEq, Option.some.injEq, Addr.mk.injEq, and_true, true_and] at e2
        obtain ⟨rfl, rfl⟩ := e2
        have p1' : wr.cell? ⟨bo, r, none⟩ = some (.slice (some ⟨bq, 0, none⟩) (g.len r) cq) := p1
        clear p1
        by_cases hcl : c < g.len r
        · have hcl' : (c : Int) < g.len r := by omega
          have hc0 : (0 : Int) ≤ c := by omega
          have hr0 : (0 : Int) ≤ r := by omega
          obtain ⟨_, _, bq', cq', _, hRV', _, p2, p3⟩ := hgr.cellAt (g := midG g t k r c) hlt (c := c) hcl
          have e3 : bq' = bq := by
            rw [hRV] at hRV'
            simp only [Value.slice.injEq, Option.some.injEq, Addr.mk.injEq, and_true, true_and] at hRV'
            exact hRV'.1.symm
          subst e3
          have ez : (midG g t k r c).z r c = g.z r c := by simp [midG]
          rw [ez] at p2
          have hz := (HH.out.2.2 r hlt).2 c hcl
          obtain ⟨hz0, hz1⟩ := hz
          have htz : t * g.z r c = 0 ∨ t * g.z r c = g.z r c ∨ t * g.z r c = - g.z r c := by
            have : t = 0 ∨ t = 1 ∨ t = -1 := by omega
            rcases this with h | h | h <;> subst h <;> simp
          have hp0 : -99 ≤ t * g.z r c := by omega
          have hp1 : t * g.z r c ≤ 99 := by omega
          have hst := hgr.store (g := midG g t k r c) hlt hcl hRV (t * g.z r c + k)
          have HST := Lib.hid (hst.congr (g' := midG g t k r (c + 1)) (fun i hi => ⟨rfl, fun j hj => by
            simp only [G.upd, midG]
            by_cases e1 : i = r ∧ j = c
            · rw [if_pos e1, if_pos (Or.inr ⟨e1.1, by omega⟩), e1.1, e1.2]
            · rw [if_neg e1]
              by_cases e2 : i < r ∨ (i = r ∧ j < c)
              · rw [if_pos e2, if_pos (by omega)]
              · rw [if_neg e2, if_neg (by omega)]⟩))
          have HRV := Lib.hid hRV
          clear hgr hst ez hRV hRV' htz
          have hw1 : IntKind.i64.wrap (t * g.z r c) = t * g.z r c := IntWalk.i64_in _ (by omega)
          have hw2 : IntKind.i64.wrap (t * g.z r c + k) = t * g.z r c + k := IntWalk.i64_in _ (by omega)
          go_wp2
          go_still_tail 17, (by kernel_rfl)
          change wpList _ _ _ _ _ wr.drew
          clear hw1 hw2
          have hl7 : g.len r ≤ 7 := by have := (HH.out.2.2 r hlt).1; have := HH.out.2.1; omega
          go_wp2
          go_roundw
          case rel => exact ⟨c + 1, by omega, by go_num, HST.out.keep (below_drew _)⟩
          case measure => simp [intOf]; omega
        · have ec : c = g.len r := by omega
          have HEC := Lib.hid ec
          have HG2 := Lib.hid (hgr.congr (g' := midG g t k (r + 1) 0) (fun i hi => ⟨rfl, fun j hj => by
            simp only [midG] at hj ⊢
            have hlen : i = r → j < c := fun e => by rw [e] at hj; omega
            by_cases e2 : i < r ∨ (i = r ∧ j < c)
            · rw [if_pos e2, if_pos (by omega)]
            · rw [if_neg e2, if_neg (by omega)]⟩))
          clear hgr hRV ec
          go_wp2
          go_roundw
          case rel => exact ⟨r + 1, by omega, by go_num, HG2.out⟩
          case measure => simp [intOf]; omega
    · have er : r = g.n := by omega
      subst er
      have hfin := hgr.congr (g' := chgG g t k) (fun i hi => ⟨rfl, fun j hj => by
        simp only [midG, chgG]
        rw [if_pos (Or.inl hi)]⟩)
      have hM := Gr.rdM (g := chgG g t k) hfin (fun i hi j hj => by
        have hz := (HH.out.2.2 i hi).2 j hj
        have : t = 0 ∨ t = 1 ∨ t = -1 := by omega
        simp only [chgG]
        rcases this with h | h | h <;> subst h <;> omega)
      have HM := Lib.hid hM
      have HBl := Lib.hid hfin.below
      clear hgr hfin hM
      go_wp2_with fail
      refine (specValid_any _ _ _ _ _ HM.out).mono ?_
      intro e w2 hq
      obtain ⟨rfl, hb2⟩ := hq.below
      have HM2 := Lib.hid (HM.out.keep hb2)
      have HB2 := Lib.hid (HBl.out.trans (hb2.mono HBl.out.size))
      have hs2 := hb2.size
      clear hb2 hq
      by_cases hval : (chgG g t k).Valid
      · rw [G.vB_yes hval]
        have HVal := Lib.hid hval
        clear hval
        go_wp2
        go_ret2
        exact ⟨fun _ => ⟨_, rfl, ⟨_, _, _, rfl⟩, HM2.out.mono (Nat.le_refl _) hs2, HB2.out⟩, fun h => absurd HVal.out h⟩
      · rw [G.vB_no hval]
        have HVal := Lib.hid hval
        clear hval
        go_wp2
        go_ret2
        exact ⟨fun h => absurd h HVal.out, fun _ => ⟨_, rfl, ⟨_, _, _, rfl⟩, RdM.empty _ _ _ _ _ (by omega), HB2.out.alloc HB2.out.size _⟩⟩

theorem raise_eqv (g : G) (k : Int) : G.Eqv (chgG g 1 k) { n := g.n, len := g.len, z := fun r c => g.z r c + k } :=
  ⟨rfl, fun r hr => ⟨rfl, fun c hc => by simp [chgG]⟩⟩

set_option maxHeartbeats 1000000 in
set_option maxRecDepth 20000 in
theorem specGridInvert_yes (v : Value) (lo hi : Nat) (g : G) (w : World) (hv : RdM lo hi w v g) (hh : hi ≤ w.heap.size) (h : g.Valid) :
    Calls Try.prog 42 #[v] w (SPost true (invertG g) w) := by
  have hE : G.Eqv (chgG g (-1) 99) (invertG g) := ⟨rfl, fun r hr => ⟨(h.2.2 r hr).1, fun c hc => by simp only [chgG, invertG]; omega⟩⟩
  have hval : (chgG g (-1) 99).Valid := ⟨h.1, h.2.1, fun r hr => ⟨(h.2.2 r hr).1, fun c hc => by have := (h.2.2 r hr).2 c hc; simp only [chgG]; omega⟩⟩
  have HV := Lib.hid (specValid_any v lo hi g w hv)
  have HB := Lib.hid (G.vB_yes h)
  have HCH := Lib.hid (fun (W : World) (hb : Below w.heap.size w W) => l1Change_any v lo hi g (-1) 99 W (hv.same (SameIn.below hb hh)) (Nat.le_trans hh hb.size) h (by omega) (by omega))
  have HE := Lib.hid hE
  have HVal := Lib.hid hval
  clear hE hval hv h
  go_enter Try.func42, Try.ntmps42
  go_wp2_with fail
  refine HV.out.mono ?_
  intro e w1 hq
  obtain ⟨rfl, hb1⟩ := hq.below
  rw [HB.out]
  have HB1 := Lib.hid hb1
  clear hb1 hq
  go_wp2_with fail
  refine (HCH.out _ HB1.out).mono ?_
  intro e w2 hp
  obtain ⟨v2, rfl, ⟨a, l, c, rfl⟩, ho, hb2⟩ := hp.1 HVal.out
  have HM := Lib.hid ((ho.mono HB1.out.size (Nat.le_refl _)).congr HE.out)
  have HB2 := Lib.hid (HB1.out.trans (hb2.mono HB1.out.size))
  clear hp ho hb2
  go_wp2
  go_ret2
  exact ⟨_, rfl, ⟨_, _, _, rfl⟩, HM.out, HB2.out⟩

set_option maxHeartbeats 1000000 in
set_option maxRecDepth 20000 in
theorem specGridInvert_no (v : Value) (lo hi : Nat) (g : G) (w : World) (hv : RdM lo hi w v g) (hh : hi ≤ w.heap.size) (h : ¬ g.Valid) :
    Calls Try.prog 42 #[v] w (SPost false G0 w) := by
  have HV := Lib.hid (specValid_any v lo hi g w hv)
  have HB := Lib.hid (G.vB_no h)
  clear hv h
  go_enter Try.func42, Try.ntmps42
  go_wp2_with fail
  refine HV.out.mono ?_
  intro e w1 hq
  obtain ⟨rfl, hb1⟩ := hq.below
  rw [HB.out]
  have HB1 := Lib.hid hb1
  clear hb1 hq
  go_wp2
  go_ret2
  exact ⟨_, rfl, ⟨_, _, _, rfl⟩, RdM.empty _ _ _ _ _ (by omega), HB1.out.alloc HB1.out.size _⟩

/-- what GridRaise asks, and its answer -/
def raiseG (g : G) (k : Int) : G := { n := g.n, len := fun _ => g.len 0, z := fun r c => g.z r c + k }
def G.RaiseOk (g : G) (k : Int) : Prop := g.Valid ∧ (-99 ≤ k ∧ k ≤ 99) ∧ (raiseG g k).Valid

theorem chg_raise {g : G} (h : g.Valid) (k : Int) : G.Eqv (chgG g 1 k) (raiseG g k) := ⟨rfl, fun r hr => ⟨(h.2.2 r hr).1, fun c hc => by simp only [chgG, raiseG]; omega⟩⟩
theorem chg_raise_valid {g : G} (h : g.Valid) (k : Int) : (chgG g 1 k).Valid ↔ (raiseG g k).Valid := by
  constructor
  · rintro ⟨h1, h2, h3⟩
    refine ⟨h1, h2, fun r hr => ⟨rfl, fun c hc => ?_⟩⟩
    have := (h3 r hr).2 c (by have := (h.2.2 r hr).1; simp only [chgG, raiseG] at *; omega)
    simp only [chgG, raiseG] at *
    omega
  · rintro ⟨h1, h2, h3⟩
    refine ⟨h1, h2, fun r hr => ⟨(h.2.2 r hr).1, fun c hc => ?_⟩⟩
    have := (h3 r hr).2 c (by have := (h.2.2 r hr).1; simp only [chgG, raiseG] at *; omega)
    simp only [chgG, raiseG] at *
    omega

def RsPost (g : G) (k : Int) (w : World) (e : Ending) (w' : World) : Prop := (g.RaiseOk k → SPost true (raiseG g k) w e w') ∧ (¬ g.RaiseOk k → SPost false G0 w e w')

end Go.Proofs.Ytlbdglhippapnab
