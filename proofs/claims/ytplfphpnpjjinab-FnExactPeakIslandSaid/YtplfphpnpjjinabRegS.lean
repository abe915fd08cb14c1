/- Regions in the model: LevelRegions, LevelNumbers, LevelArea. -/
import Derived.Test.YtplfphpnpjjinabNumS
import Derived.Test.YtplfphpnpjjinabRegE
import Derived.Test.YtplfphpnpjjinabRgM3
import Derived.Test.YtplfphpnpjjinabCnt
namespace Go.Proofs.Ytplfphpnpjjinab
open Go.RowKit
set_option linter.unusedVariables false

/-- what the numbers of the regions leave, in the program and in the model -/
def NmPost (R C N : Nat) (Z : Nat → Int) (lv : Int) (w : World) (e : Ending) (w' : World) : Prop :=
  ∃ v, e = .returned (.tuple #[v, .int .i64 (rgN R C Z lv N : Nat)]) ∧ (∃ a c, v = .slice a N c) ∧ OwI w.heap.size w'.heap.size w' v N (numZ R C Z lv) ∧ Below w.heap.size w w'

theorem OwI.shapeN {lo hi : Nat} {w : World} {v : Value} {n : Nat} {Z : Nat → Int} (h : OwI lo hi w v n Z) : ∃ a c, v = .slice a n c := by
  rcases h with ⟨rfl, rfl⟩ | ⟨b, N, cap, F, rfl, _⟩
  · exact ⟨_, _, rfl⟩
  · exact ⟨_, _, rfl⟩
theorem OwI.mono' {lo lo' hi : Nat} {w : World} {v : Value} {n : Nat} {Z : Nat → Int} (h : OwI lo hi w v n Z) (hl : lo' ≤ lo) : OwI lo' hi w v n Z := by
  rcases h with h | ⟨b, N, cap, F, h0, h1, h2⟩
  · exact Or.inl h
  · exact Or.inr ⟨b, N, cap, F, h0, by omega, h2⟩

theorem numZ_i64 {R C : Nat} {Z : Nat → Int} {lv : Int} {j : Nat} (hj : j ≤ 1000) : -9223372036854775808 ≤ numZ R C Z lv j ∧ numZ R C Z lv j ≤ 9223372036854775807 := by
  have := numZ_range R C Z lv hj
  omega

theorem numS_nm (v : Value) (lo hi : Nat) (g : G) (R C : Nat) (eR : g.n = R) (eC : g.len 0 = C) (lv : Int) (w : World) (hv : RdM lo hi w v g) (hh : hi ≤ w.heap.size) (h : g.Valid) :
    Calls Try.prog 86 #[v, .int .i64 lv] w (NmPost R C (R * C) g.flat lv w) := by
  have h49 : R * C ≤ 49 := mul_le_49 (by have := h.1.2; omega) (by have := h.2.1.2; omega)
  refine (l3Numbers_any v lo hi g R C eR eC lv w hv hh h).mono ?_
  rintro e w' ⟨q, cap, F, rfl, h1, ⟨h2, h3⟩, h4, h5, h6⟩
  exact ⟨_, rfl, ⟨_, _, rfl⟩, Or.inr ⟨q, cap, cap, F, rfl, h1, h4.lt, h4, h2, h2, by unfold maxLen at h3; omega, h5, fun i hi => numZ_i64 (by omega)⟩, h6⟩
theorem numI_nm (R C gg cap cnt : Nat) (hR : R ≤ 7) (hC : C ≤ 7) (Z : Nat → Int) (lv : Int) (w : World) (h : Rv w R C cnt gg cap Z) :
    Calls Try.prog 56 #[.agg #[.int .i64 R, .int .i64 C, .slice (some ⟨gg, 0, none⟩) cnt cap, .int .i64 lv]] w (NmPost R C cnt Z lv w) := by
  have h49 : cnt ≤ 49 := by rw [h.n_eq]; exact mul_le_49 hR hC
  refine (numbers_any R C gg cap cnt hR hC Z lv w h).mono ?_
  rintro e w' ⟨q, rfl, h1, h2, h3⟩
  exact ⟨_, rfl, ⟨_, _, rfl⟩, Or.inr ⟨q, cnt, cnt, _, rfl, h1, h2.lt, h2, Nat.le_refl _, Nat.le_refl _, by omega, fun i hi => rfl, fun i hi => numZ_i64 (by omega)⟩, h3⟩

/-- how many cells a list of numbers has -/
noncomputable def G.nmN (g : G) (lv : Int) : Nat := open Classical in if g.LvOk lv then g.n * g.len 0 else 0
theorem G.nmN_yes {g : G} {lv : Int} (h : g.LvOk lv) : g.nmN lv = g.n * g.len 0 := by unfold G.nmN; rw [if_pos h]
theorem G.nmN_no {g : G} {lv : Int} (h : ¬ g.LvOk lv) : g.nmN lv = 0 := by unfold G.nmN; rw [if_neg h]
theorem G.nmN_le {g : G} {lv : Int} : g.nmN lv ≤ 49 := by
  by_cases h : g.LvOk lv
  · rw [G.nmN_yes h]; exact mul_le_49 h.1.1.2 h.1.2.1.2
  · rw [G.nmN_no h]; omega

set_option maxHeartbeats 2000000 in
set_option maxRecDepth 100000 in
theorem specLevelNumbers_any (v : Value) (lo hi : Nat) (g : G) (lv : Int) (w : World) (hv : RdM lo hi w v g) (hh : hi ≤ w.heap.size) :
    Calls Try.prog 54 #[v, .int .i64 lv] w (LgPost (g.lvB lv) (g.nmN lv) (numZ g.n (g.len 0) g.flat lv) w) := by
  have HC := Lib.hid (l3Ok_any v lo hi g lv w hv)
  by_cases h : g.LvOk lv
  case neg =>
    have HB := Lib.hid (G.lvB_no h)
    have HA := Lib.hid (G.nmN_no h)
    rw [HA.out]
    clear hv h
    go_enter Try.func54, Try.ntmps54
    go_wp2_with fail
    refine HC.out.mono ?_
    rintro e w1 ⟨rfl, n1, rfl⟩
    rw [HB.out]
    have HO := Lib.hid (show OwI w.heap.size ((w.drewN n1).alloc (.cells #[] 3)).heap.size ((w.drewN n1).alloc (.cells #[] 3)) (.slice (some ⟨w.heap.size, 0, none⟩) 0 0) 0 (numZ g.n (g.len 0) g.flat lv) from
      Or.inr ⟨w.heap.size, 0, 0, fun _ => .int .i64 0, rfl, Nat.le_refl _, by simp, ⟨#[], heap_alloc_new (w.drewN n1) _, rfl, fun i hi => by omega⟩, Nat.le_refl _, Nat.le_refl _, by omega, fun i hi => by omega, fun i hi => by omega⟩)
    go_wp2
    go_ret2
    exact ⟨_, by rw [HB.out]; rfl, ⟨_, _, _, rfl⟩, HO.out, (below_drewN (Below.refl _ _) _).alloc (Nat.le_refl _) _⟩
  case pos =>
    have HB := Lib.hid (G.lvB_yes h)
    have HA := Lib.hid (G.nmN_yes h)
    have HN := Lib.hid (fun n => numS_nm v lo hi g g.n (g.len 0) rfl rfl lv (w.drewN n) (hv.same (fun _ _ _ => rfl)) hh h.1)
    rw [HA.out]
    obtain ⟨N, eN⟩ : ∃ N, g.n * g.len 0 = N := ⟨_, rfl⟩
    rw [eN] at HN ⊢
    clear hv h eN
    go_enter Try.func54, Try.ntmps54
    go_wp2_with fail
    refine HC.out.mono ?_
    rintro e w1 ⟨rfl, n1, rfl⟩
    rw [HB.out]
    go_wp2_with fail
    refine (HN.out n1).mono ?_
    rintro e w2 ⟨q, rfl, ⟨a, c, rfl⟩, ho, hb2⟩
    have HB2 := Lib.hid ((below_drewN (Below.refl w.heap.size w) n1).trans (hb2.mono (by simp)))
    have HO := Lib.hid ho
    clear hb2 ho
    go_wp2
    go_ret2
    exact ⟨_, by rw [HB.out]; rfl, ⟨_, _, _, rfl⟩, HO.out, HB2.out⟩

/-- how many cells a region has -/
noncomputable def G.arV (g : G) (lv s : Int) : Int := open Classical in if g.LvOk lv ∧ 0 ≤ s ∧ s < rgN g.n (g.len 0) g.flat lv (g.n * g.len 0) then (cntZ (numZ g.n (g.len 0) g.flat lv) s (g.n * g.len 0) : Int) else -1
theorem G.arV_yes {g : G} {lv s : Int} (h : g.LvOk lv) (h1 : 0 ≤ s) (h2 : s < rgN g.n (g.len 0) g.flat lv (g.n * g.len 0)) : g.arV lv s = cntZ (numZ g.n (g.len 0) g.flat lv) s (g.n * g.len 0) := by unfold G.arV; rw [if_pos ⟨h, h1, h2⟩]
theorem G.arV_no {g : G} {lv s : Int} (h : ¬ (g.LvOk lv ∧ 0 ≤ s ∧ s < rgN g.n (g.len 0) g.flat lv (g.n * g.len 0))) : g.arV lv s = -1 := by unfold G.arV; rw [if_neg h]

set_option maxHeartbeats 2000000 in
set_option maxRecDepth 100000 in
theorem specLevelArea_any (v : Value) (lo hi : Nat) (g : G) (lv s : Int) (w : World) (hv : RdM lo hi w v g) (hh : hi ≤ w.heap.size) :
    Calls Try.prog 53 #[v, .int .i64 lv, .int .i64 s] w (IntPost (g.arV lv s) w) := by
  have HN := Lib.hid (specLevelNumbers_any v lo hi g lv w hv hh)
  by_cases h : g.LvOk lv
  case neg =>
    have HB := Lib.hid (G.lvB_no h)
    have HA := Lib.hid (G.arV_no (g := g) (lv := lv) (s := s) (fun k => h k.1))
    rw [HB.out, G.nmN_no h] at HN
    clear hv h
    go_enter Try.func53, Try.ntmps53
    go_wp2_with fail
    refine HN.out.mono ?_
    rintro e w2 ⟨q, rfl, ⟨a, l, c, rfl⟩, _, hb2⟩
    have HB2 := Lib.hid hb2
    clear hb2
    go_wp2
    go_ret
    exact ⟨ret_int HA.out.symm, HB2.out⟩
  case pos =>
    have HB := Lib.hid (G.lvB_yes h)
    have HH := Lib.hid h
    have h49 := mul_le_49 h.1.1.2 h.1.2.1.2
    rw [HB.out, G.nmN_yes h] at HN
    have HI := Lib.hid (fun (hs : 0 ≤ s) => area_iff (R := g.n) (C := g.len 0) (Z := g.flat) (lv := lv) (N := g.n * g.len 0) hs)
    have HY := Lib.hid (fun h1 h2 => G.arV_yes (g := g) (s := s) HH.out h1 h2)
    have HNO := Lib.hid (fun k => G.arV_no (g := g) (lv := lv) (s := s) k)
    have hcl := cntZ_le (numZ g.n (g.len 0) g.flat lv) s (g.n * g.len 0)
    obtain ⟨N, eN⟩ : ∃ N, g.n * g.len 0 = N := ⟨_, rfl⟩
    rw [eN] at HN HI HY HNO h49 hcl
    obtain ⟨rg, erg⟩ : ∃ rg, rgN g.n (g.len 0) g.flat lv N = rg := ⟨_, rfl⟩
    rw [erg] at HI HY HNO
    clear hv h eN erg
    go_enter Try.func53, Try.ntmps53
    go_wp2_with fail
    refine HN.out.mono ?_
    rintro e w2 ⟨q, rfl, ⟨a, l, c, rfl⟩, ho, hb2⟩
    have HB2 := Lib.hid hb2
    have HO := Lib.hid ho.rd
    have HCT := Lib.hid (l2Count_any _ _ _ N (numZ g.n (g.len 0) g.flat lv) s w2 HO.out (by omega))
    obtain ⟨ct, ect⟩ : ∃ ct, cntZ (numZ g.n (g.len 0) g.flat lv) s N = ct := ⟨_, rfl⟩
    rw [ect] at HCT HI HY hcl
    clear hb2 ho ect
    by_cases hs : s < 0
    · have HA := Lib.hid (HNO.out (fun k => by have := k.2.1; omega))
      go_wp2
      go_ret
      exact ⟨ret_int HA.out.symm, HB2.out⟩
    · have hi := HI.out (by omega)
      by_cases hz : ct = 0
      · have HA := Lib.hid (HNO.out (fun k => by have := hi.2 k.2.2; omega))
        subst hz
        go_wp2_with fail
        refine HCT.out.mono ?_
        rintro e w3 ⟨rfl, rfl⟩
        go_wp2
        go_ret
        exact ⟨ret_int HA.out.symm, HB2.out⟩
      · have HA := Lib.hid (HY.out (by omega) (hi.1 (by omega)))
        have hz1 : ((ct : Int) == 0) = false := by rw [beq_eq_false_iff_ne]; omega
        go_wp2_with fail
        refine HCT.out.mono ?_
        rintro e w3 ⟨rfl, rfl⟩
        go_wp2_with fail
        refine HCT.out.mono ?_
        rintro e w3 ⟨rfl, rfl⟩
        go_wp2
        go_ret
        exact ⟨ret_int HA.out.symm, HB2.out⟩

end Go.Proofs.Ytplfphpnpjjinab
