/- ProfileRow of the model; GridSees in the model and in the program. -/
import Derived.Test.YtgcebhmenffbjabPrG
import Derived.Test.YtgcebhmenffbjabPrQ
namespace Go.Proofs.Ytgcebhmenffbjab
open Go.RowKit
set_option linter.unusedVariables false

theorem nums_app {B n : Nat} {w : World} {v : Value} {Z : Nat → Int} (h : w.ownsRow B 3 1 v (0 + n) ([] ++ nsV (fnL Z n))) (hz : ∀ i, i < n → 0 ≤ Z i ∧ Z i ≤ 99) : RdI B w.heap.size w v n Z := by
  have hn : Nums B w v (fnL Z n) := by
    unfold Nums
    rw [fnL_len]
    rw [Nat.zero_add, List.nil_append] at h
    exact h
  have hr := hn.rdI (fnL_ok (fun i hi => by have := hz i hi; omega))
  rw [fnL_len] at hr
  exact hr.congr (fun i hi => fnL_z Z n i hi)

set_option maxHeartbeats 4000000 in
set_option maxRecDepth 20000 in
theorem specProfileRow_any (v : Value) (lo hi : Nat) (g : G) (r : Int) (w : World) (hv : RdM lo hi w v g) (hh : hi ≤ w.heap.size) :
    Calls Try.prog 44 #[v, .int .i64 r] w (LsPost (g.cB r 0) (rwN g r) (g.z r.toNat) w) := by
  have HC := Lib.hid (l1Cell_any v lo hi g r 0 w hv)
  obtain ⟨i0, hi0, hz0, hz1, hz2⟩ := info_parts Try.infoI
  by_cases hcell : g.Cell r 0
  · have HA := Lib.hid (G.cB_yes hcell)
    have HN := Lib.hid (rwN_yes hcell)
    obtain ⟨x, rfl⟩ : ∃ x : Nat, r = x := ⟨r.toNat, by have := hcell.2.1.1; omega⟩
    have hx : x < g.n := by have := hcell.2.1.2; omega
    have hlx := (hcell.1.2.2 x hx).1
    have hl1 := hcell.1.2.1.1
    have hl7 := hcell.1.2.1.2
    have HZ := Lib.hid (fun (c : Nat) (hc : c < g.len 0) => (hcell.1.2.2 x hx).2 c (by rw [hlx]; exact hc))
    obtain ⟨ao, cap, b, off, Ao, Cp, rfl, a2, a3, a5, a6, a7⟩ := hv
    obtain ⟨rfl, hb1, hb2⟩ := a5 (by omega)
    have q1 := a6 x hx
    have hrow := a7 x hx
    rw [hlx] at q1 hrow
    obtain ⟨b1, off1, cap1, e1, k1, _, k3, k4⟩ := hrow.open (by omega)
    rw [e1] at q1
    obtain ⟨L, eL⟩ : ∃ L, g.len 0 = L := ⟨_, rfl⟩
    rw [eL] at q1 k1 k4 hl1 hl7 HN HZ
    have hxn : (x : Int) < g.n := by omega
    have hbw : b < w.heap.size := by omega
    have HB0 := Lib.hid ((Below.refl w.heap.size w).alloc (Nat.le_refl _) (.cells #[] 3))
    have HL0 := Lib.hid (nums_lit w)
    have HNW := Lib.hid (fun (m : Nat) => show ∀ j u, (nsV (fnL (g.z x) L))[j]? = some u → ((w.drewN m).alloc (.cells #[] 3)).cell? ((⟨b1, off1, none⟩ : Addr).add j) = some u from fun j u hu => by
      have hj : j < L := by
        have := (List.getElem?_eq_some_iff.1 hu).1
        simpa [nsV, fnL_len] using this
      have e2 : (nsV (fnL (g.z x) L))[j]? = some (.int .i64 (g.z x j)) := by rw [nsV_at _ _ (by rw [fnL_len]; exact hj), fnL_z (g.z x) L j hj]
      rw [e2] at hu
      obtain rfl := Option.some.inj hu
      rw [add_none]
      exact ((below_drewN (Below.refl w.heap.size w) m).alloc (Nat.le_refl _) (.cells #[] 3)).cell (p := ⟨b1, off1 + j, none⟩) (by show b1 < _; omega) |>.trans (k4 j hj))
    have HW := Lib.hid (show ∀ u ∈ nsV (fnL (g.z x) L), u.oneCell' = true from fun u hu => by
      unfold nsV at hu
      obtain ⟨y, _, rfl⟩ := List.mem_map.1 hu
      rfl)
    have HLEN := Lib.hid (show (nsV (fnL (g.z x) L)).length = L * 1 by simp [nsV, fnL_len])
    clear a5 a6 a7 hrow e1 k4 hcell hlx
    go_enter Try.func44, Try.ntmps44
    go_wp2_with fail
    refine HC.out.mono ?_
    rintro e w1 ⟨rfl, m1, rfl⟩
    rw [HA.out]
    have HL1 := Lib.hid (show ((w.drewN m1).alloc (.cells #[] 3)).ownsRow w.heap.size 3 1 (.slice (some ⟨w.heap.size, 0, none⟩) 0 0) 0 [] from nums_lit (w.drewN m1))
    have HB1 := Lib.hid ((below_drewN (Below.refl w.heap.size w) m1).alloc (Nat.le_refl _) (.cells #[] 3))
    have HN1 := Lib.hid (HNW.out m1)
    have q2 := (HB1.out.cell (p := ⟨b, off + x, none⟩) (by show b < _; omega)).trans q1
    clear q1
    go_wp2_with (first | (at_builtin; refine wpList_append_own _ rfl _ _ 23 rfl w.heap.size 3 i0 (.int .i64 0) 1 8 Try.underlying23 hi0 hz0 hz1 hz2 rfl (by decide) _ 0 [] rfl HL1.out ⟨b1, off1, none⟩ L cap1 (nsV (fnL (g.z x) L)) rfl HLEN.out HN1.out HW.out (by unfold maxLen; omega) (by omega) (by simp) ?_; intro v' w4 hown4 hg4 _; have HG4 := Lib.hid hg4; have HO4 := Lib.hid hown4; clear hg4 hown4))
    have HB4 := Lib.hid (HB1.out.grown HG4.out (by simp) (fun k hk => (HL1.out.lt k hk).1))
    have HR4 := Lib.hid (nums_app HO4.out HZ.out)
    obtain ⟨a, c, rfl⟩ := HR4.out.shape
    go_wp2
    go_ret2
    exact ⟨_, by rw [HA.out]; rfl, ⟨_, _, _, rfl⟩, by rw [HN.out]; exact HR4.out, HB4.out⟩
  · have HA := Lib.hid (G.cB_no hcell)
    have HN := Lib.hid (rwN_no hcell)
    obtain ⟨ao, cap, b, off, Ao, Cp, rfl, _⟩ := hv
    clear hcell
    go_enter Try.func44, Try.ntmps44
    go_wp2_with fail
    refine HC.out.mono ?_
    rintro e w1 ⟨rfl, m1, rfl⟩
    rw [HA.out]
    go_wp2
    go_ret2
    exact ⟨_, by rw [HA.out]; rfl, ⟨_, _, _, rfl⟩, by rw [HN.out]; exact ⟨_, 0, 0, 0, rfl, Nat.le_refl _, by omega, fun i hi => by omega, fun h => by omega, fun i hi => by omega⟩, (below_drewN (Below.refl w.heap.size w) m1).alloc (Nat.le_refl _) _⟩

/-- pairs in the first k lists -/
noncomputable def grN (f : Nat → Nat → Int) (m : Nat) : Nat → Nat
  | 0 => 0
  | k + 1 => grN f m k + prN (f k) m
theorem grN_le (f : Nat → Nat → Int) (m : Nat) (hm : m ≤ 7) : ∀ k, grN f m k ≤ k * 49 := by
  intro k
  induction k with
  | zero => exact Nat.le_refl _
  | succ k ih =>
    have h1 := prN_le (f k) m
    have h2 := mul_le_49 hm hm
    simp only [grN]
    omega
theorem prN_ext {z z' : Nat → Int} {n : Nat} (h : ∀ j, j < n → z j = z' j) : prN z n = prN z' n := prN_congr n (fun a b ha hb => sees_congr h ha hb)
theorem pirN_is {C : Nat} {Z : Nat → Int} {f : Nat → Nat → Int} : ∀ k, (∀ r, r < k → ∀ c, c < C → Z (r * C + c) = f r c) → pirN C Z k = grN f C k := by
  intro k
  induction k with
  | zero => intro _; rfl
  | succ k ih => intro h; simp only [pirN, grN]; rw [ih (fun r hr => h r (by omega)), prN_ext (z := rowZ C Z k) (fun c hc => h k (by omega) c hc)]

noncomputable def G.gsV (g : G) : Int := @ite _ g.Valid (Classical.propDecidable _) ((grN g.z (g.len 0) g.n : Int) + grN (turnG g).z g.n (g.len 0)) (-1)
theorem G.gsV_yes {g : G} (h : g.Valid) : g.gsV = (grN g.z (g.len 0) g.n : Int) + grN (turnG g).z g.n (g.len 0) := by unfold G.gsV; rw [if_pos h]
theorem G.gsV_no {g : G} (h : ¬ g.Valid) : g.gsV = -1 := by unfold G.gsV; rw [if_neg h]
theorem row_ok {g : G} (h : g.Valid) {r : Nat} (hr : r < g.n) : PrOk (g.len 0) (g.z r) := ⟨⟨h.2.1.1, by have := h.2.1.2; omega⟩, fun c hc => valid_at h hr hc⟩

set_option maxHeartbeats 4000000 in
set_option maxRecDepth 20000 in
theorem specGridSees_any (v : Value) (lo hi : Nat) (g : G) (w : World) (hv : RdM lo hi w v g) (hh : hi ≤ w.heap.size) :
    Calls Try.prog 48 #[v] w (IntPost g.gsV w) := by
  by_cases h : g.Valid
  · have HA := Lib.hid (G.gsV_yes h)
    have HT := Lib.hid (specGridTurn_yes v lo hi g w hv hh h)
    have hn7 := h.1.2
    have hn1 := h.1.1
    have hl7 := h.2.1.2
    have hl1 := h.2.1.1
    have HLEN := Lib.hid (fun (r : Nat) (hr : r < g.n) => (h.2.2 r hr).1)
    have HOK := Lib.hid (fun (r : Nat) (hr : r < g.n) => row_ok h hr)
    have HOKT := Lib.hid (fun (r : Nat) (hr : r < g.len 0) => show PrOk g.n ((turnG g).z r) from row_ok (turn_valid h) hr)
    obtain ⟨ao, cap, b, off, Ao, Cp, rfl, a2, a3, a5, a6, a7⟩ := hv
    obtain ⟨rfl, hb1, hb2⟩ := a5 (by omega)
    have H6 := Lib.hid (fun (W : World) (hb : Below w.heap.size w W) (r : Nat) (hr : r < g.n) => show W.cell? ⟨b, off + r, none⟩ = some (.slice (Ao r) (g.len 0) (Cp r)) from by
      rw [← HLEN.out r hr]; exact (hb.cell (p := ⟨b, off + r, none⟩) (by show b < _; omega)).trans (a6 r hr))
    have H7 := Lib.hid (fun (W : World) (hb : Below w.heap.size w W) (r : Nat) (hr : r < g.n) => show Calls Try.prog 26 #[.slice (Ao r) (g.len 0) (Cp r)] W (IntPost (prN (g.z r) (g.len 0)) W) from by
      rw [← ppV_yes (HOK.out r hr)]
      have hq := (a7 r hr).same (SameIn.below hb hh)
      rw [HLEN.out r hr] at hq
      exact specProfilePairs_any _ lo hi _ _ W hq (Nat.le_trans hh hb.size))
    obtain ⟨Ln, eLn⟩ : ∃ L, g.len 0 = L := ⟨_, rfl⟩
    rw [eLn] at hl7 hl1 H6 H7 HA HOKT
    have HELN := Lib.hid eLn
    clear a5 a6 a7 h eLn HOK HLEN
    go_enter Try.func48, Try.ntmps48
    go_wp2_with fail
    refine HT.out.mono ?_
    rintro e w1 ⟨v1, rfl, _, hr1, hbw1⟩
    have HB1 := Lib.hid hbw1
    have hrt := hr1
    obtain ⟨ao2, cap2, b2, off2, Ao2, Cp2, rfl, c2, c3, c5, c6, c7⟩ := hr1
    have HET := Lib.hid (show (turnG g).n = Ln from HELN.out)
    have HEL := Lib.hid (show ∀ r, (turnG g).len r = g.n from fun _ => rfl)
    rw [HET.out] at c2 c5 c6 c7
    simp only [HEL.out] at c6 c7
    obtain ⟨rfl, hd1, hd2⟩ := c5 (by omega)
    rw [HET.out]
    have T6 := Lib.hid (fun (W : World) (hb : Below w1.heap.size w1 W) (r : Nat) (hr : r < Ln) => show W.cell? ⟨b2, off2 + r, none⟩ = some (.slice (Ao2 r) g.n (Cp2 r)) from
      (hb.cell (p := ⟨b2, off2 + r, none⟩) (by show b2 < _; omega)).trans (c6 r hr))
    have T7 := Lib.hid (fun (W : World) (hb : Below w1.heap.size w1 W) (r : Nat) (hr : r < Ln) => show Calls Try.prog 26 #[.slice (Ao2 r) g.n (Cp2 r)] W (IntPost (prN ((turnG g).z r) g.n) W) from by
      rw [← ppV_yes (HOKT.out r hr)]
      exact specProfilePairs_any _ _ _ _ _ W ((c7 r hr).same (SameIn.below hb (Nat.le_refl _))) hb.size)
    clear c5 c6 c7 hbw1 hrt
    go_wp2
    go_loopw [5, 6] (fun o c wr => ∃ r : Nat, r ≤ g.n ∧ c = .int .i64 r ∧ o = .int .i64 (grN g.z Ln r) ∧ Below w1.heap.size w1 wr) (fun _ c _ => g.n - (intOf c).toNat)
    case atStart => exact ⟨0, Nat.zero_le _, rfl, rfl, Below.refl _ _⟩
    case round =>
      obtain ⟨r, hr, rfl, rfl, hb⟩ := hrel
      have HBW := Lib.hid hb
      have HBR := Lib.hid (HB1.out.trans (hb.mono HB1.out.size))
      have hp := grN_le g.z Ln hl7 r
      clear hb
      by_cases hlt : r < g.n
      · have hlt' : (r : Int) < g.n := by omega
        have HP := Lib.hid (show grN g.z Ln (r + 1) = grN g.z Ln r + prN (g.z r) Ln from rfl)
        have hq := prN_le (g.z r) Ln
        have h49 := mul_le_49 hl7 hl7
        have q1 := H6.out _ HBR.out r hlt
        have HCL := Lib.hid (H7.out _ HBR.out r hlt)
        obtain ⟨P, eP⟩ : ∃ P, grN g.z Ln r = P := ⟨_, rfl⟩
        obtain ⟨Q, eQ⟩ : ∃ Q, prN (g.z r) Ln = Q := ⟨_, rfl⟩
        rw [eP] at hp HP ⊢
        rw [eQ] at hq HP HCL
        have hP : P ≤ 343 := by omega
        have hQ : Q ≤ 49 := by omega
        clear eP eQ hq h49 hp
        go_wp2_with fail
        refine HCL.out.mono ?_
        rintro e w3 ⟨rfl, hb3⟩
        have HB3 := Lib.hid (HBW.out.trans (hb3.mono HBW.out.size))
        clear hb3
        go_wp2
        go_roundw
        case rel => exact ⟨r + 1, by omega, by go_num, by rw [HP.out]; go_num, HB3.out⟩
        case measure => simp [intOf]; omega
      · obtain rfl : r = g.n := by omega
        obtain ⟨S, eS⟩ : ∃ P, grN g.z Ln g.n = P := ⟨_, rfl⟩
        rw [eS] at hp HA ⊢
        have hS : S ≤ 343 := by omega
        clear eS hp
        go_wp2
        go_loopw [5, 7] (fun o c wr => ∃ r : Nat, r ≤ Ln ∧ c = .int .i64 r ∧ o = .int .i64 ((S : Int) + grN (turnG g).z g.n r) ∧ Below w1.heap.size w1 wr) (fun _ c _ => Ln - (intOf c).toNat)
        case atStart => exact ⟨0, Nat.zero_le _, rfl, by simp [grN], HBW.out⟩
        case round =>
          obtain ⟨r, hr', rfl, rfl, hb⟩ := hrel
          have HBX := Lib.hid hb
          have HBR2 := Lib.hid (HB1.out.trans (hb.mono HB1.out.size))
          have hp := grN_le (turnG g).z g.n hn7 r
          clear hb
          by_cases hlt2 : r < Ln
          · have hlt' : (r : Int) < Ln := by omega
            have HP := Lib.hid (show grN (turnG g).z g.n (r + 1) = grN (turnG g).z g.n r + prN ((turnG g).z r) g.n from rfl)
            have hq := prN_le ((turnG g).z r) g.n
            have h49 := mul_le_49 hn7 hn7
            have q1 := T6.out _ HBX.out r hlt2
            have HCL := Lib.hid (T7.out _ HBX.out r hlt2)
            obtain ⟨P, eP⟩ : ∃ P, grN (turnG g).z g.n r = P := ⟨_, rfl⟩
            obtain ⟨Q, eQ⟩ : ∃ Q, prN ((turnG g).z r) g.n = Q := ⟨_, rfl⟩
            rw [eP] at hp HP ⊢
            rw [eQ] at hq HP HCL
            have hP : P ≤ 343 := by omega
            have hQ : Q ≤ 49 := by omega
            clear eP eQ hq h49 hp
            go_wp2_with fail
            refine HCL.out.mono ?_
            rintro e w3 ⟨rfl, hb3⟩
            have HB3 := Lib.hid (HBX.out.trans (hb3.mono HBX.out.size))
            clear hb3
            go_wp2
            go_roundw
            case rel => exact ⟨r + 1, by omega, by go_num, by rw [HP.out]; go_num, HB3.out⟩
            case measure => simp [intOf]; omega
          · obtain rfl : r = Ln := by omega
            go_wp2
            go_ret
            exact ⟨by rw [HA.out]; rfl, HBR2.out⟩
  · have HA := Lib.hid (G.gsV_no h)
    have HT := Lib.hid (specGridTurn_no v lo hi g w hv hh h)
    obtain ⟨ao, cap, b, off, Ao, Cp, rfl, _⟩ := hv
    clear h
    go_enter Try.func48, Try.ntmps48
    go_wp2_with fail
    refine HT.out.mono ?_
    rintro e w1 ⟨v1, rfl, ⟨_, _, _, rfl⟩, _, hbw1⟩
    have HB1 := Lib.hid hbw1
    clear hbw1
    go_wp2
    go_ret
    exact ⟨by rw [HA.out]; rfl, HB1.out⟩

end Go.Proofs.Ytgcebhmenffbjab
