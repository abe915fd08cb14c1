/- Thinned lines of the model: the costs, the fewest points, the least error. -/
import Derived.Test.YtmfdflkpbejpoaaThT
import Derived.Test.YtmfdflkpbejpoaaThN
import Derived.Test.YtmfdflkpbejpoaaPrQ
import Derived.StillTailTactics
import Derived.Lib.MinMax
namespace Go.Proofs.Ytmfdflkpbejpoaa
open Go.RowKit
set_option linter.unusedVariables false

theorem row_put {w : World} {b n : Nat} {F : Nat → Int} (h : w.rowIs b 3 n (fun x => .int .i64 (F x))) (i : Nat) (y : Int) :
    (w.setCell ⟨b, i, none⟩ (.int .i64 y)).rowIs b 3 n (fun x => .int .i64 (setZ F i y x)) :=
  (h.set i (.int .i64 y)).congr (fun j _ => by
    by_cases e : j = i
    · subst e; simp [setZ_at]
    · simp only [e, if_false]; rw [setZ_far _ _ _ _ e])

/-- the costs, in a row of their own -/
def CsPost (n : Nat) (f : Nat → Nat) (w : World) (e : Ending) (w' : World) : Prop :=
  ∃ B, e = .returned (.slice (some ⟨B, 0, none⟩) n n) ∧ w.heap.size ≤ B ∧ B < w'.heap.size ∧ (∀ x, x < n → w'.cell? ⟨B, x, none⟩ = some (.int .i64 (f x : Nat))) ∧ Below w.heap.size w w'

set_option maxHeartbeats 4000000 in
set_option maxRecDepth 20000 in
theorem l6hCosts_any (v : Value) (lo hi n : Nat) (Z : Nat → Int) (e : Int) (w : World) (hv : RdI lo hi w v n Z) (hh : hi ≤ w.heap.size) (hok : PrOk n Z) (he : ErOk e) :
    Calls Try.prog 66 #[v, .int .i64 e] w (CsPost n (coV n Z e) w) := by
  have hn20 := hok.1.2
  have hn1 := hok.1.1
  have HM := Lib.hid (fun (W : World) (hb : Below w.heap.size w W) (i k : Nat) (h1 : i < k) (h2 : k < n) => l6hMost_any v lo hi n Z i k W (hv.same (SameIn.below hb hh)) (Nat.le_trans hh hb.size) hok h1 h2)
  have HR := Lib.hid (fun (a b : Nat) (hab : a < b) (hbn : b < n) => (⟨erB_nonneg Z a b, erB_top hok.2 hn20 hab hbn⟩ : 0 ≤ erB Z a b ∧ erB Z a b ≤ 99))
  have HP := Lib.hid (fun (i t : Nat) => cmB_pos n Z e (coV n Z e) i hn1 t)
  have HQ := Lib.hid (fun (i : Nat) (hi : i < n) => coV_pos n Z e i hi)
  have HE := Lib.hid (fun (i : Nat) (hi : i < n) => coV_eq n Z e i hi)
  have HSY := Lib.hid (fun (i t : Nat) (h : Stp n Z e i (i + 1 + t)) => (show cmB n Z e (coV n Z e) i (t + 1) = min (cmB n Z e (coV n Z e) i t) (1 + coV n Z e (i + 1 + t)) from by
    show (if spB n Z e i (i + 1 + t) = true then _ else _) = _
    rw [if_pos (spB_yes h)]))
  have HSN := Lib.hid (fun (i t : Nat) (h : ¬ Stp n Z e i (i + 1 + t)) => (show cmB n Z e (coV n Z e) i (t + 1) = cmB n Z e (coV n Z e) i t from by
    show (if spB n Z e i (i + 1 + t) = true then _ else _) = _
    rw [if_neg (by rw [spB_no h]; simp)]))
  have HS0 := Lib.hid (fun (i : Nat) => (show cmB n Z e (coV n Z e) i 0 = if i + 1 = n then 1 else n from rfl))
  have hmk := run_make_row' (P := Try.prog) 23 3 (.int .i64 0) 8 Try.underlying23 Try.infoI rfl .i64 .i64 n (by omega) (by omega)
  obtain ⟨he1, he2⟩ := he
  obtain ⟨va, vc, rfl⟩ := hv.shape
  clear hv hok
  go_enter Try.func66, Try.ntmps66
  go_wp2
  clear hmk
  have k2 := (World.rowIs_made w (.int .i64 0) n 3).congr (g := fun x => .int .i64 ((fun _ => (0 : Int)) x)) (fun j _ => rfl)
  have kb : Below w.heap.size w (w.alloc (.cells (madeCells #[.int .i64 0] n) 3)) := (Below.refl _ _).alloc (Nat.le_refl _) _
  generalize hW0 : w.alloc (.cells (madeCells #[.int .i64 0] n) 3) = W0 at k2 kb ⊢
  clear hW0
  go_loopw [6] (fun c wr => ∃ (i' : Nat) (F : Nat → Int), i' ≤ n ∧ c = .int .i64 ((i' : Int) - 1) ∧ wr.rowIs w.heap.size 3 n (fun x => .int .i64 (F x)) ∧ (∀ x, i' ≤ x → x < n → F x = (coV n Z e x : Nat)) ∧ Below w.heap.size w wr) (fun c _ => (intOf c + 1).toNat)
  case atStart => exact ⟨n, _, Nat.le_refl _, by go_num, k2, fun x h1 h2 => by omega, kb⟩
  case round =>
    obtain ⟨i', F, hi', rfl, hrow, hF, hb⟩ := hrel
    clear k2 kb
    cases i' with
    | zero =>
      have HB1 := Lib.hid hb
      have HRW := Lib.hid (fun x (hx : x < n) => (hrow.cell hx).trans (by rw [hF x (Nat.zero_le _) hx]))
      have hlt := hrow.lt
      clear hrow hF hb
      go_wp2
      go_ret
      exact ⟨_, rfl, Nat.le_refl _, hlt, HRW.out, HB1.out⟩
    | succ i =>
      rw [show (((i + 1 : Nat) : Int) - 1) = (i : Int) by omega]
      have hi0 : i < n := by omega
      have hi0' : (i : Int) < n := by omega
      have f1 : wr.frozen? ⟨w.heap.size, i, none⟩ = false := hrow.frozen i
      have r1 := row_put hrow i (n : Int)
      have b1 := hb.setCell (p := ⟨w.heap.size, i, none⟩) (Nat.le_refl _) (.int .i64 (n : Int))
      have g1 : ∀ x, i < x → x < n → setZ F i (n : Int) x = (coV n Z e x : Nat) := fun x h1 h2 => by rw [setZ_far _ _ _ _ (by omega)]; exact hF x (by omega) h2
      have z1 : setZ F i (n : Int) i = n := setZ_at _ _ _
      have s1 : (wr.setCell ⟨w.heap.size, i, none⟩ (.int .i64 (n : Int))).heap.size = wr.heap.size := by simp [World.setCell]
      have R1 := Lib.hid r1
      have B1 := Lib.hid b1
      have G1 := Lib.hid g1
      have Z1 := Lib.hid z1
      have c0 := hrow.cell hi0
      clear hrow hF hb r1 b1 g1 z1
      have INNER : ∀ (V : World) (G : Nat → Int), V.rowIs w.heap.size 3 n (fun x => .int .i64 (G x)) → G i = (cmB n Z e (coV n Z e) i 0 : Nat) → (∀ x, i < x → x < n → G x = (coV n Z e x : Nat)) → Below w.heap.size w V → True := fun _ _ _ _ _ _ => trivial
      clear INNER
      by_cases hl : i + 1 = n
      · have hb2 : ((i : Int) == (n : Int) - 1) = true := by rw [beq_iff_eq]; omega
        have f2 : (wr.setCell ⟨w.heap.size, i, none⟩ (.int .i64 (n : Int))).frozen? ⟨w.heap.size, i, none⟩ = false := R1.out.frozen i
        have R2 := Lib.hid (row_put R1.out i 1)
        have B2 := Lib.hid (B1.out.setCell (p := ⟨w.heap.size, i, none⟩) (Nat.le_refl _) (.int .i64 (1 : Int)))
        have Z2 := Lib.hid (show setZ (setZ F i (n : Int)) i 1 i = ((cmB n Z e (coV n Z e) i 0 : Nat) : Int) by rw [setZ_at, HS0.out, if_pos hl]; rfl)
        have G2 := Lib.hid (show ∀ x, i < x → x < n → setZ (setZ F i (n : Int)) i 1 x = (coV n Z e x : Nat) from fun x h1 h2 => by omega)
        have HLL := Lib.hid hl
        have c02 : (wr.setCell ⟨w.heap.size, i, none⟩ (.int .i64 (n : Int))).cell? ⟨w.heap.size, i, none⟩ = some (.int .i64 (n : Int)) := (R1.out.cell hi0).trans (by rw [Z1.out])
        clear hl
        go_wp2
        go_loopw [7] (fun c wr2 => ∃ (t : Nat) (G : Nat → Int), i + 1 + t ≤ n ∧ c = .int .i64 ((i + 1 + t : Nat) : Int) ∧ wr2.rowIs w.heap.size 3 n (fun x => .int .i64 (G x)) ∧ G i = ((cmB n Z e (coV n Z e) i t : Nat) : Int) ∧ (∀ x, i < x → x < n → G x = (coV n Z e x : Nat)) ∧ Below w.heap.size w wr2) (fun c _ => n - (intOf c).toNat)
        case atStart => exact ⟨0, _, by omega, by go_num, R2.out, Z2.out, G2.out, B2.out⟩
        case round =>
          obtain ⟨t, G, ht, rfl, hrow, hGi, hG, hb⟩ := hrel
          obtain rfl : t = 0 := by have := HLL.out; omega
          have hlt' : ¬ (i : Int) + 1 < n := by have := HLL.out; omega
          have B3 := Lib.hid hb
          have R3 := Lib.hid hrow
          have G3 := Lib.hid (show ∀ x, i ≤ x → x < n → G x = (coV n Z e x : Nat) from fun x h1 h2 => by
            obtain rfl : x = i := by have := HLL.out; omega
            rw [hGi, HE.out x h2, show n - x - 1 = 0 by omega])
          clear hrow hGi hG hb
          go_wp2
          go_roundw
          case rel => exact ⟨i, G, by omega, by go_num, R3.out, G3.out, B3.out⟩
          case measure => simp [intOf]
      · have hb2 : ((i : Int) == (n : Int) - 1) = false := by rw [beq_eq_false_iff_ne]; omega
        have Z2 := Lib.hid (show setZ F i (n : Int) i = ((cmB n Z e (coV n Z e) i 0 : Nat) : Int) by rw [Z1.out, HS0.out, if_neg hl])
        have hl2 : i + 1 < n := by omega
        clear hl
        go_wp2
        go_loopw [7] (fun c wr2 => ∃ (t : Nat) (G : Nat → Int), i + 1 + t ≤ n ∧ c = .int .i64 ((i + 1 + t : Nat) : Int) ∧ wr2.rowIs w.heap.size 3 n (fun x => .int .i64 (G x)) ∧ G i = ((cmB n Z e (coV n Z e) i t : Nat) : Int) ∧ (∀ x, i < x → x < n → G x = (coV n Z e x : Nat)) ∧ Below w.heap.size w wr2) (fun c _ => n - (intOf c).toNat)
        case atStart => exact ⟨0, _, by omega, by go_num, R1.out, Z2.out, G1.out, B1.out⟩
        case round =>
          obtain ⟨t, G, ht, rfl, hrow, hGi, hG, hb⟩ := hrel
          obtain ⟨k, ek⟩ : ∃ k, k = i + 1 + t := ⟨_, rfl⟩
          rw [← ek]
          by_cases hlt : k < n
          · have hlt' : (k : Int) < n := by omega
            obtain ⟨hr1, hr2⟩ := HR.out i k (by omega) hlt
            obtain ⟨hp1, hp2⟩ := HP.out i t
            obtain ⟨hq1, hq2⟩ := HQ.out k hlt
            have HC := Lib.hid (HM.out wr hb i k (by omega) hlt)
            have ci := hrow.cell hi0
            have ck := hrow.cell hlt
            rw [hGi] at ci
            rw [hG k (by omega) hlt] at ck
            have HSY1 := Lib.hid (HSY.out i t)
            have HSN1 := Lib.hid (HSN.out i t)
            have HST := Lib.hid (show Stp n Z e i k ↔ erB Z i k ≤ e from ⟨fun h => h.2.2, fun h => ⟨by omega, hlt, h⟩⟩)
            rw [← ek] at HSY1 HSN1
            have HEK := Lib.hid ek
            have HRO := Lib.hid hrow
            have HG0 := Lib.hid hG
            have HGI := Lib.hid hGi
            have HBB := Lib.hid hb
            have hB2 : w.heap.size < wr.heap.size := hrow.lt
            clear hrow hGi hG hb ek
            obtain ⟨E, eE⟩ : ∃ E, erB Z i k = E := ⟨_, rfl⟩
            rw [eE] at hr1 hr2 HC HST
            clear eE
            by_cases hs : E ≤ e
            · have HN := Lib.hid (HSY1.out (HST.out.2 hs))
              obtain ⟨A, eA⟩ : ∃ A, cmB n Z e (coV n Z e) i t = A := ⟨_, rfl⟩
              obtain ⟨Q, eQ⟩ : ∃ Q, coV n Z e k = Q := ⟨_, rfl⟩
              rw [eA] at hp1 hp2 ci HN
              rw [eQ] at hq1 hq2 ck HN
              have HEQ := Lib.hid eQ
              clear eA eQ
              go_wp2_with fail
              refine HC.out.mono ?_
              rintro e' w3 ⟨rfl, hb3⟩
              have ci3 : w3.cell? ⟨w.heap.size, i, none⟩ = some (.int .i64 (A : Int)) := (hb3.cell (p := ⟨w.heap.size, i, none⟩) hB2).trans ci
              have ck3 : w3.cell? ⟨w.heap.size, k, none⟩ = some (.int .i64 (Q : Int)) := (hb3.cell (p := ⟨w.heap.size, k, none⟩) hB2).trans ck
              have R3 := HRO.out.of_block (hb3.block _ hB2)
              have f3 : w3.frozen? ⟨w.heap.size, i, none⟩ = false := R3.frozen i
              have hmin : min (A : Int) (1 + (Q : Int)) = ((min A (1 + Q) : Nat) : Int) := by omega
              obtain ⟨M, eM⟩ : ∃ M : Nat, min A (1 + Q) = M := ⟨_, rfl⟩
              have hM : M ≤ 20 := by omega
              rw [eM] at hmin HN
              have HR3 := Lib.hid (row_put (w := w3.drew) R3 i (M : Int))
              have HB3 := Lib.hid ((below_drewN (HBB.out.trans (hb3.mono HBB.out.size)) 1).setCell (p := ⟨w.heap.size, i, none⟩) (Nat.le_refl _) (.int .i64 (M : Int)))
              have HZ3 := Lib.hid (show setZ G i (M : Int) i = ((cmB n Z e (coV n Z e) i (t + 1) : Nat) : Int) by rw [setZ_at, HN.out])
              have HG3 := Lib.hid (show ∀ x, i < x → x < n → setZ G i (M : Int) x = (coV n Z e x : Nat) from fun x h1 h2 => by rw [setZ_far _ _ _ _ (by omega)]; exact HG0.out x h1 h2)
              clear hb3 R3 ci ck eM
              go_wp2_with fail
              go_still_tail 13, (by kernel_rfl)
              change wpList _ _ _ _ _ w3.drew
              go_wp2
              go_roundw
              case rel => exact ⟨t + 1, _, by have := HEK.out; omega, by rw [show i + 1 + (t + 1) = k + 1 by have := HEK.out; omega]; go_num, HR3.out, HZ3.out, HG3.out, HB3.out⟩
              case measure => simp [intOf]; omega
            · have HN := Lib.hid (HSN1.out (fun h => hs (HST.out.1 h)))
              go_wp2_with fail
              refine HC.out.mono ?_
              rintro e' w3 ⟨rfl, hb3⟩
              have HR3 := Lib.hid (HRO.out.of_block (hb3.block _ hB2))
              have HB3 := Lib.hid (HBB.out.trans (hb3.mono HBB.out.size))
              clear hb3 ci ck
              go_wp2
              go_roundw
              case rel => exact ⟨t + 1, G, by have := HEK.out; omega, by rw [show i + 1 + (t + 1) = k + 1 by have := HEK.out; omega]; go_num, HR3.out, by rw [HGI.out, HN.out], HG0.out, HB3.out⟩
              case measure => simp [intOf]; omega
          · have hlt' : ¬ (k : Int) < n := by omega
            have B3 := Lib.hid hb
            have R3 := Lib.hid hrow
            have G3 := Lib.hid (show ∀ x, i ≤ x → x < n → G x = (coV n Z e x : Nat) from fun x h1 h2 => by
              by_cases ex : x = i
              · subst ex
                rw [hGi, HE.out x h2, show n - x - 1 = t by omega]
              · exact hG x (by omega) h2)
            clear hrow hGi hG hb ek
            go_wp2
            go_roundw
            case rel => exact ⟨i, G, by omega, by go_num, R3.out, G3.out, B3.out⟩
            case measure => simp [intOf]

set_option maxHeartbeats 4000000 in
set_option maxRecDepth 20000 in
theorem specThinFewest_any (v : Value) (lo hi n : Nat) (Z : Nat → Int) (e : Int) (w : World) (hv : RdI lo hi w v n Z) (hh : hi ≤ w.heap.size) :
    Calls Try.prog 26 #[v, .int .i64 e] w (IntPost (fwV n Z e) w) := by
  have HV := Lib.hid (specProfileValid_any v lo hi n Z w hv)
  by_cases h : PrOk n Z
  · have HP := Lib.hid (prB_yes h)
    by_cases he : 0 ≤ e ∧ e ≤ 99
    · have HA := Lib.hid (fwV_yes ⟨h, he⟩)
      have HC := Lib.hid (l6hCosts_any v lo hi n Z e w hv hh h he)
      have hn1 := h.1.1
      obtain ⟨he1, he2⟩ := he
      obtain ⟨va, vc, rfl⟩ := hv.shape
      clear hv h
      go_enter Try.func26, Try.ntmps26
      go_wp2_with fail
      refine HV.out.mono ?_
      rintro e' w1 ⟨rfl, rfl⟩
      rw [HP.out]
      go_wp2_with fail
      refine (l6In_yes _ _ _ _ he1 he2).mono ?_
      rintro e' w1 ⟨rfl, rfl⟩
      go_wp2_with fail
      refine HC.out.mono ?_
      rintro e' w2 ⟨B, rfl, h1, h2, h3, hb⟩
      have c0 := h3 0 (by omega)
      have HB1 := Lib.hid hb
      have hn1' : (0 : Int) < n := by omega
      clear h3 hb
      go_wp2
      go_ret
      exact ⟨ret_int HA.out.symm, HB1.out⟩
    · have HA := Lib.hid (fwV_no (n := n) (z := Z) (e := e) (fun g => he g.2))
      obtain ⟨va, vc, rfl⟩ := hv.shape
      clear hv h
      go_enter Try.func26, Try.ntmps26
      go_wp2_with fail
      refine HV.out.mono ?_
      rintro e' w1 ⟨rfl, rfl⟩
      rw [HP.out]
      go_wp2_with fail
      refine (l6In_no _ _ _ _ (by omega)).mono ?_
      rintro e' w1 ⟨rfl, rfl⟩
      go_wp2
      go_ret
      exact ⟨ret_int HA.out.symm, Below.refl _ _⟩
  · have HP := Lib.hid (prB_no h)
    have HA := Lib.hid (fwV_no (n := n) (z := Z) (e := e) (fun g => h g.1))
    obtain ⟨va, vc, rfl⟩ := hv.shape
    clear hv h
    go_enter Try.func26, Try.ntmps26
    go_wp2_with fail
    refine HV.out.mono ?_
    rintro e' w1 ⟨rfl, rfl⟩
    rw [HP.out]
    go_wp2
    go_ret
    exact ⟨ret_int HA.out.symm, Below.refl _ _⟩

set_option maxHeartbeats 4000000 in
set_option maxRecDepth 20000 in
theorem specThinLeast_any (v : Value) (lo hi n : Nat) (Z : Nat → Int) (q : Int) (w : World) (hv : RdI lo hi w v n Z) (hh : hi ≤ w.heap.size) :
    Calls Try.prog 37 #[v, .int .i64 q] w (IntPost (leV n Z q) w) := by
  have HV := Lib.hid (specProfileValid_any v lo hi n Z w hv)
  by_cases h : PrOk n Z
  · have HP := Lib.hid (prB_yes h)
    have hn1 := h.1.1
    have hn20 := h.1.2
    have hmin : min (2 : Int) (n : Int) = (if n = 1 then 1 else 2) := by split <;> omega
    obtain ⟨mi, emi⟩ : ∃ mi : Int, (if n = 1 then (1 : Int) else 2) = mi := ⟨_, rfl⟩
    rw [emi] at hmin
    by_cases hq : mi ≤ q ∧ q ≤ 20
    · have hln : LnOk n Z q := ⟨h, by rw [emi]; exact hq.1, hq.2⟩
      have HA := Lib.hid (leV_yes hln)
      obtain ⟨hL1, hL2⟩ := ltN_is hln
      have HL2 := Lib.hid hL2
      have HF := Lib.hid (fun (W : World) (hb : Below w.heap.size w W) (x : Nat) (hx : x ≤ 99) => (by
        have h1 := specThinFewest_any v lo hi n Z (x : Int) W (hv.same (SameIn.below hb hh)) (Nat.le_trans hh hb.size)
        rw [fwV_yes ⟨h, by omega, by omega⟩] at h1
        exact h1 : Calls Try.prog 26 #[v, .int .i64 x] W (IntPost (coV n Z x 0 : Nat) W)))
      have HU := Lib.hid (fun (a : Nat) (ha : LeIs n Z q a) => LeIs.uniq ha hL2)
      obtain ⟨T, eT⟩ : ∃ T, ltN n Z q = T := ⟨_, rfl⟩
      rw [eT] at hL1 HL2 HA HU
      obtain ⟨hq1, hq2⟩ := hq
      obtain ⟨va, vc, rfl⟩ := hv.shape
      clear hv h hln hL2 eT emi
      go_enter Try.func37, Try.ntmps37
      go_wp2_with fail
      refine HV.out.mono ?_
      rintro e' w1 ⟨rfl, rfl⟩
      rw [HP.out]
      go_wp2_with fail
      refine (l6In_yes _ _ _ _ hq1 hq2).mono ?_
      rintro e' w1 ⟨rfl, rfl⟩
      go_wp2
      go_loopw [5] (fun c wr => ∃ x : Nat, x ≤ T ∧ c = .int .i64 x ∧ Below w.heap.size w wr ∧ (∀ y : Nat, y < x → q < coV n Z y 0)) (fun c _ => T - (intOf c).toNat)
      case atStart => exact ⟨0, Nat.zero_le _, rfl, Below.refl _ _, fun y hy => by omega⟩
      case round =>
        obtain ⟨x, hx, rfl, hb, hd⟩ := hrel
        have HB1 := Lib.hid hb
        have HD := Lib.hid hd
        clear hb hd
        have HC := Lib.hid (HF.out _ HB1.out x (by omega))
        by_cases hc : q < coV n Z x 0
        · have hxT : x < T := by
            by_cases ex : x = T
            · subst ex; have := HL2.out.1; omega
            · omega
          have HN := Lib.hid (show ∀ y : Nat, y < x + 1 → q < coV n Z y 0 from fun y hy => by
            by_cases ey : y = x
            · subst ey; exact hc
            · exact HD.out y (by omega))
          obtain ⟨C, eC⟩ : ∃ C, coV n Z x 0 = C := ⟨_, rfl⟩
          rw [eC] at hc HC
          clear eC
          go_wp2_with fail
          refine HC.out.mono ?_
          rintro e' w2 ⟨rfl, hb2⟩
          have HB2 := Lib.hid (HB1.out.trans (hb2.mono HB1.out.size))
          clear hb2
          go_wp2
          go_roundw
          case rel => exact ⟨x + 1, by omega, by go_num, HB2.out, HN.out⟩
          case measure => simp [intOf]; omega
        · have HX := Lib.hid (show x = T from HU.out x ⟨by omega, HD.out⟩)
          obtain ⟨C, eC⟩ : ∃ C, coV n Z x 0 = C := ⟨_, rfl⟩
          rw [eC] at hc HC
          clear eC
          go_wp2_with fail
          refine HC.out.mono ?_
          rintro e' w2 ⟨rfl, hb2⟩
          have HB2 := Lib.hid (HB1.out.trans (hb2.mono HB1.out.size))
          clear hb2
          go_wp2
          go_ret
          exact ⟨ret_int (by rw [HA.out, HX.out]), HB2.out⟩
    · have HA := Lib.hid (leV_no (n := n) (z := Z) (m := q) (fun g => hq ⟨by rw [← emi]; exact g.2.1, g.2.2⟩))
      obtain ⟨va, vc, rfl⟩ := hv.shape
      clear hv h emi
      go_enter Try.func37, Try.ntmps37
      go_wp2_with fail
      refine HV.out.mono ?_
      rintro e' w1 ⟨rfl, rfl⟩
      rw [HP.out]
      go_wp2_with fail
      refine (l6In_no _ _ _ _ (by omega)).mono ?_
      rintro e' w1 ⟨rfl, rfl⟩
      go_wp2
      go_ret
      exact ⟨ret_int HA.out.symm, Below.refl _ _⟩
  · have HP := Lib.hid (prB_no h)
    have HA := Lib.hid (leV_no (n := n) (z := Z) (m := q) (fun g => h g.1))
    obtain ⟨va, vc, rfl⟩ := hv.shape
    clear hv h
    go_enter Try.func37, Try.ntmps37
    go_wp2_with fail
    refine HV.out.mono ?_
    rintro e' w1 ⟨rfl, rfl⟩
    rw [HP.out]
    go_wp2
    go_ret
    exact ⟨ret_int HA.out.symm, Below.refl _ _⟩

end Go.Proofs.Ytmfdflkpbejpoaa
