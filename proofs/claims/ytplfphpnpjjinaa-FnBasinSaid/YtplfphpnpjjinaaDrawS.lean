/- The draw of FnBasin: a grid and a sink, or another number. -/
import Derived.Test.YtplfphpnpjjinaaDrawR
import Derived.Test.YtplfphpnpjjinaaPBase
import Derived.Test.YtplfphpnpjjinaaSinkS
namespace Go.Proofs.Ytplfphpnpjjinaa
open Go.RowKit
set_option linter.unusedVariables false

theorem chg_cellS {B : Nat} {w w' : World} (h : Chg B (B + 1) w w') {b o : Nat} {x : Value} (hb : B + 1 ≤ b) (hl : b < w.heap.size) (hc : w.cell? ⟨b, o, none⟩ = some x) : w'.cell? ⟨b, o, none⟩ = some x := (World.cell?_of_block (a := ⟨b, o, none⟩) (h.block b hl (by omega))).trans hc

set_option maxHeartbeats 4000000 in
set_option maxRecDepth 100000 in
theorem draw_DrawWaterBasin (v : Value) (n hi : Nat) (w : World) (hv : RdB hi w v n) (hh : hi ≤ w.heap.size) :
    Calls Try.prog 48 #[v] w (DkPost w) := by
  have HO := Lib.hid (open_any v n hi w hv hh)
  obtain ⟨ao, cap, cb, off, Z, rfl, _⟩ := hv
  obtain ⟨B, eB⟩ : ∃ B, w.heap.size = B := ⟨_, rfl⟩
  have EB := Lib.hid eB
  clear eB
  go_enter Try.func48, Try.ntmps48
  go_wp2_with fail
  refine HO.out.mono ?_
  rintro e w1 ⟨rfl, hr, hb, hs⟩
  rw [EB.out] at hr hb hs ⊢
  have HB := Lib.hid hb
  have HR := Lib.hid hr
  have hs1 : B < w1.heap.size := by omega
  clear hb hr hs
  go_wp2_with fail
  refine (grid_any B 0 w1 HR.out (by omega)).mono ?_
  rintro e w2 ⟨v, g, rfl, ⟨a, l, c, rfl⟩, hm, hn, hl, ⟨q', hq', hr2⟩, hc⟩
  have HM := Lib.hid hm
  have HN := Lib.hid hn
  have HL := Lib.hid (fun r hr => (hl r hr).1)
  have HC := Lib.hid hc
  have HR2 := Lib.hid hr2
  have hs2 : w1.heap.size ≤ w2.heap.size := hc.size
  have hM : g.n * g.len 0 ≤ 49 := by
    have h1 := (hl 0 (by omega)).1
    have h2 : g.n * g.len 0 ≤ 5 * 9 := Nat.mul_le_mul hn.2 h1
    omega
  clear hm hn hl hc hr2
  go_wp2_with fail
  refine (specWaterSinks_any _ _ _ g w2 HM.out (Nat.le_refl _)).mono ?_
  rintro e w3 ⟨vs, rfl, hli, hb3⟩
  obtain ⟨a_s, c_s, rfl⟩ := hli.shape
  have HLI := Lib.hid (hli.rdI hM)
  have hL49 : g.skV.length ≤ 49 := by
    by_cases h : g.Valid
    · rw [G.skV_yes h]; have := skL_len g.n (g.len 0) g.flat (g.n * g.len 0); omega
    · rw [G.skV_no h]; simp
  have HM3 := Lib.hid (HM.out.same (SameIn.below hb3 (Nat.le_refl _)))
  have HR3 := Lib.hid (HR2.out.same (fun k hk => hb3.block k (by omega)))
  have HC3 := Lib.hid (HC.out.trans (hb3.chg B (B + 1)))
  have hs3 := hb3.size
  clear hli hb3
  obtain ⟨L, eL⟩ : ∃ L, g.skV = L := ⟨_, rfl⟩
  rw [eL] at HLI hL49 ⊢
  clear eL
  obtain ⟨M, eM⟩ : ∃ M, L.length = M := ⟨_, rfl⟩
  rw [eM] at HLI hL49 ⊢
  clear eM
  by_cases h0 : M = 0
  · subst h0
    clear HLI
    go_wp2_with fail
    refine (pick_any B q' 27 _ HR3.out (by omega) (by omega) (by omega)).mono ?_
    rintro e w4 ⟨y, hy, rfl, hr4, hc4, hs4⟩
    have HM4 := Lib.hid (HM3.out.same (hc4.sameIn (by omega) (Or.inr (Nat.le_refl _))))
    have HC4 := Lib.hid (HC3.out.trans hc4)
    have hs4' : w3.heap.size ≤ w4.heap.size := by omega
    clear hr4 hc4 hs4
    go_wp2
    go_ret2
    exact ⟨_, g, _, rfl, ⟨_, _, _, rfl⟩, HM4.out.mono (Nat.zero_le _) (by omega), HN.out, HL.out, by omega, by rw [← EB.out] at *; exact chg_below HB.out HC4.out⟩
  · have hg0 : (0 : Int) < (M : Int) := by omega
    have hL1 : 0 < M := by omega
    clear h0
    go_wp2_with fail
    refine (pick_any B q' 4 _ HR3.out (by omega) (by omega) (by omega)).mono ?_
    rintro e w4 ⟨x, hx, rfl, hr4, hc4, hs4⟩
    have HM4 := Lib.hid (HM3.out.same (hc4.sameIn (by omega) (Or.inr (Nat.le_refl _))))
    have HLI4 := Lib.hid (HLI.out.same (hc4.sameIn (by omega) (Or.inr (by omega))))
    have HC4 := Lib.hid (HC3.out.trans hc4)
    have HR4 := Lib.hid hr4
    have hs4' : w3.heap.size ≤ w4.heap.size := by omega
    clear hr4 hc4 hs4
    by_cases x0 : x = 0
    · subst x0
      go_wp2_with fail
      refine (pick_any B (q' + 1) 27 _ HR4.out (by omega) (by omega) (by omega)).mono ?_
      rintro e w5 ⟨y, hy, rfl, hr5, hc5, hs5⟩
      have HM5 := Lib.hid (HM4.out.same (hc5.sameIn (by omega) (Or.inr (Nat.le_refl _))))
      have HC5 := Lib.hid (HC4.out.trans hc5)
      have hs5' : w4.heap.size ≤ w5.heap.size := by omega
      clear hr5 hc5 hs5
      go_wp2
      go_ret2
      exact ⟨_, g, _, rfl, ⟨_, _, _, rfl⟩, HM5.out.mono (Nat.zero_le _) (by omega), HN.out, HL.out, by omega, by rw [← EB.out] at *; exact chg_below HB.out HC5.out⟩
    · have hx0 : (0 : Int) < (x : Int) := by omega
      have hx1 : 0 < x := by omega
      clear x0
      obtain ⟨ao2, cp, b, of2, e1, i2, i3, i4, i5, i6⟩ := HLI4.out
      simp only [Value.slice.injEq] at e1
      obtain ⟨rfl, _, rfl⟩ := e1
      obtain ⟨rfl, hb1, hb2⟩ := i5 hL1
      have I4 := Lib.hid i4
      have I6 := Lib.hid i6
      clear i4 i5 i6
      have HS0 := Lib.hid (show ∀ j, j < M → w4.drew.cell? ⟨b, of2 + j, none⟩ = some (.int .i64 (ixZ L j)) from fun j hj => I6.out j hj)
      go_wp2_with fail
      go_region_held3 (fun w' => ∀ j, j < M → w'.cell? ⟨b, of2 + j, none⟩ = some (.int .i64 (ixZ L j))) (first | with_reducible exact HS0.out | with_reducible exact s0 | go_keep | exact s0)
        ((go_at_call 61; refine (pick_any B (q' + 1) M w4.drew (HR4.out.same (fun _ _ => rfl)) (by omega) (by omega) (by omega)).mono ?_; rintro e w5 ⟨y, hy, rfl, hr5, hc5, hs5⟩; have hc5' : Chg B (B + 1) w4 w5 := ((((Below.refl w4.heap.size w4).chg B (B + 1)).drewN 1).trans hc5); have s0 : ∀ j, j < M → w5.cell? ⟨b, of2 + j, none⟩ = some (.int .i64 (ixZ L j)) := fun j hj => chg_cellS hc5' (show B + 1 ≤ b by omega) (show b < w4.heap.size by omega) (I6.out j hj); have HC5 := Lib.hid hc5'; have hy' : (y : Int) < M := (by omega); have hy2 := I4.out y hy; clear hr5 hc5 hs5 hc5'))
      all_goals go_wp2
      all_goals go_ret2
      all_goals exact ⟨_, g, _, rfl, ⟨_, _, _, rfl⟩, (RdM.same HM4.out (HC5.out.sameIn (by omega) (Or.inr (Nat.le_refl _)))).mono (Nat.zero_le _) (by have := HC5.out.size; omega), HN.out, HL.out, by omega, by rw [← EB.out] at *; exact chg_below HB.out (HC4.out.trans HC5.out)⟩

end Go.Proofs.Ytplfphpnpjjinaa
