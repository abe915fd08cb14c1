/- WaterBasins of the model. -/
import Derived.Test.YtplfphpnpjjinaaM3
import Derived.Test.YtplfphpnpjjinaaRunE
import Derived.Test.YtplfphpnpjjinaaRunS
namespace Go.Proofs.Ytplfphpnpjjinaa
open Go.RowKit
set_option linter.unusedVariables false

open Classical in
noncomputable def G.bsV (g : G) : List (Ix (g.n * g.len 0)) := if g.Valid then bsL g.n (g.len 0) g.flat (g.n * g.len 0) else []
theorem G.bsV_yes {g : G} (h : g.Valid) : g.bsV = bsL g.n (g.len 0) g.flat (g.n * g.len 0) := by unfold G.bsV; rw [if_pos h]
theorem G.bsV_no {g : G} (h : ¬ g.Valid) : g.bsV = [] := by unfold G.bsV; rw [if_neg h]

/-- the last cell of a list -/
theorem Lists.lastCell {B : Nat} {w : World} {M : Nat} {l : List (Ix M)} {x : Ix M} {a : Option Addr} {n c : Nat} (h : Lists B w (.slice a n c) l) (hM : M ≤ 49) (hx : l[l.length - 1]? = some x) :
    ∃ b, a = some ⟨b, 0, none⟩ ∧ n = l.length ∧ w.cell? ⟨b, l.length - 1, none⟩ = some (.int .i64 x.1) ∧ l.length ≤ c := by
  obtain ⟨hlen, ⟨e, h0⟩ | ⟨b, cap, cur, e, hB, hb, hc, hcap, hcs, ht⟩⟩ := h
  · have : l = [] := List.eq_nil_of_length_eq_zero h0
    subst this
    simp at hx
  · simp only [Value.slice.injEq] at e
    obtain ⟨rfl, rfl, rfl⟩ := e
    have hpos : l.length - 1 < l.length := by
      rcases Nat.lt_or_ge (l.length - 1) l.length with h | h
      · exact h
      · rw [List.getElem?_eq_none h] at hx; cases hx
    refine ⟨b, rfl, rfl, ?_, hc⟩
    have e1 : cur.toList[l.length - 1]? = (ixV l)[l.length - 1]? := by rw [← ht, List.getElem?_take_of_lt (by omega)]
    have e2 : cur[l.length - 1]? = some (.int .i64 x.1) := by rw [← Array.getElem?_toList, e1]; simp [ixV, hx]
    simp [World.cell?, hb, e2]

set_option maxHeartbeats 4000000 in
set_option maxRecDepth 100000 in
theorem specWaterBasins_any (v : Value) (lo hi : Nat) (g : G) (w : World) (hv : RdM lo hi w v g) (hh : hi ≤ w.heap.size) (b : Bool) (hbb : b = true ↔ g.Valid) :
    Calls Try.prog 32 #[v] w (LbPost b g.bsV w) := by
  have hb0 := (Below.refl w.heap.size w).alloc (Nat.le_refl _) (.cells #[] 3)
  have HB0 := Lib.hid hb0
  have HL0 := Lib.hid (show Lists w.heap.size (w.alloc (.cells #[] 3)) (.slice (some ⟨w.heap.size, 0, none⟩) 0 0) ([] : List (Ix (g.n * g.len 0))) from World.ownsRow_lit w #[] 0 (Nat.le_refl _) (Nat.zero_le _) (by simp))
  have HC := Lib.hid (specValid_any v lo hi g (w.alloc (.cells #[] 3)) (hv.same (SameIn.below hb0 hh)))
  by_cases h : g.Valid
  · have HB := Lib.hid (G.vB_yes h)
    have HA := Lib.hid (G.bsV_yes h)
    have HZ := Lib.hid (fun x (hx : x < g.n * g.len 0) => flat_okW h hx)
    obtain rfl : b = true := hbb.2 h
    obtain ⟨b0, off0, cap0, rfl⟩ := hv.shapeW h.1.1
    have HV := Lib.hid hv
    have HH := Lib.hid h
    clear hv h hb0 hbb
    go_enter Try.func32, Try.ntmps32
    go_wp2_with fail
    refine HC.out.mono ?_
    rintro e w1 ⟨rfl, n1, rfl⟩
    rw [HB.out]
    go_wp2
    have h49 := mul_le_49 HH.out.1.2 HH.out.2.1.2
    obtain ⟨i0, hi0, hz0, hz1, hz2⟩ := info_parts Try.infoI
    go_loopw [4, 5] (fun o k wr => ∃ (kk : Nat) (v : Value), kk ≤ g.n * g.len 0 ∧ k = .int .i64 kk ∧ v = o ∧ Lists w.heap.size wr v (bsL g.n (g.len 0) g.flat kk) ∧ Below w.heap.size w wr) (fun _ k _ => g.n * g.len 0 - (intOf k).toNat)
    case atStart => exact ⟨0, _, Nat.zero_le _, rfl, rfl, HL0.out.below (below_drewN (Below.refl _ _) _) (Nat.le_refl _), below_drewN HB0.out _⟩
    case round =>
      obtain ⟨kk, v, hk, rfl, rfl, hli, hb⟩ := hrel
      have HVR := Lib.hid (HV.out.same (SameIn.below hb hh))
      have hsz := hb.size
      have HB1 := Lib.hid hb
      have hln := bsL_len g.n (g.len 0) g.flat kk hk
      have HLI := Lib.hid hli
      clear hb hli
      by_cases hlt : kk < g.n * g.len 0
      · obtain ⟨i, hi'⟩ : ∃ i : Ix (g.n * g.len 0), i.1 = kk := ⟨⟨kk, hlt⟩, rfl⟩
        subst hi'
        have HN := Lib.hid (l2Run_any _ lo hi g g.n (g.len 0) rfl rfl i wr HVR.out (by omega) HH.out HZ.out)
        have HLAST := Lib.hid (endI_at HZ.out i)
        have HSUC := Lib.hid (bsL_succ (Z := g.flat) i)
        have hrl := runL_len g.n (g.len 0) g.flat i
        have hrp := (runL_is HZ.out i).pos
        obtain ⟨m, hm⟩ : ∃ m, (runL g.n (g.len 0) g.flat i).length = m + 1 := ⟨(runL g.n (g.len 0) g.flat i).length - 1, by omega⟩
        have hm100 : m ≤ 100 := by omega
        have HM := Lib.hid hm
        obtain ⟨y, ey⟩ : ∃ y, endI g.n (g.len 0) g.flat i = y := ⟨_, rfl⟩
        rw [ey] at HLAST HSUC
        obtain ⟨x, ex⟩ : ∃ x, i.1 = x := ⟨_, rfl⟩
        have HEX := Lib.hid ex
        have h49i : (g.n * g.len 0) ≤ 49 := h49
        obtain ⟨N, eN⟩ : ∃ N, g.n * g.len 0 = N := ⟨_, rfl⟩
        have EN := Lib.hid eN
        have hlt' : (x : Int) < N := by omega
        have hN49 : N ≤ 49 := by omega
        have hltN : x < N := by omega
        have H49 := Lib.hid h49i
        have hy48 := y.2
        obtain ⟨z, ez⟩ : ∃ z, y.1 = z := ⟨_, rfl⟩
        have HEZ := Lib.hid ez
        have hz48 : z ≤ 48 := by omega
        rw [ex] at HN hln ⊢
        clear eN ex hlt hrl hrp ey ez hm h49i h49 hy48
        go_wp2_with fail
        refine (l2Cells_any _ lo hi g _ HVR.out HH.out).mono ?_
        rintro e w2 ⟨rfl, rfl⟩
        rw [EN.out]
        go_wp2_with fail
        refine HN.out.mono ?_
        rintro e w3 ⟨r, rfl, ⟨a, c, rfl⟩, hrl, hb3⟩
        have HB3 := Lib.hid (HB1.out.trans (hb3.mono hsz))
        have hl3 := HLI.out.below hb3 (Nat.le_refl _)
        rw [HEX.out] at hl3
        have hs3 := HB3.out.size
        have hl3' : w3.ownsRow w.heap.size 3 1 v (bsL g.n (g.len 0) g.flat x).length (ixV (bsL g.n (g.len 0) g.flat x)) := hl3
        obtain ⟨b, rfl, _, hcell, hcc⟩ := hrl.lastCell H49.out HLAST.out
        rw [HM.out, HEZ.out] at hcell
        rw [HM.out] at hcc ⊢
        simp only [Nat.add_sub_cancel] at hcell
        have hmm : (m : Int) < (m : Int) + 1 := by omega
        clear hb3 hl3 hrl
        go_wp2_with (first | (at_builtin; refine wpList_append_own _ rfl _ _ 33 rfl w.heap.size 3 i0 (.int .i64 0) 1 8 Try.underlying33 hi0 hz0 hz1 hz2 rfl (by decide) _ (bsL g.n (g.len 0) g.flat x).length (ixV (bsL g.n (g.len 0) g.flat x)) rfl (hl3'.alloc _) ⟨w3.heap.size, 0, none⟩ 1 1 [.int .i64 z] rfl rfl (World.news_of_block (cs := #[.int .i64 z]) (t := 3) (fr := (0, 0)) (heap_alloc_new w3 _)) (by simp [Value.oneCell']) (by unfold maxLen; omega) (by omega) (by simp; omega) ?_; intro v' w4 hown4 hg4 _))
        have HB4 := Lib.hid ((HB3.out.alloc HB3.out.size (.cells #[.int .i64 z] 3)).grown hg4 (by simp; omega) (fun k hk => (hl3'.lt k hk).1))
        have HL4 := Lib.hid (show Lists w.heap.size w4 v' (bsL g.n (g.len 0) g.flat (x + 1)) from by
          have e0 : bsL g.n (g.len 0) g.flat (x + 1) = bsL g.n (g.len 0) g.flat x ++ [y] := by rw [← HEX.out]; exact HSUC.out
          have e : ixV (bsL g.n (g.len 0) g.flat x ++ [y]) = ixV (bsL g.n (g.len 0) g.flat x) ++ [.int .i64 z] := by simp [ixV, HEZ.out]
          unfold Lists
          rw [e0, e, List.length_append]
          exact hown4)
        clear hown4 hg4 hl3'
        go_wp2
        go_roundw
        case rel => exact ⟨x + 1, v', by rw [EN.out]; omega, by go_num, rfl, HL4.out, HB4.out⟩
        case measure => simp [intOf]; rw [EN.out]; omega
      · have ek : kk = g.n * g.len 0 := by omega
        have HA2 := Lib.hid (show g.bsV = bsL g.n (g.len 0) g.flat kk by rw [HA.out, ek])
        obtain ⟨a9, c9, rfl⟩ := HLI.out.shape
        have hx9 := HLI.out
        rw [hln] at hx9 ⊢
        have HL9 := Lib.hid hx9
        clear hx9 hln
        obtain ⟨N, eN⟩ : ∃ N, g.n * g.len 0 = N := ⟨_, rfl⟩
        have EN := Lib.hid eN
        have hge : N ≤ kk := by omega
        have hge' : ¬ (kk : Int) < N := by omega
        clear ek eN hlt
        go_wp2_with fail
        refine (l2Cells_any _ lo hi g _ HVR.out HH.out).mono ?_
        rintro e w2 ⟨rfl, rfl⟩
        rw [EN.out]
        go_wp2
        go_ret2
        exact LbPost.mk' HA2.out HL9.out HB1.out
  · have HB := Lib.hid (G.vB_no h)
    have HA := Lib.hid (G.bsV_no h)
    obtain rfl : b = false := by cases b; rfl; exact absurd (hbb.1 rfl) h
    clear hv h hb0 hbb
    go_enter Try.func32, Try.ntmps32
    go_wp2_with fail
    refine HC.out.mono ?_
    rintro e w1 ⟨rfl, n1, rfl⟩
    rw [HB.out]
    go_wp2
    go_ret2
    exact LbPost.mk' HA.out (HL0.out.below (below_drewN (Below.refl _ _) _) (Nat.le_refl _)) (below_drewN HB0.out _)

end Go.Proofs.Ytplfphpnpjjinaa
