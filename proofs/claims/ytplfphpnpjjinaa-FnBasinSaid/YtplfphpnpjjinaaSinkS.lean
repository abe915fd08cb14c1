/- WaterSinks of the model. -/
import Derived.Test.YtplfphpnpjjinaaSinkM
import Derived.Test.YtplfphpnpjjinaaLongS
namespace Go.Proofs.Ytplfphpnpjjinaa
open Go.RowKit
set_option linter.unusedVariables false

open Classical in
noncomputable def G.skV (g : G) : List (Ix (g.n * g.len 0)) := if g.Valid then skL g.n (g.len 0) g.flat (g.n * g.len 0) else []
theorem G.skV_yes {g : G} (h : g.Valid) : g.skV = skL g.n (g.len 0) g.flat (g.n * g.len 0) := by unfold G.skV; rw [if_pos h]
theorem G.skV_no {g : G} (h : ¬ g.Valid) : g.skV = [] := by unfold G.skV; rw [if_neg h]

/-- a list of indexes alone -/
def LvPost {M : Nat} (l : List (Ix M)) (w : World) (e : Ending) (w' : World) : Prop :=
  ∃ v, e = .returned v ∧ Lists w.heap.size w' v l ∧ Below w.heap.size w w'
theorem LvPost.mk' {M : Nat} {L l : List (Ix M)} {w w' : World} {v : Value} (e : L = l) (h : Lists w.heap.size w' v l) (hb : Below w.heap.size w w') : LvPost L w (.returned v) w' := ⟨v, rfl, e ▸ h, hb⟩

set_option maxHeartbeats 4000000 in
set_option maxRecDepth 100000 in
theorem specWaterSinks_any (v : Value) (lo hi : Nat) (g : G) (w : World) (hv : RdM lo hi w v g) (hh : hi ≤ w.heap.size) :
    Calls Try.prog 79 #[v] w (LvPost g.skV w) := by
  have hb0 := (Below.refl w.heap.size w).alloc (Nat.le_refl _) (.cells #[] 3)
  have HB0 := Lib.hid hb0
  have HL0 := Lib.hid (show Lists w.heap.size (w.alloc (.cells #[] 3)) (.slice (some ⟨w.heap.size, 0, none⟩) 0 0) ([] : List (Ix (g.n * g.len 0))) from World.ownsRow_lit w #[] 0 (Nat.le_refl _) (Nat.zero_le _) (by simp))
  have HC := Lib.hid (specValid_any v lo hi g (w.alloc (.cells #[] 3)) (hv.same (SameIn.below hb0 hh)))
  by_cases h : g.Valid
  · have HB := Lib.hid (G.vB_yes h)
    have HA := Lib.hid (G.skV_yes h)
    obtain ⟨b0, off0, cap0, rfl⟩ := hv.shapeW h.1.1
    have HV := Lib.hid hv
    have HH := Lib.hid h
    clear hv h hb0
    go_enter Try.func79, Try.ntmps79
    go_wp2_with fail
    refine HC.out.mono ?_
    rintro e w1 ⟨rfl, n1, rfl⟩
    rw [HB.out]
    go_wp2
    have h49 := mul_le_49 HH.out.1.2 HH.out.2.1.2
    obtain ⟨i0, hi0, hz0, hz1, hz2⟩ := info_parts Try.infoI
    go_loopw [3, 4] (fun o k wr => ∃ (kk : Nat) (v : Value), kk ≤ g.n * g.len 0 ∧ k = .int .i64 kk ∧ v = o ∧ Lists w.heap.size wr v (skL g.n (g.len 0) g.flat kk) ∧ Below w.heap.size w wr) (fun _ k _ => g.n * g.len 0 - (intOf k).toNat)
    case atStart => exact ⟨0, _, Nat.zero_le _, rfl, rfl, HL0.out.below (below_drewN (Below.refl _ _) _) (Nat.le_refl _), below_drewN HB0.out _⟩
    case round =>
      obtain ⟨kk, v, hk, rfl, rfl, hli, hb⟩ := hrel
      have HVR := Lib.hid (HV.out.same (SameIn.below hb hh))
      have hsz := hb.size
      have HB1 := Lib.hid hb
      have hln := skL_len g.n (g.len 0) g.flat kk
      have HLI := Lib.hid hli
      clear hb hli
      by_cases hlt : kk < g.n * g.len 0
      · obtain ⟨i, hi'⟩ : ∃ i : Ix (g.n * g.len 0), i.1 = kk := ⟨⟨kk, hlt⟩, rfl⟩
        subst hi'
        have HN := Lib.hid (l2Next_any _ lo hi g g.n (g.len 0) rfl rfl i wr HVR.out (by omega) HH.out)
        obtain ⟨N, eN⟩ : ∃ N, g.n * g.len 0 = N := ⟨_, rfl⟩
        have EN := Lib.hid eN
        obtain ⟨x, ex⟩ : ∃ x, i.1 = x := ⟨_, rfl⟩
        have HEX := Lib.hid ex
        have hlt' : (x : Int) < N := by omega
        have hN49 : N ≤ 49 := by omega
        have hltN : x < N := by omega
        by_cases hs : nxt g.n (g.len 0) g.flat i = i
        · have HL := Lib.hid (skL_yes i hs)
          rw [hs, ex] at HN
          have hx : ((x : Int) == (x : Int)) = true := by simp
          rw [ex] at hln ⊢
          clear eN ex hlt hs
          go_wp2_with fail
          refine (l2Cells_any _ lo hi g _ HVR.out HH.out).mono ?_
          rintro e w2 ⟨rfl, rfl⟩
          rw [EN.out]
          go_wp2_with fail
          refine HN.out.mono ?_
          rintro e w3 ⟨rfl, hb3⟩
          have HB3 := Lib.hid (HB1.out.trans (hb3.mono hsz))
          have hl3 := HLI.out.below hb3 (Nat.le_refl _)
          rw [HEX.out] at hl3
          have hs3 := HB3.out.size
          have hl3' : w3.ownsRow w.heap.size 3 1 v (skL g.n (g.len 0) g.flat x).length (ixV (skL g.n (g.len 0) g.flat x)) := hl3
          clear hb3 hl3
          go_wp2_with (first | (at_builtin; refine wpList_append_own _ rfl _ _ 33 rfl w.heap.size 3 i0 (.int .i64 0) 1 8 Try.underlying33 hi0 hz0 hz1 hz2 rfl (by decide) _ (skL g.n (g.len 0) g.flat x).length (ixV (skL g.n (g.len 0) g.flat x)) rfl (hl3'.alloc _) ⟨w3.heap.size, 0, none⟩ 1 1 [.int .i64 x] rfl rfl (World.news_of_block (cs := #[.int .i64 x]) (t := 3) (fr := (0, 0)) (heap_alloc_new w3 _)) (by simp [Value.oneCell']) (by unfold maxLen; omega) (by omega) (by simp; omega) ?_; intro v' w4 hown4 hg4 _))
          have HB4 := Lib.hid ((HB3.out.alloc HB3.out.size (.cells #[.int .i64 x] 3)).grown hg4 (by simp; omega) (fun k hk => (hl3'.lt k hk).1))
          have HL4 := Lib.hid (show Lists w.heap.size w4 v' (skL g.n (g.len 0) g.flat (x + 1)) from by
            have e0 : skL g.n (g.len 0) g.flat (x + 1) = skL g.n (g.len 0) g.flat x ++ [i] := by rw [← HEX.out]; exact HL.out
            have e : ixV (skL g.n (g.len 0) g.flat x ++ [i]) = ixV (skL g.n (g.len 0) g.flat x) ++ [.int .i64 x] := by simp [ixV, HEX.out]
            unfold Lists
            rw [e0, e, List.length_append]
            exact hown4)
          clear hown4 hg4 hl3'
          go_wp2
          go_roundw
          case rel => exact ⟨x + 1, v', by rw [EN.out]; omega, by go_num, rfl, HL4.out, HB4.out⟩
          case measure => simp [intOf]; rw [EN.out]; omega
        · have HL := Lib.hid (skL_no i hs)
          obtain ⟨y, ey⟩ : ∃ y, (nxt g.n (g.len 0) g.flat i).1 = y := ⟨_, rfl⟩
          have hne : y ≠ x := fun e => hs (Subtype.ext (by rw [ey, ex, e]))
          have hx : ((y : Int) == (x : Int)) = false := by rw [beq_eq_false_iff_ne]; omega
          rw [ey, ex] at HN
          rw [ex] at hln ⊢
          clear eN ex hlt hs ey
          go_wp2_with fail
          refine (l2Cells_any _ lo hi g _ HVR.out HH.out).mono ?_
          rintro e w2 ⟨rfl, rfl⟩
          rw [EN.out]
          go_wp2_with fail
          refine HN.out.mono ?_
          rintro e w3 ⟨rfl, hb3⟩
          have HB3 := Lib.hid (HB1.out.trans (hb3.mono hsz))
          have HL3 := Lib.hid (HLI.out.below hb3 (Nat.le_refl _))
          clear hb3
          go_wp2
          go_roundw
          case rel => exact ⟨x + 1, v, by rw [EN.out]; omega, by go_num, rfl, by rw [← HEX.out, HL.out]; exact HL3.out, HB3.out⟩
          case measure => simp [intOf]; rw [EN.out]; omega
      · have ek : kk = g.n * g.len 0 := by omega
        have HA2 := Lib.hid (show g.skV = skL g.n (g.len 0) g.flat kk by rw [HA.out, ek])
        obtain ⟨N, eN⟩ : ∃ N, g.n * g.len 0 = N := ⟨_, rfl⟩
        have EN := Lib.hid eN
        have hge : N ≤ kk := by omega
        have hge' : ¬ (kk : Int) < N := by omega
        clear ek eN hlt
        go_wp2_with fail
        refine (l2Cells_any _ lo hi g _ HVR.out HH.out).mono ?_
        rintro e w2 ⟨rfl, rfl⟩
        rw [EN.out]
        go_wp2
        go_ret
        exact LvPost.mk' HA2.out HLI.out HB1.out
  · have HB := Lib.hid (G.vB_no h)
    have HA := Lib.hid (G.skV_no h)
    clear hv h hb0
    go_enter Try.func79, Try.ntmps79
    go_wp2_with fail
    refine HC.out.mono ?_
    rintro e w1 ⟨rfl, n1, rfl⟩
    rw [HB.out]
    go_wp2
    go_ret
    exact LvPost.mk' HA.out (HL0.out.below (below_drewN (Below.refl _ _) _) (Nat.le_refl _)) (below_drewN HB0.out _)

end Go.Proofs.Ytplfphpnpjjinaa
