/- The model's functions on grids: which lists are grids. -/
import Derived.Test.YtdjlobppnhokoaaHelp
namespace Go.Proofs.Ytdjlobppnhokoaa
open Go.RowKit
set_option linter.unusedVariables false

def G.Valid (g : G) : Prop := (1 ≤ g.n ∧ g.n ≤ 7) ∧ (1 ≤ g.len 0 ∧ g.len 0 ≤ 7) ∧ ∀ r, r < g.n → g.len r = g.len 0 ∧ ∀ c, c < g.len r → 0 ≤ g.z r c ∧ g.z r c ≤ 99

noncomputable def G.vB (g : G) : Bool := @decide g.Valid (Classical.propDecidable _)

theorem G.vB_yes {g : G} (h : g.Valid) : g.vB = true := by simp [G.vB, h]
theorem G.vB_no {g : G} (h : ¬ g.Valid) : g.vB = false := by simp [G.vB, h]

theorem eq_post {b b' : Bool} (h : b' = b) (w : World) (n : Nat) : EqPost b' w (.returned (.bool b)) (w.drewN n) := ⟨by rw [h], n, rfl⟩
theorem eq_post0 {b b' : Bool} (h : b' = b) (w : World) : EqPost b' w (.returned (.bool b)) w := ⟨by rw [h], 0, rfl⟩

theorem eq_post2 {b b' : Bool} (h : b' = b) (w : World) (m n : Nat) : EqPost b' w (.returned (.bool b)) ((w.drewN m).drewN n) := ⟨by rw [h], m + n, World.drewN_drewN ..⟩

theorem l6In_yes (x a b : Int) (w : World) (h1 : a ≤ x) (h2 : x ≤ b) : Calls Try.prog 67 #[.int .i64 x, .int .i64 a, .int .i64 b] w fun e w' => e = .returned (.bool true) ∧ w = w' := by
  go_enter Try.func67, Try.ntmps67
  go_wp2
  go_ret
  exact ⟨rfl, rfl⟩

theorem l6In_no (x a b : Int) (w : World) (h : x < a ∨ b < x) : Calls Try.prog 67 #[.int .i64 x, .int .i64 a, .int .i64 b] w fun e w' => e = .returned (.bool false) ∧ w = w' := by
  by_cases h1 : x < a
  · go_enter Try.func67, Try.ntmps67
    go_wp2
    go_ret
    exact ⟨rfl, rfl⟩
  · have h2 : b < x := by omega
    clear h
    have h3 : decide (x ≤ b) = false := by simp; omega
    go_enter Try.func67, Try.ntmps67
    go_wp2
    go_ret
    exact ⟨rfl, rfl⟩

/-- the row is all right as far as column k -/
def G.RowTo (g : G) (r k : Nat) : Prop := ∀ c, c < k → 0 ≤ g.z r c ∧ g.z r c ≤ 99

set_option maxHeartbeats 2000000 in
set_option maxRecDepth 20000 in
theorem specValid_any (v : Value) (lo hi : Nat) (g : G) (w : World) (hv : RdM lo hi w v g) :
    Calls Try.prog 66 #[v] w (EqPost g.vB w) := by
  obtain ⟨ao, cap, b, off, Ao, Cp, rfl, a2, a3, a5, a6, a7⟩ := hv
  by_cases hN : 1 ≤ g.n ∧ g.n ≤ 7
  case neg =>
    have HB := Lib.hid (G.vB_no (g := g) (fun h => hN h.1))
    go_enter Try.func66, Try.ntmps66
    go_wp2_with fail
    refine (l6In_no _ _ _ _ (by omega)).mono ?_
    rintro e w' ⟨rfl, rfl⟩
    go_wp2
    go_ret
    exact eq_post0 HB.out _
  case pos =>
    obtain ⟨hN1, hN2⟩ := hN
    obtain ⟨rfl, hb1, hb2⟩ := a5 (by omega)
    have hc0 := a6 0 (by omega)
    have hc0' : w.cell? ⟨b, off, none⟩ = some (.slice (Ao 0) (g.len 0) (Cp 0)) := by simpa using hc0
    have hix0 : (0 : Int) < g.n := by omega
    clear hc0
    by_cases hL : 1 ≤ g.len 0 ∧ g.len 0 ≤ 7
    case neg =>
      have HB := Lib.hid (G.vB_no (g := g) (fun h => hL h.2.1))
      clear a5 a6 a7
      go_enter Try.func66, Try.ntmps66
      go_wp2_with fail
      refine (l6In_yes _ _ _ _ (by omega) (by omega)).mono ?_
      rintro e w' ⟨rfl, rfl⟩
      go_wp2_with fail
      refine (l6In_no _ _ _ _ (by omega)).mono ?_
      rintro e w' ⟨rfl, rfl⟩
      go_wp2
      go_ret
      exact eq_post0 HB.out _
    case pos =>
      obtain ⟨hL1, hL2⟩ := hL
      have H6 := Lib.hid a6
      have H7 := Lib.hid a7
      clear a5 a6 a7
      go_enter Try.func66, Try.ntmps66
      go_wp2_with fail
      refine (l6In_yes _ _ _ _ (by omega) (by omega)).mono ?_
      rintro e w' ⟨rfl, rfl⟩
      go_wp2_with fail
      refine (l6In_yes _ _ _ _ (by omega) (by omega)).mono ?_
      rintro e w' ⟨rfl, rfl⟩
      go_wp2
      go_loopw [3] (fun i wr => ∃ k m : Nat, k ≤ g.n ∧ i = .int .i64 k ∧ wr = w.drewN m ∧ ∀ r, r < k → g.len r = g.len 0 ∧ g.RowTo r (g.len r)) (fun i _ => g.n - (intOf i).toNat)
      case atStart => exact ⟨0, 0, Nat.zero_le _, rfl, rfl, fun r hr => by omega⟩
      case round =>
        obtain ⟨k, m, hk, rfl, rfl, hdone⟩ := hrel
        have HD := Lib.hid hdone
        clear hdone
        by_cases hlt : k < g.n
        · have hlt' : (k : Int) < g.n := by omega
          have q1 := H6.out k hlt
          obtain ⟨ao1, cap1, b1, off1, e1, i2, i3, i4, i5, i6⟩ := H7.out k hlt
          have ea : Ao k = ao1 := by simp only [Value.slice.injEq] at e1; exact e1.1
          have HA := Lib.hid ea
          clear e1 ea i4
          by_cases hne : g.len k = g.len 0
          case neg =>
            have hx : ((g.len k : Int) != g.len 0) = true := by rw [bne_iff_ne]; omega
            have HB := Lib.hid (G.vB_no (g := g) (fun h => hne (h.2.2 k hlt).1))
            clear i5 i6
            go_wp2
            go_quiet (fail)
            go_wp2
            go_ret
            exact eq_post2 HB.out _ _ _
          case pos =>
            have hx : ((g.len k : Int) != g.len 0) = false := by rw [bne_eq_false_iff_eq]; omega
            have hll : g.len k ≤ 7 := by omega
            have HNE := Lib.hid hne
            clear hne
            go_wp2
            go_quiet (fail)
            go_wp2
            clear hx
            go_loopw [4] (fun i wr => ∃ c m' : Nat, c ≤ g.len k ∧ i = .int .i64 c ∧ wr = w.drewN m' ∧ g.RowTo k c) (fun i _ => g.len k - (intOf i).toNat)
            case atStart => exact ⟨0, m + nq, Nat.zero_le _, rfl, World.drewN_drewN .., fun c hc => by omega⟩
            case round =>
              obtain ⟨c, m', hc, rfl, rfl, hrt⟩ := hrel
              have HRT := Lib.hid hrt
              clear hrt
              by_cases hcl : c < g.len k
              · have i5' := (i5 (by omega)).1
                rw [← HA.out] at i5'
                rw [i5'] at q1
                have q2 := i6 c hcl
                have hcl' : (c : Int) < g.len k := by omega
                clear i5 i6 i5'
                by_cases hz : 0 ≤ g.z k c ∧ g.z k c ≤ 99
                · obtain ⟨hz1, hz2⟩ := hz
                  go_wp2_with fail
                  refine (l6In_yes _ _ _ _ hz1 hz2).mono ?_
                  rintro e w' ⟨rfl, rfl⟩
                  go_wp2
                  go_roundw
                  case rel => exact ⟨c + 1, m', by omega, by go_num, rfl, fun c' hc' => by
                    by_cases e : c' = c
                    · subst e; exact ⟨hz1, hz2⟩
                    · exact HRT.out c' (by omega)⟩
                  case measure => simp [intOf]; omega
                · have HB := Lib.hid (G.vB_no (g := g) (fun h => hz ((h.2.2 k hlt).2 c hcl)))
                  go_wp2_with fail
                  refine (l6In_no _ _ _ _ (by omega)).mono ?_
                  rintro e w' ⟨rfl, rfl⟩
                  go_wp2
                  go_ret
                  exact eq_post HB.out _ _
              · have ec : c = g.len k := by omega
                have HEC := Lib.hid ec
                clear ec i5 i6
                go_wp2
                go_roundw
                case rel => exact ⟨k + 1, m', by omega, by go_num, rfl, fun r hr => by
                    by_cases e : r = k
                    · subst e; exact ⟨HNE.out, by rw [← HEC.out]; exact HRT.out⟩
                    · exact HD.out r (by omega)⟩
                case measure => simp [intOf]; omega
        · have HB := Lib.hid (G.vB_yes (g := g) ⟨⟨hN1, hN2⟩, ⟨hL1, hL2⟩, fun r hr => HD.out r (by omega)⟩)
          go_wp2
          go_ret
          exact eq_post HB.out _ _

end Go.Proofs.Ytdjlobppnhokoaa
