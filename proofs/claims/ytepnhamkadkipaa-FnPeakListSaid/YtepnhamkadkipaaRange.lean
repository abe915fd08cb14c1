/- GridRange of the model and of the program. -/
import Derived.Test.YtepnhamkadkipaaSpecG
import Derived.Lib.MinMax
namespace Go.Proofs.Ytepnhamkadkipaa
open Go.RowKit
set_option linter.unusedVariables false

/-- the least and the greatest of the first numbers -/
def mn (Z : Nat → Int) : Nat → Int
  | 0 => Z 0
  | k + 1 => min (mn Z k) (Z k)
def mx (Z : Nat → Int) : Nat → Int
  | 0 => Z 0
  | k + 1 => max (mx Z k) (Z k)

theorem mn_succ (Z : Nat → Int) (k : Nat) : mn Z (k + 1) = min (mn Z k) (Z k) := rfl
theorem mx_succ (Z : Nat → Int) (k : Nat) : mx Z (k + 1) = max (mx Z k) (Z k) := rfl
theorem mn_one (Z : Nat → Int) : mn Z 1 = Z 0 := by simp [mn]
theorem mx_one (Z : Nat → Int) : mx Z 1 = Z 0 := by simp [mx]

set_option maxHeartbeats 1000000 in
theorem slicesMin_any (n gg cap : Nat) (Z : Nat → Int) (w : World) (h1 : 1 ≤ n) (h2 : n ≤ 1000) (hc : ∀ i, i < n → w.cell? ⟨gg, i, none⟩ = some (.int .i64 (Z i))) :
    Calls Try.prog 52 #[.slice (some ⟨gg, 0, none⟩) n cap] w fun e w' => e = .returned (.int .i64 (mn Z n)) ∧ w' = w := by
  have HC := Lib.hid hc
  have hc0 := hc 0 (by omega)
  have hn0 : (0 : Int) < n := by omega
  have hn1 : 0 < n := by omega
  clear hc
  go_enter Try.func52, Try.ntmps52
  go_wp2
  go_loop [3, 4] (fun m i => ∃ k : Nat, 1 ≤ k ∧ k ≤ n ∧ i = .int .i64 k ∧ m = .int .i64 (mn Z k)) (fun _ i => n - (intOf i).toNat)
  case atStart => exact ⟨1, by omega, by omega, rfl, by rw [mn_one]⟩
  case round =>
    obtain ⟨k, hk1, hk, rfl, rfl⟩ := hrel
    by_cases hlt : k < n
    · have hlt' : (k : Int) < n := by omega
      have q1 := HC.out k hlt
      clear hc0
      go_wp2
      go_round
      case rel => exact ⟨k + 1, by omega, by omega, by go_num, by simp only [mn]⟩
      case measure => simp [intOf]; omega
    · have e : k = n := by omega
      subst e
      clear hc0
      go_wp2
      go_ret
      exact ⟨rfl, rfl⟩

set_option maxHeartbeats 1000000 in
theorem slicesMax_any (n gg cap : Nat) (Z : Nat → Int) (w : World) (h1 : 1 ≤ n) (h2 : n ≤ 1000) (hc : ∀ i, i < n → w.cell? ⟨gg, i, none⟩ = some (.int .i64 (Z i))) :
    Calls Try.prog 53 #[.slice (some ⟨gg, 0, none⟩) n cap] w fun e w' => e = .returned (.int .i64 (mx Z n)) ∧ w' = w := by
  have HC := Lib.hid hc
  have hc0 := hc 0 (by omega)
  have hn0 : (0 : Int) < n := by omega
  have hn1 : 0 < n := by omega
  clear hc
  go_enter Try.func53, Try.ntmps53
  go_wp2
  go_loop [3, 4] (fun m i => ∃ k : Nat, 1 ≤ k ∧ k ≤ n ∧ i = .int .i64 k ∧ m = .int .i64 (mx Z k)) (fun _ i => n - (intOf i).toNat)
  case atStart => exact ⟨1, by omega, by omega, rfl, by rw [mx_one]⟩
  case round =>
    obtain ⟨k, hk1, hk, rfl, rfl⟩ := hrel
    by_cases hlt : k < n
    · have hlt' : (k : Int) < n := by omega
      have q1 := HC.out k hlt
      clear hc0
      go_wp2
      go_round
      case rel => exact ⟨k + 1, by omega, by omega, by go_num, by simp only [mx]⟩
      case measure => simp [intOf]; omega
    · have e : k = n := by omega
      subst e
      clear hc0
      go_wp2
      go_ret
      exact ⟨rfl, rfl⟩

def TriPost (a b : Int) (c : Bool) (w : World) (e : Ending) (w' : World) : Prop := e = .returned (.tuple #[.int .i64 a, .int .i64 b, .bool c]) ∧ Below w.heap.size w w'

set_option maxHeartbeats 2000000 in
theorem specGridRange_yes (v : Value) (lo hi : Nat) (g : G) (w : World) (hv : RdM lo hi w v g) (h : g.Valid) :
    Calls Try.prog 57 #[v] w (TriPost (mn g.flat (g.n * g.len 0)) (mx g.flat (g.n * g.len 0)) true w) := by
  have HV := Lib.hid (specValid_any v lo hi g w hv)
  have HB := Lib.hid (G.vB_yes h)
  have HH := Lib.hid h
  have hn1 := h.1.1
  have hn7 := h.1.2
  have hl1 := h.2.1.1
  have hl7 := h.2.1.2
  have HRD := Lib.hid hv
  obtain ⟨b, off, cap, b1, off1, cp, rfl, p1, p2, _, _⟩ := hv.cellAt (r := 0) (c := 0) (by omega) (by omega)
  have hn0 : (0 : Int) < g.n := by omega
  have hn0' : 0 < g.n := by omega
  have hl0 : (0 : Int) < g.len 0 := by omega
  have hl0' : 0 < g.len 0 := by omega
  have P1 : w.cell? ⟨b, off, none⟩ = some (.slice (some ⟨b1, off1, none⟩) (g.len 0) cp) := by simpa using p1
  have P2 : w.cell? ⟨b1, off1, none⟩ = some (.int .i64 (g.flat 0)) := by
    have e : g.flat 0 = g.z 0 0 := by
      have := g.flat_at 0 0 hl0'
      simpa using this
    rw [e]; simpa using p2
  clear h hv p1 p2
  go_enter Try.func57, Try.ntmps57
  go_wp2_with fail
  refine HV.out.mono ?_
  rintro e w1 ⟨rfl, n1, rfl⟩
  rw [HB.out]
  go_wp2
  go_loop [5, 6, 7] (fun lw hg i => ∃ r : Nat, r ≤ g.n ∧ i = .int .i64 r ∧ lw = .int .i64 (mn g.flat (r * g.len 0)) ∧ hg = .int .i64 (mx g.flat (r * g.len 0))) (fun _ _ i => g.n - (intOf i).toNat)
  case atStart => exact ⟨0, Nat.zero_le _, rfl, by simp [mn], by simp [mx]⟩
  case round =>
    obtain ⟨r, hr, rfl, rfl, rfl⟩ := hrel
    clear P1 P2
    by_cases hlt : r < g.n
    · have hlt' : (r : Int) < g.n := by omega
      have hlr : g.len r = g.len 0 := (HH.out.2.2 r hlt).1
      obtain ⟨b', off', cap', b2, off2, cp2, e1, p1, _, _, _⟩ := HRD.out.cellAt (r := r) (c := 0) hlt (by omega)
      simp only [Value.slice.injEq, Option.some.injEq, Addr.mk.injEq, and_true, true_and] at e1
      obtain ⟨⟨rfl, rfl⟩, rfl⟩ := e1
      have HLR := Lib.hid hlr
      have hlr7 : g.len r ≤ 7 := by omega
      clear hlr
      go_wp2
      go_loop [5, 6, 8] (fun lw hg i => ∃ c : Nat, c ≤ g.len r ∧ i = .int .i64 c ∧ lw = .int .i64 (mn g.flat (r * g.len 0 + c)) ∧ hg = .int .i64 (mx g.flat (r * g.len 0 + c))) (fun _ _ i => g.len r - (intOf i).toNat)
      case atStart => exact ⟨0, Nat.zero_le _, rfl, rfl, rfl⟩
      case round =>
        obtain ⟨c, hc, rfl, rfl, rfl⟩ := hrel
        by_cases hcl : c < g.len r
        · have hcl' : (c : Int) < g.len r := by omega
          obtain ⟨b', off', cap', b3, off3, cp3, e1, p3, p4, _, _⟩ := HRD.out.cellAt (r := r) (c := c) hlt hcl
          simp only [Value.slice.injEq, Option.some.injEq, Addr.mk.injEq, and_true, true_and] at e1
          obtain ⟨⟨rfl, rfl⟩, rfl⟩ := e1
          have hz := g.flat_at r c (by have := HLR.out; omega)
          rw [← hz] at p4
          have HZ := Lib.hid hz
          clear hz p1
          go_wp2
          go_round
          case rel => exact ⟨c + 1, by omega, by go_num, by rw [← Nat.add_assoc, mn_succ], by rw [← Nat.add_assoc, mx_succ]⟩
          case measure => simp [intOf]; omega
        · have ec : c = g.len r := by omega
          have E1 : Hid (r * g.len 0 + c = (r + 1) * g.len 0) := by
            show r * g.len 0 + c = (r + 1) * g.len 0
            rw [Nat.add_mul, ec, HLR.out]; omega
          clear ec
          go_wp2
          go_round
          case rel => exact ⟨r + 1, by omega, by go_num, by rw [E1.out], by rw [E1.out]⟩
          case measure => simp [intOf]; omega
    · have er : r = g.n := by omega
      subst er
      go_wp2
      go_ret3
      exact ⟨rfl, below_drewN (Below.refl _ _) _⟩

set_option maxHeartbeats 1000000 in
theorem specGridRange_no (v : Value) (lo hi : Nat) (g : G) (w : World) (hv : RdM lo hi w v g) (h : ¬ g.Valid) :
    Calls Try.prog 57 #[v] w (TriPost 0 0 false w) := by
  have HV := Lib.hid (specValid_any v lo hi g w hv)
  have HB := Lib.hid (G.vB_no h)
  clear h hv
  go_enter Try.func57, Try.ntmps57
  go_wp2_with fail
  refine HV.out.mono ?_
  rintro e w1 ⟨rfl, n1, rfl⟩
  rw [HB.out]
  go_wp2
  go_ret3
  exact ⟨rfl, below_drewN (Below.refl _ _) _⟩

set_option maxHeartbeats 1000000 in
theorem implGridRange_no (v : Value) (lo hi : Nat) (g : G) (w : World) (hv : RdM lo hi w v g) (hh : hi ≤ w.heap.size) (h : ¬ g.Valid) :
    Calls Try.prog 25 #[v] w (TriPost 0 0 false w) := by
  have HC := Lib.hid (reliefOf_no v lo hi g w hv hh h)
  clear hv h
  go_enter Try.func25, Try.ntmps25
  go_wp2_with fail
  refine HC.out.mono ?_
  rintro e w1 ⟨rfl, hb1⟩
  have HB2 := Lib.hid (hb1.alloc hb1.size (.cells #[.int .i64 0, .int .i64 0, .slice none 0 0] 49))
  clear hb1
  go_wp2
  go_ret3
  exact ⟨rfl, HB2.out⟩

set_option maxHeartbeats 2000000 in
theorem implGridRange_yes (v : Value) (lo hi : Nat) (g : G) (w : World) (hv : RdM lo hi w v g) (hh : hi ≤ w.heap.size) (h : g.Valid) :
    Calls Try.prog 25 #[v] w (TriPost (mn g.flat (g.n * g.len 0)) (mx g.flat (g.n * g.len 0)) true w) := by
  have HC := Lib.hid (reliefOf_yes v lo hi g w hv hh h)
  have HH := Lib.hid h
  clear hv h
  go_enter Try.func25, Try.ntmps25
  go_wp2_with fail
  refine HC.out.mono ?_
  intro e w1 hq
  obtain ⟨n, gg, cap, rfl, hrv, hb1⟩ := hq.rv
  have hn : 1 ≤ n ∧ n ≤ 1000 := by
    rw [hrv.n_eq]
    have h1 := mul_le_49 HH.out.1.2 HH.out.2.1.2
    have h2 := Nat.mul_le_mul HH.out.1.1 HH.out.2.1.1
    omega
  have HNE := Lib.hid hrv.n_eq
  have HB1 := Lib.hid (hb1.alloc hb1.size (.cells #[.int .i64 g.n, .int .i64 (g.len 0), .slice (some ⟨gg, 0, none⟩) n cap] 49))
  have hrv2 := hrv.keep ((Below.refl w1.heap.size w1).alloc (Nat.le_refl _) (.cells #[.int .i64 g.n, .int .i64 (g.len 0), .slice (some ⟨gg, 0, none⟩) n cap] 49)) (Nat.le_refl _)
  have HMN := Lib.hid (fun (W : World) (hW : W.heap = (w1.alloc (.cells #[.int .i64 g.n, .int .i64 (g.len 0), .slice (some ⟨gg, 0, none⟩) n cap] 49)).heap) => slicesMin_any n gg cap g.flat W hn.1 hn.2 (fun i hi => (World.cell?_of_block (a := ⟨gg, i, none⟩) (by rw [hW])).trans (hrv2.cell i hi)))
  have HMX := Lib.hid (fun (W : World) (hW : W.heap = (w1.alloc (.cells #[.int .i64 g.n, .int .i64 (g.len 0), .slice (some ⟨gg, 0, none⟩) n cap] 49)).heap) => slicesMax_any n gg cap g.flat W hn.1 hn.2 (fun i hi => (World.cell?_of_block (a := ⟨gg, i, none⟩) (by rw [hW])).trans (hrv2.cell i hi)))
  clear hq hrv hb1 hrv2 hn
  go_wp2
  go_quiet ((first | (go_at_call 52; exact Calls.quiet_of_same (HMN.out _ rfl)) | (go_at_call 53; exact Calls.quiet_of_same (HMX.out _ rfl))))
  go_wp2
  go_ret3
  exact ⟨by rw [← HNE.out]; rfl, below_drewN HB1.out _⟩

end Go.Proofs.Ytepnhamkadkipaa
