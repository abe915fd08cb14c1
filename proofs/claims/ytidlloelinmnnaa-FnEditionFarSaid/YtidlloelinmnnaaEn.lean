/- Short corrections: the model's FixesAre. -/
import Derived.Test.YtidlloelinmnnaaEm
namespace Go.Proofs.Ytidlloelinmnnaa
open Go.RowKit Go.Shelf
set_option linter.unusedVariables false
set_option linter.unusedSimpArgs false

set_option maxRecDepth 20000 in
set_option maxHeartbeats 4000000 in
theorem specFixesAre_any (v u : Value) (lo hi n : Nat) (g : G) (Z : Nat → Int) (w : World) (hv : RdM lo hi w v g) (hu : RdT lo hi w u n Z) (hh : hi ≤ w.heap.size) (hn : n ≤ 1048576) :
    Calls Try.prog 60 #[v, u] w (BlPost (areB g n Z) w) := by
  have HV := Lib.hid (fun (W : World) (hb : Below w.heap.size w W) => specFixesValid_any v u lo hi n g Z W (hv.same (SameIn.below hb hh)) (hu.same (SameIn.below hb hh)) (Nat.le_trans hh hb.size) hn)
  have HU := Lib.hid hu
  obtain ⟨au, cu, rfl⟩ := hu.shape
  have hcn : n ≤ cu ∧ cu ≤ 9223372036854775807 := by obtain ⟨_, _, _, _, he, q1, q2, _⟩ := hu; simp only [Value.slice.injEq] at he; omega
  have HLOW := Lib.hid (Below.refl w.heap.size w)
  clear hv hu
  go_enter Try.func60, Try.ntmps60
  go_wp2
  go_loopw [5] (fun i wr => ∃ m : Nat, (m + 1 ≤ n ∨ m = 0) ∧ i = .int .i64 ((m + 1 : Nat) : Int) ∧ (∀ j, j < m → Lx (fxAt Z j) (fxAt Z (j + 1))) ∧ Below w.heap.size w wr) (fun i _ => n - (intOf i).toNat)
  case atStart => exact ⟨0, Or.inr rfl, rfl, fun j hj => absurd hj (Nat.not_lt_zero j), HLOW.out⟩
  case round =>
    obtain ⟨m, hm, rfl, hord, hbw⟩ := hrel
    have HORD := Lib.hid hord
    have HBW := Lib.hid hbw
    by_cases hlt : m + 1 < n
    · obtain ⟨bk, off, cap, hsl, hc1, hc2, _, hbh, hcell⟩ := (HU.out.same (SameIn.below hbw hh)).open (by omega)
      simp only [Value.slice.injEq] at hsl
      obtain ⟨rfl, _, rfl⟩ := hsl
      have hbl : bk < wr.heap.size := by have := hbw.size; omega
      have hlt' : ((m + 1 : Nat) : Int) < n := by omega
      have hm1 : ((m + 1 : Nat) : Int) - 1 = m := by omega
      have hm2 : (m : Int) < n := by omega
      obtain ⟨q0, q1, q2, q3⟩ := four_of hcell (k := m) (by omega)
      obtain ⟨p0, p1, p2, p3⟩ := four_of hcell (k := m + 1) (by omega)
      have HLX := Lib.hid (show Lx (fxAt Z m) (fxAt Z (m + 1)) ↔ (Z (m * 4) < Z ((m + 1) * 4) ∨ Z (m * 4) = Z ((m + 1) * 4) ∧ Z (m * 4 + 1) < Z ((m + 1) * 4 + 1)) from Iff.rfl)
      obtain ⟨a, ea⟩ : ∃ A, Z (m * 4) = A := ⟨_, rfl⟩
      obtain ⟨b, eb⟩ : ∃ A, Z (m * 4 + 1) = A := ⟨_, rfl⟩
      obtain ⟨x1, e1⟩ : ∃ A, Z (m * 4 + 2) = A := ⟨_, rfl⟩
      obtain ⟨x2, e2⟩ : ∃ A, Z (m * 4 + 3) = A := ⟨_, rfl⟩
      obtain ⟨c, ec⟩ : ∃ A, Z ((m + 1) * 4) = A := ⟨_, rfl⟩
      obtain ⟨d, ed⟩ : ∃ A, Z ((m + 1) * 4 + 1) = A := ⟨_, rfl⟩
      obtain ⟨x3, e3⟩ : ∃ A, Z ((m + 1) * 4 + 2) = A := ⟨_, rfl⟩
      obtain ⟨x4, e4⟩ : ∃ A, Z ((m + 1) * 4 + 3) = A := ⟨_, rfl⟩
      rw [ea] at q0 HLX
      rw [eb] at q1 HLX
      rw [e1] at q2
      rw [e2] at q3
      rw [ec] at p0 HLX
      rw [ed] at p1 HLX
      rw [e3] at p2
      rw [e4] at p3
      clear ea eb e1 e2 ec ed e3 e4 hcell hord
      obtain ⟨K, hK⟩ : ∃ K, m + 1 = K := ⟨_, rfl⟩
      rw [hK] at p0 p1 p2 p3 hlt' hm1 ⊢
      have hKm := Lib.hid hK
      have hfar : ∀ (y : Nat) (A : Obj), (wr.alloc A).cell? ⟨bk, y, none⟩ = wr.cell? ⟨bk, y, none⟩ := fun y A => ((Below.refl wr.heap.size wr).alloc (Nat.le_refl _) A).cell (p := ⟨bk, y, none⟩) hbl
      obtain ⟨W2, hW2, hs2, k0, k1, kb⟩ := two_allocs2 wr (.cells #[.int .i64 a, .int .i64 b, .int .i64 x1, .int .i64 x2] 63) (.cells #[.int .i64 c, .int .i64 d, .int .i64 x3, .int .i64 x4] 63)
      obtain ⟨a0, a1, a2, a3⟩ := cellsLb k0
      obtain ⟨b0, b1, b2, b3⟩ := cellsLb k1
      rw [hW2] at a0 a1 b0 b1
      have HB3 := Lib.hid (hbw.trans (kb.mono hbw.size))
      rw [hW2] at HB3
      clear a2 a3 b2 b3 hK k0 k1 kb hs2 hW2 W2 hbw hm hlt
      by_cases h1 : c < a
      · have HNO := Lib.hid (areB_no (g := g) (n := n) (Z := Z) (fun h => by
          have := HLX.out.1 ((shL_iff Z n 0).1 h.2 m (by omega) |> fun h => by simpa using h)
          omega))
        go_wp2
        go_ret
        exact ⟨by rw [HNO.out]; rfl, HB3.out⟩
      by_cases h2 : a = c
      · subst h2
        by_cases h3 : d ≤ b
        · have HNO := Lib.hid (areB_no (g := g) (n := n) (Z := Z) (fun h => by
            have := HLX.out.1 ((shL_iff Z n 0).1 h.2 m (by omega) |> fun h => by simpa using h)
            omega))
          go_wp2
          go_ret
          exact ⟨by rw [HNO.out]; rfl, HB3.out⟩
        · have HYES := Lib.hid (HLX.out.2 (Or.inr ⟨rfl, by omega⟩))
          go_wp2
          go_roundw
          case rel => exact ⟨m + 1, Or.inl (by omega), by go_num, fun j hj => by
            by_cases hj' : j < m
            · exact HORD.out j hj'
            · obtain rfl : j = m := by omega
              exact HYES.out, HB3.out⟩
          case measure => simp [intOf]; omega
      · have HYES := Lib.hid (HLX.out.2 (Or.inl (by omega)))
        go_wp2
        go_roundw
        case rel => exact ⟨m + 1, Or.inl (by omega), by go_num, fun j hj => by
          by_cases hj' : j < m
          · exact HORD.out j hj'
          · obtain rfl : j = m := by omega
            exact HYES.out, HB3.out⟩
        case measure => simp [intOf]; omega
    · have hge : ¬ ((m + 1 : Nat) : Int) < n := by omega
      have HSH := Lib.hid ((shL_iff Z n 0).2 (fun j hj => by
        rw [Nat.zero_add]
        exact HORD.out j (by omega)))
      have HVW := Lib.hid (HV.out wr hbw)
      have HEQ := Lib.hid (show fxB g n Z = areB g n Z by
        by_cases h : FxOk g n Z
        · rw [fxB_yes h, areB_yes ⟨h, HSH.out⟩]
        · rw [fxB_no h, areB_no (fun k => h k.1)])
      rw [HEQ.out] at HVW
      clear hbw hord hm hlt
      go_wp2_with fail
      refine HVW.out.mono ?_
      rintro e w3 ⟨rfl, hb3⟩
      have HB3 := Lib.hid (HBW.out.trans (hb3.mono HBW.out.size))
      clear hb3
      go_wp2
      go_ret
      exact ⟨rfl, HB3.out⟩

end Go.Proofs.Ytidlloelinmnnaa
