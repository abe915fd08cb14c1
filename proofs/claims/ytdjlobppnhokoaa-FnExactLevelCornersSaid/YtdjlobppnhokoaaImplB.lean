/- Which lists the program takes for grids. -/
import Derived.Test.YtdjlobppnhokoaaImplA
namespace Go.Proofs.Ytdjlobppnhokoaa
open Go.RowKit
set_option linter.unusedVariables false

def G.Shape (g : G) : Prop := (1 ≤ g.n ∧ g.n ≤ 7) ∧ (1 ≤ g.len 0 ∧ g.len 0 ≤ 7) ∧ ∀ r, r < g.n → g.len r = g.len 0
noncomputable def G.shB (g : G) : Bool := @decide g.Shape (Classical.propDecidable _)
theorem G.shB_yes {g : G} (h : g.Shape) : g.shB = true := by simp [G.shB, h]
theorem G.shB_no {g : G} (h : ¬ g.Shape) : g.shB = false := by simp [G.shB, h]

def SmPost (b : Bool) (w : World) (e : Ending) (w' : World) : Prop := e = .returned (.bool b) ∧ w = w'
theorem sm_post {b b' : Bool} (h : b' = b) (w : World) : SmPost b' w (.returned (.bool b)) w := ⟨by rw [h], rfl⟩

set_option maxHeartbeats 2000000 in
set_option maxRecDepth 20000 in
theorem shapeFits_any (v : Value) (lo hi : Nat) (g : G) (w : World) (hv : RdM lo hi w v g) :
    Calls Try.prog 80 #[v] w (SmPost g.shB w) := by
  obtain ⟨ao, cap, b, off, Ao, Cp, rfl, a2, a3, a5, a6, a7⟩ := hv
  by_cases hN : 1 ≤ g.n ∧ g.n ≤ 7
  case neg =>
    have HB := Lib.hid (G.shB_no (g := g) (fun h => hN h.1))
    go_enter Try.func80, Try.ntmps80
    go_wp2_with fail
    refine (sideFits_no _ _ (by omega)).mono ?_
    rintro e w' ⟨rfl, rfl⟩
    go_wp2
    go_ret
    exact sm_post HB.out _
  case pos =>
    obtain ⟨hN1, hN2⟩ := hN
    obtain ⟨rfl, hb1, hb2⟩ := a5 (by omega)
    have hc0 := a6 0 (by omega)
    have hc0' : w.cell? ⟨b, off, none⟩ = some (.slice (Ao 0) (g.len 0) (Cp 0)) := by simpa using hc0
    have hix0 : (0 : Int) < g.n := by omega
    clear hc0
    by_cases hL : 1 ≤ g.len 0 ∧ g.len 0 ≤ 7
    case neg =>
      have HB := Lib.hid (G.shB_no (g := g) (fun h => hL h.2.1))
      clear a5 a6 a7
      go_enter Try.func80, Try.ntmps80
      go_wp2_with fail
      refine (sideFits_yes _ _ (by omega) (by omega)).mono ?_
      rintro e w' ⟨rfl, rfl⟩
      go_wp2_with fail
      refine (sideFits_no _ _ (by omega)).mono ?_
      rintro e w' ⟨rfl, rfl⟩
      go_wp2
      go_ret
      exact sm_post HB.out _
    case pos =>
      obtain ⟨hL1, hL2⟩ := hL
      have H6 := Lib.hid a6
      clear a5 a6 a7
      go_enter Try.func80, Try.ntmps80
      go_wp2_with fail
      refine (sideFits_yes _ _ (by omega) (by omega)).mono ?_
      rintro e w' ⟨rfl, rfl⟩
      go_wp2_with fail
      refine (sideFits_yes _ _ (by omega) (by omega)).mono ?_
      rintro e w' ⟨rfl, rfl⟩
      go_wp2
      go_loop [19] (fun i => ∃ k : Nat, k ≤ g.n ∧ i = .int .i64 k ∧ ∀ r, r < k → g.len r = g.len 0) (fun i => g.n - (intOf i).toNat)
      case atStart => exact ⟨0, Nat.zero_le _, rfl, fun r hr => by omega⟩
      case round =>
        obtain ⟨k, hk, rfl, hdone⟩ := hrel
        have HD := Lib.hid hdone
        clear hdone
        by_cases hlt : k < g.n
        · have hlt' : (k : Int) < g.n := by omega
          have q1 := H6.out k hlt
          by_cases hne : g.len k = g.len 0
          case neg =>
            have hx : ((g.len k : Int) != g.len 0) = true := by rw [bne_iff_ne]; omega
            have HB := Lib.hid (G.shB_no (g := g) (fun h => hne (h.2.2 k hlt)))
            go_wp2
            go_ret
            exact sm_post HB.out _
          case pos =>
            have hx : ((g.len k : Int) != g.len 0) = false := by rw [bne_eq_false_iff_eq]; omega
            have HNE := Lib.hid hne
            clear hne
            go_wp2
            go_round
            case rel => exact ⟨k + 1, by omega, by go_num, fun r hr => by
              by_cases e : r = k
              · subst e; exact HNE.out
              · exact HD.out r (by omega)⟩
            case measure => simp [intOf]; omega
        · have HB := Lib.hid (G.shB_yes (g := g) ⟨⟨hN1, hN2⟩, ⟨hL1, hL2⟩, fun r hr => HD.out r (by omega)⟩)
          go_wp2
          go_ret
          exact sm_post HB.out _

def RelOk (R C n : Nat) (Z : Nat → Int) : Prop := (1 ≤ R ∧ R ≤ 7) ∧ (1 ≤ C ∧ C ≤ 7) ∧ ∀ i, i < n → 0 ≤ Z i ∧ Z i ≤ 99
noncomputable def relB (R C n : Nat) (Z : Nat → Int) : Bool := @decide (RelOk R C n Z) (Classical.propDecidable _)
theorem relB_yes {R C n : Nat} {Z : Nat → Int} (h : RelOk R C n Z) : relB R C n Z = true := by simp [relB, h]
theorem relB_no {R C n : Nat} {Z : Nat → Int} (h : ¬ RelOk R C n Z) : relB R C n Z = false := by simp [relB, h]

def BlPost (b : Bool) (w : World) (e : Ending) (w' : World) : Prop := e = .returned (.bool b) ∧ Below w.heap.size w w'
theorem bl_post {b b' : Bool} (h : b' = b) {w w' : World} (hb : Below w.heap.size w w') : BlPost b' w (.returned (.bool b)) w' := ⟨by rw [h], hb⟩

/-- a relief as a value: so many rows and columns, and n heights in block gg -/
def relVal (R C n gg cap : Nat) : Value := .agg #[.int .i64 R, .int .i64 C, .slice (some ⟨gg, 0, none⟩) n cap]

set_option maxHeartbeats 2000000 in
set_option maxRecDepth 20000 in
theorem valid_any (R C n gg cap : Nat) (Z : Nat → Int) (w : World) (hc : ∀ i, i < n → w.cell? ⟨gg, i, none⟩ = some (.int .i64 (Z i))) (hn : n ≤ 1000) (hgg : gg < w.heap.size) (hR : R ≤ 1000) (hC : C ≤ 1000) :
    Calls Try.prog 83 #[.agg #[.int .i64 R, .int .i64 C, .slice (some ⟨gg, 0, none⟩) n cap]] w (BlPost (relB R C n Z) w) := by
  have HC := Lib.hid hc
  clear hc
  by_cases h1 : 1 ≤ R ∧ R ≤ 7
  case neg =>
    have HB := Lib.hid (relB_no (R := R) (C := C) (n := n) (Z := Z) (fun h => h1 h.1))
    go_enter Try.func83, Try.ntmps83
    go_wp2_with fail
    refine (sideFits_no _ _ (by omega)).mono ?_
    rintro e w' ⟨rfl, rfl⟩
    go_wp2
    go_ret
    exact bl_post HB.out ((Below.refl _ _).alloc (Nat.le_refl _) _)
  case pos =>
    obtain ⟨h11, h12⟩ := h1
    by_cases h2 : 1 ≤ C ∧ C ≤ 7
    case neg =>
      have HB := Lib.hid (relB_no (R := R) (C := C) (n := n) (Z := Z) (fun h => h2 h.2.1))
      go_enter Try.func83, Try.ntmps83
      go_wp2_with fail
      refine (sideFits_yes _ _ (by omega) (by omega)).mono ?_
      rintro e w' ⟨rfl, rfl⟩
      go_wp2_with fail
      refine (sideFits_no _ _ (by omega)).mono ?_
      rintro e w' ⟨rfl, rfl⟩
      go_wp2
      go_ret
      exact bl_post HB.out ((Below.refl _ _).alloc (Nat.le_refl _) _)
    case pos =>
      obtain ⟨h21, h22⟩ := h2
      go_enter Try.func83, Try.ntmps83
      go_wp2_with fail
      refine (sideFits_yes _ _ (by omega) (by omega)).mono ?_
      rintro e w' ⟨rfl, rfl⟩
      go_wp2_with fail
      refine (sideFits_yes _ _ (by omega) (by omega)).mono ?_
      rintro e w' ⟨rfl, rfl⟩
      go_wp2
      go_loop [18] (fun i => ∃ k : Nat, k ≤ n ∧ i = .int .i64 k ∧ ∀ j, j < k → 0 ≤ Z j ∧ Z j ≤ 99) (fun i => n - (intOf i).toNat)
      case atStart => exact ⟨0, Nat.zero_le _, rfl, fun r hr => by omega⟩
      case round =>
        obtain ⟨k, hk, rfl, hdone⟩ := hrel
        have HD := Lib.hid hdone
        clear hdone
        by_cases hlt : k < n
        · have hlt' : (k : Int) < n := by omega
          have q1 : ∀ o, (w.alloc o).cell? ⟨gg, k, none⟩ = some (.int .i64 (Z k)) := fun o => (World.cell?_of_block (a := ⟨gg, k, none⟩) (Below.heap_alloc w o gg hgg)).trans (HC.out k hlt)
          by_cases hz : 0 ≤ Z k ∧ Z k ≤ 99
          · obtain ⟨hz1, hz2⟩ := hz
            go_wp2_with fail
            refine (isHeight_yes _ _ hz1 hz2).mono ?_
            rintro e w' ⟨rfl, rfl⟩
            go_wp2
            go_round
            case rel => exact ⟨k + 1, by omega, by go_num, fun j hj => by
              by_cases e : j = k
              · subst e; exact ⟨hz1, hz2⟩
              · exact HD.out j (by omega)⟩
            case measure => simp [intOf]; omega
          · have HB := Lib.hid (relB_no (R := R) (C := C) (n := n) (Z := Z) (fun h => hz (h.2.2 k hlt)))
            go_wp2_with fail
            refine (isHeight_no _ _ (by omega)).mono ?_
            rintro e w' ⟨rfl, rfl⟩
            go_wp2
            go_ret
            exact bl_post HB.out ((Below.refl _ _).alloc (Nat.le_refl _) _)
        · have e : k = n := by omega
          subst e
          have HB := Lib.hid (relB_yes (R := R) (C := C) (n := k) (Z := Z) ⟨⟨h11, h12⟩, ⟨h21, h22⟩, HD.out⟩)
          go_wp2
          go_ret
          exact bl_post HB.out ((Below.refl _ _).alloc (Nat.le_refl _) _)

end Go.Proofs.Ytdjlobppnhokoaa
