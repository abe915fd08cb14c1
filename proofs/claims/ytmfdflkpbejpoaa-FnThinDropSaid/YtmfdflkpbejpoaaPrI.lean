/- Profiles of the program: what is one, which points it has, the sight between two eyes as a closure, who sees whom. -/
import Derived.Test.YtmfdflkpbejpoaaPrM
namespace Go.Proofs.Ytmfdflkpbejpoaa
open Go.RowKit
set_option linter.unusedVariables false

theorem cells2e {w : World} {b : Nat} {x y : Value} {t : TypeId} (h : w.heap[b]? = some (.cells #[x, y] t (0, 0))) :
    w.cell? ⟨b, 0, none⟩ = some x ∧ w.cell? ⟨b, 1, none⟩ = some y ∧ w.frozen? ⟨b, 0, none⟩ = false ∧ w.frozen? ⟨b, 1, none⟩ = false :=
  ⟨by simp [World.cell?, h], by simp [World.cell?, h], by simp [World.frozen?, h], by simp [World.frozen?, h]⟩
set_option maxHeartbeats 2000000 in
set_option maxRecDepth 20000 in
theorem profileOf_yes (v : Value) (lo hi n : Nat) (Z : Nat → Int) (w : World) (hv : RdI lo hi w v n Z) (hok : PrOk n Z) :
    Calls Try.prog 58 #[v] w fun e w' => e = .returned (.tuple #[v, .bool true]) ∧ w = w' := by
  obtain ⟨b, off, cap, rfl, h2, _, _, h6⟩ := hv.open (by have := hok.1.1; omega)
  have H6 := Lib.hid h6
  have HZ := Lib.hid hok.2
  obtain ⟨hn1, hn2⟩ := hok.1
  clear h6 hok hv
  go_enter Try.func58, Try.ntmps58
  go_wp2
  go_loop [16] (fun i => ∃ k : Nat, k ≤ n ∧ i = .int .i64 k) (fun i => n - (intOf i).toNat)
  case atStart => exact ⟨0, Nat.zero_le _, rfl⟩
  case round =>
    obtain ⟨k, hk, rfl⟩ := hrel
    by_cases hlt : k < n
    · have q1 := H6.out k hlt
      have hlt' : (k : Int) < n := by omega
      obtain ⟨hz1, hz2⟩ := HZ.out k hlt
      go_wp2_with fail
      refine (isHeight_yes _ _ hz1 hz2).mono ?_
      rintro e w' ⟨rfl, rfl⟩
      go_wp2
      go_round
      case rel => exact ⟨k + 1, by omega, by go_num⟩
      case measure => simp [intOf]; omega
    · go_wp2
      go_ret2
      exact ⟨rfl, rfl⟩

set_option maxHeartbeats 2000000 in
set_option maxRecDepth 20000 in
theorem profileOf_no (v : Value) (lo hi n : Nat) (Z : Nat → Int) (w : World) (hv : RdI lo hi w v n Z) (hok : ¬ PrOk n Z) :
    Calls Try.prog 58 #[v] w fun e w' => e = .returned (.tuple #[.slice none 0 0, .bool false]) ∧ w = w' := by
  by_cases h1 : n < 1
  · obtain ⟨ao, cap, rfl⟩ := hv.shape
    clear hok hv
    have h1' : (n : Int) < 1 := by omega
    go_enter Try.func58, Try.ntmps58
    go_wp2
    go_ret2
    exact ⟨rfl, rfl⟩
  · by_cases h3 : 20 < n
    · obtain ⟨ao, cap, rfl⟩ := hv.shape
      clear hok hv
      have h1' : ¬ (n : Int) < 1 := by omega
      have h3' : (20 : Int) < n := by omega
      go_enter Try.func58, Try.ntmps58
      go_wp2
      go_ret2
      exact ⟨rfl, rfl⟩
    · obtain ⟨b, off, cap, rfl, h2, _, _, h6⟩ := hv.open (by omega)
      have H6 := Lib.hid h6
      have HN := Lib.hid (show ¬ ∀ j, j < n → 0 ≤ Z j ∧ Z j ≤ 99 from fun g => hok ⟨⟨by omega, by omega⟩, g⟩)
      have h1' : ¬ (n : Int) < 1 := by omega
      have h3' : ¬ (20 : Int) < n := by omega
      clear h6 hok hv
      go_enter Try.func58, Try.ntmps58
      go_wp2
      go_loop [16] (fun i => ∃ k : Nat, k ≤ n ∧ i = .int .i64 k ∧ ∀ j, j < k → 0 ≤ Z j ∧ Z j ≤ 99) (fun i => n - (intOf i).toNat)
      case atStart => exact ⟨0, Nat.zero_le _, rfl, fun j hj => by omega⟩
      case round =>
        obtain ⟨k, hk, rfl, hd⟩ := hrel
        have HD := Lib.hid hd
        clear hd
        by_cases hlt : k < n
        · have q1 := H6.out k hlt
          have hlt' : (k : Int) < n := by omega
          by_cases hz : 0 ≤ Z k ∧ Z k ≤ 99
          · obtain ⟨hz1, hz2⟩ := hz
            go_wp2_with fail
            refine (isHeight_yes _ _ hz1 hz2).mono ?_
            rintro e w' ⟨rfl, rfl⟩
            go_wp2
            go_round
            case rel => exact ⟨k + 1, by omega, by go_num, fun j hj => by
              by_cases e : j = k
              · subst e; exact ⟨hz1, hz2⟩
              · exact HD.out j (by omega)⟩
            case measure => simp [intOf]; omega
          · go_wp2_with fail
            refine (isHeight_no _ _ (by omega)).mono ?_
            rintro e w' ⟨rfl, rfl⟩
            go_wp2
            go_ret2
            exact ⟨rfl, rfl⟩
        · exact absurd (fun j hj => HD.out j (by omega)) HN.out

/-- an eye -/
def eyeV (a : Nat) (ha : Int) : Value := .agg #[.int .i64 a, .int .i64 ha]

noncomputable def unB (z : Nat → Int) (a : Nat) (ha : Int) (b : Nat) (hb : Int) (j : Nat) : Bool := @decide (Und z a ha b hb j) (Classical.propDecidable _)
theorem unB_yes {z : Nat → Int} {a b j : Nat} {ha hb : Int} (h : Und z a ha b hb j) : unB z a ha b hb j = true := by simp [unB, h]
theorem unB_no {z : Nat → Int} {a b j : Nat} {ha hb : Int} (h : ¬ Und z a ha b hb j) : unB z a ha b hb j = false := by simp [unB, h]

end Go.Proofs.Ytmfdflkpbejpoaa
