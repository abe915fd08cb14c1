/- The program reads the number of a sheet. -/
import Derived.Test.YtilibhjibcndoaaDoorNmF
namespace Go.Proofs.YtilibhjibcndoaaDoor
open Go.RowKit
set_option linter.unusedVariables false

def NuPost (n : Int) (b : Bool) (w : World) (e : Ending) (w' : World) : Prop := e = .returned (.tuple #[.int .i64 n, .bool b]) ∧ w = w'

set_option maxHeartbeats 1000000 in
theorem num_nil (w : World) : Calls Tryd.prog 62 #[.string ⟨#[]⟩] w (NuPost 0 false w) := by
  go_enter Tryd.func62, Tryd.ntmps62
  go_wp2
  go_ret2
  exact ⟨rfl, rfl⟩

set_option maxHeartbeats 1000000 in
theorem num_long (t : ByteArray) (w : World) (h : 3 ≤ t.size) (hm : t.size ≤ 9223372036854775807) : Calls Tryd.prog 62 #[.string t] w (NuPost 0 false w) := by
  have h1 : ¬ ((t.size : Int) < 1) := by omega
  have h2 : (2 : Int) < t.size := by omega
  go_enter Tryd.func62, Tryd.ntmps62
  go_wp2
  go_ret2
  exact ⟨rfl, rfl⟩

/-- a digit's byte -/
def Dg (a : Nat) : Prop := 48 ≤ a ∧ a ≤ 57

set_option maxHeartbeats 1000000 in
theorem num_zero (t : ByteArray) (n : Nat) (w : World) (hn : 1 ≤ n ∧ n ≤ 2) (h0 : 0 < t.size) (hs : t.size = n) (ha : (t[0]'h0).toNat = 48) : Calls Tryd.prog 62 #[.string t] w (NuPost 0 false w) := by
  have h1 : ¬ ((n : Int) < 1) := by omega
  have h2 : ¬ ((2 : Int) < n) := by omega
  have h3 : 0 < n := by omega
  have h4 : (0 : Int) < n := by omega
  clear hn
  go_enter Tryd.func62, Tryd.ntmps62
  go_wp2
  go_ret2
  exact ⟨rfl, rfl⟩

set_option maxHeartbeats 2000000 in
theorem num_one_no (t : ByteArray) (a : Nat) (w : World) (hs : t.size = 1) (ha : (t[0]'(by omega)).toNat = a) (h : ¬ Dg a) : Calls Tryd.prog 62 #[.string t] w (NuPost 0 false w) := by
  have h48 : ((a : Int) == 48) = false := by unfold Dg at h; rw [beq_eq_false_iff_ne]; omega
  have hc : (a : Int) < 48 ∨ (57 : Int) < a := by unfold Dg at h; omega
  clear h
  go_enter Tryd.func62, Tryd.ntmps62
  go_wp2
  go_loop [4, 21] (fun n i => n = .int .i64 0 ∧ i = .int .i64 0) (fun _ _ => 0)
  case atStart => exact ⟨rfl, rfl⟩
  case round =>
    obtain ⟨rfl, rfl⟩ := hrel
    rcases hc with h | h
    · have h5 : ¬ ((48 : Int) ≤ a) := by omega
      go_wp2
      go_ret2
      exact ⟨rfl, rfl⟩
    · have h5 : (48 : Int) ≤ a := by omega
      have h6 : ¬ ((a : Int) ≤ 57) := by omega
      go_wp2
      go_ret2
      exact ⟨rfl, rfl⟩

set_option maxHeartbeats 2000000 in
theorem num_one_yes (t : ByteArray) (a : Nat) (w : World) (hs : t.size = 1) (ha : (t[0]'(by omega)).toNat = a) (h : Dg a) (h48' : a ≠ 48) : Calls Tryd.prog 62 #[.string t] w (NuPost ((a : Int) - 48) true w) := by
  have h48 : ((a : Int) == 48) = false := by rw [beq_eq_false_iff_ne]; omega
  obtain ⟨h0, h1⟩ := h
  have h5 : (48 : Int) ≤ a := by omega
  have h6 : (a : Int) ≤ 57 := by omega
  clear h48'
  go_enter Tryd.func62, Tryd.ntmps62
  go_wp2
  go_loop [4, 21] (fun n i => (n = .int .i64 0 ∧ i = .int .i64 0) ∨ (n = .int .i64 ((a : Int) - 48) ∧ i = .int .i64 1)) (fun _ i => 1 - (intOf i).toNat)
  case atStart => exact .inl ⟨rfl, rfl⟩
  case round =>
    rcases hrel with ⟨rfl, rfl⟩ | ⟨rfl, rfl⟩
    · go_wp2
      go_round
      case rel => exact .inr ⟨by go_num, by go_num⟩
      case measure => simp [intOf]
    · go_wp2
      go_ret2
      exact ⟨rfl, rfl⟩

set_option maxHeartbeats 2000000 in
theorem num_two_a (t : ByteArray) (a : Nat) (w : World) (hs : t.size = 2) (ha : (t[0]'(by omega)).toNat = a) (h : ¬ Dg a) : Calls Tryd.prog 62 #[.string t] w (NuPost 0 false w) := by
  have h48 : ((a : Int) == 48) = false := by unfold Dg at h; rw [beq_eq_false_iff_ne]; omega
  have hc : (a : Int) < 48 ∨ (57 : Int) < a := by unfold Dg at h; omega
  clear h
  go_enter Tryd.func62, Tryd.ntmps62
  go_wp2
  go_loop [4, 21] (fun n i => n = .int .i64 0 ∧ i = .int .i64 0) (fun _ _ => 0)
  case atStart => exact ⟨rfl, rfl⟩
  case round =>
    obtain ⟨rfl, rfl⟩ := hrel
    rcases hc with h | h
    · have h5 : ¬ ((48 : Int) ≤ a) := by omega
      go_wp2
      go_ret2
      exact ⟨rfl, rfl⟩
    · have h5 : (48 : Int) ≤ a := by omega
      have h6 : ¬ ((a : Int) ≤ 57) := by omega
      go_wp2
      go_ret2
      exact ⟨rfl, rfl⟩

set_option maxHeartbeats 2000000 in
theorem num_two_b (t : ByteArray) (a b : Nat) (w : World) (hs : t.size = 2) (ha : (t[0]'(by omega)).toNat = a) (hb : (t[1]'(by omega)).toNat = b) (h : Dg a) (h48' : a ≠ 48) (h' : ¬ Dg b) : Calls Tryd.prog 62 #[.string t] w (NuPost 0 false w) := by
  have h48 : ((a : Int) == 48) = false := by rw [beq_eq_false_iff_ne]; omega
  have hc : (b : Int) < 48 ∨ (57 : Int) < b := by unfold Dg at h'; omega
  obtain ⟨h0, h1⟩ := h
  have h5 : (48 : Int) ≤ a := by omega
  have h6 : (a : Int) ≤ 57 := by omega
  clear h48' h'
  go_enter Tryd.func62, Tryd.ntmps62
  go_wp2
  go_loop [4, 21] (fun n i => (n = .int .i64 0 ∧ i = .int .i64 0) ∨ (n = .int .i64 ((a : Int) - 48) ∧ i = .int .i64 1)) (fun _ i => 2 - (intOf i).toNat)
  case atStart => exact .inl ⟨rfl, rfl⟩
  case round =>
    rcases hrel with ⟨rfl, rfl⟩ | ⟨rfl, rfl⟩
    · clear hc
      go_wp2
      go_round
      case rel => exact .inr ⟨by go_num, by go_num⟩
      case measure => simp [intOf]
    · rcases hc with h | h
      · have h7 : ¬ ((48 : Int) ≤ b) := by omega
        go_wp2
        go_ret2
        exact ⟨rfl, rfl⟩
      · have h7 : (48 : Int) ≤ b := by omega
        have h8 : ¬ ((b : Int) ≤ 57) := by omega
        go_wp2
        go_ret2
        exact ⟨rfl, rfl⟩

set_option maxHeartbeats 2000000 in
theorem num_two_yes (t : ByteArray) (a b : Nat) (w : World) (hs : t.size = 2) (ha : (t[0]'(by omega)).toNat = a) (hb : (t[1]'(by omega)).toNat = b) (h : Dg a) (h48' : a ≠ 48) (h' : Dg b) : Calls Tryd.prog 62 #[.string t] w (NuPost (10 * ((a : Int) - 48) + ((b : Int) - 48)) true w) := by
  have h48 : ((a : Int) == 48) = false := by rw [beq_eq_false_iff_ne]; omega
  obtain ⟨h0, h1⟩ := h
  obtain ⟨h2, h3⟩ := h'
  have h5 : (48 : Int) ≤ a := by omega
  have h6 : (a : Int) ≤ 57 := by omega
  have h7 : (48 : Int) ≤ b := by omega
  have h8 : (b : Int) ≤ 57 := by omega
  clear h48'
  go_enter Tryd.func62, Tryd.ntmps62
  go_wp2
  go_loop [4, 21] (fun n i => (n = .int .i64 0 ∧ i = .int .i64 0) ∨ (n = .int .i64 ((a : Int) - 48) ∧ i = .int .i64 1) ∨ (n = .int .i64 (10 * ((a : Int) - 48) + ((b : Int) - 48)) ∧ i = .int .i64 2)) (fun _ i => 2 - (intOf i).toNat)
  case atStart => exact .inl ⟨rfl, rfl⟩
  case round =>
    rcases hrel with ⟨rfl, rfl⟩ | ⟨rfl, rfl⟩ | ⟨rfl, rfl⟩
    · go_wp2
      go_round
      case rel => exact .inr (.inl ⟨by go_num, by go_num⟩)
      case measure => simp [intOf]
    · go_wp2
      go_round
      case rel => exact .inr (.inr ⟨by go_num, by go_num⟩)
      case measure => simp [intOf]
    · go_wp2
      go_ret2
      exact ⟨rfl, rfl⟩

end Go.Proofs.YtilibhjibcndoaaDoor
