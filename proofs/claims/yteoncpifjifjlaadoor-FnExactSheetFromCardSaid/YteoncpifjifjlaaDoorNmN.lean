/- The program reads the number of a sheet. -/
import Derived.Test.YteoncpifjifjlaaDoorNmF
namespace Go.Proofs.YteoncpifjifjlaaDoor
open Go.RowKit
set_option linter.unusedVariables false

def NuPost (n : Int) (b : Bool) (w : World) (e : Ending) (w' : World) : Prop := e = .returned (.tuple #[.int .i64 n, .bool b]) ∧ w = w'

set_option maxHeartbeats 1000000 in
theorem dgt_nil (w : World) : Calls Tryd.prog 89 #[.string ⟨#[]⟩, .int .i64 1, .int .i64 2] w (NuPost 0 false w) := by
  go_enter Tryd.func89, Tryd.ntmps89
  go_wp2
  go_ret2
  exact ⟨rfl, rfl⟩

set_option maxHeartbeats 1000000 in
theorem dgt_long (t : ByteArray) (w : World) (h : 3 ≤ t.size) (hm : t.size ≤ 9223372036854775807) : Calls Tryd.prog 89 #[.string t, .int .i64 1, .int .i64 2] w (NuPost 0 false w) := by
  have h1 : ¬ ((t.size : Int) < 1) := by omega
  have h2 : (2 : Int) < t.size := by omega
  go_enter Tryd.func89, Tryd.ntmps89
  go_wp2
  go_ret2
  exact ⟨rfl, rfl⟩

/-- a digit's byte -/
def Dg (a : Nat) : Prop := 48 ≤ a ∧ a ≤ 57

set_option maxHeartbeats 2000000 in
theorem dgt_one_no (t : ByteArray) (a : Nat) (w : World) (hs : t.size = 1) (ha : (t[0]'(by omega)).toNat = a) (h : ¬ Dg a) : Calls Tryd.prog 89 #[.string t, .int .i64 1, .int .i64 2] w (NuPost 0 false w) := by
  have hc : (a : Int) < 48 ∨ (57 : Int) < a := by unfold Dg at h; omega
  clear h
  go_enter Tryd.func89, Tryd.ntmps89
  go_wp2
  go_loop [8, 22] (fun n i => n = .int .i64 0 ∧ i = .int .i64 0) (fun _ _ => 0)
  case atStart => exact ⟨rfl, rfl⟩
  case round =>
    obtain ⟨rfl, rfl⟩ := hrel
    rcases hc with h | h
    · have h5 : ¬ ((48 : Int) ≤ a) := by omega
      go_wp2
      go_ret2
      exact ⟨rfl, rfl⟩
    · have h5 : (48 : Int) ≤ a := by omega
      have h6 : ¬ ((a : Int) ≤ 57) := by omega
      go_wp2
      go_ret2
      exact ⟨rfl, rfl⟩

set_option maxHeartbeats 2000000 in
theorem dgt_one_yes (t : ByteArray) (a : Nat) (w : World) (hs : t.size = 1) (ha : (t[0]'(by omega)).toNat = a) (h : Dg a) : Calls Tryd.prog 89 #[.string t, .int .i64 1, .int .i64 2] w (NuPost ((a : Int) - 48) true w) := by
  obtain ⟨h0, h1⟩ := h
  have h5 : (48 : Int) ≤ a := by omega
  have h6 : (a : Int) ≤ 57 := by omega
  go_enter Tryd.func89, Tryd.ntmps89
  go_wp2
  go_loop [8, 22] (fun n i => (n = .int .i64 0 ∧ i = .int .i64 0) ∨ (n = .int .i64 ((a : Int) - 48) ∧ i = .int .i64 1)) (fun _ i => 1 - (intOf i).toNat)
  case atStart => exact .inl ⟨rfl, rfl⟩
  case round =>
    rcases hrel with ⟨rfl, rfl⟩ | ⟨rfl, rfl⟩
    · go_wp2
      go_round
      case rel => exact .inr ⟨by go_num, by go_num⟩
      case measure => simp [intOf]
    · go_wp2
      go_ret2
      exact ⟨rfl, rfl⟩

set_option maxHeartbeats 2000000 in
theorem dgt_two_a (t : ByteArray) (a : Nat) (w : World) (hs : t.size = 2) (ha : (t[0]'(by omega)).toNat = a) (h : ¬ Dg a) : Calls Tryd.prog 89 #[.string t, .int .i64 1, .int .i64 2] w (NuPost 0 false w) := by
  have hc : (a : Int) < 48 ∨ (57 : Int) < a := by unfold Dg at h; omega
  clear h
  go_enter Tryd.func89, Tryd.ntmps89
  go_wp2
  go_loop [8, 22] (fun n i => n = .int .i64 0 ∧ i = .int .i64 0) (fun _ _ => 0)
  case atStart => exact ⟨rfl, rfl⟩
  case round =>
    obtain ⟨rfl, rfl⟩ := hrel
    rcases hc with h | h
    · have h5 : ¬ ((48 : Int) ≤ a) := by omega
      go_wp2
      go_ret2
      exact ⟨rfl, rfl⟩
    · have h5 : (48 : Int) ≤ a := by omega
      have h6 : ¬ ((a : Int) ≤ 57) := by omega
      go_wp2
      go_ret2
      exact ⟨rfl, rfl⟩

set_option maxHeartbeats 2000000 in
theorem dgt_two_b (t : ByteArray) (a b : Nat) (w : World) (hs : t.size = 2) (ha : (t[0]'(by omega)).toNat = a) (hb : (t[1]'(by omega)).toNat = b) (h : Dg a) (h' : ¬ Dg b) : Calls Tryd.prog 89 #[.string t, .int .i64 1, .int .i64 2] w (NuPost 0 false w) := by
  have hc : (b : Int) < 48 ∨ (57 : Int) < b := by unfold Dg at h'; omega
  obtain ⟨h0, h1⟩ := h
  have h5 : (48 : Int) ≤ a := by omega
  have h6 : (a : Int) ≤ 57 := by omega
  clear h'
  go_enter Tryd.func89, Tryd.ntmps89
  go_wp2
  go_loop [8, 22] (fun n i => (n = .int .i64 0 ∧ i = .int .i64 0) ∨ (n = .int .i64 ((a : Int) - 48) ∧ i = .int .i64 1)) (fun _ i => 2 - (intOf i).toNat)
  case atStart => exact .inl ⟨rfl, rfl⟩
  case round =>
    rcases hrel with ⟨rfl, rfl⟩ | ⟨rfl, rfl⟩
    · clear hc
      go_wp2
      go_round
      case rel => exact .inr ⟨by go_num, by go_num⟩
      case measure => simp [intOf]
    · rcases hc with h | h
      · have h7 : ¬ ((48 : Int) ≤ b) := by omega
        go_wp2
        go_ret2
        exact ⟨rfl, rfl⟩
      · have h7 : (48 : Int) ≤ b := by omega
        have h8 : ¬ ((b : Int) ≤ 57) := by omega
        go_wp2
        go_ret2
        exact ⟨rfl, rfl⟩

set_option maxHeartbeats 2000000 in
theorem dgt_two_yes (t : ByteArray) (a b : Nat) (w : World) (hs : t.size = 2) (ha : (t[0]'(by omega)).toNat = a) (hb : (t[1]'(by omega)).toNat = b) (h : Dg a) (h' : Dg b) : Calls Tryd.prog 89 #[.string t, .int .i64 1, .int .i64 2] w (NuPost (10 * ((a : Int) - 48) + ((b : Int) - 48)) true w) := by
  obtain ⟨h0, h1⟩ := h
  obtain ⟨h2, h3⟩ := h'
  have h5 : (48 : Int) ≤ a := by omega
  have h6 : (a : Int) ≤ 57 := by omega
  have h7 : (48 : Int) ≤ b := by omega
  have h8 : (b : Int) ≤ 57 := by omega
  go_enter Tryd.func89, Tryd.ntmps89
  go_wp2
  go_loop [8, 22] (fun n i => (n = .int .i64 0 ∧ i = .int .i64 0) ∨ (n = .int .i64 ((a : Int) - 48) ∧ i = .int .i64 1) ∨ (n = .int .i64 (10 * ((a : Int) - 48) + ((b : Int) - 48)) ∧ i = .int .i64 2)) (fun _ i => 2 - (intOf i).toNat)
  case atStart => exact .inl ⟨rfl, rfl⟩
  case round =>
    rcases hrel with ⟨rfl, rfl⟩ | ⟨rfl, rfl⟩ | ⟨rfl, rfl⟩
    · go_wp2
      go_round
      case rel => exact .inr (.inl ⟨by go_num, by go_num⟩)
      case measure => simp [intOf]
    · go_wp2
      go_round
      case rel => exact .inr (.inr ⟨by go_num, by go_num⟩)
      case measure => simp [intOf]
    · go_wp2
      go_ret2
      exact ⟨rfl, rfl⟩

theorem ex_one (t : ByteArray) (h : 0 < t.size) : (t.extract 0 1).toList = [t[0]'h] := by
  rw [ByteArray.toList_eq]
  obtain ⟨⟨l⟩⟩ := t
  cases l with
  | nil => exact absurd h (by decide)
  | cons x l => simp [ByteArray.data_extract]; rfl
theorem hp_no (t : ByteArray) (w : World) (h : t.size ≤ 9223372036854775807) (h0 : ∀ (h1 : 0 < t.size), (t[0]'h1).toNat ≠ 48) : Calls Tryd.prog 88 #[.string t, .string ⟨#[48]⟩] w (SmPost false w) := by
  by_cases h1 : 0 < t.size
  · have h2 : (1 : Int) ≤ t.size := by omega
    have hx : ((t.extract 0 1).toList == [48]) = false := by
      rw [ex_one t h1, beq_eq_false_iff_ne]
      intro e
      have e2 : t[0] = 48 := by simpa using e
      exact h0 h1 (by rw [e2]; rfl)
    clear h0
    go_enter Tryd.func88, Tryd.ntmps88
    go_wp2
    go_ret
    exact ⟨rfl, rfl⟩
  · have h2 : ¬ ((1 : Int) ≤ t.size) := by omega
    have h3 : t.size = 0 := by omega
    go_enter Tryd.func88, Tryd.ntmps88
    go_wp2
    go_ret
    exact ⟨rfl, rfl⟩
theorem hp_yes (t : ByteArray) (w : World) (h : t.size ≤ 9223372036854775807) (h1 : 0 < t.size) (h0 : (t[0]'h1).toNat = 48) : Calls Tryd.prog 88 #[.string t, .string ⟨#[48]⟩] w (SmPost true w) := by
  have h2 : (1 : Int) ≤ t.size := by omega
  have hx : ((t.extract 0 1).toList == [48]) = true := by
    rw [ex_one t h1, beq_iff_eq]
    have e2 : t[0] = 48 := UInt8.toNat_inj.1 h0
    rw [e2]
  clear h0
  go_enter Tryd.func88, Tryd.ntmps88
  go_wp2
  go_ret
  exact ⟨rfl, rfl⟩
theorem num_of (t : ByteArray) (n : Int) (b : Bool) (w : World) (hm : t.size ≤ 9223372036854775807) (h0 : ∀ (h1 : 0 < t.size), (t[0]'h1).toNat ≠ 48) (hd : ∀ W, Calls Tryd.prog 89 #[.string t, .int .i64 1, .int .i64 2] W (NuPost n b W)) : Calls Tryd.prog 72 #[.string t] w (NuPost n b w) := by
  have HP := Lib.hid (hp_no t w hm h0)
  have HD := Lib.hid hd
  clear hd h0
  go_enter Tryd.func72, Tryd.ntmps72
  go_wp2_with fail
  refine HP.out.mono ?_
  rintro e w' ⟨rfl, rfl⟩
  go_wp2_with fail
  refine (HD.out _).mono ?_
  rintro e w' ⟨rfl, rfl⟩
  go_wp2
  go_ret2
  exact ⟨rfl, rfl⟩
theorem num_pre (t : ByteArray) (w : World) (hm : t.size ≤ 9223372036854775807) (h1 : 0 < t.size) (h0 : (t[0]'h1).toNat = 48) : Calls Tryd.prog 72 #[.string t] w (NuPost 0 false w) := by
  have HP := Lib.hid (hp_yes t w hm h1 h0)
  clear h0
  go_enter Tryd.func72, Tryd.ntmps72
  go_wp2_with fail
  refine HP.out.mono ?_
  rintro e w' ⟨rfl, rfl⟩
  go_wp2
  go_ret2
  exact ⟨rfl, rfl⟩
theorem num_nil (w : World) : Calls Tryd.prog 72 #[.string ⟨#[]⟩] w (NuPost 0 false w) := num_of ⟨#[]⟩ 0 false w (by decide) (fun h1 => absurd h1 (by decide)) (fun W => dgt_nil W)
theorem num_long (t : ByteArray) (w : World) (h : 3 ≤ t.size) (hm : t.size ≤ 9223372036854775807) : Calls Tryd.prog 72 #[.string t] w (NuPost 0 false w) := by
  by_cases h0 : (t[0]'(by omega)).toNat = 48
  · exact num_pre t w hm (by omega) h0
  · exact num_of t 0 false w hm (fun _ => h0) (fun W => dgt_long t W h hm)
theorem num_zero (t : ByteArray) (n : Nat) (w : World) (hn : 1 ≤ n ∧ n ≤ 2) (h0 : 0 < t.size) (hs : t.size = n) (ha : (t[0]'h0).toNat = 48) : Calls Tryd.prog 72 #[.string t] w (NuPost 0 false w) := num_pre t w (by omega) h0 ha
theorem num_one_no (t : ByteArray) (a : Nat) (w : World) (hs : t.size = 1) (ha : (t[0]'(by omega)).toNat = a) (h : ¬ Dg a) : Calls Tryd.prog 72 #[.string t] w (NuPost 0 false w) := num_of t 0 false w (by omega) (fun _ e => h (by rw [← ha, e]; exact ⟨by omega, by omega⟩)) (fun W => dgt_one_no t a W hs ha h)
theorem num_one_yes (t : ByteArray) (a : Nat) (w : World) (hs : t.size = 1) (ha : (t[0]'(by omega)).toNat = a) (h : Dg a) (h48' : a ≠ 48) : Calls Tryd.prog 72 #[.string t] w (NuPost ((a : Int) - 48) true w) := num_of t _ true w (by omega) (fun _ e => h48' (ha.symm.trans e)) (fun W => dgt_one_yes t a W hs ha h)
theorem num_two_a (t : ByteArray) (a : Nat) (w : World) (hs : t.size = 2) (ha : (t[0]'(by omega)).toNat = a) (h : ¬ Dg a) : Calls Tryd.prog 72 #[.string t] w (NuPost 0 false w) := num_of t 0 false w (by omega) (fun _ e => h (by rw [← ha, e]; exact ⟨by omega, by omega⟩)) (fun W => dgt_two_a t a W hs ha h)
theorem num_two_b (t : ByteArray) (a b : Nat) (w : World) (hs : t.size = 2) (ha : (t[0]'(by omega)).toNat = a) (hb : (t[1]'(by omega)).toNat = b) (h : Dg a) (h48' : a ≠ 48) (h' : ¬ Dg b) : Calls Tryd.prog 72 #[.string t] w (NuPost 0 false w) := num_of t 0 false w (by omega) (fun _ e => h48' (ha.symm.trans e)) (fun W => dgt_two_b t a b W hs ha hb h h')
theorem num_two_yes (t : ByteArray) (a b : Nat) (w : World) (hs : t.size = 2) (ha : (t[0]'(by omega)).toNat = a) (hb : (t[1]'(by omega)).toNat = b) (h : Dg a) (h48' : a ≠ 48) (h' : Dg b) : Calls Tryd.prog 72 #[.string t] w (NuPost (10 * ((a : Int) - 48) + ((b : Int) - 48)) true w) := num_of t _ true w (by omega) (fun _ e => h48' (ha.symm.trans e)) (fun W => dgt_two_yes t a b W hs ha hb h h')

end Go.Proofs.YteoncpifjifjlaaDoor
