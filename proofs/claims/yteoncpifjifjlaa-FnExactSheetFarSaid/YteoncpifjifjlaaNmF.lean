/- The model's search for a sheet by its name. -/
import Derived.Test.YteoncpifjifjlaaNm
namespace Go.Proofs.Yteoncpifjifjlaa
open Go.RowKit
set_option linter.unusedVariables false

/-- the name of a sheet as a string -/
def nmS (c r : Nat) : ByteArray := ⟨(nmL c r).toArray⟩
theorem nmS_inj {c r c' r' : Nat} (hc : c < 26) (hr : r < 26) (hc' : c' < 26) (hr' : r' < 26) (h : nmS c r = nmS c' r') : c = c' ∧ r = r' := by
  have h1 := congrArg (fun s : ByteArray => s.data.toList) h
  simp only [nmS] at h1
  exact nmL_inj hc hr hc' hr' h1
theorem seq_no {a b : ByteArray} (h : a ≠ b) : (a.toList == b.toList) = false := by
  rw [beq_eq_false_iff_ne, ByteArray.toList_eq, ByteArray.toList_eq]
  intro e
  apply h
  apply ByteArray.ext
  exact Array.toList_inj.1 e
theorem seq_yes {a b : ByteArray} (h : a = b) : (a.toList == b.toList) = true := by rw [h]; simp
/-- a name of a sheet -/
def IsNm (s : ByteArray) (c r : Nat) : Prop := c < 26 ∧ r < 26 ∧ s = nmS c r
def NoNm (s : ByteArray) : Prop := ∀ c r, c < 26 → r < 26 → s ≠ nmS c r
theorem nm_or (s : ByteArray) : (∃ c r, IsNm s c r) ∨ NoNm s := by
  by_cases h : ∃ c r, IsNm s c r
  · exact .inl h
  · exact .inr fun c r hc hr e => h ⟨c, r, hc, hr, e⟩

def FdPost (c r : Nat) (b : Bool) (w : World) (e : Ending) (w' : World) : Prop := e = .returned (.tuple #[.int .i64 c, .int .i64 r, .bool b]) ∧ Below w.heap.size w w'

set_option maxHeartbeats 2000000 in
theorem l7Find_no (s : ByteArray) (w : World) (h : NoNm s) : Calls Try.prog 6 #[.string s] w (FdPost 0 0 false w) := by
  have HN := Lib.hid h
  clear h
  go_enter Try.func6, Try.ntmps6
  go_wp2
  go_loopw [5] (fun i wr => ∃ r : Nat, r ≤ 26 ∧ i = .int .i64 r ∧ Below w.heap.size w wr) (fun i _ => 26 - (intOf i).toNat)
  case atStart => exact ⟨0, by omega, rfl, Below.refl _ _⟩
  case round =>
    obtain ⟨r, hr, rfl, hb⟩ := hrel
    have HB := Lib.hid hb
    clear hb
    by_cases hlt : r < 26
    · have hlt' : (r : Int) < 26 := by omega
      go_wp2
      go_loopw [6] (fun i wr => ∃ c : Nat, c ≤ 26 ∧ i = .int .i64 c ∧ Below w.heap.size w wr) (fun i _ => 26 - (intOf i).toNat)
      case atStart => exact ⟨0, by omega, rfl, HB.out⟩
      case round =>
        obtain ⟨c, hc, rfl, hb⟩ := hrel
        have HB2 := Lib.hid hb
        clear hb
        by_cases hlc : c < 26
        · have hlc' : (c : Int) < 26 := by omega
          have hne := seq_no (fun e => HN.out c r hlc hlt e.symm : nmS c r ≠ s)
          have HD := Lib.hid (fun W : World => show Calls Try.prog 10 #[.int .i64 c, .int .i64 r] W (StrPost (nmS c r) W) from l7Name_any c r W hlc hlt)
          go_wp2_with fail
          refine (HD.out _).mono ?_
          rintro e w1 ⟨rfl, hb1⟩
          have HB3 := Lib.hid (HB2.out.trans (hb1.mono HB2.out.size))
          clear hb1
          go_wp2
          go_roundw
          case rel => exact ⟨c + 1, by omega, by go_num, HB3.out⟩
          case measure => simp [intOf]; omega
        · have ec : c = 26 := by omega
          subst ec
          go_wp2
          go_roundw
          case rel => exact ⟨r + 1, by omega, by go_num, HB2.out⟩
          case measure => simp [intOf]; omega
    · have e : r = 26 := by omega
      subst e
      go_wp2
      go_ret3
      exact ⟨rfl, HB.out⟩

set_option maxHeartbeats 2000000 in
theorem l7Find_yes (s : ByteArray) (c0 r0 : Nat) (w : World) (h : IsNm s c0 r0) : Calls Try.prog 6 #[.string s] w (FdPost c0 r0 true w) := by
  obtain ⟨hc0, hr0, rfl⟩ := h
  go_enter Try.func6, Try.ntmps6
  go_wp2
  go_loopw [5] (fun i wr => ∃ r : Nat, r ≤ r0 ∧ i = .int .i64 r ∧ Below w.heap.size w wr) (fun i _ => 26 - (intOf i).toNat)
  case atStart => exact ⟨0, by omega, rfl, Below.refl _ _⟩
  case round =>
    obtain ⟨r, hr, rfl, hb⟩ := hrel
    have HB := Lib.hid hb
    clear hb
    have hlt : r < 26 := by omega
    have hlt' : (r : Int) < 26 := by omega
    go_wp2
    go_loopw [6] (fun i wr => ∃ c : Nat, c ≤ 26 ∧ (r = r0 → c ≤ c0) ∧ i = .int .i64 c ∧ Below w.heap.size w wr) (fun i _ => 26 - (intOf i).toNat)
    case atStart => exact ⟨0, by omega, fun _ => by omega, rfl, HB.out⟩
    case round =>
      obtain ⟨c, hc, hcc, rfl, hb⟩ := hrel
      have HB2 := Lib.hid hb
      clear hb
      by_cases hlc : c < 26
      · have hlc' : (c : Int) < 26 := by omega
        have HD := Lib.hid (fun W : World => show Calls Try.prog 10 #[.int .i64 c, .int .i64 r] W (StrPost (nmS c r) W) from l7Name_any c r W hlc hlt)
        have HCC := Lib.hid hcc
        clear hcc
        by_cases he : c = c0 ∧ r = r0
        · obtain ⟨rfl, rfl⟩ := he
          have hne := seq_yes (rfl : nmS c r = nmS c r)
          go_wp2_with fail
          refine (HD.out _).mono ?_
          rintro e w1 ⟨rfl, hb1⟩
          have HB3 := Lib.hid (HB2.out.trans (hb1.mono HB2.out.size))
          clear hb1
          go_wp2
          go_ret3
          exact ⟨rfl, HB3.out⟩
        · have hne := seq_no (fun e => he (nmS_inj hlc hlt hc0 hr0 e) : nmS c r ≠ nmS c0 r0)
          have HHE := Lib.hid he
          clear he
          go_wp2_with fail
          refine (HD.out _).mono ?_
          rintro e w1 ⟨rfl, hb1⟩
          have HB3 := Lib.hid (HB2.out.trans (hb1.mono HB2.out.size))
          clear hb1
          go_wp2
          go_roundw
          case rel => exact ⟨c + 1, by omega, fun e => by have h1 := HCC.out e; have h2 := HHE.out; omega, by go_num, HB3.out⟩
          case measure => simp [intOf]; omega
      · have ec : c = 26 := by omega
        subst ec
        have hrr : r < r0 := by
          rcases Nat.lt_or_ge r r0 with h | h
          · exact h
          · have := hcc (by omega); omega
        clear hcc
        go_wp2
        go_roundw
        case rel => exact ⟨r + 1, by omega, by go_num, HB2.out⟩
        case measure => simp [intOf]; omega

end Go.Proofs.Yteoncpifjifjlaa
