/- The program's text of a relief. -/
import Derived.Test.YtalahpohndjgcabBld
namespace Go.Proofs.Ytalahpohndjgcab
open Go.RowKit
set_option linter.unusedVariables false

/-- the two digits of a height -/
def dig (h : Int) : List UInt8 := [UInt8.ofNat (48 + (h / 10).toNat), UInt8.ofNat (48 + (h % 10).toNat)]
/-- what stands ahead of height number i -/
def sep (C i : Nat) : List UInt8 := if i = 0 then [] else if i % C = 0 then [47] else [32]
/-- the text of the first i heights -/
def txt (C : Nat) (Z : Nat → Int) : Nat → List UInt8
  | 0 => []
  | i + 1 => txt C Z i ++ sep C i ++ dig (Z i)

theorem byteCells_push (l : List UInt8) (b : UInt8) (z : Int) (h : (b.toNat : Int) = z) : Lib.byteCells l ++ [Value.int .u8 z] = Lib.byteCells (l ++ [b]) := by
  simp [Lib.byteCells, h]

theorem dig_hi (h : Int) (h0 : 0 ≤ h) (h1 : h ≤ 99) : (((UInt8.ofNat (48 + (h / 10).toNat)).toNat : Nat) : Int) = 48 + h / 10 := by
  rw [UInt8.toNat_ofNat']
  omega
theorem dig_lo (h : Int) (h0 : 0 ≤ h) (h1 : h ≤ 99) : (((UInt8.ofNat (48 + (h % 10).toNat)).toNat : Nat) : Int) = 48 + h % 10 := by
  rw [UInt8.toNat_ofNat']
  omega

theorem txt_len (C : Nat) (Z : Nat → Int) : ∀ i, (txt C Z i).length ≤ 3 * i := by
  intro i
  induction i with
  | zero => simp [txt]
  | succ i ih =>
    have : (sep C i).length ≤ 1 := by unfold sep; split <;> (try split) <;> simp
    simp only [txt, List.length_append, dig, List.length_cons, List.length_nil]
    omega

theorem writeB (B : Nat) (l : List UInt8) (b : UInt8) (z : Int) (W : World) (hb : (b.toNat : Int) = z) (h : Lib.IsBuilder 68 5 B B (Lib.byteCells l) W) (hl : l.length ≤ 1000) (hB : B ≤ W.heap.size) :
    Calls Try.prog 81 #[.pointer (some ⟨B, 0, none⟩), .int .u8 z] W fun e w' => e = .returned .nilIface ∧ Lib.IsBuilder 68 5 B B (Lib.byteCells (l ++ [b])) w' ∧ Below B W w' :=
  (writeByte_any B B _ z W h (by rw [Lib.byteCells_length]; omega) hB).mono fun e w' hp => ⟨hp.1, .inr (by rw [← byteCells_push l b z hb]; exact hp.2.1), hp.2.2⟩

set_option maxHeartbeats 2000000 in
theorem text_any (R C n gg cap : Nat) (Z : Nat → Int) (w : World) (h : Rv w R C n gg cap Z) (hR : 1 ≤ R ∧ R ≤ 7) (hC : 1 ≤ C ∧ C ≤ 7) (hz : ∀ i, i < n → 0 ≤ Z i ∧ Z i ≤ 99) :
    Calls Try.prog 68 #[.agg #[.int .i64 R, .int .i64 C, .slice (some ⟨gg, 0, none⟩) n cap]] w fun e w' => e = .returned (.string ⟨(txt C Z n).toArray⟩) ∧ Below w.heap.size w w' := by
  have hn49 : n ≤ 49 := by rw [h.n_eq]; exact mul_le_49 hR.2 hC.2
  obtain ⟨W0, hW0⟩ : ∃ W0, W0 = (w.alloc (.cells #[.int .i64 R, .int .i64 C, .slice (some ⟨gg, 0, none⟩) n cap] 46)).alloc (.cells #[.pointer none, .slice none 0 0] 68) := ⟨_, rfl⟩
  have hs0 : W0.heap.size = w.heap.size + 2 := by rw [hW0]; simp
  have hb0 : Below w.heap.size w W0 := by rw [hW0]; exact ((Below.refl _ _).alloc (Nat.le_refl _) _).alloc (by simp) _
  have hbox : W0.heap[w.heap.size]? = some (.cells #[.int .i64 R, .int .i64 C, .slice (some ⟨gg, 0, none⟩) n cap] 46 (0, 0)) := by rw [hW0]; exact heap_alloc2_old _ _ _
  have hbld : W0.heap[w.heap.size + 1]? = some (.cells #[.pointer none, .slice none 0 0] 68 (0, 0)) := by rw [hW0]; exact heap_alloc2_new _ _ _
  have HI0 := Lib.hid (show Lib.IsBuilder 68 5 (w.heap.size + 1) (w.heap.size + 1) (Lib.byteCells (txt C Z 0)) W0 from .inl ⟨Nat.le_refl _, _, hbld, ⟨rfl, .inl ⟨rfl, rfl⟩⟩, by simp [Value.ownBlock]⟩)
  obtain ⟨k0, k1, k2, _, _, _⟩ := cells3 hbox
  have hrv := h.keep hb0 (Nat.le_refl _)
  have HRV := Lib.hid hrv
  have HZ := Lib.hid hz
  have HB0 := Lib.hid hb0
  have hgl : gg < w.heap.size := h.lt
  have HW0 := Lib.hid hW0
  have K1 := Lib.hid k1
  rw [hW0] at k1 k2
  clear h hrv hz hb0 hbox hbld k0 hW0
  go_enter Try.func68, Try.ntmps68
  go_wp2
  rw [← HW0.out]
  clear k1 k2
  go_loopw [9] (fun i wr => ∃ k : Nat, k ≤ n ∧ i = .int .i64 k ∧ Lib.IsBuilder 68 5 (w.heap.size + 1) (w.heap.size + 1) (Lib.byteCells (txt C Z k)) wr ∧ Below (w.heap.size + 1) W0 wr) (fun i _ => n - (intOf i).toNat)
  case atStart => exact ⟨0, Nat.zero_le _, rfl, HI0.out, Below.refl _ _⟩
  case round =>
    obtain ⟨k, hk, rfl, hib, hbel⟩ := hrel
    have q1 : wr.cell? ⟨w.heap.size, 1, none⟩ = some (.int .i64 C) := (hbel.cell (p := ⟨w.heap.size, 1, none⟩) (by show w.heap.size < _; omega)).trans K1.out
    have hsz : w.heap.size + 2 ≤ wr.heap.size := by have := hbel.size; omega
    have HIB := Lib.hid hib
    have HBL := Lib.hid hbel
    by_cases hlt : k < n
    · have q2 : wr.cell? ⟨gg, k, none⟩ = some (.int .i64 (Z k)) := (hbel.cell (p := ⟨gg, k, none⟩) (by show gg < _; omega)).trans (HRV.out.cell k hlt)
      obtain ⟨z0, z1⟩ := HZ.out k hlt
      have hlt' : (k : Int) < n := by omega
      clear hib hbel
      have htl := txt_len C Z k
      by_cases hk0 : k = 0
      · subst hk0
        go_wp2_with fail
        refine (writeB (w.heap.size + 1) (txt C Z 0) (UInt8.ofNat (48 + (Z 0 / 10).toNat)) _ wr (dig_hi (Z 0) z0 z1) HIB.out (by omega) (by omega)).mono ?_
        rintro e w1 ⟨rfl, hi1, hb1⟩
        have HI1 := Lib.hid hi1
        have HB1 := Lib.hid (HBL.out.trans hb1)
        have hs1 := hb1.size
        clear hi1 hb1
        go_wp2_with fail
        refine (writeB (w.heap.size + 1) ((txt C Z 0) ++ [(UInt8.ofNat (48 + (Z 0 / 10).toNat))]) (UInt8.ofNat (48 + (Z 0 % 10).toNat)) _ w1 (dig_lo (Z 0) z0 z1) HI1.out (by simp only [List.length_append, List.length_cons, List.length_nil]; omega) (by omega)).mono ?_
        rintro e w2 ⟨rfl, hi2, hb2⟩
        have HI2 := Lib.hid hi2
        have HB2 := Lib.hid (HB1.out.trans hb2)
        have hs2 := hb2.size
        clear hi2 hb2
        go_wp2
        go_roundw
        case rel => exact ⟨0 + 1, by omega, by go_num, by rw [show txt C Z (0 + 1) = (((txt C Z 0) ++ [(UInt8.ofNat (48 + (Z 0 / 10).toNat))]) ++ [(UInt8.ofNat (48 + (Z 0 % 10).toNat))]) from by simp [txt, sep, dig]]; exact HI2.out, HB2.out⟩
        case measure => simp [intOf]; omega
      · have hk0' : ¬ ((k : Int) = 0) := by omega
        by_cases hm : k % C = 0
        · go_wp2_with fail
          refine (writeB (w.heap.size + 1) (txt C Z k) 47 _ wr (by decide) HIB.out (by omega) (by omega)).mono ?_
          rintro e w1 ⟨rfl, hi1, hb1⟩
          have HI1 := Lib.hid hi1
          have HB1 := Lib.hid (HBL.out.trans hb1)
          have hs1 := hb1.size
          clear hi1 hb1
          go_wp2_with fail
          refine (writeB (w.heap.size + 1) ((txt C Z k) ++ [47]) (UInt8.ofNat (48 + (Z k / 10).toNat)) _ w1 (dig_hi (Z k) z0 z1) HI1.out (by simp only [List.length_append, List.length_cons, List.length_nil]; omega) (by omega)).mono ?_
          rintro e w2 ⟨rfl, hi2, hb2⟩
          have HI2 := Lib.hid hi2
          have HB2 := Lib.hid (HB1.out.trans hb2)
          have hs2 := hb2.size
          clear hi2 hb2
          go_wp2_with fail
          refine (writeB (w.heap.size + 1) (((txt C Z k) ++ [47]) ++ [(UInt8.ofNat (48 + (Z k / 10).toNat))]) (UInt8.ofNat (48 + (Z k % 10).toNat)) _ w2 (dig_lo (Z k) z0 z1) HI2.out (by simp only [List.length_append, List.length_cons, List.length_nil]; omega) (by omega)).mono ?_
          rintro e w3 ⟨rfl, hi3, hb3⟩
          have HI3 := Lib.hid hi3
          have HB3 := Lib.hid (HB2.out.trans hb3)
          have hs3 := hb3.size
          clear hi3 hb3
          go_wp2
          go_roundw
          case rel => exact ⟨k + 1, by omega, by go_num, by rw [show txt C Z (k + 1) = ((((txt C Z k) ++ [47]) ++ [(UInt8.ofNat (48 + (Z k / 10).toNat))]) ++ [(UInt8.ofNat (48 + (Z k % 10).toNat))]) from by simp [txt, sep, dig, hk0, hm]]; exact HI3.out, HB3.out⟩
          case measure => simp [intOf]; omega
        · have hm2 : ¬ ((k : Int) % (C : Int) = 0) := by omega
          go_wp2_with fail
          refine (writeB (w.heap.size + 1) (txt C Z k) 32 _ wr (by decide) HIB.out (by omega) (by omega)).mono ?_
          rintro e w1 ⟨rfl, hi1, hb1⟩
          have HI1 := Lib.hid hi1
          have HB1 := Lib.hid (HBL.out.trans hb1)
          have hs1 := hb1.size
          clear hi1 hb1
          go_wp2_with fail
          refine (writeB (w.heap.size + 1) ((txt C Z k) ++ [32]) (UInt8.ofNat (48 + (Z k / 10).toNat)) _ w1 (dig_hi (Z k) z0 z1) HI1.out (by simp only [List.length_append, List.length_cons, List.length_nil]; omega) (by omega)).mono ?_
          rintro e w2 ⟨rfl, hi2, hb2⟩
          have HI2 := Lib.hid hi2
          have HB2 := Lib.hid (HB1.out.trans hb2)
          have hs2 := hb2.size
          clear hi2 hb2
          go_wp2_with fail
          refine (writeB (w.heap.size + 1) (((txt C Z k) ++ [32]) ++ [(UInt8.ofNat (48 + (Z k / 10).toNat))]) (UInt8.ofNat (48 + (Z k % 10).toNat)) _ w2 (dig_lo (Z k) z0 z1) HI2.out (by simp only [List.length_append, List.length_cons, List.length_nil]; omega) (by omega)).mono ?_
          rintro e w3 ⟨rfl, hi3, hb3⟩
          have HI3 := Lib.hid hi3
          have HB3 := Lib.hid (HB2.out.trans hb3)
          have hs3 := hb3.size
          clear hi3 hb3
          go_wp2
          go_roundw
          case rel => exact ⟨k + 1, by omega, by go_num, by rw [show txt C Z (k + 1) = ((((txt C Z k) ++ [32]) ++ [(UInt8.ofNat (48 + (Z k / 10).toNat))]) ++ [(UInt8.ofNat (48 + (Z k % 10).toNat))]) from by simp [txt, sep, dig, hk0, hm]]; exact HI3.out, HB3.out⟩
          case measure => simp [intOf]; omega
    · have e : k = n := by omega
      subst e
      go_wp2_with fail
      refine (string_any (w.heap.size + 1) (w.heap.size + 1) _ wr HIB.out (by omega)).mono ?_
      rintro e w1 ⟨rfl, hb1⟩
      have HB1 := Lib.hid (HB0.out.trans ((HBL.out.trans hb1).mono (by omega)))
      clear hb1 hib hbel
      go_wp2
      go_ret
      exact ⟨rfl, HB1.out⟩

end Go.Proofs.Ytalahpohndjgcab
