/- The program finds a sheet by its name: every name. -/
import Derived.Test.YteoncpifjifjlaaDoorNmG
namespace Go.Proofs.YteoncpifjifjlaaDoor
open Go.RowKit
set_option linter.unusedVariables false

theorem SfPost.of {c r c' r' : Int} {b : Bool} {w : World} {e : Ending} {w' : World} (h : SfPost c r b w e w') (e1 : c = c') (e2 : r = r') : SfPost c' r' b w e w' := by subst e1 e2; exact h

theorem sheetFrom_yes (s : ByteArray) (c r : Nat) (w : World) (h : IsNm s c r) : Calls Tryd.prog 45 #[.string s] w (SfPost c r true w) := by
  obtain ⟨hc, hr, rfl⟩ := h
  have hsz := nmS_size c r
  have hts := tl_size (nmS c r)
  by_cases h9 : c < 9
  · rw [if_pos h9] at hsz
    have ht : ((nmS c r).extract 1 (nmS c r).size).size = 1 := by rw [hts, hsz]
    have ha : (((nmS c r).extract 1 (nmS c r).size)[0]'(by omega)).toNat = 49 + c := by
      rw [tl_at (nmS c r) 0 (by omega) (by omega)]
      exact nmS_1 c r h9 (by omega)
    refine (sheetFrom_rB (nmS c r) ((49 + c : Nat) - 48 : Int) (65 + r) w (by omega) (by omega) (nmS_0 c r hr (by omega)) (by omega) (by omega) (fun W => num_one_yes _ (49 + c) W ht ha ⟨by omega, by omega⟩ (by omega)) (shB2_yes ⟨⟨by omega, by omega⟩, by omega, by omega⟩)).mono fun e w' h => h.of (by omega) (by omega)
  · rw [if_neg h9] at hsz
    have ht : ((nmS c r).extract 1 (nmS c r).size).size = 2 := by rw [hts, hsz]
    have ha : (((nmS c r).extract 1 (nmS c r).size)[0]'(by omega)).toNat = 48 + (c + 1) / 10 := by
      rw [tl_at (nmS c r) 0 (by omega) (by omega)]
      exact nmS_11 c r (by omega) hc (by omega)
    have hb : (((nmS c r).extract 1 (nmS c r).size)[1]'(by omega)).toNat = 48 + (c + 1) % 10 := by
      rw [tl_at (nmS c r) 1 (by omega) (by omega)]
      exact nmS_12 c r (by omega) hc (by omega)
    refine (sheetFrom_rB (nmS c r) (10 * (((48 + (c + 1) / 10 : Nat) : Int) - 48) + (((48 + (c + 1) % 10 : Nat) : Int) - 48)) (65 + r) w (by omega) (by omega) (nmS_0 c r hr (by omega)) (by omega) (by omega) (fun W => num_two_yes _ (48 + (c + 1) / 10) (48 + (c + 1) % 10) W ht ha hb ⟨by omega, by omega⟩ (by omega) ⟨by omega, by omega⟩) (shB2_yes ⟨⟨by omega, by omega⟩, by omega, by omega⟩)).mono fun e w' h => h.of (by omega) (by omega)

theorem sheetFrom_no (s : ByteArray) (w : World) (hz : s.size ≤ 9223372036854775807) (h : NoNm s) : Calls Tryd.prog 45 #[.string s] w (SfPost 0 0 false w) := by
  have hts := tl_size s
  by_cases h0 : s.size = 0
  · have : s = ⟨#[]⟩ := by
      apply ByteArray.ext
      exact Array.eq_empty_of_size_eq_zero h0
    subst this
    exact sheetFrom_empty w
  have hp : 0 < s.size := by omega
  obtain ⟨y, hy⟩ : ∃ y, (s[0]'hp).toNat = y := ⟨_, rfl⟩
  by_cases h1 : s.size = 1
  · have ht : s.extract 1 s.size = ⟨#[]⟩ := by
      apply ByteArray.ext
      exact Array.eq_empty_of_size_eq_zero (show (s.extract 1 s.size).size = 0 by omega)
    exact sheetFrom_rA s 0 y w hp hz hy (by omega) (by omega) (fun W => by rw [ht]; exact num_nil W)
  by_cases h2 : s.size = 2
  · have ht : (s.extract 1 s.size).size = 1 := by omega
    obtain ⟨a, ha⟩ : ∃ a, ((s.extract 1 s.size)[0]'(by omega)).toNat = a := ⟨_, rfl⟩
    have hat : (s[1]'(by omega)).toNat = a := by rw [← ha, tl_at s 0 (by omega) (by omega)]
    by_cases hd : Dg a
    · by_cases h48 : a = 48
      · exact sheetFrom_rA s 0 y w hp hz hy (by omega) (by omega) (fun W => num_zero _ 1 W ⟨by omega, by omega⟩ (by omega) ht (by rw [ha, h48]))
      · have hd' := hd
        obtain ⟨d0, d1⟩ := hd
        by_cases ho : ShOk ((a : Int) - 48 - 1) ((y : Int) - 65)
        · refine absurd (isNm_two (c := a - 49) (r := y - 65) ?_ ?_ h2 ?_ ?_) (h (a - 49) (y - 65) ?_ ?_)
          · omega
          · have := ho.2; omega
          · rw [hy]; have := ho.2; omega
          · rw [hat]; omega
          · omega
          · have := ho.2; omega
        · exact sheetFrom_rC s ((a : Int) - 48) y w hp hz hy (by omega) (by omega) (fun W => num_one_yes _ a W ht ha hd' h48) (shB2_no ho)
    · exact sheetFrom_rA s 0 y w hp hz hy (by omega) (by omega) (fun W => num_one_no _ a W ht ha hd)
  by_cases h3 : s.size = 3
  · have ht : (s.extract 1 s.size).size = 2 := by omega
    obtain ⟨a, ha⟩ : ∃ a, ((s.extract 1 s.size)[0]'(by omega)).toNat = a := ⟨_, rfl⟩
    obtain ⟨b, hb⟩ : ∃ b, ((s.extract 1 s.size)[1]'(by omega)).toNat = b := ⟨_, rfl⟩
    have hat : (s[1]'(by omega)).toNat = a := by rw [← ha, tl_at s 0 (by omega) (by omega)]
    have hbt : (s[2]'(by omega)).toNat = b := by rw [← hb, tl_at s 1 (by omega) (by omega)]
    by_cases hd : Dg a
    · by_cases h48 : a = 48
      · exact sheetFrom_rA s 0 y w hp hz hy (by omega) (by omega) (fun W => num_zero _ 2 W ⟨by omega, by omega⟩ (by omega) ht (by rw [ha, h48]))
      · by_cases hd2 : Dg b
        · have hd' := hd
          have hd3 := hd2
          obtain ⟨d0, d1⟩ := hd
          obtain ⟨d2, d3⟩ := hd2
          by_cases ho : ShOk (10 * ((a : Int) - 48) + ((b : Int) - 48) - 1) ((y : Int) - 65)
          · have o1 := ho.1
            have o2 := ho.2
            refine absurd (isNm_three (c := 10 * (a - 48) + (b - 48) - 1) (r := y - 65) ?_ ?_ ?_ h3 ?_ ?_ ?_) (h (10 * (a - 48) + (b - 48) - 1) (y - 65) ?_ ?_)
            · omega
            · omega
            · omega
            · rw [hy]; omega
            · rw [hat]; omega
            · rw [hbt]; omega
            · omega
            · omega
          · exact sheetFrom_rC s (10 * ((a : Int) - 48) + ((b : Int) - 48)) y w hp hz hy (by omega) (by omega) (fun W => num_two_yes _ a b W ht ha hb hd' h48 hd3) (shB2_no ho)
        · exact sheetFrom_rA s 0 y w hp hz hy (by omega) (by omega) (fun W => num_two_b _ a b W ht ha hb hd h48 hd2)
    · exact sheetFrom_rA s 0 y w hp hz hy (by omega) (by omega) (fun W => num_two_a _ a W ht ha hd)
  · exact sheetFrom_rA s 0 y w hp hz hy (by omega) (by omega) (fun W => num_long _ W (by omega) (by omega))

end Go.Proofs.YteoncpifjifjlaaDoor
