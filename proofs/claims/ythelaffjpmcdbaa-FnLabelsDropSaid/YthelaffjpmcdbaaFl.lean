/- SettingFlip: the model, the program, the exact law's contracts. -/
import Derived.Test.YthelaffjpmcdbaaPrM
namespace Go.Proofs.Ythelaffjpmcdbaa
open Go.RowKit
set_option linter.unusedVariables false

/-- a side turned over -/
def flI (x : Int) : Int := if x = 2 then 3 else if x = 3 then 2 else x
theorem flI_range {x : Int} (h : -9223372036854775808 ≤ x ∧ x ≤ 9223372036854775807) : -9223372036854775808 ≤ flI x ∧ flI x ≤ 9223372036854775807 := by
  unfold flI; split; omega; split <;> omega
theorem fnL_flip_ok {Z : Nat → Int} {n : Nat} (h : ∀ i, i < n → -9223372036854775808 ≤ Z i ∧ Z i ≤ 9223372036854775807) : NsOk (fnL (fun i => flI (Z i)) n) :=
  fnL_ok (fun i hi => flI_range (h i hi))


set_option maxRecDepth 20000 in
set_option maxHeartbeats 8000000 in
theorem implSettingFlip_any (v : Value) (lo hi n : Nat) (Z : Nat → Int) (w : World) (hv : RdI lo hi w v n Z) (hh : hi ≤ w.heap.size) (hn : n ≤ 1048576) :
    Calls Try.prog 36 #[v] w (NsPost (fnL (fun i => flI (Z i)) n) w) := by
  obtain ⟨ao, cap, b, off, rfl, h2, h3, h4, h5, h6⟩ := hv
  have H6 := Lib.hid h6
  have HB0 := Lib.hid ((Below.refl w.heap.size w).alloc (Nat.le_refl _) (.cells #[] 3))
  have HL0 := Lib.hid (nums_lit w)
  have HX := Lib.hid (fun (x : Int) (h1 : x = 2) => show flI x = 3 from if_pos h1)
  have HY := Lib.hid (fun (x : Int) (h1 : x = 3) => show flI x = 2 from by unfold flI; rw [if_neg (by omega), if_pos h1])
  have HZ := Lib.hid (fun (x : Int) (h1 : ¬ x = 2) (h2 : ¬ x = 3) => show flI x = x from by unfold flI; rw [if_neg h1, if_neg h2])
  obtain ⟨i0, hi0, hz0, hz1, hz2⟩ := info_parts Try.infoI
  clear h4 h6
  go_enter Try.func36, Try.ntmps36
  go_wp2
  go_loopw [3, 8] (fun o c wr => ∃ (k : Nat) (u : Value), k ≤ n ∧ c = .int .i64 k ∧ u = o ∧ Nums w.heap.size wr u (fnL (fun i => flI (Z i)) k) ∧ Below w.heap.size w wr) (fun _ c => fun _ => n - (intOf c).toNat)
  case atStart => exact ⟨0, _, Nat.zero_le _, rfl, rfl, nums_none _ _, Below.refl _ _⟩
  case round =>
    obtain ⟨k, u, hk, rfl, rfl, hli, hb⟩ := hrel
    have HB2 := Lib.hid hb
    have HLI := Lib.hid hli
    have hln := fnL_len (fun i => flI (Z i)) k
    clear hli
    by_cases hlt : k < n
    · obtain ⟨rfl, _, _⟩ := h5 (by omega)
      have c1 : wr.cell? ⟨b, off + k, none⟩ = _ := (hb.cell (p := ⟨b, off + k, none⟩) (by show b < _; omega)).trans (H6.out k hlt)
      have hlt' : (k : Int) < n := by omega
      obtain ⟨z, ez⟩ : ∃ z, Z k = z := ⟨_, rfl⟩
      obtain ⟨L, eL⟩ : ∃ L, fnL (fun i => flI (Z i)) k = L := ⟨_, rfl⟩
      have HLe := Lib.hid (show fnL (fun i => flI (Z i)) (k + 1) = L ++ [flI z] by show fnL _ _ ++ [flI (Z k)] = _; rw [eL, ez])
      rw [eL] at HLI hln
      rw [ez] at c1
      clear eL ez hb h5
      by_cases z2 : z = 2
      · rw [HX.out z z2] at HLe
        subst z2
        have HLN := HLI
        go_wp2_with (first | (at_builtin; refine wpList_append_own _ rfl _ _ 26 rfl w.heap.size 3 i0 (.int .i64 0) 1 8 Try.underlying26 hi0 hz0 hz1 hz2 rfl (by decide) _ L.length (nsV L) rfl (HLN.out.alloc _) ⟨wr.heap.size, 0, none⟩ 1 1 [.int .i64 (3)] rfl rfl (World.news_of_block (cs := #[.int .i64 (3)]) (t := 3) (fr := (0, 0)) (heap_alloc_new wr _)) (by simp [Value.oneCell']) (by unfold maxLen; omega) (by omega) (by have := HB2.out.size; simp; omega) ?_; intro v' w4 hown4 hg4 _))
        have HB4 := Lib.hid ((HB2.out.alloc HB2.out.size (.cells #[.int .i64 (3)] 3)).grown hg4 (by simp; have := HB2.out.size; omega) (fun k hk => (HLN.out.lt k hk).1))
        have HL4 := Lib.hid (nums_push (L := L) (x := 3) hown4)
        clear hown4 hg4 HLN
        go_wp2
        go_roundw
        case rel => exact ⟨k + 1, _, by omega, by go_num, rfl, by rw [HLe.out]; exact HL4.out, HB4.out⟩
        case measure => simp [intOf]; omega
      · by_cases z3 : z = 3
        · rw [HY.out z z3] at HLe
          subst z3
          have HLN := HLI
          go_wp2_with (first | (at_builtin; refine wpList_append_own _ rfl _ _ 26 rfl w.heap.size 3 i0 (.int .i64 0) 1 8 Try.underlying26 hi0 hz0 hz1 hz2 rfl (by decide) _ L.length (nsV L) rfl (HLN.out.alloc _) ⟨wr.heap.size, 0, none⟩ 1 1 [.int .i64 (2)] rfl rfl (World.news_of_block (cs := #[.int .i64 (2)]) (t := 3) (fr := (0, 0)) (heap_alloc_new wr _)) (by simp [Value.oneCell']) (by unfold maxLen; omega) (by omega) (by have := HB2.out.size; simp; omega) ?_; intro v' w4 hown4 hg4 _))
          have HB4 := Lib.hid ((HB2.out.alloc HB2.out.size (.cells #[.int .i64 (2)] 3)).grown hg4 (by simp; have := HB2.out.size; omega) (fun k hk => (HLN.out.lt k hk).1))
          have HL4 := Lib.hid (nums_push (L := L) (x := 2) hown4)
          clear hown4 hg4 HLN
          go_wp2
          go_roundw
          case rel => exact ⟨k + 1, _, by omega, by go_num, rfl, by rw [HLe.out]; exact HL4.out, HB4.out⟩
          case measure => simp [intOf]; omega
        · rw [HZ.out z z2 z3] at HLe
          have e2 : (z == 2) = false := by simpa using z2
          have e3 : (z == 3) = false := by simpa using z3
          clear z2 z3
          have HLN := HLI
          go_wp2_with (first | (at_builtin; refine wpList_append_own _ rfl _ _ 26 rfl w.heap.size 3 i0 (.int .i64 0) 1 8 Try.underlying26 hi0 hz0 hz1 hz2 rfl (by decide) _ L.length (nsV L) rfl (HLN.out.alloc _) ⟨wr.heap.size, 0, none⟩ 1 1 [.int .i64 (z)] rfl rfl (World.news_of_block (cs := #[.int .i64 (z)]) (t := 3) (fr := (0, 0)) (heap_alloc_new wr _)) (by simp [Value.oneCell']) (by unfold maxLen; omega) (by omega) (by have := HB2.out.size; simp; omega) ?_; intro v' w4 hown4 hg4 _))
          have HB4 := Lib.hid ((HB2.out.alloc HB2.out.size (.cells #[.int .i64 (z)] 3)).grown hg4 (by simp; have := HB2.out.size; omega) (fun k hk => (HLN.out.lt k hk).1))
          have HL4 := Lib.hid (nums_push (L := L) (x := z) hown4)
          clear hown4 hg4 HLN
          go_wp2
          go_roundw
          case rel => exact ⟨k + 1, _, by omega, by go_num, rfl, by rw [HLe.out]; exact HL4.out, HB4.out⟩
          case measure => simp [intOf]; omega
    · obtain rfl : k = n := by omega
      clear hb h5
      go_wp2
      go_ret
      exact ⟨_, rfl, HLI.out, HB2.out⟩


end Go.Proofs.Ythelaffjpmcdbaa
