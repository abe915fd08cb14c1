/- Thinned lines of the model: heights of the points, half of them, one dropped, two joined. -/
import Derived.Test.YtmfdflkpbejpoaaThT
namespace Go.Proofs.Ytmfdflkpbejpoaa
open Go.RowKit
set_option linter.unusedVariables false

/-- the heights at points -/
def hgF (Z Y : Nat → Int) (i : Nat) : Int := Z (Y i).toNat
noncomputable def thP (n : Nat) (Z : Nat → Int) (m : Nat) (Y : Nat → Int) : List Int := if thB n Z m Y = true then fnL (hgF Z Y) m else []
theorem thP_yes {n : Nat} {Z : Nat → Int} {m : Nat} {Y : Nat → Int} (h : ThOk n Z m Y) : thP n Z m Y = fnL (hgF Z Y) m := by rw [thP, if_pos (thB_yes h)]
theorem thP_no {n : Nat} {Z : Nat → Int} {m : Nat} {Y : Nat → Int} (h : ¬ ThOk n Z m Y) : thP n Z m Y = [] := by rw [thP, if_neg (by rw [thB_no h]; simp)]
theorem hgF_rng {n : Nat} {Z : Nat → Int} {m : Nat} {Y : Nat → Int} (h : ThOk n Z m Y) (i : Nat) (hi : i < m) : 0 ≤ hgF Z Y i ∧ hgF Z Y i ≤ 99 := by
  obtain ⟨k, hk, hkn, _⟩ := h.nat i hi
  unfold hgF
  rw [hk]
  exact h.1.2 _ (by omega)
theorem thP_ok (n : Nat) (Z : Nat → Int) (m : Nat) (Y : Nat → Int) : NsOk (thP n Z m Y) := by
  by_cases h : ThOk n Z m Y
  · rw [thP_yes h]
    exact fnL_ok (fun i hi => by have := hgF_rng h i hi; omega)
  · rw [thP_no h]; intro x hx; simp at hx
theorem thP_len (n : Nat) (Z : Nat → Int) (m : Nat) (Y : Nat → Int) : (thP n Z m Y).length ≤ m := by
  by_cases h : ThOk n Z m Y
  · rw [thP_yes h, fnL_len]; exact Nat.le_refl _
  · rw [thP_no h]; exact Nat.zero_le _

set_option maxHeartbeats 4000000 in
set_option maxRecDepth 20000 in
theorem specThinProfile_any (v u : Value) (lo hi lo2 hi2 n m : Nat) (Z Y : Nat → Int) (w : World) (hv : RdI lo hi w v n Z) (hu : RdI lo2 hi2 w u m Y) (hh : hi ≤ w.heap.size) (hh2 : hi2 ≤ w.heap.size) (hn : n ≤ 1048576) (hm : m ≤ 1048576) :
    Calls Try.prog 40 #[v, u] w (NbPost (thB n Z m Y) (thP n Z m Y) w) := by
  have HV := Lib.hid (fun (W : World) (hb : Below w.heap.size w W) => specThinValid_any v u lo hi lo2 hi2 n m Z Y W (hv.same (SameIn.below hb hh)) (hu.same (SameIn.below hb hh2)) hn hm)
  have hb0 := (Below.refl w.heap.size w).alloc (Nat.le_refl _) (.cells #[] 3)
  have HB0 := Lib.hid hb0
  have HL0 := Lib.hid (nums_lit w)
  obtain ⟨i0, hi0, hz0, hz1, hz2⟩ := info_parts Try.infoI
  by_cases h : ThOk n Z m Y
  · have HTB := Lib.hid (thB_yes h)
    have HA := Lib.hid (thP_yes h)
    have hn20 := h.1.1.2
    have hmn := h.len
    have hm1 := h.2.1
    obtain ⟨b1, off1, cap1, rfl, hcap1, _, hbh1, hc1⟩ := hv.open (by omega)
    obtain ⟨b, off, cap, rfl, hcap, _, hbh, hc⟩ := hu.open (by omega)
    have HC1 := Lib.hid (fun (W : World) (hb : Below w.heap.size w W) (x : Nat) (hx : x < n) => (hb.cell (p := ⟨b1, off1 + x, none⟩) (by show b1 < _; omega)).trans (hc1 x hx))
    have HC2 := Lib.hid (fun (W : World) (hb : Below w.heap.size w W) (x : Nat) (hx : x < m) => (hb.cell (p := ⟨b, off + x, none⟩) (by show b < _; omega)).trans (hc x hx))
    have HG := Lib.hid (fun (t : Nat) (ht : t < m) => (show ∃ a : Nat, Y t = a ∧ a < n ∧ hgF Z Y t = Z a from by
      obtain ⟨k, hk, hkn, _⟩ := h.nat t ht
      exact ⟨k, hk, hkn, by unfold hgF; rw [hk]; rfl⟩))
    clear hv hu h hc hc1 hb0
    go_enter Try.func40, Try.ntmps40
    go_wp2
    go_loopw [6, 7] (fun o c wr => ∃ (kk : Nat) (x : Value), kk ≤ m ∧ c = .int .i64 kk ∧ x = o ∧ Nums w.heap.size wr x (fnL (hgF Z Y) kk) ∧ Below w.heap.size w wr) (fun _ c _ => m - (intOf c).toNat)
    case atStart => exact ⟨0, _, Nat.zero_le _, rfl, rfl, HL0.out, HB0.out⟩
    case round =>
      obtain ⟨k, x, hk, rfl, rfl, hli, hb⟩ := hrel
      have HB1 := Lib.hid hb
      have HLI := Lib.hid hli
      have hln := Nat.le_of_eq (fnL_len (hgF Z Y) k)
      clear hb hli
      by_cases hlt : k < m
      · have hlt' : (k : Int) < m := by omega
        obtain ⟨a, ea, han, eg⟩ := HG.out k hlt
        have han' : (a : Int) < n := by omega
        have c2 := HC2.out _ HB1.out k hlt
        have c1 := HC1.out _ HB1.out a han
        rw [ea] at c2
        have HS := Lib.hid (show fnL (hgF Z Y) (k + 1) = fnL (hgF Z Y) k ++ [Z a] by rw [← eg]; rfl)
        obtain ⟨L, eL⟩ : ∃ L, fnL (hgF Z Y) k = L := ⟨_, rfl⟩
        obtain ⟨za, eza⟩ : ∃ za, Z a = za := ⟨_, rfl⟩
        rw [eL] at HLI HS hln
        rw [eza] at HS c1
        clear ea eg eL eza
        go_wp2_with fail
        refine (HV.out _ HB1.out).mono ?_
        rintro e w3 ⟨rfl, rfl⟩
        rw [HTB.out]
        have HLN := Lib.hid HLI.out; have hs3 := HB1.out.size
        clear HLI
        go_wp2_with (first | (at_builtin; refine wpList_append_own _ rfl _ _ 23 rfl w.heap.size 3 i0 (.int .i64 0) 1 8 Try.underlying23 hi0 hz0 hz1 hz2 rfl (by decide) _ L.length (nsV L) rfl (HLN.out.alloc _) ⟨wr.heap.size, 0, none⟩ 1 1 [.int .i64 za] rfl rfl (World.news_of_block (cs := #[.int .i64 za]) (t := 3) (fr := (0, 0)) (heap_alloc_new wr _)) (by simp [Value.oneCell']) (by unfold maxLen; omega) (by omega) (by simp; omega) ?_; intro v' w4 hown4 hg4 _))
        have HB4 := Lib.hid ((HB1.out.alloc HB1.out.size (.cells #[.int .i64 za] 3)).grown hg4 (by simp; have := HB1.out.size; omega) (fun k hk => (HLN.out.lt k hk).1))
        have HL4 := Lib.hid (nums_push (L := L) (x := za) hown4)
        clear hown4 hg4 HLN
        go_wp2
        go_roundw
        case rel => exact ⟨k + 1, _, by omega, by go_num, rfl, by rw [HS.out]; exact HL4.out, HB4.out⟩
        case measure => simp [intOf]; omega
      · obtain rfl : k = m := by omega
        have hlt' : ¬ (k : Int) < k := by omega
        go_wp2_with fail
        refine (HV.out _ HB1.out).mono ?_
        rintro e w3 ⟨rfl, rfl⟩
        rw [HTB.out]
        go_wp2
        go_ret2
        exact NbPost.mk' HTB.out HA.out HLI.out HB1.out
  · have HTB := Lib.hid (thB_no h)
    have HA := Lib.hid (thP_no h)
    obtain ⟨va, vc, rfl⟩ := hv.shape
    obtain ⟨ua, uc, rfl⟩ := hu.shape
    clear hv hu h hb0
    by_cases hm0 : 0 < m
    · have hm0' : (0 : Int) < m := by omega
      go_enter Try.func40, Try.ntmps40
      go_wp2
      go_loopw [6, 7] (fun o c wr => o = .slice (some ⟨w.heap.size, 0, none⟩) 0 0 ∧ c = .int .i64 0 ∧ wr = w.alloc (.cells #[] 3)) (fun _ c _ => m - (intOf c).toNat)
      case atStart => exact ⟨rfl, rfl, rfl⟩
      case round =>
        obtain ⟨rfl, rfl, rfl⟩ := hrel
        go_wp2_with fail
        refine (HV.out _ HB0.out).mono ?_
        rintro e w3 ⟨rfl, rfl⟩
        rw [HTB.out]
        go_wp2_with fail
        refine (HV.out _ HB0.out).mono ?_
        rintro e w3 ⟨rfl, rfl⟩
        rw [HTB.out]
        go_wp2
        go_ret2
        exact NbPost.mk' HTB.out HA.out HL0.out HB0.out
    · have hm0' : ¬ (0 : Int) < m := by omega
      go_enter Try.func40, Try.ntmps40
      go_wp2
      go_loopw [6, 7] (fun o c wr => o = .slice (some ⟨w.heap.size, 0, none⟩) 0 0 ∧ c = .int .i64 0 ∧ wr = w.alloc (.cells #[] 3)) (fun _ c _ => m - (intOf c).toNat)
      case atStart => exact ⟨rfl, rfl, rfl⟩
      case round =>
        obtain ⟨rfl, rfl, rfl⟩ := hrel
        go_wp2_with fail
        refine (HV.out _ HB0.out).mono ?_
        rintro e w3 ⟨rfl, rfl⟩
        rw [HTB.out]
        go_wp2
        go_ret2
        exact NbPost.mk' HTB.out HA.out HL0.out HB0.out

/-- each second point and the last one, among the first k -/
def hsL (n : Nat) : Nat → List Int
  | 0 => []
  | k + 1 => if k % 2 = 0 ∨ k + 1 = n then hsL n k ++ [(k : Int)] else hsL n k
theorem hsL_yes {n k : Nat} (h : k % 2 = 0 ∨ k + 1 = n) : hsL n (k + 1) = hsL n k ++ [(k : Int)] := by
  show (if _ then _ else _) = _
  rw [if_pos h]
theorem hsL_no {n k : Nat} (h : ¬ (k % 2 = 0 ∨ k + 1 = n)) : hsL n (k + 1) = hsL n k := by
  show (if _ then _ else _) = _
  rw [if_neg h]
theorem hsL_len (n : Nat) : ∀ k, (hsL n k).length ≤ k := by
  intro k
  induction k with
  | zero => exact Nat.le_refl _
  | succ k ih =>
    by_cases h : k % 2 = 0 ∨ k + 1 = n
    · rw [hsL_yes h]; simp; exact ih
    · rw [hsL_no h]; omega
/-- what is taken among the first k is followed by the half from there on -/
theorem hsL_ha {n : Nat} : ∀ d k, k + d = n → 0 < d → k % 2 = 0 → hsL n n = hsL n k ++ lnL n (haF n) k := by
  intro d
  induction d using Nat.strongRecOn with
  | ind d ih =>
    intro k hk hd he
    by_cases h1 : k + 1 = n
    · rw [lnL_last (n := n) (i := k) (by omega), ← hsL_yes (Or.inr h1), h1]
    · have hs := lnL_step (haF_rul n) (i := k) (by omega)
      by_cases h2 : k + 2 = n
      · have e1 : haF n k = k + 1 := by unfold haF; omega
        rw [hs, e1, lnL_last (n := n) (i := k + 1) (by omega)]
        have e2 : hsL n n = hsL n (k + 1 + 1) := by rw [h2]
        rw [e2, hsL_yes (Or.inr (by omega)), hsL_yes (Or.inl he)]
        simp
      · have e1 : haF n k = k + 2 := by unfold haF; omega
        rw [hs, e1, ih (d - 2) (by omega) (k + 2) (by omega) (by omega) (by omega), hsL_no (by omega), hsL_yes (Or.inl he)]
        simp
theorem hsL_all {n : Nat} (h : 1 ≤ n) : hsL n n = haL n := by
  have := hsL_ha (n := n) n 0 (by omega) (by omega) rfl
  rw [this]; rfl
noncomputable def thH (n : Nat) (Z : Nat → Int) : List Int := if prB n Z = true then haL n else []
theorem thH_yes {n : Nat} {Z : Nat → Int} (h : PrOk n Z) : thH n Z = haL n := by rw [thH, if_pos (prB_yes h)]
theorem thH_no {n : Nat} {Z : Nat → Int} (h : ¬ PrOk n Z) : thH n Z = [] := by rw [thH, if_neg (by rw [prB_no h]; simp)]
theorem thH_ok (n : Nat) (Z : Nat → Int) : NsOk (thH n Z) := by
  by_cases h : PrOk n Z
  · rw [thH_yes h]; exact lnL_ok (haF_rul n) 0 (by have := h.1.1; omega) h.1.2
  · rw [thH_no h]; intro x hx; simp at hx
theorem thH_len (n : Nat) (Z : Nat → Int) : (thH n Z).length ≤ n + 1 := by
  by_cases h : PrOk n Z
  · rw [thH_yes h]; exact lnF_len n 0
  · rw [thH_no h]; exact Nat.zero_le _

set_option maxHeartbeats 4000000 in
set_option maxRecDepth 20000 in
theorem specThinHalf_any (v : Value) (lo hi n : Nat) (Z : Nat → Int) (w : World) (hv : RdI lo hi w v n Z) (hh : hi ≤ w.heap.size) :
    Calls Try.prog 44 #[v] w (NbPost (prB n Z) (thH n Z) w) := by
  have HV := Lib.hid (fun (W : World) (hb : Below w.heap.size w W) => specProfileValid_any v lo hi n Z W (hv.same (SameIn.below hb hh)))
  have hb0 := (Below.refl w.heap.size w).alloc (Nat.le_refl _) (.cells #[] 3)
  have HB0 := Lib.hid hb0
  have HL0 := Lib.hid (nums_lit w)
  obtain ⟨i0, hi0, hz0, hz1, hz2⟩ := info_parts Try.infoI
  obtain ⟨va, vc, rfl⟩ := hv.shape
  clear hv hb0
  by_cases h : PrOk n Z
  · have HTB := Lib.hid (prB_yes h)
    have HA := Lib.hid (show hsL n n = thH n Z by rw [thH_yes h, hsL_all h.1.1])
    have hn20 := h.1.2
    have hn1 := h.1.1
    clear h
    go_enter Try.func44, Try.ntmps44
    go_wp2
    go_loopw [4, 5] (fun o c wr => ∃ (kk : Nat) (x : Value), kk ≤ n ∧ c = .int .i64 kk ∧ x = o ∧ Nums w.heap.size wr x (hsL n kk) ∧ Below w.heap.size w wr) (fun _ c _ => n - (intOf c).toNat)
    case atStart => exact ⟨0, _, Nat.zero_le _, rfl, rfl, HL0.out, HB0.out⟩
    case round =>
      obtain ⟨k, x, hk, rfl, rfl, hli, hb⟩ := hrel
      have HB1 := Lib.hid hb
      have HLI := Lib.hid hli
      have hln := hsL_len n k
      clear hb hli
      by_cases hlt : k < n
      · have hlt' : (k : Int) < n := by omega
        obtain ⟨r, er⟩ : ∃ r, r = k % 2 := ⟨_, rfl⟩
        have hr2 : r < 2 := by omega
        have hmod : (k : Int) % 2 = (r : Int) := by omega
        have hmod2 : (k : Int).tmod 2 = (r : Int) := by rw [Int.tmod_eq_emod_of_nonneg (by omega)]; exact hmod
        by_cases hh2 : k % 2 = 0
        · have HS := Lib.hid (hsL_yes (n := n) (k := k) (Or.inl hh2))
          obtain rfl : r = 0 := by omega
          obtain ⟨L, eL⟩ : ∃ L, hsL n k = L := ⟨_, rfl⟩
          rw [eL] at HLI HS hln
          clear eL er hh2
          go_wp2_with fail
          refine (HV.out _ HB1.out).mono ?_
          rintro e w3 ⟨rfl, rfl⟩
          rw [HTB.out]
          have HLN := Lib.hid HLI.out; have hs3 := HB1.out.size
          clear HLI
          go_wp2_with (first | (at_builtin; refine wpList_append_own _ rfl _ _ 23 rfl w.heap.size 3 i0 (.int .i64 0) 1 8 Try.underlying23 hi0 hz0 hz1 hz2 rfl (by decide) _ L.length (nsV L) rfl (HLN.out.alloc _) ⟨wr.heap.size, 0, none⟩ 1 1 [.int .i64 k] rfl rfl (World.news_of_block (cs := #[.int .i64 k]) (t := 3) (fr := (0, 0)) (heap_alloc_new wr _)) (by simp [Value.oneCell']) (by unfold maxLen; omega) (by omega) (by simp; omega) ?_; intro v' w4 hown4 hg4 _))
          have HB4 := Lib.hid ((HB1.out.alloc HB1.out.size (.cells #[.int .i64 k] 3)).grown hg4 (by simp; have := HB1.out.size; omega) (fun k hk => (HLN.out.lt k hk).1))
          have HL4 := Lib.hid (nums_push (L := L) (x := k) hown4)
          clear hown4 hg4 HLN
          go_wp2
          go_roundw
          case rel => exact ⟨k + 1, _, by omega, by go_num, rfl, by rw [HS.out]; exact HL4.out, HB4.out⟩
          case measure => simp [intOf]; omega
        · obtain rfl : r = 1 := by omega
          by_cases hl : k + 1 = n
          · have HS := Lib.hid (hsL_yes (n := n) (k := k) (Or.inr hl))
            have hb2 : ((k : Int) == (n : Int) - 1) = true := by rw [beq_iff_eq]; omega
            obtain ⟨L, eL⟩ : ∃ L, hsL n k = L := ⟨_, rfl⟩
            rw [eL] at HLI HS hln
            have HL2 := Lib.hid hl
            clear eL er hh2 hl
            go_wp2_with fail
            refine (HV.out _ HB1.out).mono ?_
            rintro e w3 ⟨rfl, rfl⟩
            rw [HTB.out]
            have HLN := Lib.hid HLI.out; have hs3 := HB1.out.size
            clear HLI
            go_wp2_with (first | (at_builtin; refine wpList_append_own _ rfl _ _ 23 rfl w.heap.size 3 i0 (.int .i64 0) 1 8 Try.underlying23 hi0 hz0 hz1 hz2 rfl (by decide) _ L.length (nsV L) rfl (HLN.out.alloc _) ⟨wr.heap.size, 0, none⟩ 1 1 [.int .i64 k] rfl rfl (World.news_of_block (cs := #[.int .i64 k]) (t := 3) (fr := (0, 0)) (heap_alloc_new wr _)) (by simp [Value.oneCell']) (by unfold maxLen; omega) (by omega) (by simp; omega) ?_; intro v' w4 hown4 hg4 _))
            have HB4 := Lib.hid ((HB1.out.alloc HB1.out.size (.cells #[.int .i64 k] 3)).grown hg4 (by simp; have := HB1.out.size; omega) (fun k hk => (HLN.out.lt k hk).1))
            have HL4 := Lib.hid (nums_push (L := L) (x := k) hown4)
            clear hown4 hg4 HLN
            go_wp2
            go_roundw
            case rel => exact ⟨k + 1, _, by omega, by go_num, rfl, by rw [HS.out]; exact HL4.out, HB4.out⟩
            case measure => simp [intOf]; omega
          · have HS := Lib.hid (hsL_no (n := n) (k := k) (by omega))
            have hb2 : ((k : Int) == (n : Int) - 1) = false := by rw [beq_eq_false_iff_ne]; omega
            clear er hh2 hl
            go_wp2_with fail
            refine (HV.out _ HB1.out).mono ?_
            rintro e w3 ⟨rfl, rfl⟩
            rw [HTB.out]
            go_wp2
            go_roundw
            case rel => exact ⟨k + 1, _, by omega, by go_num, rfl, by rw [HS.out]; exact HLI.out, HB1.out⟩
            case measure => simp [intOf]; omega
      · obtain rfl : k = n := by omega
        have hlt' : ¬ (k : Int) < k := by omega
        go_wp2_with fail
        refine (HV.out _ HB1.out).mono ?_
        rintro e w3 ⟨rfl, rfl⟩
        rw [HTB.out]
        go_wp2
        go_ret2
        exact NbPost.mk' HTB.out HA.out.symm HLI.out HB1.out
  · have HTB := Lib.hid (prB_no h)
    have HA := Lib.hid (thH_no h)
    clear h
    by_cases hm0 : 0 < n
    · have hm0' : (0 : Int) < n := by omega
      go_enter Try.func44, Try.ntmps44
      go_wp2
      go_loopw [4, 5] (fun o c wr => o = .slice (some ⟨w.heap.size, 0, none⟩) 0 0 ∧ c = .int .i64 0 ∧ wr = w.alloc (.cells #[] 3)) (fun _ c _ => n - (intOf c).toNat)
      case atStart => exact ⟨rfl, rfl, rfl⟩
      case round =>
        obtain ⟨rfl, rfl, rfl⟩ := hrel
        go_wp2_with fail
        refine (HV.out _ HB0.out).mono ?_
        rintro e w3 ⟨rfl, rfl⟩
        rw [HTB.out]
        go_wp2_with fail
        refine (HV.out _ HB0.out).mono ?_
        rintro e w3 ⟨rfl, rfl⟩
        rw [HTB.out]
        go_wp2
        go_ret2
        exact NbPost.mk' HTB.out HA.out HL0.out HB0.out
    · have hm0' : ¬ (0 : Int) < n := by omega
      go_enter Try.func44, Try.ntmps44
      go_wp2
      go_loopw [4, 5] (fun o c wr => o = .slice (some ⟨w.heap.size, 0, none⟩) 0 0 ∧ c = .int .i64 0 ∧ wr = w.alloc (.cells #[] 3)) (fun _ c _ => n - (intOf c).toNat)
      case atStart => exact ⟨rfl, rfl, rfl⟩
      case round =>
        obtain ⟨rfl, rfl, rfl⟩ := hrel
        go_wp2_with fail
        refine (HV.out _ HB0.out).mono ?_
        rintro e w3 ⟨rfl, rfl⟩
        rw [HTB.out]
        go_wp2
        go_ret2
        exact NbPost.mk' HTB.out HA.out HL0.out HB0.out

end Go.Proofs.Ytmfdflkpbejpoaa
