/- The law FnBasin of the promises: its walk. -/
import Derived.Test.YtplfphpnpjjinaaFlowI
import Derived.Test.YtplfphpnpjjinaaCnt
import Derived.Test.YtplfphpnpjjinaaDrawS
import Derived.Test.YtplfphpnpjjinaaPHelp
namespace Go.Proofs.Ytplfphpnpjjinaa
open Go.RowKit
set_option linter.unusedVariables false

theorem run_sink {R C : Nat} {Z : Nat → Int} {s : Ix (R * C)} (hs : nxt R C Z s = s) {i : Ix (R * C)} {l : List (Ix (R * C))} (h : IsRun R C Z i l) : cntL l s.1 = if (l.getLastD i).1 = s.1 then 1 else 0 := by
  induction h with
  | @sink i h =>
    have hc := cntL_snoc ([] : List (Ix (R * C))) i s.1
    rw [cntL_nil, List.nil_append, Nat.zero_add] at hc
    rw [hc]
    show (if s.1 = i.1 then 1 else 0) = (if i.1 = s.1 then 1 else 0)
    by_cases e : s.1 = i.1
    · rw [if_pos e, if_pos e.symm]
    · rw [if_neg e, if_neg (fun k => e k.symm)]
  | @flow i l h1 h2 ih =>
    have hne : s.1 ≠ i.1 := fun e => h1 (by have : s = i := Subtype.ext e; rw [← this]; exact hs)
    have hc : cntL (i :: l) s.1 = cntL l s.1 := by
      unfold cntL
      rw [List.countP_cons]
      have e2 : (i.1 == s.1) = false := by rw [beq_eq_false_iff_ne]; exact fun h => hne h.symm
      simp [e2]
    have hp := h2.pos
    rw [hc, ih]
    cases l with
    | nil => simp at hp
    | cons x t => rfl
theorem fl_sink {R C : Nat} {Z : Nat → Int} (hZ : ∀ x, x < R * C → 0 ≤ Z x ∧ Z x ≤ 99) {s : Ix (R * C)} (hs : nxt R C Z s = s) : ∀ n, n ≤ R * C → flN R C Z n s.1 = cntZ (ezV R C Z) (s.1 : Int) n
  | 0, _ => rfl
  | n + 1, hn => by
    have h1 := flN_succ (R := R) (C := C) (Z := Z) ⟨n, by omega⟩ s.1
    have h2 := run_sink hs (runL_is hZ ⟨n, by omega⟩)
    have h3 := ezV_at (R := R) (C := C) (Z := Z) ⟨n, by omega⟩
    have ih := fl_sink hZ hs n (by omega)
    rw [h1, h2, ih]
    show _ + (if (endI R C Z ⟨n, by omega⟩).1 = s.1 then 1 else 0) = _
    by_cases e : (endI R C Z ⟨n, by omega⟩).1 = s.1
    · rw [if_pos e, cntZ_yes (by rw [h3, e])]
    · rw [if_neg e, cntZ_no (by rw [h3]; omega), Nat.add_zero]
theorem OwI.shapeN {lo hi : Nat} {w : World} {v : Value} {n : Nat} {Z : Nat → Int} (h : OwI lo hi w v n Z) : ∃ a c, v = .slice a n c := by
  rcases h with ⟨rfl, rfl⟩ | ⟨b, N, cap, F, rfl, _⟩
  · exact ⟨_, _, rfl⟩
  · exact ⟨_, _, rfl⟩
theorem RdI.at'' {lo hi : Nat} {w : World} {a : Option Addr} {n m c : Nat} {Z : Nat → Int} (h : RdI lo hi w (.slice a n c) m Z) {k : Nat} (hk : k < m) (z : Int) (hz : Z k = z) : ∃ b off, a = some ⟨b, off, none⟩ ∧ w.cell? ⟨b, off + k, none⟩ = some (.int .i64 z) ∧ n = m ∧ -9223372036854775808 ≤ z ∧ z ≤ 9223372036854775807 ∧ m ≤ c ∧ c ≤ 9223372036854775807 := by
  obtain ⟨ao, cp, b, off, e1, i2, i3, i4, i5, i6⟩ := h
  simp only [Value.slice.injEq] at e1
  obtain ⟨rfl, e2, rfl⟩ := e1
  obtain ⟨rfl, _, _⟩ := i5 (by omega)
  have := i4 k hk
  exact ⟨b, off, rfl, by rw [i6 k hk, hz], e2, by omega, by omega, i2, i3⟩

set_option maxHeartbeats 4000000 in
set_option maxRecDepth 100000 in
theorem law_FnBasin (v : Value) (n : Nat) (w : World) (hv : RdB w.heap.size w v n) : Calls Try.prog 10 #[v] w (LawPost w) := by
  have HD := Lib.hid (draw_DrawWaterBasin v n w.heap.size w hv (Nat.le_refl _))
  obtain ⟨ao, cap, cb, off, Z, rfl, hc1, hc2, _⟩ := hv
  by_cases hn : 1048576 < n
  · have hn' : (1048576 : Int) < n := by omega
    go_enter Try.func10, Try.ntmps10
    go_wp2
    go_ret
    exact ⟨rfl, Below.refl _ _⟩
  · have hn' : ¬ (1048576 : Int) < n := by omega
    go_enter Try.func10, Try.ntmps10
    go_wp2_with fail
    refine HD.out.mono ?_
    rintro e w1 ⟨vg, g, s, rfl, _, hm, hgn, hgl, ⟨hk1, hk2⟩, bw1⟩
    obtain ⟨bg, og, cg, rfl⟩ := hm.shape (by omega)
    have R_g := Lib.hid hm
    obtain ⟨hgn1, hgn5⟩ := hgn
    clear hm hgl HD
    have sw1 : w.heap.size ≤ w1.heap.size := bw1.size
    have BL := Lib.hid bw1
    clear bw1
    by_cases hok : g.Valid ∧ SinkAt g.n (g.len 0) g.flat s
    case neg =>
      have HE := Lib.hid (G.bnV_no hok)
      clear hok
      go_wp2_with fail
      refine (implWaterBasin_any _ 0 w1.heap.size g s _ (R_g.out.mono (Nat.zero_le _) (by omega)) (Nat.le_refl _)).mono ?_
      rintro e w2 ⟨rfl, bw2⟩
      have sw2 : w1.heap.size ≤ w2.heap.size := bw2.size
      have L_1 := Lib.hid (R_g.out.same (SameIn.below bw2 (by omega)))
      clear R_g
      have BL_2 := Lib.hid (BL.out.trans (bw2.mono (by omega)))
      clear BL bw2
      rw [HE.out]
      go_wp2_with fail
      refine (specWaterBasin_any _ 0 w2.heap.size g s _ (L_1.out.mono (Nat.zero_le _) (by omega)) (Nat.le_refl _)).mono ?_
      rintro e w3 ⟨rfl, bw3⟩
      have sw3 : w2.heap.size ≤ w3.heap.size := bw3.size
      have L_3 := Lib.hid (L_1.out.same (SameIn.below bw3 (by omega)))
      clear L_1
      have BL_4 := Lib.hid (BL_2.out.trans (bw3.mono (by omega)))
      clear BL_2 bw3
      rw [HE.out]
      go_wp2
      go_ret
      exact ⟨rfl, BL_4.out⟩
    case pos =>
      obtain ⟨hval, hsk⟩ := hok
      have HY0 := G.bnV_yes hval hsk
      have hZ : ∀ x, x < g.n * g.len 0 → 0 ≤ g.flat x ∧ g.flat x ≤ 99 := fun x hx => flat_okW hval hx
      have h49 := mul_le_49 hval.1.2 hval.2.1.2
      have hy1 := (sink_cnt hZ s).1 hsk
      have hcl := cntZ_le (ezV g.n (g.len 0) g.flat) s (g.n * g.len 0)
      obtain ⟨i, hi, hnx⟩ := hsk
      have hfs : g.flZ i.1 = (cntZ (ezV g.n (g.len 0) g.flat) s (g.n * g.len 0) : Int) := by
        unfold G.flZ
        rw [hi, fl_sink hZ hnx _ (Nat.le_refl _)]
      obtain ⟨y, ey⟩ : ∃ y, cntZ (ezV g.n (g.len 0) g.flat) s (g.n * g.len 0) = y := ⟨_, rfl⟩
      rw [ey] at HY0 hy1 hcl hfs
      have HY := Lib.hid HY0
      have HFS := Lib.hid hfs
      have HV := Lib.hid hval
      obtain ⟨N, eN⟩ : ∃ N, g.n * g.len 0 = N := ⟨_, rfl⟩
      have HW := Lib.hid (show g.flW = N by rw [G.flW_yes hval, eN])
      have hiN : i.1 < N := by rw [← eN]; exact i.2
      obtain ⟨x, ex⟩ : ∃ x, i.1 = x := ⟨_, rfl⟩
      rw [ex] at hi hiN HFS
      have HS := Lib.hid hi
      have hy49 : y ≤ 49 := by omega
      have hx1 : ((y : Int) != y) = false := by simp
      have hx2 : decide ((y : Int) < 0) = false := by simp
      have hx3 : ((y : Int) == y) = true := by simp
      have hx4 : decide (1 ≤ (y : Int)) = true := decide_eq_true (by omega)
      have hx5 : (1 : Int) ≤ (y : Int) := by omega
      have hx' : (x : Int) < N := by omega
      rw [eN] at h49
      clear hval HY0 hZ hfs eN ex ey hnx hcl hi
      go_wp2_with fail
      refine (implWaterBasin_any _ 0 w1.heap.size g s _ (R_g.out.mono (Nat.zero_le _) (by omega)) (Nat.le_refl _)).mono ?_
      rintro e w2 ⟨rfl, bw2⟩
      have sw2 : w1.heap.size ≤ w2.heap.size := bw2.size
      have L_1 := Lib.hid (R_g.out.same (SameIn.below bw2 (by omega)))
      clear R_g
      have BL_2 := Lib.hid (BL.out.trans (bw2.mono (by omega)))
      clear BL bw2
      rw [HY.out]
      go_wp2_with fail
      refine (specWaterBasin_any _ 0 w2.heap.size g s _ (L_1.out.mono (Nat.zero_le _) (by omega)) (Nat.le_refl _)).mono ?_
      rintro e w3 ⟨rfl, bw3⟩
      have sw3 : w2.heap.size ≤ w3.heap.size := bw3.size
      have L_3 := Lib.hid (L_1.out.same (SameIn.below bw3 (by omega)))
      clear L_1
      have BL_4 := Lib.hid (BL_2.out.trans (bw3.mono (by omega)))
      clear BL_2 bw3
      rw [HY.out]
      go_wp2_with fail
      refine (implWaterFlow_any _ 0 w3.heap.size g _ (L_3.out.mono (Nat.zero_le _) (by omega)) (Nat.le_refl _) true (by simp [HV.out])).mono ?_
      rintro e w4 ⟨v_f, rfl, _, hl, bw4⟩
      rw [HW.out] at hl
      obtain ⟨a_f, c_f, rfl⟩ := hl.shapeN
      have Nw4 := Lib.hid hl.rd
      clear hl
      have sw4 : w3.heap.size ≤ w4.heap.size := bw4.size
      have L_5 := Lib.hid (L_3.out.same (SameIn.below bw4 (by omega)))
      clear L_3
      have BL_6 := Lib.hid (BL_4.out.trans (bw4.mono (by omega)))
      clear BL_4 bw4
      obtain ⟨bf, of, rfl, cf, _, ro1, ro2, _, ro4⟩ := Nw4.out.at'' hiN (y : Int) HFS.out
      rw [HS.out]
      go_wp2_with fail
      first | go_quiet (fail) | skip
      go_wp2
      go_ret
      exact ⟨rfl, by first | exact BL_6.out | exact below_drewN BL_6.out _⟩
end Go.Proofs.Ytplfphpnpjjinaa

