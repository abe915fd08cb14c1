/- The law FnLongest of the promises: its walk. -/
import Derived.Test.YtekekbepobafdabPHelp
import Derived.Test.YtekekbepobafdabRunE
import Derived.Test.YtekekbepobafdabWLongM
import Derived.Test.YtekekbepobafdabLongS
import Derived.Test.YtekekbepobafdabRunLow
namespace Go.Proofs.Ytekekbepobafdab
open Go.RowKit
set_option linter.unusedVariables false

/-- a list of this length, true -/
def LnPost (n : Nat) (w : World) (e : Ending) (w' : World) : Prop := ∃ a c, e = .returned (.tuple #[.slice a n c, .bool true]) ∧ Below w.heap.size w w'
theorem LbPost.ln {M : Nat} {l : List (Ix M)} {w w' : World} {e : Ending} {n : Nat} (h : LbPost true l w e w') (hn : l.length = n) : LnPost n w e w' := by
  obtain ⟨v, he, hl, hb⟩ := h
  obtain ⟨a, c, rfl⟩ := hl.shape
  exact ⟨a, c, by rw [he, hn], hb⟩
theorem run_at (g : G) (h : g.Valid) (k r c : Nat) (hk : k < g.n * g.len 0) (hr : r < g.n) (hc : c < g.len 0) (he : k = r * g.len 0 + c) (u : Value) (lo hi : Nat) (W : World) (hu : RdM lo hi W u g) (hh : hi ≤ W.heap.size) :
    Calls Try.prog 41 #[u, .int .i64 r, .int .i64 c] W (LnPost (lenAt g.n (g.len 0) g.flat k) W) := by
  have hcell : g.Cell r c := ⟨h, ⟨by omega, by omega⟩, by omega, by omega⟩
  have e := G.runV_yes hcell ⟨k, hk⟩ he
  exact (implWaterRun_any u lo hi g _ _ W hu hh true ⟨fun _ => hcell, fun _ => rfl⟩).mono fun _ _ q => q.ln (by rw [e]; exact (lenAt_eq ⟨k, hk⟩).symm)

set_option maxHeartbeats 4000000 in
set_option maxRecDepth 100000 in
theorem law_FnLongest (v : Value) (n : Nat) (w : World) (hv : RdB w.heap.size w v n) : Calls Try.prog 9 #[v] w (LawPost w) := by
  have HD := Lib.hid (draw_DrawWaterLongest v n w.heap.size w hv (Nat.le_refl _))
  obtain ⟨ao, cap, cb, off, Z, rfl, hc1, hc2, _⟩ := hv
  by_cases hn : 1048576 < n
  · have hn' : (1048576 : Int) < n := by omega
    go_enter Try.func9, Try.ntmps9
    go_wp2
    go_ret
    exact ⟨rfl, Below.refl _ _⟩
  · have hn' : ¬ (1048576 : Int) < n := by omega
    go_enter Try.func9, Try.ntmps9
    go_wp2_with fail
    refine HD.out.mono ?_
    rintro e w1 ⟨vg, g, rfl, _, hm, hgn, hgl, bw1⟩
    obtain ⟨bg, og, cg, rfl⟩ := hm.shape (by omega)
    have R_g := Lib.hid hm
    have HGL := Lib.hid hgl
    obtain ⟨hgn1, hgn5⟩ := hgn
    clear hm hgl HD
    have sw1 : w.heap.size ≤ w1.heap.size := bw1.size
    have BL := Lib.hid bw1
    clear bw1
    have HIL := Lib.hid (fun (u : Value) (lo hi : Nat) (W : World) (h1 : RdM lo hi W u g) (h2 : hi ≤ W.heap.size) => implWaterLongest_any u lo hi g W h1 h2)
    have HSL := Lib.hid (fun (u : Value) (lo hi : Nat) (W : World) (h1 : RdM lo hi W u g) (h2 : hi ≤ W.heap.size) => specWaterLongest_any u lo hi g W h1 h2)
    by_cases hval : g.Valid
    case neg =>
      rw [G.lgV_no hval] at HIL HSL
      clear hval
      go_wp2_with fail
      refine (HIL.out _ 0 w1.heap.size _ (R_g.out.mono (Nat.zero_le _) (by omega)) (Nat.le_refl _)).mono ?_
      rintro e w2 ⟨rfl, bw2⟩
      have sw2 : w1.heap.size ≤ w2.heap.size := bw2.size
      have L_1 := Lib.hid (R_g.out.same (SameIn.below bw2 (by omega)))
      clear R_g
      have BL_2 := Lib.hid (BL.out.trans (bw2.mono (by omega)))
      clear BL bw2
      go_wp2_with fail
      refine (HSL.out _ 0 w2.heap.size _ (L_1.out.mono (Nat.zero_le _) (by omega)) (Nat.le_refl _)).mono ?_
      rintro e w3 ⟨rfl, bw3⟩
      have sw3 : w2.heap.size ≤ w3.heap.size := bw3.size
      have L_3 := Lib.hid (L_1.out.same (SameIn.below bw3 (by omega)))
      clear L_1
      have BL_4 := Lib.hid (BL_2.out.trans (bw3.mono (by omega)))
      clear BL_2 bw3
      go_wp2
      go_ret
      exact ⟨rfl, BL_4.out⟩
    case pos =>
      have HV := Lib.hid hval
      have HZ := Lib.hid (fun x (hx : x < g.n * g.len 0) => flat_okW hval hx)
      have hN : 0 < g.n * g.len 0 := Nat.mul_pos hval.1.1 hval.2.1.1
      have hN49 : g.n * g.len 0 ≤ 49 := mul_le_49 hval.1.2 hval.2.1.2
      have hl1 := hval.2.1.1
      have hl7 := hval.2.1.2
      have hn1 := hval.1.1
      have hok := lgst_ok g.n (g.len 0) g.flat (g.n * g.len 0)
      have hle := lgst_le_range g.n (g.len 0) g.flat (fun x hx => flat_okW hval hx) hN
      have hmn := mn_ok hN (fun i hi => flat_okW hval hi)
      have hmx := mx_ok hN (fun i hi => flat_okW hval hi)
      rw [G.lgV_yes hval] at HIL HSL
      clear hval
      obtain ⟨lo, elo⟩ : ∃ lo, mn g.flat (g.n * g.len 0) = lo := ⟨_, rfl⟩
      obtain ⟨hi, ehi⟩ : ∃ hi, mx g.flat (g.n * g.len 0) = hi := ⟨_, rfl⟩
      obtain ⟨lg, elg⟩ : ∃ lg, lgst g.n (g.len 0) g.flat (g.n * g.len 0) = lg := ⟨_, rfl⟩
      obtain ⟨N, eN⟩ : ∃ N, g.n * g.len 0 = N := ⟨_, rfl⟩
      rw [elg] at HIL HSL hok hle
      rw [elo] at hle hmn
      rw [ehi] at hle hmx
      have ELO := Lib.hid elo
      have EHI := Lib.hid ehi
      have ELG := Lib.hid elg
      have EN := Lib.hid eN
      rw [eN] at hN hN49
      obtain ⟨hok1, hok2⟩ := hok
      obtain ⟨hmn1, hmn2⟩ := hmn
      obtain ⟨hmx1, hmx2⟩ := hmx
      clear elo ehi eN elg
      obtain ⟨C, eC⟩ : ∃ C, g.len 0 = C := ⟨_, rfl⟩
      have EC := Lib.hid eC
      go_wp2_with fail
      refine (HIL.out _ 0 w1.heap.size _ (R_g.out.mono (Nat.zero_le _) (by omega)) (Nat.le_refl _)).mono ?_
      rintro e w2 ⟨rfl, bw2⟩
      have sw2 : w1.heap.size ≤ w2.heap.size := bw2.size
      have L_1 := Lib.hid (R_g.out.same (SameIn.below bw2 (by omega)))
      clear R_g
      have BL_2 := Lib.hid (BL.out.trans (bw2.mono (by omega)))
      clear BL bw2
      go_wp2_with fail
      refine (HSL.out _ 0 w2.heap.size _ (L_1.out.mono (Nat.zero_le _) (by omega)) (Nat.le_refl _)).mono ?_
      rintro e w3 ⟨rfl, bw3⟩
      have sw3 : w2.heap.size ≤ w3.heap.size := bw3.size
      have L_3 := Lib.hid (L_1.out.same (SameIn.below bw3 (by omega)))
      clear L_1
      have BL_4 := Lib.hid (BL_2.out.trans (bw3.mono (by omega)))
      clear BL_2 bw3
      have hx1 : (lg != lg) = false := by simp
      obtain ⟨a1, c1, h1⟩ := L_3.out.headW hn1 C (by rw [eC])
      rw [eC] at hl1 hl7
      clear eC
      go_wp2
      clear h1
      go_loopw [7, 8] (fun a i wr => ∃ k : Nat, k ≤ N ∧ i = .int .i64 k ∧ a = .int .i64 (lgst g.n (g.len 0) g.flat k) ∧ Below w3.heap.size w3 wr) (fun _ i _ => N - (intOf i).toNat)
      case atStart => exact ⟨0, Nat.zero_le _, rfl, rfl, Below.refl _ _⟩
      case round =>
        obtain ⟨k, hk, rfl, rfl, hb⟩ := hrel
        have HR := Lib.hid (L_3.out.same (SameIn.below hb (by omega)))
        have HB := Lib.hid hb
        have hsz := hb.size
        have hlk := lgst_ok g.n (g.len 0) g.flat k
        obtain ⟨hlk1, hlk2⟩ := hlk
        clear hb
        go_wp2_with fail
        refine (cellsOf_any _ 0 _ g _ HR.out HV.out).mono ?_
        rintro e w9 ⟨rfl, rfl⟩
        rw [EN.out]
        by_cases hlt : k < N
        · have hlt' : (k : Int) < N := by omega
          obtain ⟨r, er⟩ : ∃ r, r = k / C := ⟨_, rfl⟩
          obtain ⟨c, ec⟩ : ∃ c, c = k % C := ⟨_, rfl⟩
          have t1 : (k : Int) / (C : Int) = (r : Int) := by rw [er]; exact (Int.natCast_ediv _ _).symm
          have t2 : (k : Int) % (C : Int) = (c : Int) := by rw [ec]; exact (Int.natCast_emod _ _).symm
          have hr49 : r ≤ k := by rw [er]; exact Nat.div_le_self _ _
          have hc7 : c < C := by rw [ec]; exact Nat.mod_lt _ (by omega)
          have hk0 : (0 : Int) ≤ (k : Int) := by omega
          have hrn : r < g.n := by rw [er]; exact (Nat.div_lt_iff_lt_mul (by omega)).2 (by rw [← EC.out, EN.out]; exact hlt)
          have HRA := Lib.hid (run_at g HV.out k r c (by rw [EN.out]; exact hlt) hrn (by rw [EC.out]; exact hc7) (by rw [EC.out, er, ec, Nat.mul_comm]; exact (Nat.div_add_mod k C).symm))
          clear hrn
          have h3' : ¬ (C : Int) = 0 := by omega
          have h3'' : ((C : Int) == 0) = false := by rw [beq_eq_false_iff_ne]; omega
          have h4 : (k : Int) ≤ 48 := by omega
          have h5 : (r : Int) ≤ 48 := by omega
          have h6 : (c : Int) ≤ 7 := by omega
          have h7 : (0 : Int) < C := by omega
          have hq1 : IntKind.i64.wrap ((k : Int).tdiv (C : Int)) = (r : Int) := (IntWalk.i64_quo _ _ ⟨by omega, by omega, by omega⟩).trans t1
          have hq2 : (k : Int).tmod (C : Int) = (c : Int) := (IntWalk.rem_in _ _ (by omega)).trans t2
          have hq3 : IntKind.i64.wrap ((k : Int).tmod (C : Int)) = (c : Int) := by rw [hq2]; exact IntWalk.i64_in _ (by omega)
          have h3n : ¬ C = 0 := by omega
          have hqd : IntKind.i64.wrap ((k : Int) / (C : Int)) = (r : Int) := by rw [t1]; exact IntWalk.i64_in _ (by omega)
          clear t1
          have HLE := Lib.hid (lenAt_le g.n (g.len 0) g.flat k)
          have HS := Lib.hid (show lgst g.n (g.len 0) g.flat (k + 1) = max (lgst g.n (g.len 0) g.flat k) (lenAt g.n (g.len 0) g.flat k) from rfl)
          rw [EC.out] at HRA HLE HS hlk1 hlk2
          simp only [EC.out]
          generalize lgst g.n C g.flat k = ml at hlk1 hlk2 HS ⊢
          generalize lenAt g.n C g.flat k = ln at HLE HS HRA
          have hln := HLE.out
          obtain ⟨a2, c2, h1⟩ := HR.out.headW hn1 C EC.out
          clear er ec
          go_wp2_with fail
          have s00 : wr.heap.size ≤ wr.heap.size := Nat.le_refl _
          go_region_held3 (fun w' => wr.heap.size ≤ w'.heap.size) (first | go_keep | exact s0 | exact s00)
            ((go_at_call 41; (refine (HRA.out _ 0 wr.heap.size wr.drew ((HR.out.same (w' := wr.drew) (fun _ _ _ => rfl)).mono (Nat.zero_le _) (by omega)) (Nat.le_refl _)).mono ?_); rintro e w5 ⟨a5, c5, rfl, hb5⟩; have hbu := hb5.undrew; have s0 := hbu.size; have HB5 := Lib.hid hbu; clear hb5 hbu))
          all_goals go_wp2
          all_goals go_roundw
          all_goals first
            | exact ⟨k + 1, by omega, by go_num, by rw [EC.out, HS.out], HB.out.trans (HB5.out.mono hsz)⟩
            | (simp [intOf]; omega)
        · have ek : k = N := by omega
          have HLG := Lib.hid (show lgst g.n (g.len 0) g.flat k = lg by rw [ek, ← EN.out]; exact ELG.out)
          have hge : ¬ (k : Int) < N := by omega
          rw [HLG.out]
          have hx2 : (lg == lg) = true := by simp
          go_wp2_with fail
          refine ((implGridRange_yes _ 0 wr.heap.size g _ (HR.out.mono (Nat.zero_le _) (by omega)) (Nat.le_refl _) HV.out)).mono ?_
          rintro e w6 ⟨rfl, hb6⟩
          have HB6 := Lib.hid (HB.out.trans (hb6.mono hsz))
          rw [ELO.out, EHI.out]
          clear hb6
          have hd : decide (lg ≤ hi - lo + 1) = true := by simp; omega
          go_wp2
          go_ret
          exact ⟨rfl, BL_4.out.trans (HB6.out.mono (by omega))⟩
end Go.Proofs.Ytekekbepobafdab

