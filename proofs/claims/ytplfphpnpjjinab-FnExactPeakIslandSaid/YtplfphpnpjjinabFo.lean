/- The program's sets of cells as trees, by contract. -/
import Derived.Test.YtplfphpnpjjinabRgM2
import Derived.Test.YtplfphpnpjjinabLvI2
import Derived.StillTailTactics
import Derived.Lib.MinMax
namespace Go.Proofs.Ytplfphpnpjjinab
open Go.RowKit
set_option linter.unusedVariables false

/-- block f is a forest, whose parents P lie in block p -/
def Fo (W : World) (f p n : Nat) (P : Nat → Nat) : Prop :=
  W.heap[f]? = some (.cells #[.slice (some ⟨p, 0, none⟩) n n] 110 (0, 0)) ∧ W.rowIs p 3 n (fun j => .int .i64 (P j : Nat)) ∧ f ≠ p
theorem Fo.keep {W W' : World} {f p n : Nat} {P : Nat → Nat} (h : Fo W f p n P) (h1 : W'.heap[f]? = W.heap[f]?) (h2 : W'.heap[p]? = W.heap[p]?) : Fo W' f p n P := ⟨h1.trans h.1, h.2.1.of_block h2, h.2.2⟩
theorem Fo.drew {W : World} {f p n : Nat} {P : Nat → Nat} (h : Fo W f p n P) : Fo W.drew f p n P := h
theorem Fo.set {W : World} {f p n : Nat} {P : Nat → Nat} (h : Fo W f p n P) (i v : Nat) : Fo (W.setCell ⟨p, i, none⟩ (.int .i64 (v : Nat))) f p n (upd P i v) := by
  refine ⟨(Below.heap_setCell _ _ _ _ h.2.2).trans h.1, (h.2.1.set i (.int .i64 (v : Nat))).congr (fun j _ => ?_), h.2.2⟩
  unfold upd
  by_cases e : j = i
  · subst e; simp
  · simp [e]

/-- what a call leaves that only shortens ways, or joins: the roots are those of Q -/
def FoPost (f p n : Nat) (Q : Nat → Nat) (w w' : World) : Prop :=
  ∃ P' : Nat → Nat, Fo w' f p n P' ∧ Dn P' ∧ (∀ y, rt P' y = rt Q y) ∧ Chg p (p + 1) w w' ∧ w'.heap.size = w.heap.size

set_option maxHeartbeats 2000000 in
set_option maxRecDepth 100000 in
theorem root_any (f p n : Nat) (P : Nat → Nat) (x : Nat) (w : World) (hF : Fo w f p n P) (hn : n ≤ 100) (hx : x < n) (hD : Dn P) :
    Calls Try.prog 91 #[.pointer (some ⟨f, 0, none⟩), .int .i64 x] w (fun e w' => e = .returned (.int .i64 (rt P x : Nat)) ∧ FoPost f p n P w w') := by
  have HF := Lib.hid hF
  have HD := Lib.hid @hD
  have hp : p < w.heap.size := hF.2.1.lt
  clear hF hD
  go_enter Try.func91, Try.ntmps91
  go_wp2
  go_loopw [1] (fun s wr => ∃ (i : Nat) (P' : Nat → Nat), s = .int .i64 i ∧ i < n ∧ rt P i = rt P x ∧ Fo wr f p n P' ∧ Dn P' ∧ (∀ y, rt P' y = rt P y) ∧ Chg p (p + 1) w wr ∧ wr.heap.size = w.heap.size) (fun s _ => (intOf s).toNat)
  case atStart => exact ⟨x, P, rfl, hx, rfl, HF.out, HD.out, fun _ => rfl, Chg.refl _ _ _, rfl⟩
  case round =>
    obtain ⟨i, P', rfl, hi, hri, hf, hd, hr, hc, hs⟩ := hrel
    have c1 := one_cell hf.1
    have c2 := hf.2.1.cell hi
    have hi' : (i : Int) < n := by omega
    have HFR := Lib.hid hf
    have HDR := Lib.hid @hd
    have HRR := Lib.hid hr
    have HRI := Lib.hid hri
    have HC := Lib.hid hc
    have HS := Lib.hid hs
    have hle := hd i
    by_cases hz : P' i = i
    · have HE := Lib.hid (show rt P x = i by rw [← hri, ← hr i]; exact rt_self hz)
      rw [hz] at c2
      have hb : ((i : Int) != (i : Int)) = false := by simp
      clear hf hd hr hri hc hs hz
      go_wp2
      go_ret
      exact ⟨ret_int (by rw [HE.out]), P', HFR.out, HDR.out, HRR.out, HC.out, HS.out⟩
    · have hfr : wr.frozen? ⟨p, i, none⟩ = false := hf.2.1.frozen i
      have h2 := hd (P' i)
      have HQ := Lib.hid (show rt P (P' (P' i)) = rt P x by rw [← hri, ← hr, ← hr i, rt_step hd, rt_step hd])
      have HN := Lib.hid (show Fo (wr.drew.setCell ⟨p, i, none⟩ (.int .i64 (P' (P' i) : Nat))) f p n (upd P' i (P' (P' i))) from (hf.drew).set i _)
      have HDN := Lib.hid (dn_halve hd i)
      have HRN := Lib.hid (fun y => (rt_halve hd i y).trans (hr y))
      have HCN := Lib.hid (show Chg p (p + 1) w (wr.drew.setCell ⟨p, i, none⟩ (.int .i64 (P' (P' i) : Nat))) from (show Chg p (p + 1) w wr.drew from ⟨hc.os, hc.tape, hc.output, hc.size, hc.block⟩).setCell (p := ⟨p, i, none⟩) (Nat.le_refl _) (Nat.lt_succ_self _) _)
      have HSN := Lib.hid (show (wr.drew.setCell ⟨p, i, none⟩ (.int .i64 (P' (P' i) : Nat))).heap.size = w.heap.size by rw [← hs]; show (wr.setCell ⟨p, i, none⟩ (.int .i64 (P' (P' i) : Nat))).heap.size = wr.heap.size; simp [World.setCell])
      obtain ⟨a, ea⟩ : ∃ a, P' i = a := ⟨_, rfl⟩
      rw [ea] at c2 hz hle h2 HQ HN HDN HRN HCN HSN
      have c3 := hf.2.1.cell (i := a) (by omega)
      obtain ⟨b, eb⟩ : ∃ b, P' a = b := ⟨_, rfl⟩
      rw [eb] at c3 h2 HQ HN HDN HRN HCN HSN
      have hb : ((a : Int) != (i : Int)) = true := by rw [bne_iff_ne]; omega
      have ha' : (a : Int) < n := by omega
      clear hf hd hr hri hc hs ea eb
      go_wp2
      go_still_tail 19, (by kernel_rfl)
      change wpList _ _ _ _ _ wr.drew
      go_wp2
      go_roundw
      case rel => exact ⟨b, _, rfl, by omega, HQ.out, HN.out, HDN.out, HRN.out, HCN.out, HSN.out⟩
      case measure => simp [intOf]; omega

set_option maxHeartbeats 2000000 in
set_option maxRecDepth 100000 in
theorem join_any (f p n : Nat) (P : Nat → Nat) (a b : Nat) (w : World) (hF : Fo w f p n P) (hn : n ≤ 100) (ha : a < n) (hb : b < n) (hD : Dn P) :
    Calls Try.prog 90 #[.pointer (some ⟨f, 0, none⟩), .int .i64 a, .int .i64 b] w (fun e w' => (∃ v, e = .returned v) ∧ FoPost f p n (joinP P a b) w w') := by
  have HR1 := Lib.hid (root_any f p n P a w hF hn ha hD)
  have hra := rt_le hD a
  have hrb := rt_le hD b
  have HD := Lib.hid @hD
  clear hF hD
  go_enter Try.func90, Try.ntmps90
  go_wp2_with fail
  refine HR1.out.mono ?_
  rintro e w1 ⟨rfl, P1, f1, d1, r1, c1, s1⟩
  have HR2 := Lib.hid (root_any f p n P1 b w1 f1 hn hb d1)
  have HRA := Lib.hid r1
  have HC1 := Lib.hid c1
  have HS1 := Lib.hid s1
  clear f1 d1 r1 c1 s1
  go_wp2_with fail
  refine HR2.out.mono ?_
  rintro e w2 ⟨rfl, P2, f2, d2, r2, c2, s2⟩
  rw [HRA.out b]
  have hr2 : ∀ y, rt P2 y = rt P y := fun y => (r2 y).trans (HRA.out y)
  obtain ⟨x, ex⟩ : ∃ x, rt P a = x := ⟨_, rfl⟩
  obtain ⟨y, ey⟩ : ∃ y, rt P b = y := ⟨_, rfl⟩
  have e1 : joinP P2 a b = upd P2 (max x y) (min x y) := by unfold joinP; rw [hr2, hr2, ex, ey]
  have HN := Lib.hid (show Fo (w2.setCell ⟨p, max x y, none⟩ (.int .i64 (min x y : Nat))) f p n (joinP P2 a b) by rw [e1]; exact f2.set _ _)
  have HDN := Lib.hid (joinP_dn d2 a b)
  have HRN := Lib.hid (show ∀ z, rt (joinP P2 a b) z = rt (joinP P a b) z from fun z => by rw [joinP_rt d2, joinP_rt HD.out, hr2, hr2, hr2])
  have HCN := Lib.hid ((HC1.out.trans c2).setCell (p := ⟨p, max x y, none⟩) (Nat.le_refl _) (Nat.lt_succ_self _) (.int .i64 (min x y : Nat)))
  have HSN := Lib.hid (show (w2.setCell ⟨p, max x y, none⟩ (.int .i64 (min x y : Nat))).heap.size = w.heap.size by rw [← HS1.out, ← s2]; simp [World.setCell])
  rw [ex] at hra ⊢
  rw [ey] at hrb ⊢
  have g1 := one_cell f2.1
  obtain ⟨m, em⟩ : ∃ m, max x y = m := ⟨_, rfl⟩
  obtain ⟨q, eq⟩ : ∃ q, min x y = q := ⟨_, rfl⟩
  have hm1 : max (x : Int) (y : Int) = (m : Int) := by rw [← em]; omega
  have hm2 : min (x : Int) (y : Int) = (q : Int) := by rw [← eq]; omega
  rw [em, eq] at HN HCN HSN
  have hml : m < n := by omega
  have hml' : (m : Int) < n := by omega
  have g2 := f2.2.1.cell hml
  have g3 : w2.frozen? ⟨p, m, none⟩ = false := f2.2.1.frozen m
  obtain ⟨z, ez⟩ : ∃ z, P2 m = z := ⟨_, rfl⟩
  rw [ez] at g2
  clear f2 d2 r2 c2 s2 hr2 e1 ex ey em eq ez
  go_wp2
  first | go_end0 | refine bodyPost_ret (results_none rfl _ _ _) rfl ?_
  exact ⟨⟨_, rfl⟩, _, HN.out, HDN.out, HRN.out, HCN.out, HSN.out⟩

set_option maxHeartbeats 2000000 in
set_option maxRecDepth 100000 in
theorem newForest_any (n : Nat) (w : World) (hn : n ≤ 100) :
    Calls Try.prog 88 #[.int .i64 n] w (fun e w' => ∃ f p, e = .returned (.pointer (some ⟨f, 0, none⟩)) ∧ Fo w' f p n (fun x => x) ∧ w.heap.size ≤ f ∧ w.heap.size ≤ p ∧ Below w.heap.size w w') := by
  have hmk := run_make_row' (P := Try.prog) 27 3 (.int .i64 0) 8 Try.underlying27 Try.infoI rfl .i64 .i64 n (by omega) (by omega)
  go_enter Try.func88, Try.ntmps88
  go_wp2
  clear hmk
  have e1 : (w.alloc (.cells (madeCells #[.int .i64 0] n) 3)).heap.size = w.heap.size + 1 := by simp
  have k1 : ((w.alloc (.cells (madeCells #[.int .i64 0] n) 3)).alloc (.cells #[.slice (some ⟨w.heap.size, 0, none⟩) n n] 110)).heap[w.heap.size + 1]? = some (.cells #[.slice (some ⟨w.heap.size, 0, none⟩) n n] 110 (0, 0)) := by
    have := heap_alloc_new (w.alloc (.cells (madeCells #[.int .i64 0] n) 3)) (.cells #[.slice (some ⟨w.heap.size, 0, none⟩) n n] 110)
    rw [e1] at this; exact this
  have k2 := ((World.rowIs_made w (.int .i64 0) n 3).alloc (.cells #[.slice (some ⟨w.heap.size, 0, none⟩) n n] 110)).congr (g := fun j => if j < 0 then .int .i64 (j : Nat) else .int .i64 0) (fun j _ => by simp)
  have kb : Below w.heap.size w ((w.alloc (.cells (madeCells #[.int .i64 0] n) 3)).alloc (.cells #[.slice (some ⟨w.heap.size, 0, none⟩) n n] 110)) := ((Below.refl _ _).alloc (Nat.le_refl _) _).alloc (by simp) _
  have ks : ((w.alloc (.cells (madeCells #[.int .i64 0] n) 3)).alloc (.cells #[.slice (some ⟨w.heap.size, 0, none⟩) n n] 110)).heap.size = w.heap.size + 2 := by simp
  generalize hW0 : (w.alloc (.cells (madeCells #[.int .i64 0] n) 3)).alloc (.cells #[.slice (some ⟨w.heap.size, 0, none⟩) n n] 110) = W0 at k1 k2 kb ks ⊢
  clear hW0 e1
  go_loopw [14] (fun s wr => ∃ k : Nat, k ≤ n ∧ s = .int .i64 k ∧ wr.heap[w.heap.size + 1]? = some (.cells #[.slice (some ⟨w.heap.size, 0, none⟩) n n] 110 (0, 0)) ∧ wr.rowIs w.heap.size 3 n (fun j => if j < k then .int .i64 (j : Nat) else .int .i64 0) ∧ Below w.heap.size w wr ∧ wr.heap.size = w.heap.size + 2)
    (fun s _ => n - (intOf s).toNat)
  case atStart => exact ⟨0, Nat.zero_le _, rfl, k1, k2, kb, ks⟩
  case round =>
    obtain ⟨k, hk, rfl, hf, hrow, hb, hs⟩ := hrel
    clear k1 k2 kb ks
    have HF := Lib.hid hf
    have HB := Lib.hid hb
    have HS := Lib.hid hs
    have c1 := one_cell hf
    by_cases hlt : k < n
    · have hlt' : (k : Int) < n := by omega
      have c2 : wr.cell? ⟨w.heap.size, k, none⟩ = some (.int .i64 0) := by simpa using hrow.cell hlt
      have c3 : wr.frozen? ⟨w.heap.size, k, none⟩ = false := hrow.frozen k
      have R1 := Lib.hid ((hrow.set k (.int .i64 (k : Nat))).congr (g := fun j => if j < k + 1 then .int .i64 (j : Nat) else .int .i64 0) (fun j hj => by
        by_cases e : j = k
        · subst e; simp
        · by_cases e2 : j < k
          · simp [e, e2, Nat.lt_succ_of_lt e2]
          · have : ¬ j < k + 1 := by omega
            simp [e, e2, this]))
      have R2 := Lib.hid ((Below.heap_setCell wr ⟨w.heap.size, k, none⟩ (.int .i64 (k : Nat)) (w.heap.size + 1) (by simp)).trans hf)
      have R3 := Lib.hid (hb.setCell (p := ⟨w.heap.size, k, none⟩) (Nat.le_refl _) (.int .i64 (k : Nat)))
      have R4 := Lib.hid (show (wr.setCell ⟨w.heap.size, k, none⟩ (.int .i64 (k : Nat))).heap.size = w.heap.size + 2 by rw [← hs]; simp [World.setCell])
      clear hf hrow hb hs
      go_wp2
      go_roundw
      case rel => exact ⟨k + 1, by omega, by go_num, R2.out, R1.out, R3.out, R4.out⟩
      case measure => simp [intOf]; omega
    · have ek : k = n := by omega
      have HRW := Lib.hid (show wr.rowIs w.heap.size 3 n (fun j => .int .i64 (j : Nat)) from hrow.congr (fun j hj => by rw [if_pos (by omega)]))
      have hge : ¬ (k : Int) < n := by omega
      clear hf hrow hb hs ek
      go_wp2
      go_ret
      exact ⟨w.heap.size + 1, rfl, w.heap.size, ⟨HF.out, HRW.out, by omega⟩, by omega, Nat.le_refl _, HB.out⟩

end Go.Proofs.Ytplfphpnpjjinab
