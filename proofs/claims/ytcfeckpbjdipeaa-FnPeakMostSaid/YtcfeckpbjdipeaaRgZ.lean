/- The program's sets of cells as trees, by contract. -/
import Derived.Test.YtcfeckpbjdipeaaLvZ
import Derived.StillTailTactics
import Derived.Lib.MinMax
import Derived.Test.YtcfeckpbjdipeaaSkZ
import Derived.Test.YtcfeckpbjdipeaaWtZ
import Derived.Maps.AppendAt
import Derived.Deep.AppendLies
namespace Go.Proofs.Ytcfeckpbjdipeaa
open Go.RowKit
set_option linter.unusedVariables false

/-- block f is a forest, whose parents P lie in block p -/
def Fo (W : World) (f p n : Nat) (P : Nat → Nat) : Prop :=
  W.heap[f]? = some (.cells #[.slice (some ⟨p, 0, none⟩) n n] 115 (0, 0)) ∧ W.rowIs p 3 n (fun j => .int .i64 (P j : Nat)) ∧ f ≠ p
theorem Fo.keep {W W' : World} {f p n : Nat} {P : Nat → Nat} (h : Fo W f p n P) (h1 : W'.heap[f]? = W.heap[f]?) (h2 : W'.heap[p]? = W.heap[p]?) : Fo W' f p n P := ⟨h1.trans h.1, h.2.1.of_block h2, h.2.2⟩
theorem Fo.drew {W : World} {f p n : Nat} {P : Nat → Nat} (h : Fo W f p n P) : Fo W.drew f p n P := h
theorem Fo.set {W : World} {f p n : Nat} {P : Nat → Nat} (h : Fo W f p n P) (i v : Nat) : Fo (W.setCell ⟨p, i, none⟩ (.int .i64 (v : Nat))) f p n (upd P i v) := by
  refine ⟨(Below.heap_setCell _ _ _ _ h.2.2).trans h.1, (h.2.1.set i (.int .i64 (v : Nat))).congr (fun j _ => ?_), h.2.2⟩
  unfold upd
  by_cases e : j = i
  · subst e; simp
  · simp [e]

/-- what a call leaves that only shortens ways, or joins: the roots are those of Q -/
def FoPost (f p n : Nat) (Q : Nat → Nat) (w w' : World) : Prop :=
  ∃ P' : Nat → Nat, Fo w' f p n P' ∧ Dn P' ∧ (∀ y, rt P' y = rt Q y) ∧ Chg p (p + 1) w w' ∧ w'.heap.size = w.heap.size

set_option maxHeartbeats 2000000 in
set_option maxRecDepth 100000 in
theorem root_any (f p n : Nat) (P : Nat → Nat) (x : Nat) (w : World) (hF : Fo w f p n P) (hn : n ≤ 100) (hx : x < n) (hD : Dn P) :
    Calls Try.prog 115 #[.pointer (some ⟨f, 0, none⟩), .int .i64 x] w (fun e w' => e = .returned (.int .i64 (rt P x : Nat)) ∧ FoPost f p n P w w') := by
  have HF := Lib.hid hF
  have HD := Lib.hid @hD
  have hp : p < w.heap.size := hF.2.1.lt
  clear hF hD
  go_enter Try.func115, Try.ntmps115
  go_wp2
  go_loopw [1] (fun s wr => ∃ (i : Nat) (P' : Nat → Nat), s = .int .i64 i ∧ i < n ∧ rt P i = rt P x ∧ Fo wr f p n P' ∧ Dn P' ∧ (∀ y, rt P' y = rt P y) ∧ Chg p (p + 1) w wr ∧ wr.heap.size = w.heap.size) (fun s _ => (intOf s).toNat)
  case atStart => exact ⟨x, P, rfl, hx, rfl, HF.out, HD.out, fun _ => rfl, Chg.refl _ _ _, rfl⟩
  case round =>
    obtain ⟨i, P', rfl, hi, hri, hf, hd, hr, hc, hs⟩ := hrel
    have c1 := one_cell hf.1
    have c2 := hf.2.1.cell hi
    have hi' : (i : Int) < n := by omega
    have HFR := Lib.hid hf
    have HDR := Lib.hid @hd
    have HRR := Lib.hid hr
    have HRI := Lib.hid hri
    have HC := Lib.hid hc
    have HS := Lib.hid hs
    have hle := hd i
    by_cases hz : P' i = i
    · have HE := Lib.hid (show rt P x = i by rw [← hri, ← hr i]; exact rt_self hz)
      rw [hz] at c2
      have hb : ((i : Int) != (i : Int)) = false := by simp
      clear hf hd hr hri hc hs hz
      go_wp2
      go_ret
      exact ⟨ret_int (by rw [HE.out]), P', HFR.out, HDR.out, HRR.out, HC.out, HS.out⟩
    · have hfr : wr.frozen? ⟨p, i, none⟩ = false := hf.2.1.frozen i
      have h2 := hd (P' i)
      have HQ := Lib.hid (show rt P (P' (P' i)) = rt P x by rw [← hri, ← hr, ← hr i, rt_step hd, rt_step hd])
      have HN := Lib.hid (show Fo (wr.drew.setCell ⟨p, i, none⟩ (.int .i64 (P' (P' i) : Nat))) f p n (upd P' i (P' (P' i))) from (hf.drew).set i _)
      have HDN := Lib.hid (dn_halve hd i)
      have HRN := Lib.hid (fun y => (rt_halve hd i y).trans (hr y))
      have HCN := Lib.hid (show Chg p (p + 1) w (wr.drew.setCell ⟨p, i, none⟩ (.int .i64 (P' (P' i) : Nat))) from (show Chg p (p + 1) w wr.drew from ⟨hc.os, hc.tape, hc.output, hc.size, hc.block⟩).setCell (p := ⟨p, i, none⟩) (Nat.le_refl _) (Nat.lt_succ_self _) _)
      have HSN := Lib.hid (show (wr.drew.setCell ⟨p, i, none⟩ (.int .i64 (P' (P' i) : Nat))).heap.size = w.heap.size by rw [← hs]; show (wr.setCell ⟨p, i, none⟩ (.int .i64 (P' (P' i) : Nat))).heap.size = wr.heap.size; simp [World.setCell])
      obtain ⟨a, ea⟩ : ∃ a, P' i = a := ⟨_, rfl⟩
      rw [ea] at c2 hz hle h2 HQ HN HDN HRN HCN HSN
      have c3 := hf.2.1.cell (i := a) (by omega)
      obtain ⟨b, eb⟩ : ∃ b, P' a = b := ⟨_, rfl⟩
      rw [eb] at c3 h2 HQ HN HDN HRN HCN HSN
      have hb : ((a : Int) != (i : Int)) = true := by rw [bne_iff_ne]; omega
      have ha' : (a : Int) < n := by omega
      clear hf hd hr hri hc hs ea eb
      go_wp2
      go_still_tail 19, (by kernel_rfl)
      change wpList _ _ _ _ _ wr.drew
      go_wp2
      go_roundw
      case rel => exact ⟨b, _, rfl, by omega, HQ.out, HN.out, HDN.out, HRN.out, HCN.out, HSN.out⟩
      case measure => simp [intOf]; omega

set_option maxHeartbeats 2000000 in
set_option maxRecDepth 100000 in
theorem join_any (f p n : Nat) (P : Nat → Nat) (a b : Nat) (w : World) (hF : Fo w f p n P) (hn : n ≤ 100) (ha : a < n) (hb : b < n) (hD : Dn P) :
    Calls Try.prog 114 #[.pointer (some ⟨f, 0, none⟩), .int .i64 a, .int .i64 b] w (fun e w' => (∃ v, e = .returned v) ∧ FoPost f p n (joinP P a b) w w') := by
  have HR1 := Lib.hid (root_any f p n P a w hF hn ha hD)
  have hra := rt_le hD a
  have hrb := rt_le hD b
  have HD := Lib.hid @hD
  clear hF hD
  go_enter Try.func114, Try.ntmps114
  go_wp2_with fail
  refine HR1.out.mono ?_
  rintro e w1 ⟨rfl, P1, f1, d1, r1, c1, s1⟩
  have HR2 := Lib.hid (root_any f p n P1 b w1 f1 hn hb d1)
  have HRA := Lib.hid r1
  have HC1 := Lib.hid c1
  have HS1 := Lib.hid s1
  clear f1 d1 r1 c1 s1
  go_wp2_with fail
  refine HR2.out.mono ?_
  rintro e w2 ⟨rfl, P2, f2, d2, r2, c2, s2⟩
  rw [HRA.out b]
  have hr2 : ∀ y, rt P2 y = rt P y := fun y => (r2 y).trans (HRA.out y)
  obtain ⟨x, ex⟩ : ∃ x, rt P a = x := ⟨_, rfl⟩
  obtain ⟨y, ey⟩ : ∃ y, rt P b = y := ⟨_, rfl⟩
  have e1 : joinP P2 a b = upd P2 (max x y) (min x y) := by unfold joinP; rw [hr2, hr2, ex, ey]
  have HN := Lib.hid (show Fo (w2.setCell ⟨p, max x y, none⟩ (.int .i64 (min x y : Nat))) f p n (joinP P2 a b) by rw [e1]; exact f2.set _ _)
  have HDN := Lib.hid (joinP_dn d2 a b)
  have HRN := Lib.hid (show ∀ z, rt (joinP P2 a b) z = rt (joinP P a b) z from fun z => by rw [joinP_rt d2, joinP_rt HD.out, hr2, hr2, hr2])
  have HCN := Lib.hid ((HC1.out.trans c2).setCell (p := ⟨p, max x y, none⟩) (Nat.le_refl _) (Nat.lt_succ_self _) (.int .i64 (min x y : Nat)))
  have HSN := Lib.hid (show (w2.setCell ⟨p, max x y, none⟩ (.int .i64 (min x y : Nat))).heap.size = w.heap.size by rw [← HS1.out, ← s2]; simp [World.setCell])
  rw [ex] at hra ⊢
  rw [ey] at hrb ⊢
  have g1 := one_cell f2.1
  obtain ⟨m, em⟩ : ∃ m, max x y = m := ⟨_, rfl⟩
  obtain ⟨q, eq⟩ : ∃ q, min x y = q := ⟨_, rfl⟩
  have hm1 : max (x : Int) (y : Int) = (m : Int) := by rw [← em]; omega
  have hm2 : min (x : Int) (y : Int) = (q : Int) := by rw [← eq]; omega
  rw [em, eq] at HN HCN HSN
  have hml : m < n := by omega
  have hml' : (m : Int) < n := by omega
  have g2 := f2.2.1.cell hml
  have g3 : w2.frozen? ⟨p, m, none⟩ = false := f2.2.1.frozen m
  obtain ⟨z, ez⟩ : ∃ z, P2 m = z := ⟨_, rfl⟩
  rw [ez] at g2
  clear f2 d2 r2 c2 s2 hr2 e1 ex ey em eq ez
  go_wp2
  first | go_end0 | refine bodyPost_ret (results_none rfl _ _ _) rfl ?_
  exact ⟨⟨_, rfl⟩, _, HN.out, HDN.out, HRN.out, HCN.out, HSN.out⟩

set_option maxHeartbeats 2000000 in
set_option maxRecDepth 100000 in
theorem newForest_any (n : Nat) (w : World) (hn : n ≤ 100) :
    Calls Try.prog 112 #[.int .i64 n] w (fun e w' => ∃ f p, e = .returned (.pointer (some ⟨f, 0, none⟩)) ∧ Fo w' f p n (fun x => x) ∧ w.heap.size ≤ f ∧ w.heap.size ≤ p ∧ Below w.heap.size w w') := by
  have hmk := run_make_row' (P := Try.prog) 27 3 (.int .i64 0) 8 Try.underlying27 Try.infoI rfl .i64 .i64 n (by omega) (by omega)
  go_enter Try.func112, Try.ntmps112
  go_wp2
  clear hmk
  have e1 : (w.alloc (.cells (madeCells #[.int .i64 0] n) 3)).heap.size = w.heap.size + 1 := by simp
  have k1 : ((w.alloc (.cells (madeCells #[.int .i64 0] n) 3)).alloc (.cells #[.slice (some ⟨w.heap.size, 0, none⟩) n n] 115)).heap[w.heap.size + 1]? = some (.cells #[.slice (some ⟨w.heap.size, 0, none⟩) n n] 115 (0, 0)) := by
    have := heap_alloc_new (w.alloc (.cells (madeCells #[.int .i64 0] n) 3)) (.cells #[.slice (some ⟨w.heap.size, 0, none⟩) n n] 115)
    rw [e1] at this; exact this
  have k2 := ((World.rowIs_made w (.int .i64 0) n 3).alloc (.cells #[.slice (some ⟨w.heap.size, 0, none⟩) n n] 115)).congr (g := fun j => if j < 0 then .int .i64 (j : Nat) else .int .i64 0) (fun j _ => by simp)
  have kb : Below w.heap.size w ((w.alloc (.cells (madeCells #[.int .i64 0] n) 3)).alloc (.cells #[.slice (some ⟨w.heap.size, 0, none⟩) n n] 115)) := ((Below.refl _ _).alloc (Nat.le_refl _) _).alloc (by simp) _
  have ks : ((w.alloc (.cells (madeCells #[.int .i64 0] n) 3)).alloc (.cells #[.slice (some ⟨w.heap.size, 0, none⟩) n n] 115)).heap.size = w.heap.size + 2 := by simp
  generalize hW0 : (w.alloc (.cells (madeCells #[.int .i64 0] n) 3)).alloc (.cells #[.slice (some ⟨w.heap.size, 0, none⟩) n n] 115) = W0 at k1 k2 kb ks ⊢
  clear hW0 e1
  go_loopw [14] (fun s wr => ∃ k : Nat, k ≤ n ∧ s = .int .i64 k ∧ wr.heap[w.heap.size + 1]? = some (.cells #[.slice (some ⟨w.heap.size, 0, none⟩) n n] 115 (0, 0)) ∧ wr.rowIs w.heap.size 3 n (fun j => if j < k then .int .i64 (j : Nat) else .int .i64 0) ∧ Below w.heap.size w wr ∧ wr.heap.size = w.heap.size + 2)
    (fun s _ => n - (intOf s).toNat)
  case atStart => exact ⟨0, Nat.zero_le _, rfl, k1, k2, kb, ks⟩
  case round =>
    obtain ⟨k, hk, rfl, hf, hrow, hb, hs⟩ := hrel
    clear k1 k2 kb ks
    have HF := Lib.hid hf
    have HB := Lib.hid hb
    have HS := Lib.hid hs
    have c1 := one_cell hf
    by_cases hlt : k < n
    · have hlt' : (k : Int) < n := by omega
      have c2 : wr.cell? ⟨w.heap.size, k, none⟩ = some (.int .i64 0) := by simpa using hrow.cell hlt
      have c3 : wr.frozen? ⟨w.heap.size, k, none⟩ = false := hrow.frozen k
      have R1 := Lib.hid ((hrow.set k (.int .i64 (k : Nat))).congr (g := fun j => if j < k + 1 then .int .i64 (j : Nat) else .int .i64 0) (fun j hj => by
        by_cases e : j = k
        · subst e; simp
        · by_cases e2 : j < k
          · simp [e, e2, Nat.lt_succ_of_lt e2]
          · have : ¬ j < k + 1 := by omega
            simp [e, e2, this]))
      have R2 := Lib.hid ((Below.heap_setCell wr ⟨w.heap.size, k, none⟩ (.int .i64 (k : Nat)) (w.heap.size + 1) (by simp)).trans hf)
      have R3 := Lib.hid (hb.setCell (p := ⟨w.heap.size, k, none⟩) (Nat.le_refl _) (.int .i64 (k : Nat)))
      have R4 := Lib.hid (show (wr.setCell ⟨w.heap.size, k, none⟩ (.int .i64 (k : Nat))).heap.size = w.heap.size + 2 by rw [← hs]; simp [World.setCell])
      clear hf hrow hb hs
      go_wp2
      go_roundw
      case rel => exact ⟨k + 1, by omega, by go_num, R2.out, R1.out, R3.out, R4.out⟩
      case measure => simp [intOf]; omega
    · have ek : k = n := by omega
      have HRW := Lib.hid (show wr.rowIs w.heap.size 3 n (fun j => .int .i64 (j : Nat)) from hrow.congr (fun j hj => by rw [if_pos (by omega)]))
      have hge : ¬ (k : Int) < n := by omega
      clear hf hrow hb hs ek
      go_wp2
      go_ret
      exact ⟨w.heap.size + 1, rfl, w.heap.size, ⟨HF.out, HRW.out, by omega⟩, by omega, Nat.le_refl _, HB.out⟩

end Go.Proofs.Ytcfeckpbjdipeaa

/- The numbers of the cells' regions, in the program. -/
namespace Go.Proofs.Ytcfeckpbjdipeaa
open Go.RowKit Go.Shelf
set_option linter.unusedVariables false
attribute [local go_sem] Oper.semAt_some

/-- what numbers leaves -/
def NumPost (R C cnt : Nat) (Z : Nat → Int) (lv : Int) (w : World) (e : Ending) (w' : World) : Prop :=
  ∃ q, e = .returned (.tuple #[.slice (some ⟨q, 0, none⟩) cnt cnt, .int .i64 (rgN R C Z lv cnt : Nat)]) ∧ w.heap.size ≤ q ∧ w'.rowIs q 3 cnt (fun j => .int .i64 (numZ R C Z lv j)) ∧ Below w.heap.size w w'

theorem others_chg {p : Nat} {W W' : World} (h : Chg p (p + 1) W W') {cs : Array Value} {t : TypeId} {fr : Nat × Nat} (hp : W.heap[p]? = some (.cells cs t fr)) : KeepsOthers W W' :=
  ⟨h.size, fun k o hk hc => (h.block k (Array.getElem?_eq_some_iff.1 hk).1 (fun hn => by
    have : k = p := by omega
    subst this
    rw [hp] at hk; cases hk; cases hc)).trans hk⟩
theorem ownFrom_fo {α : Type} {B f p n : Nat} {G : α → (Nat → Nat) → Prop} : OwnFrom B (fun (s : α) W => ∃ P, Fo W f p n P ∧ G s P) := fun s X Y row hs hg hrow => by
  obtain ⟨P, hF, hG⟩ := hs
  have h1 : Y.heap[f]? = X.heap[f]? := hg.block f (Array.getElem?_eq_some_iff.1 hF.1).1 (fun e => by
    obtain ⟨_, o, ho, hc⟩ := hrow f e.symm
    rw [hF.1] at ho; cases ho; cases hc)
  have h2 : Y.heap[p]? = X.heap[p]? := hg.block p hF.2.1.lt (fun e => by
    obtain ⟨_, o, ho, hc⟩ := hrow p e.symm
    obtain ⟨c, h3, _⟩ := hF.2.1
    rw [h3] at ho; cases ho; cases hc)
  exact ⟨P, hF.keep h1 h2, hG⟩

/-- the row of numbers when k cells are done -/
def numF (R C : Nat) (Z : Nat → Int) (lv : Int) (k j : Nat) : Value := if j < k then .int .i64 (numZ R C Z lv j) else .int .i64 0
theorem numF_set {R C : Nat} {Z : Nat → Int} {lv : Int} {k j : Nat} {v : Int} (h : v = numZ R C Z lv k) : (if j = k then Value.int .i64 v else numF R C Z lv k j) = numF R C Z lv (k + 1) j := by
  unfold numF
  by_cases e : j = k
  · subst e; simp [h]
  · by_cases e2 : j < k
    · simp [e, e2, Nat.lt_succ_of_lt e2]
    · have : ¬ j < k + 1 := by omega
      simp [e, e2, this]

set_option maxRecDepth 100000 in
set_option maxHeartbeats 20000000 in
theorem numbers_any (R C gg cap cnt : Nat) (hR : R ≤ 7) (hC : C ≤ 7) (Z : Nat → Int) (lv : Int) (w : World) (h : Rv w R C cnt gg cap Z) :
    Calls Try.prog 78 #[.agg #[.int .i64 R, .int .i64 C, .slice (some ⟨gg, 0, none⟩) cnt cap, .int .i64 lv]] w (NumPost R C cnt Z lv w) := by
  have H := Lib.hid h
  have h49 := mul_le_49 hR hC
  have HCN := Lib.hid h.n_eq
  have hcn49 : cnt ≤ 49 := by rw [HCN.out]; exact h49
  have hgl : gg < w.heap.size := h.lt
  have hle : cnt ≤ cap := h.le
  clear h
  have hb0 := (Below.refl w.heap.size w).alloc (Nat.le_refl _) (.cells #[.int .i64 R, .int .i64 C, .slice (some ⟨gg, 0, none⟩) cnt cap, .int .i64 lv] 65)
  have HB0 := Lib.hid hb0
  have HL0 := Lib.hid (heap_alloc_new w (.cells #[.int .i64 R, .int .i64 C, .slice (some ⟨gg, 0, none⟩) cnt cap, .int .i64 lv] 65))
  have HNF := Lib.hid (newForest_any cnt (w.alloc (.cells #[.int .i64 R, .int .i64 C, .slice (some ⟨gg, 0, none⟩) cnt cap, .int .i64 lv] 65)) (by omega))
  clear hb0
  refine (callsIn_wide (n := 5)).1 ?_
  refine callsIn_of_wp_marks Try.func78 rfl trivial ?_ rfl
  simp only [Try.ntmps78, List.size_toArray, List.length_cons, List.length_nil, Nat.reduceAdd, Nat.reduceSub, Array.replicate_succ, Array.replicate_zero, List.push_toArray, List.append_toArray, List.nil_append, List.cons_append]
  gi_wp2_with fail
  refine ⟨trivial, ?_⟩
  gi_at_call 112
  refine (callsIn_wide.2 HNF.out).mono ?_
  rintro e w2 ⟨f, p, rfl, hfo, hf1, hp1, hb2⟩
  have hs2 := hb2.size
  simp only [World.size_alloc] at hf1 hp1 hs2
  have hb2' := HB0.out.trans (hb2.mono (by simp))
  have hl2 := (hb2.block w.heap.size (by simp)).trans HL0.out
  have hfl : f < w2.heap.size := (Array.getElem?_eq_some_iff.1 hfo.1).1
  have hpl : p < w2.heap.size := hfo.2.1.lt
  have hfp := hfo.2.2
  have HFO := Lib.hid hfo
  have HB2 := Lib.hid hb2'
  have HL2 := Lib.hid hl2
  have hwl : w.heap.size < w2.heap.size := by omega
  obtain ⟨m0, m1, m2, m3⟩ := cells4 hl2
  have hne : w.heap.size ≠ w2.heap.size := by omega
  clear hfo hb2 hb2' hl2
  gi_wp2_with (refine ⟨trivial, ?_⟩; gi_at_call 113; refine (callsIn_wide.2 (sides_any R C gg cnt cap lv _)).mono ?_; rintro e w' ⟨rfl, rfl⟩)
  obtain ⟨k1, k2, ksz, kb⟩ := two_allocsV w2 (.cells #[.pointer (some ⟨f, 0, none⟩)] 100) (.cells #[.int .i64 R, .int .i64 C, .slice (some ⟨gg, 0, none⟩) cnt cap, .int .i64 lv] 65)
  generalize hW0 : (w2.alloc (.cells #[.pointer (some ⟨f, 0, none⟩)] 100)).alloc (.cells #[.int .i64 R, .int .i64 C, .slice (some ⟨gg, 0, none⟩) cnt cap, .int .i64 lv] 65) = W0 at k1 k2 ksz kb ⊢
  clear hW0 m0 m1 m2 m3
  have K1 := Lib.hid k1
  have K2 := Lib.hid k2
  have KB := Lib.hid kb
  have HFO0 := Lib.hid (HFO.out.keep (kb.block f hfl) (kb.block p hpl))
  have HL0' := Lib.hid ((kb.block w.heap.size hwl).trans HL2.out)
  have HBW := Lib.hid (HB2.out.trans (kb.mono (by omega)))
  clear k1 k2 kb
  refine wpIn_calm (ps := #[18, 19]) (sides_calm 4 (by omega) (w2.heap.size + 1) R C gg cap cnt hR hC Z lv W0 (by omega) K2.out (H.out.keep HBW.out (Nat.le_refl _))) rfl (by omega) rfl trivial (enters_of Try.func128 (by kernel_rfl) rfl)
    KqS.trans (kqs_put (by omega) (by omega)) (Below.refl _ _) (fun _ => rfl)
    (fun pre W => (((∃ P, Fo W f p cnt P ∧ Tells P (ePairs pre)) ∧ Boxed W w2.heap.size 100 (.pointer (some ⟨f, 0, none⟩))) ∧ W.heap[w.heap.size]? = some (.cells #[.int .i64 R, .int .i64 C, .slice (some ⟨gg, 0, none⟩) cnt cap, .int .i64 lv] 65 (0, 0))) ∧ Below w.heap.size w W)
    (OwnFrom.and (OwnFrom.and (OwnFrom.and ownFrom_fo (Own.from (boxed_own _ _ _) _)) (own_block (by omega))) (ownFrom_below (Nat.le_refl _) (by omega))) ⟨⟨⟨⟨_, HFO0.out, tells_nil⟩, K1.out⟩, HL0'.out⟩, HBW.out⟩
    (fun x => { tmps := #[.agg #[.int .i64 R, .int .i64 C, .slice (some ⟨gg, 0, none⟩) cnt cap, .int .i64 lv], .pointer (some ⟨w.heap.size, 0, none⟩), .slice none 0 0, .int .i64 0, .pointer (some ⟨w2.heap.size, 0, none⟩), .int .i64 x.1.1, .int .i64 x.2.1, undef, undef, undef, undef, .pointer (some ⟨w.heap.size, 0, none⟩), .pointer (some ⟨w.heap.size, 2, none⟩), .slice (some ⟨gg, 0, none⟩) cnt cap, .int .i64 cnt, .pointer (some ⟨f, 0, none⟩), .agg #[.int .i64 R, .int .i64 C, .slice (some ⟨gg, 0, none⟩) cnt cap, .int .i64 lv], .func (.func 128) #[] #[.pointer (some ⟨w2.heap.size + 1, 0, none⟩)], .int .i64 x.1.1, .int .i64 x.2.1, undef, undef, undef, undef, undef, undef, undef, undef, undef, undef, undef, undef, undef, undef, undef, undef, undef, undef, undef, undef, undef, undef, undef, undef, undef, undef, undef, undef, undef, undef, undef, undef, undef, undef, undef, undef, undef, undef, undef, undef, undef, undef, undef, undef, undef], defers := [] }) ?assign ?body ?done
  case assign =>
    intro l x W K hK
    gi_wp2
    simpa [pEnc] using hK
  case body =>
    rintro l pre x W ⟨⟨⟨⟨P, hF, hT⟩, hbx⟩, hm⟩, hB⟩ hpl2
    dsimp only
    have cB := hbx.cell
    have hxa : x.1.1 < cnt := by rw [HCN.out]; exact x.1.2
    have hxb : x.2.1 < cnt := by rw [HCN.out]; exact x.2.2
    have HJO := Lib.hid (join_any f p cnt P x.1.1 x.2.1 W hF (by omega) hxa hxb hT.1)
    obtain ⟨cs, hcs, _⟩ := hF.2.1
    have HCS := Lib.hid hcs
    have HT := Lib.hid (tells_snoc hT x)
    have HBX := Lib.hid hbx
    have HM := Lib.hid hm
    have HB := Lib.hid hB
    have hpW : w2.heap.size < W.heap.size := hbx.lt
    clear hF hT hbx hm hB hcs
    gi_wp2_with fail
    refine ⟨trivial, ?_⟩
    gi_at_call 114
    refine ((callsIn_wide.2 HJO.out).inRound l).mono ?_
    rintro e W' ⟨⟨v, rfl⟩, P', hF', hD', hr', hch, hsz⟩
    have HF2 := Lib.hid hF'
    have HT2 := Lib.hid (HT.out.same hD' hr')
    have HCH := Lib.hid hch
    clear hF' hD' hr' hch cB
    gi_wp2
    refine ⟨others_chg HCH.out HCS.out, ⟨HCH.out.size, fun k hk hlt => HCH.out.block k hlt (by omega)⟩, ⟨⟨⟨P', HF2.out, HT2.out⟩, ?_⟩, ?_⟩, HB.out.trans (HCH.out.below (by omega) HB.out.size)⟩
    · exact (HCH.out.block _ hpW (by omega)).trans HBX.out
    · exact (HCH.out.block _ (by omega) (by omega)).trans HM.out
  case done =>
    rintro D ys W hD rfl ⟨⟨⟨⟨P, hF, hT⟩, hbx⟩, hm⟩, hB⟩ hKD
    have hCM := fun x => cmZ_of hT x
    have HCM := Lib.hid hCM
    have HDN := Lib.hid hT.1
    have HF := Lib.hid hF
    have HBX := Lib.hid hbx
    have HM := Lib.hid hm
    have HB := Lib.hid hB
    have HKD := Lib.hid hKD
    have hDlt := (Array.getElem?_eq_some_iff.1 hKD).1
    have hfl2 : f < W.heap.size := (Array.getElem?_eq_some_iff.1 hF.1).1
    have hpl2 : p < W.heap.size := hF.2.1.lt
    have hbl2 : w2.heap.size < W.heap.size := hbx.lt
    obtain ⟨m0, m1, m2, m3⟩ := cells4 hm
    have hmk := run_make_row' (P := Try.prog) 27 3 (.int .i64 0) 8 Try.underlying27 Try.infoI rfl .i64 .i64 cnt (by omega) (by omega)
    clear hCM hT hF hbx hm hB hKD
    gi_wp2
    have e1 : (W.alloc (.cells (madeCells #[.int .i64 0] cnt) 3)).heap.size = W.heap.size + 1 := by simp
    have kr := (World.rowIs_made W (.int .i64 0) cnt 3).congr (g := numF R C Z lv 0) (fun j _ => by simp [numF])
    have kb : Below W.heap.size W (W.alloc (.cells (madeCells #[.int .i64 0] cnt) 3)) := (Below.refl _ _).alloc (Nat.le_refl _) _
    generalize hV : W.alloc (.cells (madeCells #[.int .i64 0] cnt) 3) = V at e1 kr kb ⊢
    clear hV hmk m0 m1 m2 m3
    have KR := Lib.hid kr
    have KV := Lib.hid kb
    clear kr kb
    have hwW : w.heap.size ≤ W.heap.size := by omega
    gi_loopw [8, 31] (fun c s wr => ∃ (k : Nat) (P' : Nat → Nat), k ≤ cnt ∧ s = .int .i64 k ∧ c = .int .i64 (rgN R C Z lv k : Nat) ∧ (Fo wr f p cnt P' ∧ Dn P' ∧ ∀ y, rt P' y = cmZ R C Z lv y) ∧ wr.rowIs W.heap.size 3 cnt (numF R C Z lv k) ∧ wr.heap[w.heap.size]? = some (.cells #[.int .i64 R, .int .i64 C, .slice (some ⟨gg, 0, none⟩) cnt cap, .int .i64 lv] 65 (0, 0)) ∧ Boxed wr w2.heap.size 100 (.pointer (some ⟨f, 0, none⟩)) ∧ Below w.heap.size w wr ∧ wr.heap[D]? = some (.deferred (some []))) (fun _ s _ => cnt - (intOf s).toNat)
    case atStart => exact ⟨0, P, Nat.zero_le _, rfl, rfl, ⟨HF.out.keep (KV.out.block f hfl2) (KV.out.block p hpl2), HDN.out, HCM.out⟩, KR.out, (KV.out.block _ (by omega)).trans HM.out, (KV.out.block _ hbl2).trans HBX.out, HB.out.trans (KV.out.mono hwW), (KV.out.block _ hDlt).trans HKD.out⟩
    case round =>
      obtain ⟨k, P', hk, rfl, rfl, ⟨hf, hd, hc⟩, hrow, hm, hbx, hb, hkd⟩ := hrel
      have hWl : W.heap.size < wr.heap.size := hrow.lt
      have cB := hbx.cell
      by_cases hlt : k < cnt
      · have hlt' : (k : Int) < cnt := by omega
        have HRT := Lib.hid (root_any f p cnt P' k wr hf (by omega) hlt hd)
        have HFr := Lib.hid hf
        have HCr := Lib.hid hc
        have HROW := Lib.hid hrow
        have HMr := Lib.hid hm
        have HBXr := Lib.hid hbx
        have HBr := Lib.hid hb
        have HKr := Lib.hid hkd
        have hfl3 : f < wr.heap.size := (Array.getElem?_eq_some_iff.1 hf.1).1
        have hbl3 : w2.heap.size < wr.heap.size := hbx.lt
        clear hf hd hc hrow hm hbx hb hkd
        gi_wp2_with fail
        refine ⟨trivial, ?_⟩
        gi_at_call 115
        refine (callsIn_wide.2 HRT.out).mono ?_
        rintro e w3 ⟨rfl, P3, f3, d3, r3, c3, s3⟩
        rw [HCr.out]
        have hm3 := (c3.block w.heap.size (by omega) (by omega)).trans HMr.out
        have hr3 := HROW.out.of_block (c3.block W.heap.size hWl (by omega))
        have hbx3 := (c3.block w2.heap.size hbl3 (by omega)).trans HBXr.out
        have hDr : D < wr.heap.size := (Array.getElem?_eq_some_iff.1 HKr.out).1
        have hkd3 := (c3.block D hDr (by omega)).trans HKr.out
        have hB3 := HBr.out.trans (c3.below (by omega) HBr.out.size)
        have FIN := Lib.hid (fun (w4 : World) (h4 : Below w3.heap.size w3 w4) (v : Int) (hv : v = numZ R C Z lv k) =>
          show (Fo (w4.setCell ⟨W.heap.size, k, none⟩ (.int .i64 v)) f p cnt P3 ∧ Dn P3 ∧ ∀ y, rt P3 y = cmZ R C Z lv y) ∧ (w4.setCell ⟨W.heap.size, k, none⟩ (.int .i64 v)).rowIs W.heap.size 3 cnt (numF R C Z lv (k + 1)) ∧ (w4.setCell ⟨W.heap.size, k, none⟩ (.int .i64 v)).heap[w.heap.size]? = some (.cells #[.int .i64 R, .int .i64 C, .slice (some ⟨gg, 0, none⟩) cnt cap, .int .i64 lv] 65 (0, 0)) ∧ Boxed (w4.setCell ⟨W.heap.size, k, none⟩ (.int .i64 v)) w2.heap.size 100 (.pointer (some ⟨f, 0, none⟩)) ∧ Below w.heap.size w (w4.setCell ⟨W.heap.size, k, none⟩ (.int .i64 v)) ∧ (w4.setCell ⟨W.heap.size, k, none⟩ (.int .i64 v)).heap[D]? = some (.deferred (some [])) from by
            have bk : ∀ b, b < w3.heap.size → b ≠ W.heap.size → (w4.setCell ⟨W.heap.size, k, none⟩ (.int .i64 v)).heap[b]? = w3.heap[b]? := fun b hb hn => (Below.heap_setCell w4 ⟨W.heap.size, k, none⟩ (.int .i64 v) b (by simpa using hn)).trans (h4.block b hb)
            exact ⟨⟨f3.keep (bk f (by omega) (by omega)) (bk p (by omega) (by omega)), d3, fun y => (r3 y).trans (HCr.out y)⟩, ((hr3.of_block (h4.block W.heap.size (by omega))).set k (.int .i64 v)).congr (fun j _ => numF_set hv), (bk _ (by omega) (by omega)).trans hm3, (bk _ (by omega) (by omega)).trans hbx3, (hB3.trans (h4.mono hB3.size)).setCell (p := ⟨W.heap.size, k, none⟩) hwW _, (bk D (by omega) (by omega)).trans hkd3⟩)
        have HR3 := Lib.hid hr3
        have HRV3 := Lib.hid (H.out.keep hB3 (Nat.le_refl _))
        have hcl := cmZ_le R C Z lv k
        have hrg := rgN_le R C Z lv k
        obtain ⟨m0, m1, m2, m3⟩ := cells4 hm3
        have hW3 : W.heap.size < w3.heap.size := by omega
        have hs3 : w3.heap.size = wr.heap.size := s3
        clear f3 d3 r3 c3 s3 hm3 hr3 hbx3 hkd3 hB3 HRT HROW HMr HBXr HBr HKr
        by_cases hl : lv ≤ Z k
        · have HLY := Lib.hid hl
          clear hl
          gi_wp2_with fail
          refine ⟨trivial, ?_⟩
          gi_at_call 116
          refine (callsIn_wide.2 (isLand_yes R C gg cap cnt Z lv k w3 HRV3.out hlt (by omega) HLY.out)).mono ?_
          rintro e w4 ⟨rfl, hb4⟩
          have HB4 := Lib.hid hb4
          have hrow4 := HR3.out.of_block (hb4.block W.heap.size hW3)
          have c5 := hrow4.cell hlt
          have f5 : w4.frozen? ⟨W.heap.size, k, none⟩ = false := hrow4.frozen k
          by_cases hroot : cmZ R C Z lv k = k
          · have F := Lib.hid (FIN.out w4 hb4 (rgN R C Z lv k : Nat) (by rw [numZ_yes HLY.out, hroot]))
            have HG := Lib.hid (rgN_yes (R := R) (C := C) HLY.out hroot)
            rw [hroot]
            clear hb4 hrow4 hroot
            generalize rgN R C Z lv k = rg at F HG hrg ⊢
            gi_wp2
            go_roundw
            case rel => exact ⟨k + 1, P3, by omega, by go_num, by rw [HG.out]; go_num, F.out.1, F.out.2.1, F.out.2.2.1, F.out.2.2.2.1, F.out.2.2.2.2.1, F.out.2.2.2.2.2⟩
            case measure => simp [intOf]; omega
          · have hlt2 : cmZ R C Z lv k < k := by omega
            have c6 := hrow4.cell (i := cmZ R C Z lv k) (by omega)
            have F := Lib.hid (FIN.out w4 hb4 (numZ R C Z lv (cmZ R C Z lv k)) (numZ_root HLY.out))
            have HG := Lib.hid (rgN_no (R := R) (C := C) (Z := Z) (lv := lv) (k := k) (fun h => hroot h.2))
            have e6 : numF R C Z lv k (cmZ R C Z lv k) = .int .i64 (numZ R C Z lv (cmZ R C Z lv k)) := by simp [numF, hlt2]
            rw [e6] at c6
            clear e6 hb4 hrow4 hroot
            generalize numZ R C Z lv (cmZ R C Z lv k) = nz at c6 F
            generalize cmZ R C Z lv k = cc at c6 hcl hlt2 ⊢
            have hne2 : ((cc : Int) == (k : Int)) = false := by rw [beq_eq_false_iff_ne]; omega
            have hcc : (cc : Int) < cnt := by omega
            have hcc2 : cc < cnt := by omega
            gi_wp2
            go_roundw
            case rel => exact ⟨k + 1, P3, by omega, by go_num, by rw [HG.out], F.out.1, F.out.2.1, F.out.2.2.1, F.out.2.2.2.1, F.out.2.2.2.2.1, F.out.2.2.2.2.2⟩
            case measure => simp [intOf]; omega
        · have HLN := Lib.hid hl
          clear hl
          gi_wp2_with fail
          refine ⟨trivial, ?_⟩
          gi_at_call 116
          refine (callsIn_wide.2 (isLand_no R C gg cap cnt Z lv k w3 HRV3.out hlt (by omega) (by have := HLN.out; omega))).mono ?_
          rintro e w4 ⟨rfl, hb4⟩
          have hrow4 := HR3.out.of_block (hb4.block W.heap.size hW3)
          have c5 := hrow4.cell hlt
          have f5 : w4.frozen? ⟨W.heap.size, k, none⟩ = false := hrow4.frozen k
          have F := Lib.hid (FIN.out w4 hb4 (-1) (numZ_no (by have := HLN.out; omega)).symm)
          have HG := Lib.hid (rgN_no (R := R) (C := C) (Z := Z) (lv := lv) (k := k) (fun h => by have h1 := HLN.out; have h2 := h.1; omega))
          clear hb4 hrow4
          gi_wp2
          go_roundw
          case rel => exact ⟨k + 1, P3, by omega, by go_num, by rw [HG.out], F.out.1, F.out.2.1, F.out.2.2.1, F.out.2.2.2.1, F.out.2.2.2.2.1, F.out.2.2.2.2.2⟩
          case measure => simp [intOf]; omega
      · have ek : k = cnt := by omega
        subst ek
        have HRW := Lib.hid (show wr.rowIs W.heap.size 3 k (fun j => .int .i64 (numZ R C Z lv j)) from hrow.congr (fun j hj => by simp [numF, hj]))
        have HBr := Lib.hid hb
        have HKr := Lib.hid hkd
        have hge : ¬ (k : Int) < k := by omega
        clear hf hd hc hrow hm hbx hb hkd
        gi_wp2
        refine ⟨by simp, .inl ⟨_, _, rfl, run_takeDeferred HKr.out, ?_⟩⟩
        have hq : (wr.putObj D (.deferred none)).heap[W.heap.size]? = wr.heap[W.heap.size]? := by
          unfold World.putObj
          first
            | (simp only []; rw [Array.getElem?_setIfInBounds_ne (by omega)])
            | (simp [Array.getElem?_setIfInBounds]; omega)
            | (simp [Array.getElem?_set]; omega)
        exact ⟨_, results_tmp2 rfl _ _ _, W.heap.size, rfl, hwW, HRW.out.of_block hq, HBr.out.trans (belowK_b (w := w) (Nat.le_refl _) wr D _ _ (by omega) HKr.out rfl rfl)⟩

end Go.Proofs.Ytcfeckpbjdipeaa

/- LevelRegions of the program. -/
namespace Go.Proofs.Ytcfeckpbjdipeaa
open Go.RowKit
set_option linter.unusedVariables false

open Classical in
noncomputable def G.rgV (g : G) (lv : Int) : Int := if g.LvOk lv then rgN g.n (g.len 0) g.flat lv (g.n * g.len 0) else -1
theorem G.rgV_yes {g : G} {lv : Int} (h : g.LvOk lv) : g.rgV lv = rgN g.n (g.len 0) g.flat lv (g.n * g.len 0) := by unfold G.rgV; rw [if_pos h]
theorem G.rgV_no {g : G} {lv : Int} (h : ¬ g.LvOk lv) : g.rgV lv = -1 := by unfold G.rgV; rw [if_neg h]

set_option maxHeartbeats 2000000 in
set_option maxRecDepth 100000 in
theorem regionCount_any (R C gg cap cnt : Nat) (hR : R ≤ 7) (hC : C ≤ 7) (Z : Nat → Int) (lv : Int) (w : World) (h : Rv w R C cnt gg cap Z) :
    Calls Try.prog 82 #[.agg #[.int .i64 R, .int .i64 C, .slice (some ⟨gg, 0, none⟩) cnt cap, .int .i64 lv]] w (IntPost (rgN R C Z lv (R * C)) w) := by
  have HCN := Lib.hid h.n_eq
  have hb0 := (Below.refl w.heap.size w).alloc (Nat.le_refl _) (.cells #[.int .i64 R, .int .i64 C, .slice (some ⟨gg, 0, none⟩) cnt cap, .int .i64 lv] 65)
  have HB0 := Lib.hid hb0
  have HN := Lib.hid (numbers_any R C gg cap cnt hR hC Z lv _ (h.keep hb0 (Nat.le_refl _)))
  have HL0 := Lib.hid (heap_alloc_new w (.cells #[.int .i64 R, .int .i64 C, .slice (some ⟨gg, 0, none⟩) cnt cap, .int .i64 lv] 65))
  obtain ⟨m0, m1, m2, m3⟩ := cells4 HL0.out
  clear h hb0
  go_enter Try.func82, Try.ntmps82
  go_wp2_with fail
  refine HN.out.mono ?_
  rintro e w1 ⟨q, rfl, hq, hrow, hb1⟩
  have HB1 := Lib.hid (HB0.out.trans (hb1.mono HB0.out.size))
  clear hb1 hrow
  go_wp2
  go_ret
  exact ⟨ret_int (by rw [HCN.out]), HB1.out⟩

set_option maxHeartbeats 2000000 in
set_option maxRecDepth 100000 in
theorem implLevelRegions_any (v : Value) (lo hi : Nat) (g : G) (lv : Int) (w : World) (hv : RdM lo hi w v g) (hh : hi ≤ w.heap.size) :
    Calls Try.prog 40 #[v, .int .i64 lv] w (IntPost (g.rgV lv) w) := by
  by_cases h : g.LvOk lv
  case neg =>
    have HC := Lib.hid (layerOf_no v lo hi g lv w hv hh h)
    have HA := Lib.hid (G.rgV_no h)
    clear hv h
    go_enter Try.func40, Try.ntmps40
    go_wp2_with fail
    refine HC.out.mono ?_
    rintro e w1 ⟨rfl, hb1⟩
    have HB1 := Lib.hid (hb1.alloc hb1.size (.cells #[.int .i64 0, .int .i64 0, .slice none 0 0, .int .i64 0] 65))
    clear hb1
    go_wp2
    go_ret
    exact ⟨ret_int HA.out.symm, HB1.out⟩
  case pos =>
    have HC := Lib.hid (layerOf_yes v lo hi g lv w hv hh h)
    have HA := Lib.hid (G.rgV_yes h)
    have h49 := mul_le_49 h.1.1.2 h.1.2.1.2
    have h71 := h.1.1.2
    have h72 := h.1.2.1.2
    clear hv h
    go_enter Try.func40, Try.ntmps40
    go_wp2_with fail
    refine HC.out.mono ?_
    rintro e w1 ⟨n, gg, cap, rfl, hrv, hb1⟩
    have HN := Lib.hid hrv.n_eq
    have hn49 : n ≤ 49 := by rw [hrv.n_eq]; exact h49
    have HB1 := Lib.hid (hb1.alloc hb1.size (.cells #[.int .i64 g.n, .int .i64 (g.len 0), .slice (some ⟨gg, 0, none⟩) n cap, .int .i64 lv] 65))
    have HL := Lib.hid (regionCount_any g.n (g.len 0) gg cap n h71 h72 g.flat lv _ (hrv.keep ((Below.refl w1.heap.size w1).alloc (Nat.le_refl _) (.cells #[.int .i64 g.n, .int .i64 (g.len 0), .slice (some ⟨gg, 0, none⟩) n cap, .int .i64 lv] 65)) (Nat.le_refl _)))
    clear hrv hb1
    go_wp2_with fail
    refine HL.out.mono ?_
    rintro e w3 ⟨rfl, hb3⟩
    have HB3 := Lib.hid (HB1.out.trans (hb3.mono HB1.out.size))
    clear hb3
    go_wp2
    go_ret
    exact ⟨ret_int (by rw [HA.out]), HB3.out⟩

end Go.Proofs.Ytcfeckpbjdipeaa

/- Regions: areas, levels at which all land is one region, regions in regions: what is reckoned. -/
namespace Go.Proofs.Ytcfeckpbjdipeaa
set_option linter.unusedVariables false

theorem numZ_range (R C : Nat) (Z : Nat → Int) (lv : Int) {j : Nat} (hj : j ≤ 1000) : -1 ≤ numZ R C Z lv j ∧ numZ R C Z lv j ≤ 1000 := by
  have h := lab_range R C Z lv (j + 1) j hj
  rw [lab_all (Nat.lt_succ_self j)] at h
  exact h
theorem rgN_hit {R C : Nat} {Z : Nat → Int} {lv : Int} : ∀ {N s : Nat}, s < rgN R C Z lv N → ∃ k, k < N ∧ lv ≤ Z k ∧ cmZ R C Z lv k = k ∧ rgN R C Z lv k = s
  | 0, s, h => by simp [rgN] at h
  | N + 1, s, h => by
    by_cases e : lv ≤ Z N ∧ cmZ R C Z lv N = N
    · rw [rgN_yes e.1 e.2] at h
      by_cases e2 : s = rgN R C Z lv N
      · exact ⟨N, by omega, e.1, e.2, e2.symm⟩
      · obtain ⟨k, h1, h2⟩ := rgN_hit (R := R) (C := C) (Z := Z) (lv := lv) (N := N) (s := s) (by omega)
        exact ⟨k, by omega, h2⟩
    · rw [rgN_no e] at h
      obtain ⟨k, h1, h2⟩ := rgN_hit h
      exact ⟨k, by omega, h2⟩
theorem area_iff {R C : Nat} {Z : Nat → Int} {lv : Int} {N : Nat} {s : Int} (hs : 0 ≤ s) : 0 < cntZ (numZ R C Z lv) s N ↔ s < rgN R C Z lv N := by
  constructor
  · intro h
    obtain ⟨j, hj, e⟩ := cntZ_ex h
    by_cases hl : lv ≤ Z j
    · rw [← e]; exact numZ_lt hl (by have := cmZ_le R C Z lv j; omega)
    · rw [numZ_no hl] at e; omega
  · intro h
    obtain ⟨k, h1, h2, h3, h4⟩ := rgN_hit (R := R) (C := C) (Z := Z) (lv := lv) (N := N) (s := s.toNat) (by omega)
    exact cntZ_pos h1 (by rw [numZ_yes h2, h3, h4]; omega)

/-- at two roots the numbers are two -/
theorem rgN_inj {R C : Nat} {Z : Nat → Int} {lv : Int} {a b : Nat} (ha : lv ≤ Z a ∧ cmZ R C Z lv a = a) (hb : lv ≤ Z b ∧ cmZ R C Z lv b = b) (e : rgN R C Z lv a = rgN R C Z lv b) : a = b := by
  rcases Nat.lt_trichotomy a b with h | h | h
  · have h1 := rgN_yes (R := R) (C := C) ha.1 ha.2
    have h2 := rgN_mono R C Z lv (a := a + 1) (b := b) h
    omega
  · exact h
  · have h1 := rgN_yes (R := R) (C := C) hb.1 hb.2
    have h2 := rgN_mono R C Z lv (a := b + 1) (b := a) h
    omega
theorem numZ_inj {R C : Nat} {Z : Nat → Int} {lv : Int} {x y : Nat} (h : 0 ≤ numZ R C Z lv x) (e : numZ R C Z lv x = numZ R C Z lv y) : cmZ R C Z lv x = cmZ R C Z lv y := by
  have hx : lv ≤ Z x := by
    by_cases hl : lv ≤ Z x
    · exact hl
    · rw [numZ_no hl] at h; omega
  have hy : lv ≤ Z y := by
    by_cases hl : lv ≤ Z y
    · exact hl
    · rw [e, numZ_no hl] at h; omega
  rw [numZ_yes hx, numZ_yes hy] at e
  exact rgN_inj ⟨cm_land hx, cmZ_idem R C Z lv x⟩ ⟨cm_land hy, cmZ_idem R C Z lv y⟩ (by omega)
theorem cm_down {R C : Nat} {Z : Nat → Int} {hv lv : Int} (hl : lv ≤ hv) {x y : Nat} (e : cmZ R C Z hv x = cmZ R C Z hv y) : cmZ R C Z lv x = cmZ R C Z lv y :=
  (cm_closed (R := R) (C := C) (Z := Z) (lv := hv) (fun q => cmZ R C Z lv x = cmZ R C Z lv q) (fun a b hab h => h.trans (cm_adj ⟨hab.1, by have := hab.2.1; omega, by have := hab.2.2; omega⟩)) (x := x) (y := y) e rfl)
theorem numZ_down {R C : Nat} {Z : Nat → Int} {hv lv : Int} (hl : lv ≤ hv) {x y : Nat} (h : 0 ≤ numZ R C Z hv x) (e : numZ R C Z hv x = numZ R C Z hv y) : numZ R C Z lv x = numZ R C Z lv y := by
  have hx : hv ≤ Z x := by
    by_cases hl : hv ≤ Z x
    · exact hl
    · rw [numZ_no hl] at h; omega
  have hy : hv ≤ Z y := by
    by_cases hl : hv ≤ Z y
    · exact hl
    · rw [e, numZ_no hl] at h; omega
  rw [numZ_yes (show lv ≤ Z x by omega), numZ_yes (show lv ≤ Z y by omega), cm_down hl (numZ_inj h e)]

/-- the number, at the lower level, of the region in which the region k lies -/
noncomputable def inZ (R C : Nat) (Z : Nat → Int) (hv lv : Int) (k : Nat) : Int := open Classical in if h : ∃ x, x < R * C ∧ numZ R C Z hv x = k then numZ R C Z lv h.choose else 0
theorem inZ_at {R C : Nat} {Z : Nat → Int} {hv lv : Int} (hl : lv ≤ hv) {x k : Nat} (hx : x < R * C) (e : numZ R C Z hv x = k) : inZ R C Z hv lv k = numZ R C Z lv x := by
  have h : ∃ x, x < R * C ∧ numZ R C Z hv x = k := ⟨x, hx, e⟩
  unfold inZ
  rw [dif_pos h]
  have h2 := h.choose_spec
  exact numZ_down hl (by rw [h2.2]; omega) (h2.2.trans e.symm)
theorem inZ_ex {R C : Nat} {Z : Nat → Int} {hv lv : Int} (hl : lv ≤ hv) {k : Nat} (hk : k < rgN R C Z hv (R * C)) : ∃ x, x < R * C ∧ numZ R C Z hv x = k := by
  obtain ⟨x, h1, h2, h3, h4⟩ := rgN_hit hk
  exact ⟨x, h1, by rw [numZ_yes h2, h3, h4]⟩
theorem inZ_range {R C : Nat} {Z : Nat → Int} {hv lv : Int} (h : R * C ≤ 1000) (k : Nat) : -1 ≤ inZ R C Z hv lv k ∧ inZ R C Z hv lv k ≤ 1000 := by
  unfold inZ
  split
  · rename_i h2
    exact numZ_range R C Z lv (by have := h2.choose_spec.1; omega)
  · omega

theorem near_nb {R C : Nat} {x y : Ix (R * C)} {k : Nat} (hk : k < 4) (h : nb R C x k = some y) : y ∈ near R C x 4 := by
  have h1 : y ∈ near R C x (k + 1) := by rw [near_some h]; simp
  exact (near_pre R C x (k + 1) 4 (by omega)).subset h1
/-- where all is land, all hangs together -/
theorem cm_whole {R C : Nat} {Z : Nat → Int} {lv : Int} (hC : 1 ≤ C) (h : ∀ x, x < R * C → lv ≤ Z x) : ∀ n x, x ≤ n → x < R * C → cmZ R C Z lv x = 0
  | 0, x, h0, hx => by have := cmZ_le R C Z lv x; omega
  | n + 1, x, h0, hx => by
    by_cases e0 : x = 0
    · have := cmZ_le R C Z lv x; omega
    · by_cases hc : 0 < x % C
      · have hy : x - 1 < R * C := by omega
        have ha : Adj R C Z lv ⟨x, hx⟩ ⟨x - 1, hy⟩ := ⟨near_nb (k := 3) (by omega) (by
          have := (nb_cases R C ⟨x, hx⟩ 3).1 (by unfold nbC; simpa using hc)
          obtain ⟨z, h1, h2⟩ := this
          rw [h1]
          exact congrArg some (Subtype.ext (by rw [h2]; simp [nbV]))), h _ hx, h _ hy⟩
        have e1 := cm_adj ha
        rw [e1]
        exact cm_whole hC h n (x - 1) (by omega) hy
      · have hxc : C ≤ x := by
          rcases Nat.lt_or_ge x C with h2 | h2
          · rw [Nat.mod_eq_of_lt h2] at hc; omega
          · exact h2
        have hy : x - C < R * C := by omega
        have ha : Adj R C Z lv ⟨x, hx⟩ ⟨x - C, hy⟩ := ⟨near_nb (k := 0) (by omega) (by
          have := (nb_cases R C ⟨x, hx⟩ 0).1 (by unfold nbC; simpa using hxc)
          obtain ⟨z, h1, h2⟩ := this
          rw [h1]
          exact congrArg some (Subtype.ext (by rw [h2]; simp [nbV]))), h _ hx, h _ hy⟩
        have e1 := cm_adj ha
        rw [e1]
        exact cm_whole hC h n (x - C) (by omega) hy
theorem rgN_whole {R C : Nat} {Z : Nat → Int} {lv : Int} (hC : 1 ≤ C) (h : ∀ x, x < R * C → lv ≤ Z x) : ∀ n, n < R * C → rgN R C Z lv (n + 1) = 1
  | 0, hn => by rw [rgN_yes (h 0 hn) (by have := cmZ_le R C Z lv 0; omega)]; rfl
  | n + 1, hn => by
    rw [rgN_no (fun k => by have := cm_whole hC h (n + 1) (n + 1) (Nat.le_refl _) hn; omega)]
    exact rgN_whole hC h n (by omega)

/-- a greatest number up to which all are so -/
theorem up_to (P : Nat → Prop) (h0 : P 0) (M : Nat) : ∃ x, x ≤ M ∧ (∀ k, k ≤ x → P k) ∧ (x = M ∨ ¬ P (x + 1)) := by
  induction M with
  | zero => exact ⟨0, Nat.le_refl _, fun k hk => by obtain rfl : k = 0 := by omega
                                                    exact h0, Or.inl rfl⟩
  | succ M ih =>
    obtain ⟨x, h1, h2, h3⟩ := ih
    rcases h3 with h3 | h3
    · subst h3
      by_cases h : P (x + 1)
      · exact ⟨x + 1, Nat.le_refl _, fun k hk => by
          by_cases e : k = x + 1
          · subst e; exact h
          · exact h2 k (by omega), Or.inl rfl⟩
      · exact ⟨x, by omega, h2, Or.inr h⟩
    · exact ⟨x, by omega, h2, Or.inr h3⟩

end Go.Proofs.Ytcfeckpbjdipeaa

/- The numbers of the cells' regions, in the model. -/
namespace Go.Proofs.Ytcfeckpbjdipeaa
open Go.RowKit
set_option linter.unusedVariables false

/-- a cell of a list -/
theorem Lists.atCell {B : Nat} {w : World} {M : Nat} {l : List (Ix M)} {a : Option Addr} {n c q : Nat} (h : Lists B w (.slice a n c) l) (hq : q < l.length) :
    ∃ b, a = some ⟨b, 0, none⟩ ∧ w.cell? ⟨b, q, none⟩ = some (.int .i64 (l[q]).1) ∧ l.length ≤ c ∧ c ≤ maxLen := by
  obtain ⟨hlen, ⟨e, h0⟩ | ⟨b, cap, cur, e, hB, hb, hc, hcap, hcs, ht⟩⟩ := h
  · omega
  · simp only [Value.slice.injEq] at e
    obtain ⟨rfl, rfl, rfl⟩ := e
    refine ⟨b, rfl, ?_, hc, hcap⟩
    have e1 : cur.toList[q]? = (ixV l)[q]? := by rw [← ht, List.getElem?_take_of_lt (by omega)]
    have e2 : cur[q]? = some (.int .i64 (l[q]).1) := by rw [← Array.getElem?_toList, e1]; simp [ixV, hq]
    simp [World.cell?, hb, e2]

/-- a list of the call's own is a row -/
theorem own_row {B n b cap : Nat} {w : World} {xs : List Value} (h : w.ownsRow B 3 1 (.slice (some ⟨b, 0, none⟩) n cap) n xs) :
    ∃ F : Nat → Value, w.rowIs b 3 cap F ∧ (∀ i x, i < n → xs[i]? = some x → F i = x) ∧ n ≤ cap ∧ cap ≤ maxLen := by
  obtain ⟨hlen, ⟨e, h0⟩ | ⟨b', cap', cur, e, hB, hb, hc, hcap, hcs, ht⟩⟩ := h
  · cases e
  · simp only [Value.slice.injEq, Option.some.injEq, Addr.mk.injEq, and_true, true_and] at e
    obtain ⟨rfl, rfl⟩ := e
    refine ⟨fun i => cur[i]?.getD (.int .i64 0), ⟨cur, hb, by omega, fun i hi => ?_⟩, fun i x hi hx => ?_, hc, hcap⟩
    · have hi' : i < cur.size := by omega
      simp [hi']
    · show cur[i]?.getD _ = x
      rw [← ht, List.getElem?_take_of_lt (by omega)] at hx
      rw [← Array.getElem?_toList, hx]; rfl

/-- a row whose first N cells hold numbers -/
def ouF (N : Nat) (T : Nat → Value) (Y : Nat → Int) (j : Nat) : Value := if j < N then .int .i64 (Y j) else T j
theorem ouF_at {N : Nat} {T : Nat → Value} {Y : Nat → Int} {j : Nat} (h : j < N) : ouF N T Y j = .int .i64 (Y j) := by unfold ouF; rw [if_pos h]
theorem ouF_set {N : Nat} {T : Nat → Value} {Y Y' : Nat → Int} {y : Nat} {v : Int} (hy : y < N) (h : ∀ j, (if j = y then v else Y j) = Y' j) (j : Nat) : (if j = y then Value.int .i64 v else ouF N T Y j) = ouF N T Y' j := by
  have h1 := h j
  unfold ouF
  by_cases e : j = y
  · subst e
    simp only [if_true] at h1 ⊢
    rw [if_pos hy, h1]
  · simp only [if_neg e] at h1 ⊢
    rw [h1]
theorem ouF_congr {N : Nat} {T : Nat → Value} {Y Y' : Nat → Int} (h : ∀ j, j < N → Y j = Y' j) (j : Nat) : ouF N T Y j = ouF N T Y' j := by
  unfold ouF
  by_cases e : j < N
  · rw [if_pos e, if_pos e, h j e]
  · rw [if_neg e, if_neg e]

theorem lists_one' {w : World} {B M : Nat} (i : Ix M) (hB : w.heap.size = B) : Lists B (w.alloc (.cells #[.int .i64 i.1] 3)) (.slice (some ⟨B, 0, none⟩) 1 1) [i] := by subst hB; exact lists_one i

/-- the state of the search: the row of numbers, the list, the neighbors that are being looked at -/
structure NQ (w wr : World) (b cap N LB B1 B2 : Nat) (T : Nat → Value) {M : Nat} (Y : Nat → Int) (L : List (Ix M)) (v nv : Value) (l : List (Ix M)) : Prop where
  row : wr.rowIs b 3 cap (ouF N T Y)
  li : Lists LB wr v L
  far : ∀ kk, v.ownBlock = some kk → kk < B1 ∨ B2 ≤ kk
  nr : RdI B1 B2 wr nv l.length (ixZ l)
  sz : B2 ≤ wr.heap.size
  bel : Below w.heap.size w wr

theorem NQ.drewN {w wr : World} {b cap N LB B1 B2 : Nat} {T : Nat → Value} {M : Nat} {Y : Nat → Int} {L : List (Ix M)} {v nv : Value} {l : List (Ix M)} (h : NQ w wr b cap N LB B1 B2 T Y L v nv l) (n : Nat) : NQ w (wr.drewN n) b cap N LB B1 B2 T Y L v nv l :=
  ⟨h.row.of_block rfl, h.li.below (below_drewN (Below.refl wr.heap.size _) _) (Nat.le_refl _), h.far, h.nr.same (fun _ _ _ => rfl), h.sz, below_drewN h.bel n⟩

theorem NQ.push {w wr w5 : World} {b cap N LB B1 B2 : Nat} {T : Nat → Value} {M : Nat} {Y Y' : Nat → Int} {L : List (Ix M)} {v v' nv : Value} {l : List (Ix M)} (h : NQ w wr b cap N LB B1 B2 T Y L v nv l) (y : Ix M) (z : Int) (hyN : y.1 < N)
    (hY : ∀ j, (if j = y.1 then z else Y j) = Y' j) (hb1 : b < LB) (hb2 : b < B1) (hwb : w.heap.size ≤ b) (hlb : w.heap.size ≤ LB) {o : Obj} {yy : Nat} (ey : y.1 = yy)
    (hown : w5.ownsRow LB 3 1 v' (L.length + 1) (ixV L ++ [.int .i64 yy])) (hg : ((wr.setCell ⟨b, yy, none⟩ (.int .i64 z)).alloc o).grownBy w5 v.ownBlock) (hat : v'.ownBlock = v.ownBlock ∨ v'.ownBlock = some ((wr.setCell ⟨b, yy, none⟩ (.int .i64 z)).alloc o).heap.size) :
    NQ w w5 b cap N LB B1 B2 T Y' (L ++ [y]) v' nv l := by
  subst ey
  obtain ⟨h1, h2, h3, h4, h5, h6⟩ := h
  have hs : ((wr.setCell ⟨b, y.1, none⟩ (.int .i64 z)).alloc o).heap.size = wr.heap.size + 1 := by simp [World.setCell]
  have hblt := h1.lt
  have hne : ∀ kk, v.ownBlock = some kk → LB ≤ kk := fun kk hk => (h2.lt kk hk).1
  have r1 := ((h1.set y.1 (.int .i64 z)).congr (fun j _ => ouF_set hyN hY j)).alloc o
  have blk : ∀ kk, kk < wr.heap.size → kk ≠ b → some kk ≠ v.ownBlock → w5.heap[kk]? = wr.heap[kk]? := fun kk hk hn hf => by
    rw [hg.block kk (by omega) hf, Below.heap_alloc _ o kk (by simpa [World.setCell] using hk)]
    exact Below.heap_setCell wr ⟨b, y.1, none⟩ _ kk (by simpa using hn)
  refine ⟨r1.of_block (hg.block b (by omega) (fun e => ?_)), ?_, fun kk hk => ?_, h4.same (fun kk hk1 hk2 => blk kk (by omega) (by omega) (fun e => ?_)), ?_, ?_⟩
  · have := hne b e.symm; omega
  · unfold Lists
    have e : ixV (L ++ [y]) = ixV L ++ [.int .i64 y.1] := by simp [ixV]
    rw [e, List.length_append]
    exact hown
  · rcases hat with e | e
    · exact h3 kk (e ▸ hk)
    · rw [hk] at e
      simp only [Option.some.injEq] at e
      omega
  · rcases h3 kk e.symm with h | h <;> omega
  · have := hg.size; omega
  · have hb3 := ((h6.setCell (p := ⟨b, y.1, none⟩) hwb (.int .i64 z)).alloc (by have := h6.size; simpa [World.setCell] using this) o)
    exact hb3.grown hg (by have := h6.size; omega) (fun kk hk => Nat.le_trans hlb (hne kk hk))

theorem own_setCell {w : World} {B n : Nat} {v : Value} {xs : List Value} (h : w.ownsRow B 3 1 v n xs) {p : Addr} (hp : p.block < B) (u : Value) (k : Nat) : ((w.drewN k).setCell p u).ownsRow B 3 1 v n xs := by
  have hg : w.grownBy ((w.drewN k).setCell p u) (some p.block) := ⟨rfl, rfl, rfl, by simp [World.setCell], fun kk hk hn => Below.heap_setCell (w.drewN k) p u kk (fun e => hn (by rw [e]))⟩
  exact h.kept hg (Or.inr (fun e => by have := (h.lt p.block e).1; omega))

/-- what the numbers leave -/
def NumSPost (R C : Nat) (Z : Nat → Int) (lv : Int) (w : World) (e : Ending) (w' : World) : Prop :=
  ∃ q cap F, e = .returned (.tuple #[.slice (some ⟨q, 0, none⟩) (R * C) cap, .int .i64 (rgN R C Z lv (R * C) : Nat)]) ∧ w.heap.size ≤ q ∧ (R * C ≤ cap ∧ cap ≤ maxLen) ∧ w'.rowIs q 3 cap F ∧ (∀ j, j < R * C → F j = .int .i64 (numZ R C Z lv j)) ∧ Below w.heap.size w w'

set_option maxHeartbeats 20000000 in
set_option maxRecDepth 100000 in
theorem l3Numbers_any (v : Value) (lo hi : Nat) (g : G) (R C : Nat) (eR : g.n = R) (eC : g.len 0 = C) (lv : Int) (w : World) (hv : RdM lo hi w v g) (hh : hi ≤ w.heap.size) (h : g.Valid) :
    Calls Try.prog 90 #[v, .int .i64 lv] w (NumSPost R C g.flat lv w) := by
  obtain ⟨i0, hi0, hz0, hz1, hz2⟩ := info_parts Try.infoI
  have hb0 := (Below.refl w.heap.size w).alloc (Nat.le_refl _) (.cells #[] 3)
  have HB0 := Lib.hid hb0
  have HL0 := Lib.hid (show (w.alloc (.cells #[] 3)).ownsRow w.heap.size 3 1 (.slice (some ⟨w.heap.size, 0, none⟩) 0 0) 0 (List.replicate 0 (.int .i64 (-1))) from World.ownsRow_lit w #[] 0 (Nat.le_refl _) (Nat.zero_le _) (by simp))
  have HEQ := Lib.hid (show g.n = R ∧ g.len 0 = C from ⟨eR, eC⟩)
  have h49 : R * C ≤ 49 := mul_le_49 (by have := h.1.2; omega) (by have := h.2.1.2; omega)
  have hpos : 0 < R * C := Nat.mul_pos (by have := h.1.1; omega) (by have := h.2.1.1; omega)
  obtain ⟨b0, off0, cap0, rfl⟩ := hv.shapeW h.1.1
  have HV := Lib.hid hv
  have HH := Lib.hid h
  have EG0 : g.n * g.len 0 = R * C := by rw [eR, eC]
  obtain ⟨N, eN⟩ : ∃ N, R * C = N := ⟨_, rfl⟩
  have EN := Lib.hid eN
  have EG := Lib.hid (EG0.trans eN)
  rw [eN] at h49 hpos
  clear hv h hb0 eR eC EG0 eN
  go_enter Try.func90, Try.ntmps90
  go_wp2
  go_loopw [6, 7] (fun o i wr => ∃ (k : Nat) (v : Value), k ≤ N ∧ i = .int .i64 k ∧ v = o ∧ wr.ownsRow w.heap.size 3 1 v k (List.replicate k (.int .i64 (-1))) ∧ Below w.heap.size w wr) (fun _ i _ => N - (intOf i).toNat)
  case atStart => exact ⟨0, _, Nat.zero_le _, rfl, rfl, HL0.out, HB0.out⟩
  case round =>
    obtain ⟨k, v, hk, rfl, rfl, hown, hb⟩ := hrel
    have HVR := Lib.hid (HV.out.same (SameIn.below hb hh))
    have HB1 := Lib.hid hb
    have hsz := hb.size
    clear hb
    by_cases hlt : k < N
    · have hlt' : (k : Int) < N := by omega
      go_wp2_with fail
      refine (l2Cells_any _ lo hi g _ HVR.out HH.out).mono ?_
      rintro e w2 ⟨rfl, rfl⟩
      rw [EG.out]
      go_wp2_with (first | (at_builtin; refine wpList_append_own _ rfl _ _ 27 rfl w.heap.size 3 i0 (.int .i64 0) 1 8 Try.underlying27 hi0 hz0 hz1 hz2 rfl (by decide) _ k (List.replicate k (.int .i64 (-1))) rfl (hown.alloc _) ⟨wr.heap.size, 0, none⟩ 1 1 [.int .i64 (-1)] rfl rfl (World.news_of_block (cs := #[.int .i64 (-1)]) (t := 3) (fr := (0, 0)) (heap_alloc_new wr _)) (by simp [Value.oneCell']) (by unfold maxLen; omega) (by omega) (by simp; omega) ?_; intro v' w4 hown4 hg4 _))
      have HB4 := Lib.hid ((HB1.out.alloc HB1.out.size (.cells #[.int .i64 (-1)] 3)).grown hg4 (by simp; omega) (fun k hk => (hown.lt k hk).1))
      have HO4 := Lib.hid (show w4.ownsRow w.heap.size 3 1 v' (k + 1) (List.replicate (k + 1) (.int .i64 (-1))) from by rw [List.replicate_succ']; exact hown4)
      clear hown4 hg4 hown
      go_wp2
      go_roundw
      case rel => exact ⟨k + 1, v', by omega, by go_num, rfl, HO4.out, HB4.out⟩
      case measure => simp [intOf]; omega
    · have ek : k = N := by omega
      rw [ek] at hown ⊢
      obtain ⟨b, cap, rfl, hb1, hb2⟩ := hown.form hpos
      obtain ⟨F, hF, hF2, hc1, hc2⟩ := own_row hown
      have HROW := Lib.hid (show wr.rowIs b 3 cap (ouF N F (lab R C g.flat lv 0)) from hF.congr (fun j hj => by
        unfold ouF
        split
        · rename_i hjn
          rw [lab_zero]
          exact hF2 j (.int .i64 (-1)) hjn (by simp [hjn])
        · rfl))
      obtain ⟨wa, hwa⟩ : ∃ W, W = wr := ⟨_, rfl⟩
      subst hwa
      have hcl : (cap : Int) ≤ 9223372036854775807 := by unfold maxLen at hc2; omega
      have HC2 := Lib.hid hc2
      clear hown hF hF2 ek hlt hk hc2
      have hge : ¬ (N : Int) < N := by omega
      go_wp2_with fail
      refine (l2Cells_any _ lo hi g _ HVR.out HH.out).mono ?_
      rintro e w2 ⟨rfl, rfl⟩
      rw [EG.out]
      go_wp2
      go_loopw [8, 9] (fun n i wr => ∃ k : Nat, k ≤ N ∧ i = .int .i64 k ∧ n = .int .i64 (rgN R C g.flat lv k : Nat) ∧ wr.rowIs b 3 cap (ouF N F (lab R C g.flat lv k)) ∧ Below w.heap.size w wr) (fun _ i _ => N - (intOf i).toNat)
      case atStart => exact ⟨0, Nat.zero_le _, rfl, rfl, HROW.out, HB1.out⟩
      case round =>
        obtain ⟨k, hk, rfl, rfl, hrow, hb⟩ := hrel
        have HVK := Lib.hid (HV.out.same (SameIn.below hb hh))
        have HBK := Lib.hid hb
        have hszk := hb.size
        have hbl : b < wr.heap.size := hrow.lt
        have hrg := rgN_le R C g.flat lv k
        have HRK := Lib.hid hrow
        clear hb
        by_cases hlt : k < N
        · have hlt' : (k : Int) < N := by omega
          have c5 := hrow.cell (i := k) (by omega)
          have f5 : wr.frozen? ⟨b, k, none⟩ = false := hrow.frozen k
          rw [ouF_at hlt] at c5
          have HG := Lib.hid (l2Height_any _ lo hi g k wr HVK.out HH.out (by rw [EG.out]; exact hlt))
          have hcm := cmZ_le R C g.flat lv k
          by_cases hroot : lv ≤ g.flat k ∧ cmZ R C g.flat lv k = k
          · -- a new region
            obtain ⟨ix, hix⟩ : ∃ ix : Ix (R * C), ix.1 = k := ⟨⟨k, by rw [EN.out]; exact hlt⟩, rfl⟩
            have HIX := Lib.hid hix
            have hlab : lab R C g.flat lv k k = -1 := lab_neg (by omega)
            rw [hlab] at c5
            have HFD := Lib.hid (show Found R C g.flat lv k [ix] from hix ▸ Found.one ix (by rw [hix]; exact hroot.1) (by rw [hix]; exact hroot.2))
            have HRG := Lib.hid (rgN_yes (R := R) (C := C) hroot.1 hroot.2)
            obtain ⟨rg, erg⟩ : ∃ rg, rgN R C g.flat lv k = rg := ⟨_, rfl⟩
            have ERG := Lib.hid erg
            have hz : ¬ g.flat k < lv := by omega
            obtain ⟨z, ez⟩ : ∃ z, g.flat k = z := ⟨_, rfl⟩
            rw [ez] at HG hz
            rw [erg] at hrg HRG ⊢
            clear hlab hroot erg ez hix
            go_wp2_with fail
            refine HG.out.mono ?_
            rintro e w3 ⟨rfl, n3, rfl⟩
            have HS1 := Lib.hid (show (((wr.drewN n3).setCell ⟨b, k, none⟩ (.int .i64 rg)).alloc (.cells #[.int .i64 k] 3)).rowIs b 3 cap (ouF N F (labF g.flat lv k [ix])) from
              (((show (wr.drewN n3).rowIs b 3 cap (ouF N F (lab R C g.flat lv k)) from HRK.out.of_block rfl).set k (.int .i64 rg)).congr (fun j _ => ouF_set hlt (fun j => by
                have := labF_one (R := R) (C := C) (Z := g.flat) (lv := lv) ix j
                rw [HIX.out, ERG.out] at this
                exact this) j)).alloc _)
            have HS2 := Lib.hid (show Lists wr.heap.size (((wr.drewN n3).setCell ⟨b, k, none⟩ (.int .i64 rg)).alloc (.cells #[.int .i64 k] 3)) (.slice (some ⟨wr.heap.size, 0, none⟩) 1 1) [ix] from by
              have := lists_one' (w := (wr.drewN n3).setCell ⟨b, k, none⟩ (.int .i64 rg)) (B := wr.heap.size) ix (by simp [World.setCell])
              rw [HIX.out] at this
              exact this)
            have HS3 := Lib.hid (show Below w.heap.size w (((wr.drewN n3).setCell ⟨b, k, none⟩ (.int .i64 rg)).alloc (.cells #[.int .i64 k] 3)) from
              ((below_drewN HBK.out n3).setCell (p := ⟨b, k, none⟩) hb1 (.int .i64 rg)).alloc (by have := HBK.out.size; simpa [World.setCell] using this) _)
            clear HROW
            go_wp2
            obtain ⟨wb, hwb⟩ : ∃ W, W = wr := ⟨_, rfl⟩
            subst hwb
            go_loopw [10, 11] (fun s q wr => ∃ (L : List (Ix (R * C))) (p : Nat) (v : Value), p ≤ L.length ∧ q = .int .i64 p ∧ v = s ∧ Found R C g.flat lv k L ∧ Lists wb.heap.size wr v L ∧ wr.rowIs b 3 cap (ouF N F (labF g.flat lv k L)) ∧ (∀ j (hj : j < L.length), j < p → ∀ y, y ∈ near R C L[j] 4 → lv ≤ g.flat y.1 → y ∈ L) ∧ Below w.heap.size w wr) (fun _ q _ => N - (intOf q).toNat)
            case atStart => exact ⟨[ix], 0, _, Nat.zero_le _, rfl, rfl, HFD.out, HS2.out, HS1.out, fun j _ hj => by omega, HS3.out⟩
            case round =>
              obtain ⟨L, p, v, hp, rfl, rfl, hfd, hli, hrow3, hcl3, hb3⟩ := hrel
              have hLN : L.length ≤ N := by rw [← EN.out]; exact ix_nodup_le hfd.nodup
              have HFD3 := Lib.hid hfd
              have HLI3 := Lib.hid hli
              have HR3 := Lib.hid hrow3
              have HCL3 := Lib.hid hcl3
              have HB3 := Lib.hid hb3
              have HV3 := Lib.hid (HV.out.same (SameIn.below hb3 hh))
              have hsz3 := hb3.size
              have hbl3 : b < wr.heap.size := hrow3.lt
              obtain ⟨a3, c3, rfl⟩ := hli.shape
              clear hfd hcl3 hb3 hrow3
              by_cases hlt3 : p < L.length
              · obtain ⟨lb, rfl, hcell, hcc, hcm3⟩ := hli.atCell hlt3
                have hlt3' : (p : Int) < L.length := by omega
                have hwb3 : wb.heap.size ≤ wr.heap.size := by obtain ⟨_, _, _, h1, h2⟩ := World.ownsRow.form hli (by omega); omega
                have hcm4 : (c3 : Int) ≤ 9223372036854775807 := by unfold maxLen at hcm3; omega
                obtain ⟨x, ex⟩ : ∃ x, L[p] = x := ⟨_, rfl⟩
                have HX := Lib.hid (show lv ≤ g.flat x.1 ∧ cmZ R C g.flat lv x.1 = k from by
                  have h9 := HFD3.out.all _ (List.getElem_mem hlt3)
                  rw [ex] at h9
                  exact h9)
                have HXL := Lib.hid (show ∀ h : p < L.length, L[p] = x from fun _ => ex)
                rw [ex] at hcell
                have HN := Lib.hid (l2Near_any _ lo hi g R C HEQ.out.1 HEQ.out.2 x wr HV3.out (by omega) HH.out)
                clear hli ex hcm3
                go_wp2_with fail
                refine HN.out.mono ?_
                rintro e w5 ⟨nv, rfl, ⟨an, cn, rfl⟩, hnr, hb5⟩
                have hl4 : (near R C x 4).length ≤ 4 := near_len R C x 4
                obtain ⟨l, el⟩ : ∃ l, near R C x 4 = l := ⟨_, rfl⟩
                have EL := Lib.hid el
                rw [el] at hnr hl4 ⊢
                have hs5 := hb5.size
                have HQ5 := Lib.hid (show NQ w w5 b cap N wb.heap.size wr.heap.size w5.heap.size F (labF g.flat lv k L) L (.slice (some ⟨lb, 0, none⟩) L.length c3) (.slice an l.length cn) l from
                  ⟨HR3.out.of_block (hb5.block b hbl3), HLI3.out.below hb5 (Nat.le_refl _), fun kk hk => Or.inl (HLI3.out.lt kk hk).2, hnr, Nat.le_refl _, HB3.out.trans (hb5.mono HB3.out.size)⟩)
                obtain ⟨wc3, hwc3⟩ : ∃ W, W = wr := ⟨_, rfl⟩
                subst hwc3
                clear el hnr hb5 hcell HLI3 HR3 HB3 HV3 HN
                go_wp2
                go_loopw [10, 13] (fun s m wr => ∃ (L' : List (Ix (R * C))) (mm : Nat) (v' : Value), mm ≤ l.length ∧ m = .int .i64 mm ∧ v' = s ∧ Found R C g.flat lv k L' ∧ NQ w wr b cap N wb.heap.size wc3.heap.size w5.heap.size F (labF g.flat lv k L') L' v' (.slice an l.length cn) l ∧ (∃ t, L' = L ++ t) ∧ (∀ y, y ∈ l.take mm → lv ≤ g.flat y.1 → y ∈ L')) (fun _ m _ => l.length - (intOf m).toNat)
                case atStart => exact ⟨L, 0, _, Nat.zero_le _, rfl, rfl, HFD3.out, HQ5.out, ⟨[], by simp⟩, fun y hy => by simp at hy⟩
                case round =>
                  obtain ⟨L', mm, v', hmm, rfl, rfl, hfd', hq, hpre, hdone⟩ := hrel
                  have HFD4 := Lib.hid hfd'
                  have HQ := Lib.hid hq
                  have HPRE := Lib.hid hpre
                  have HDONE := Lib.hid hdone
                  have hLN' : L'.length ≤ N := by rw [← EN.out]; exact ix_nodup_le hfd'.nodup
                  have HV4 := Lib.hid (HV.out.same (SameIn.below hq.bel hh))
                  have hszq := hq.sz
                  clear hpre hdone hfd'
                  by_cases hlt4 : mm < l.length
                  · have hlt4' : (mm : Int) < l.length := by omega
                    obtain ⟨ao, cp, nb, no, e1, i2, i3, i4, i5, i6⟩ := hq.nr
                    have q1 := i6 mm hlt4
                    rw [ixZ_at l hlt4] at q1
                    simp only [Value.slice.injEq] at e1
                    obtain ⟨rfl, _, rfl⟩ := e1
                    obtain ⟨rfl, hnb1, hnb2⟩ := i5 (by omega)
                    have HTK := Lib.hid (show l.take (mm + 1) = l.take mm ++ [l[mm]] from List.take_succ_eq_append_getElem hlt4)
                    have HMEM := Lib.hid (show l[mm] ∈ near R C x 4 from by rw [EL.out]; exact List.getElem_mem hlt4)
                    obtain ⟨y, ey⟩ : ∃ y, l[mm] = y := ⟨_, rfl⟩
                    rw [ey] at q1 HTK HMEM
                    have hyN : y.1 < N := by rw [← EN.out]; exact y.2
                    have c6 := hq.row.cell (i := y.1) (by omega)
                    have f6 : wr.frozen? ⟨b, y.1, none⟩ = false := hq.row.frozen y.1
                    rw [ouF_at hyN] at c6
                    have HLQ := Lib.hid hq.li
                    clear ey i4 i5 i6 hq
                    by_cases hyL : y ∈ L'
                    · rw [labF_in hyL, ERG.out] at c6
                      have hneg : ¬ (rg : Int) < 0 := by omega
                      have HD2 := Lib.hid (show ∀ y', y' ∈ l.take (mm + 1) → lv ≤ g.flat y'.1 → y' ∈ L' from fun y' hy' hl' => by
                        rw [HTK.out] at hy'
                        rcases List.mem_append.1 hy' with h | h
                        · exact HDONE.out y' h hl'
                        · simp at h; subst h; exact hyL)
                      obtain ⟨yy, eyy⟩ : ∃ yy, y.1 = yy := ⟨_, rfl⟩
                      rw [eyy] at q1 c6 f6 hyN
                      have hyN' : (yy : Int) < N := by omega
                      clear eyy
                      go_wp2
                      go_roundw
                      case rel => exact ⟨L', mm + 1, _, by omega, by go_num, rfl, HFD4.out, HQ.out, HPRE.out, HD2.out⟩
                      case measure => simp [intOf]; omega
                    · rw [labF_out hyL] at c6
                      have HG4 := Lib.hid (l2Height_any _ lo hi g y.1 wr HV4.out HH.out (by rw [EG.out]; exact hyN))
                      by_cases hz4 : lv ≤ g.flat y.1
                      · have hcy : cmZ R C g.flat lv y.1 = k := by rw [← cm_adj ⟨HMEM.out, HX.out.1, hz4⟩]; exact HX.out.2
                        rw [lab_neg (by omega)] at c6
                        obtain ⟨xx, hxx1, hxx2⟩ : ∃ xx, xx ∈ L' ∧ y ∈ near R C xx 4 := ⟨x, by
                          obtain ⟨t, ht⟩ := HPRE.out
                          rw [ht, ← HXL.out hlt3]
                          exact List.mem_append_left _ (List.getElem_mem hlt3), HMEM.out⟩
                        have HFD5 := Lib.hid (HFD4.out.push hxx1 hxx2 hz4 hyL)
                        have HD2 := Lib.hid (show ∀ y', y' ∈ l.take (mm + 1) → lv ≤ g.flat y'.1 → y' ∈ L' ++ [y] from fun y' hy' hl' => by
                          rw [HTK.out] at hy'
                          rcases List.mem_append.1 hy' with h | h
                          · exact List.mem_append_left _ (HDONE.out y' h hl')
                          · exact List.mem_append_right _ h)
                        have HPRE2 := Lib.hid (show ∃ t, L' ++ [y] = L ++ t from by
                          obtain ⟨t, ht⟩ := HPRE.out
                          exact ⟨t ++ [y], by rw [ht, List.append_assoc]⟩)
                        have HLB := Lib.hid (fun j => (show (if j = y.1 then (rg : Int) else labF g.flat lv k L' j) = labF g.flat lv k (L' ++ [y]) j from by
                          have := labF_push (R := R) (C := C) (Z := g.flat) (lv := lv) (i := k) (L := L') y j
                          rw [ERG.out] at this
                          exact this))
                        obtain ⟨yy, eyy⟩ : ∃ yy, y.1 = yy := ⟨_, rfl⟩
                        have EYY := Lib.hid eyy
                        obtain ⟨z4, ez4⟩ : ∃ z4, g.flat y.1 = z4 := ⟨_, rfl⟩
                        rw [ez4] at HG4 hz4
                        rw [eyy] at q1 c6 f6 hyN HG4
                        have hyN' : (yy : Int) < N := by omega
                        clear eyy ez4 hcy hxx1 hxx2 hyL
                        go_wp2_with fail
                        refine HG4.out.mono ?_
                        rintro e w7 ⟨rfl, n7, rfl⟩
                        have HQ7 := Lib.hid (HQ.out.drewN n7)
                        have q7 : ((wr.drewN n7).setCell ⟨b, yy, none⟩ (.int .i64 rg)).cell? ⟨nb, no + mm, none⟩ = some (.int .i64 yy) := by
                          rw [World.cell?_setCell_other _ _ _ _ (by intro e; simp only [Addr.mk.injEq] at e; omega)]
                          exact q1
                        have hown7 : ((wr.drewN n7).setCell ⟨b, yy, none⟩ (.int .i64 rg)).ownsRow wb.heap.size 3 1 v' L'.length (ixV L') := own_setCell HLQ.out hbl _ n7
                        have hs7 : ((wr.drewN n7).setCell ⟨b, yy, none⟩ (.int .i64 rg)).heap.size = wr.heap.size := by simp [World.setCell]
                        go_wp2_with (first | (at_builtin; refine wpList_append_own_at _ rfl _ _ 27 rfl wb.heap.size 3 i0 (.int .i64 0) 1 8 Try.underlying27 hi0 hz0 hz1 hz2 rfl (by decide) _ L'.length (ixV L') rfl (hown7.alloc _) ⟨wr.heap.size, 0, none⟩ 1 1 [.int .i64 yy] rfl rfl (World.news_of_block (cs := #[.int .i64 yy]) (t := 3) (fr := (0, 0)) (by have h9 := heap_alloc_new ((wr.drewN n7).setCell ⟨b, yy, none⟩ (.int .i64 rg)) (.cells #[.int .i64 yy] 3); rw [hs7] at h9; exact h9)) (by simp [Value.oneCell']) (by unfold maxLen; omega) (by omega) (by simp [World.setCell] <;> omega) ?_; intro v9 w9 hown9 hg9 _ hat9))
                        have HQ9 := Lib.hid (HQ7.out.push y rg (by rw [EYY.out]; exact hyN) HLB.out hbl hbl3 hb1 hszk EYY.out hown9 hg9 hat9)
                        clear hown9 hg9 hat9 hown7 q7
                        go_wp2
                        go_roundw
                        case rel => exact ⟨L' ++ [y], mm + 1, v9, by omega, by go_num, rfl, HFD5.out, HQ9.out, HPRE2.out, HD2.out⟩
                        case measure => simp [intOf]; omega
                      · rw [lab_neg (by omega)] at c6
                        have HD2 := Lib.hid (show ∀ y', y' ∈ l.take (mm + 1) → lv ≤ g.flat y'.1 → y' ∈ L' from fun y' hy' hl' => by
                          rw [HTK.out] at hy'
                          rcases List.mem_append.1 hy' with h | h
                          · exact HDONE.out y' h hl'
                          · simp at h; subst h; exact absurd hl' hz4)
                        obtain ⟨yy, eyy⟩ : ∃ yy, y.1 = yy := ⟨_, rfl⟩
                        obtain ⟨z4, ez4⟩ : ∃ z4, g.flat y.1 = z4 := ⟨_, rfl⟩
                        rw [ez4] at HG4 hz4
                        rw [eyy] at q1 c6 f6 hyN HG4
                        have hyN' : (yy : Int) < N := by omega
                        clear eyy ez4
                        go_wp2_with fail
                        refine HG4.out.mono ?_
                        rintro e w7 ⟨rfl, n7, rfl⟩
                        have HQ7 := Lib.hid (HQ.out.drewN n7)
                        go_wp2
                        go_roundw
                        case rel => exact ⟨L', mm + 1, _, by omega, by go_num, rfl, HFD4.out, HQ7.out, HPRE.out, HD2.out⟩
                        case measure => simp [intOf]; omega
                  · have emm : mm = l.length := by omega
                    subst emm
                    have HCL := Lib.hid (show ∀ j (hj : j < L'.length), j < p + 1 → ∀ y, y ∈ near R C L'[j] 4 → lv ≤ g.flat y.1 → y ∈ L' from fun j hj hjp y hy hl' => by
                      obtain ⟨t, ht⟩ := HPRE.out
                      by_cases e : j = p
                      · subst e
                        have e1 : L'[j] = x := by
                          rw [← HXL.out hlt3]
                          simp only [ht]
                          rw [List.getElem_append_left hlt3]
                        rw [e1, EL.out] at hy
                        exact HDONE.out y (by rw [List.take_length]; exact hy) hl'
                      · have hjL : j < L.length := by omega
                        have e1 : L'[j] = L[j] := by
                          simp only [ht]
                          rw [List.getElem_append_left hjL]
                        rw [e1] at hy
                        rw [ht]
                        exact List.mem_append_left _ (HCL3.out j hjL (by omega) y hy hl'))
                    have hlen : p + 1 ≤ L'.length := by
                      obtain ⟨t, ht⟩ := HPRE.out
                      rw [ht, List.length_append]
                      omega
                    have hge4 : ¬ ((l.length : Nat) : Int) < l.length := by omega
                    clear hq
                    go_wp2
                    go_roundw
                    case rel => exact ⟨L', p + 1, _, hlen, by go_num, rfl, HFD4.out, HQ.out.li, HQ.out.row, HCL.out, HQ.out.bel⟩
                    case measure => simp [intOf]; omega
              · have ep : p = L.length := by omega
                have HDN := Lib.hid (HFD3.out.done (fun x hx y hy hl => by
                  obtain ⟨j, hj, rfl⟩ := List.getElem_of_mem hx
                  exact HCL3.out j hj (by omega) y hy hl))
                have HROW9 := Lib.hid (show wr.rowIs b 3 cap (ouF N F (lab R C g.flat lv (k + 1))) from HR3.out.congr (fun j _ => ouF_congr (fun j hj => HDN.out j (by rw [EN.out]; exact hj)) j))
                rw [ep]
                have hge3 : ¬ ((L.length : Nat) : Int) < L.length := by omega
                clear hli ep
                go_wp2
                go_roundw
                case rel => exact ⟨k + 1, by omega, by go_num, by rw [HRG.out]; go_num, HROW9.out, HB3.out⟩
                case measure => simp [intOf]; omega
          · have HSK := Lib.hid (fun j => lab_skip (R := R) (C := C) (Z := g.flat) (lv := lv) (i := k) (j := j) hroot)
            have HRN := Lib.hid (rgN_no (R := R) (C := C) (Z := g.flat) (lv := lv) (k := k) hroot)
            have HROW9 := Lib.hid (fun n => show (wr.drewN n).rowIs b 3 cap (ouF N F (lab R C g.flat lv (k + 1))) from (HRK.out.congr (fun j _ => ouF_congr (fun j _ => (HSK.out j).symm) j)).of_block rfl)
            by_cases hl : lv ≤ g.flat k
            · have hq0 := lab_pos (R := R) (C := C) (Z := g.flat) (lv := lv) (i := k) (j := k) ⟨hl, by have : cmZ R C g.flat lv k ≠ k := fun e => hroot ⟨hl, e⟩; omega⟩
              have hq1 := lab_range R C g.flat lv k k (by omega)
              obtain ⟨q, eq⟩ : ∃ q, lab R C g.flat lv k k = q := ⟨_, rfl⟩
              rw [eq] at c5 hq0 hq1
              clear eq hroot hl
              go_wp2
              go_roundw
              case rel => exact ⟨k + 1, by omega, by go_num, by rw [HRN.out], HROW9.out 0, HBK.out⟩
              case measure => simp [intOf]; omega
            · rw [lab_neg (by omega)] at c5
              obtain ⟨z, ez⟩ : ∃ z, g.flat k = z := ⟨_, rfl⟩
              rw [ez] at HG hl
              clear ez hroot
              go_wp2_with fail
              refine HG.out.mono ?_
              rintro e w3 ⟨rfl, n3, rfl⟩
              have hl2 : z < lv := by omega
              go_wp2
              go_roundw
              case rel => exact ⟨k + 1, by omega, by go_num, by rw [HRN.out], HROW9.out n3, below_drewN HBK.out n3⟩
              case measure => simp [intOf]; omega
        · have ek : k = N := by omega
          have HF9 := Lib.hid (show ∀ j, j < R * C → ouF N F (lab R C g.flat lv N) j = .int .i64 (numZ R C g.flat lv j) from fun j hj => by
            rw [ouF_at (by rw [← EN.out]; exact hj), lab_all (by rw [← EN.out]; exact hj)])
          rw [ek] at HRK ⊢
          have hge2 : ¬ (N : Int) < N := by omega
          have HCAP := Lib.hid (show R * C ≤ cap ∧ cap ≤ maxLen from ⟨by rw [EN.out]; exact hc1, HC2.out⟩)
          clear hrow ek hlt hk
          go_wp2
          go_ret2
          exact ⟨b, cap, _, by rw [EN.out]; rfl, hb1, HCAP.out, HRK.out, HF9.out, HBK.out⟩

end Go.Proofs.Ytcfeckpbjdipeaa

/- Regions in the model: LevelRegions, LevelNumbers, LevelArea. -/
namespace Go.Proofs.Ytcfeckpbjdipeaa
open Go.RowKit
set_option linter.unusedVariables false

/-- what the numbers of the regions leave, in the program and in the model -/
def NmPost (R C N : Nat) (Z : Nat → Int) (lv : Int) (w : World) (e : Ending) (w' : World) : Prop :=
  ∃ v, e = .returned (.tuple #[v, .int .i64 (rgN R C Z lv N : Nat)]) ∧ (∃ a c, v = .slice a N c) ∧ OwI w.heap.size w'.heap.size w' v N (numZ R C Z lv) ∧ Below w.heap.size w w'

theorem OwI.shapeN {lo hi : Nat} {w : World} {v : Value} {n : Nat} {Z : Nat → Int} (h : OwI lo hi w v n Z) : ∃ a c, v = .slice a n c := by
  rcases h with ⟨rfl, rfl⟩ | ⟨b, N, cap, F, rfl, _⟩
  · exact ⟨_, _, rfl⟩
  · exact ⟨_, _, rfl⟩
theorem OwI.mono' {lo lo' hi : Nat} {w : World} {v : Value} {n : Nat} {Z : Nat → Int} (h : OwI lo hi w v n Z) (hl : lo' ≤ lo) : OwI lo' hi w v n Z := by
  rcases h with h | ⟨b, N, cap, F, h0, h1, h2⟩
  · exact Or.inl h
  · exact Or.inr ⟨b, N, cap, F, h0, by omega, h2⟩

theorem numZ_i64 {R C : Nat} {Z : Nat → Int} {lv : Int} {j : Nat} (hj : j ≤ 1000) : -9223372036854775808 ≤ numZ R C Z lv j ∧ numZ R C Z lv j ≤ 9223372036854775807 := by
  have := numZ_range R C Z lv hj
  omega

theorem numS_nm (v : Value) (lo hi : Nat) (g : G) (R C : Nat) (eR : g.n = R) (eC : g.len 0 = C) (lv : Int) (w : World) (hv : RdM lo hi w v g) (hh : hi ≤ w.heap.size) (h : g.Valid) :
    Calls Try.prog 90 #[v, .int .i64 lv] w (NmPost R C (R * C) g.flat lv w) := by
  have h49 : R * C ≤ 49 := mul_le_49 (by have := h.1.2; omega) (by have := h.2.1.2; omega)
  refine (l3Numbers_any v lo hi g R C eR eC lv w hv hh h).mono ?_
  rintro e w' ⟨q, cap, F, rfl, h1, ⟨h2, h3⟩, h4, h5, h6⟩
  exact ⟨_, rfl, ⟨_, _, rfl⟩, Or.inr ⟨q, cap, cap, F, rfl, h1, h4.lt, h4, h2, h2, by unfold maxLen at h3; omega, h5, fun i hi => numZ_i64 (by omega)⟩, h6⟩
theorem numI_nm (R C gg cap cnt : Nat) (hR : R ≤ 7) (hC : C ≤ 7) (Z : Nat → Int) (lv : Int) (w : World) (h : Rv w R C cnt gg cap Z) :
    Calls Try.prog 78 #[.agg #[.int .i64 R, .int .i64 C, .slice (some ⟨gg, 0, none⟩) cnt cap, .int .i64 lv]] w (NmPost R C cnt Z lv w) := by
  have h49 : cnt ≤ 49 := by rw [h.n_eq]; exact mul_le_49 hR hC
  refine (numbers_any R C gg cap cnt hR hC Z lv w h).mono ?_
  rintro e w' ⟨q, rfl, h1, h2, h3⟩
  exact ⟨_, rfl, ⟨_, _, rfl⟩, Or.inr ⟨q, cnt, cnt, _, rfl, h1, h2.lt, h2, Nat.le_refl _, Nat.le_refl _, by omega, fun i hi => rfl, fun i hi => numZ_i64 (by omega)⟩, h3⟩

set_option maxHeartbeats 2000000 in
set_option maxRecDepth 100000 in
theorem specLevelRegions_any (v : Value) (lo hi : Nat) (g : G) (lv : Int) (w : World) (hv : RdM lo hi w v g) (hh : hi ≤ w.heap.size) :
    Calls Try.prog 50 #[v, .int .i64 lv] w (IntPost (g.rgV lv) w) := by
  have HC := Lib.hid (l3Ok_any v lo hi g lv w hv)
  by_cases h : g.LvOk lv
  case neg =>
    have HB := Lib.hid (G.lvB_no h)
    have HA := Lib.hid (G.rgV_no h)
    clear hv h
    go_enter Try.func50, Try.ntmps50
    go_wp2_with fail
    refine HC.out.mono ?_
    rintro e w1 ⟨rfl, n1, rfl⟩
    rw [HB.out]
    go_wp2
    go_ret
    exact ⟨ret_int HA.out.symm, below_drewN (Below.refl _ _) _⟩
  case pos =>
    have HB := Lib.hid (G.lvB_yes h)
    have HA := Lib.hid (G.rgV_yes h)
    have HN := Lib.hid (fun n => numS_nm v lo hi g g.n (g.len 0) rfl rfl lv (w.drewN n) (hv.same (fun _ _ _ => rfl)) hh h.1)
    obtain ⟨N, eN⟩ : ∃ N, g.n * g.len 0 = N := ⟨_, rfl⟩
    rw [eN] at HA HN
    clear hv h eN
    go_enter Try.func50, Try.ntmps50
    go_wp2_with fail
    refine HC.out.mono ?_
    rintro e w1 ⟨rfl, n1, rfl⟩
    rw [HB.out]
    go_wp2_with fail
    refine (HN.out n1).mono ?_
    rintro e w2 ⟨q, rfl, _, _, hb2⟩
    have HB2 := Lib.hid ((below_drewN (Below.refl w.heap.size w) n1).trans (hb2.mono (by simp)))
    clear hb2
    go_wp2
    go_ret
    exact ⟨ret_int HA.out.symm, HB2.out⟩

/-- how many cells a list of numbers has -/
noncomputable def G.nmN (g : G) (lv : Int) : Nat := open Classical in if g.LvOk lv then g.n * g.len 0 else 0
theorem G.nmN_yes {g : G} {lv : Int} (h : g.LvOk lv) : g.nmN lv = g.n * g.len 0 := by unfold G.nmN; rw [if_pos h]
theorem G.nmN_no {g : G} {lv : Int} (h : ¬ g.LvOk lv) : g.nmN lv = 0 := by unfold G.nmN; rw [if_neg h]
theorem G.nmN_le {g : G} {lv : Int} : g.nmN lv ≤ 49 := by
  by_cases h : g.LvOk lv
  · rw [G.nmN_yes h]; exact mul_le_49 h.1.1.2 h.1.2.1.2
  · rw [G.nmN_no h]; omega

set_option maxHeartbeats 2000000 in
set_option maxRecDepth 100000 in
theorem specLevelNumbers_any (v : Value) (lo hi : Nat) (g : G) (lv : Int) (w : World) (hv : RdM lo hi w v g) (hh : hi ≤ w.heap.size) :
    Calls Try.prog 81 #[v, .int .i64 lv] w (LgPost (g.lvB lv) (g.nmN lv) (numZ g.n (g.len 0) g.flat lv) w) := by
  have HC := Lib.hid (l3Ok_any v lo hi g lv w hv)
  by_cases h : g.LvOk lv
  case neg =>
    have HB := Lib.hid (G.lvB_no h)
    have HA := Lib.hid (G.nmN_no h)
    rw [HA.out]
    clear hv h
    go_enter Try.func81, Try.ntmps81
    go_wp2_with fail
    refine HC.out.mono ?_
    rintro e w1 ⟨rfl, n1, rfl⟩
    rw [HB.out]
    have HO := Lib.hid (show OwI w.heap.size ((w.drewN n1).alloc (.cells #[] 3)).heap.size ((w.drewN n1).alloc (.cells #[] 3)) (.slice (some ⟨w.heap.size, 0, none⟩) 0 0) 0 (numZ g.n (g.len 0) g.flat lv) from
      Or.inr ⟨w.heap.size, 0, 0, fun _ => .int .i64 0, rfl, Nat.le_refl _, by simp, ⟨#[], heap_alloc_new (w.drewN n1) _, rfl, fun i hi => by omega⟩, Nat.le_refl _, Nat.le_refl _, by omega, fun i hi => by omega, fun i hi => by omega⟩)
    go_wp2
    go_ret2
    exact ⟨_, by rw [HB.out]; rfl, ⟨_, _, _, rfl⟩, HO.out, (below_drewN (Below.refl _ _) _).alloc (Nat.le_refl _) _⟩
  case pos =>
    have HB := Lib.hid (G.lvB_yes h)
    have HA := Lib.hid (G.nmN_yes h)
    have HN := Lib.hid (fun n => numS_nm v lo hi g g.n (g.len 0) rfl rfl lv (w.drewN n) (hv.same (fun _ _ _ => rfl)) hh h.1)
    rw [HA.out]
    obtain ⟨N, eN⟩ : ∃ N, g.n * g.len 0 = N := ⟨_, rfl⟩
    rw [eN] at HN ⊢
    clear hv h eN
    go_enter Try.func81, Try.ntmps81
    go_wp2_with fail
    refine HC.out.mono ?_
    rintro e w1 ⟨rfl, n1, rfl⟩
    rw [HB.out]
    go_wp2_with fail
    refine (HN.out n1).mono ?_
    rintro e w2 ⟨q, rfl, ⟨a, c, rfl⟩, ho, hb2⟩
    have HB2 := Lib.hid ((below_drewN (Below.refl w.heap.size w) n1).trans (hb2.mono (by simp)))
    have HO := Lib.hid ho
    clear hb2 ho
    go_wp2
    go_ret2
    exact ⟨_, by rw [HB.out]; rfl, ⟨_, _, _, rfl⟩, HO.out, HB2.out⟩

/-- how many cells a region has -/
noncomputable def G.arV (g : G) (lv s : Int) : Int := open Classical in if g.LvOk lv ∧ 0 ≤ s ∧ s < rgN g.n (g.len 0) g.flat lv (g.n * g.len 0) then (cntZ (numZ g.n (g.len 0) g.flat lv) s (g.n * g.len 0) : Int) else -1
theorem G.arV_yes {g : G} {lv s : Int} (h : g.LvOk lv) (h1 : 0 ≤ s) (h2 : s < rgN g.n (g.len 0) g.flat lv (g.n * g.len 0)) : g.arV lv s = cntZ (numZ g.n (g.len 0) g.flat lv) s (g.n * g.len 0) := by unfold G.arV; rw [if_pos ⟨h, h1, h2⟩]
theorem G.arV_no {g : G} {lv s : Int} (h : ¬ (g.LvOk lv ∧ 0 ≤ s ∧ s < rgN g.n (g.len 0) g.flat lv (g.n * g.len 0))) : g.arV lv s = -1 := by unfold G.arV; rw [if_neg h]

set_option maxHeartbeats 2000000 in
set_option maxRecDepth 100000 in
theorem specLevelArea_any (v : Value) (lo hi : Nat) (g : G) (lv s : Int) (w : World) (hv : RdM lo hi w v g) (hh : hi ≤ w.heap.size) :
    Calls Try.prog 80 #[v, .int .i64 lv, .int .i64 s] w (IntPost (g.arV lv s) w) := by
  have HN := Lib.hid (specLevelNumbers_any v lo hi g lv w hv hh)
  by_cases h : g.LvOk lv
  case neg =>
    have HB := Lib.hid (G.lvB_no h)
    have HA := Lib.hid (G.arV_no (g := g) (lv := lv) (s := s) (fun k => h k.1))
    rw [HB.out, G.nmN_no h] at HN
    clear hv h
    go_enter Try.func80, Try.ntmps80
    go_wp2_with fail
    refine HN.out.mono ?_
    rintro e w2 ⟨q, rfl, ⟨a, l, c, rfl⟩, _, hb2⟩
    have HB2 := Lib.hid hb2
    clear hb2
    go_wp2
    go_ret
    exact ⟨ret_int HA.out.symm, HB2.out⟩
  case pos =>
    have HB := Lib.hid (G.lvB_yes h)
    have HH := Lib.hid h
    have h49 := mul_le_49 h.1.1.2 h.1.2.1.2
    rw [HB.out, G.nmN_yes h] at HN
    have HI := Lib.hid (fun (hs : 0 ≤ s) => area_iff (R := g.n) (C := g.len 0) (Z := g.flat) (lv := lv) (N := g.n * g.len 0) hs)
    have HY := Lib.hid (fun h1 h2 => G.arV_yes (g := g) (s := s) HH.out h1 h2)
    have HNO := Lib.hid (fun k => G.arV_no (g := g) (lv := lv) (s := s) k)
    have hcl := cntZ_le (numZ g.n (g.len 0) g.flat lv) s (g.n * g.len 0)
    obtain ⟨N, eN⟩ : ∃ N, g.n * g.len 0 = N := ⟨_, rfl⟩
    rw [eN] at HN HI HY HNO h49 hcl
    obtain ⟨rg, erg⟩ : ∃ rg, rgN g.n (g.len 0) g.flat lv N = rg := ⟨_, rfl⟩
    rw [erg] at HI HY HNO
    clear hv h eN erg
    go_enter Try.func80, Try.ntmps80
    go_wp2_with fail
    refine HN.out.mono ?_
    rintro e w2 ⟨q, rfl, ⟨a, l, c, rfl⟩, ho, hb2⟩
    have HB2 := Lib.hid hb2
    have HO := Lib.hid ho.rd
    have HCT := Lib.hid (l2Count_any _ _ _ N (numZ g.n (g.len 0) g.flat lv) s w2 HO.out (by omega))
    obtain ⟨ct, ect⟩ : ∃ ct, cntZ (numZ g.n (g.len 0) g.flat lv) s N = ct := ⟨_, rfl⟩
    rw [ect] at HCT HI HY hcl
    clear hb2 ho ect
    by_cases hs : s < 0
    · have HA := Lib.hid (HNO.out (fun k => by have := k.2.1; omega))
      go_wp2
      go_ret
      exact ⟨ret_int HA.out.symm, HB2.out⟩
    · have hi := HI.out (by omega)
      by_cases hz : ct = 0
      · have HA := Lib.hid (HNO.out (fun k => by have := hi.2 k.2.2; omega))
        subst hz
        go_wp2_with fail
        refine HCT.out.mono ?_
        rintro e w3 ⟨rfl, rfl⟩
        go_wp2
        go_ret
        exact ⟨ret_int HA.out.symm, HB2.out⟩
      · have HA := Lib.hid (HY.out (by omega) (hi.1 (by omega)))
        have hz1 : ((ct : Int) == 0) = false := by rw [beq_eq_false_iff_ne]; omega
        go_wp2_with fail
        refine HCT.out.mono ?_
        rintro e w3 ⟨rfl, rfl⟩
        go_wp2_with fail
        refine HCT.out.mono ?_
        rintro e w3 ⟨rfl, rfl⟩
        go_wp2
        go_ret
        exact ⟨ret_int HA.out.symm, HB2.out⟩

end Go.Proofs.Ytcfeckpbjdipeaa

/- Regions in the program: LevelNumbers, LevelArea. -/
namespace Go.Proofs.Ytcfeckpbjdipeaa
open Go.RowKit
set_option linter.unusedVariables false

set_option maxHeartbeats 2000000 in
set_option maxRecDepth 100000 in
theorem implLevelArea_any (v : Value) (lo hi : Nat) (g : G) (lv s : Int) (w : World) (hv : RdM lo hi w v g) (hh : hi ≤ w.heap.size) :
    Calls Try.prog 41 #[v, .int .i64 lv, .int .i64 s] w (IntPost (g.arV lv s) w) := by
  by_cases h : g.LvOk lv
  case neg =>
    have HC := Lib.hid (layerOf_no v lo hi g lv w hv hh h)
    have HA := Lib.hid (G.arV_no (g := g) (lv := lv) (s := s) (fun k => h k.1))
    clear hv h
    go_enter Try.func41, Try.ntmps41
    go_wp2_with fail
    refine HC.out.mono ?_
    rintro e w1 ⟨rfl, hb1⟩
    have HB1 := Lib.hid (hb1.alloc hb1.size (.cells #[.int .i64 0, .int .i64 0, .slice none 0 0, .int .i64 0] 65))
    clear hb1
    go_wp2
    go_ret
    exact ⟨ret_int HA.out.symm, HB1.out⟩
  case pos =>
    have HC := Lib.hid (layerOf_yes v lo hi g lv w hv hh h)
    have HH := Lib.hid h
    have HY := Lib.hid (fun h1 h2 => G.arV_yes (g := g) (s := s) HH.out h1 h2)
    have HNO := Lib.hid (fun k => G.arV_no (g := g) (lv := lv) (s := s) k)
    have h71 := h.1.1.2
    have h72 := h.1.2.1.2
    have h49 := mul_le_49 h71 h72
    have hrl := rgN_le g.n (g.len 0) g.flat lv (g.n * g.len 0)
    clear hv h
    go_enter Try.func41, Try.ntmps41
    go_wp2_with fail
    refine HC.out.mono ?_
    rintro e w1 ⟨n, gg, cap, rfl, hrv, hb1⟩
    rw [← hrv.n_eq] at HY HNO h49 hrl
    have HB1 := Lib.hid (hb1.alloc hb1.size (.cells #[.int .i64 g.n, .int .i64 (g.len 0), .slice (some ⟨gg, 0, none⟩) n cap, .int .i64 lv] 65))
    have HL := Lib.hid (numI_nm g.n (g.len 0) gg cap n h71 h72 g.flat lv _ (hrv.keep ((Below.refl w1.heap.size w1).alloc (Nat.le_refl _) (.cells #[.int .i64 g.n, .int .i64 (g.len 0), .slice (some ⟨gg, 0, none⟩) n cap, .int .i64 lv] 65)) (Nat.le_refl _)))
    obtain ⟨rg, erg⟩ : ∃ rg, rgN g.n (g.len 0) g.flat lv n = rg := ⟨_, rfl⟩
    have ERG := Lib.hid erg
    rw [erg] at HY HNO hrl
    clear hrv hb1 erg
    go_wp2_with fail
    refine HL.out.mono ?_
    rintro e w3 ⟨q, rfl, ⟨a, c, rfl⟩, ho, hb3⟩
    rw [ERG.out]
    have HB3 := Lib.hid (HB1.out.trans (hb3.mono HB1.out.size))
    obtain ⟨ao, cp, b, off, e1, i2, i3, i4, i5, i6⟩ := ho.rd
    simp only [Value.slice.injEq] at e1
    obtain ⟨rfl, _, rfl⟩ := e1
    have H5 := Lib.hid i5
    have H6 := Lib.hid i6
    clear hb3 ho HL i4 i5 i6
    by_cases hs : s < 0
    · have HA := Lib.hid (HNO.out (fun k => by have := k.2.1; omega))
      go_wp2
      go_ret
      exact ⟨ret_int HA.out.symm, HB3.out⟩
    · by_cases hz : s < rg
      · have HA := Lib.hid (HY.out (by omega) hz)
        have hz' : ¬ (rg : Int) ≤ s := by omega
        go_wp2
        go_loop [11, 36] (fun o i => ∃ k : Nat, k ≤ n ∧ i = .int .i64 k ∧ o = .int .i64 (cntZ (numZ g.n (g.len 0) g.flat lv) s k)) (fun _ i => n - (intOf i).toNat)
        case atStart => exact ⟨0, Nat.zero_le _, rfl, rfl⟩
        case round =>
          obtain ⟨k, hk, rfl, rfl⟩ := hrel
          have hle := cntZ_le (numZ g.n (g.len 0) g.flat lv) s k
          by_cases hlt : k < n
          · have hlt' : (k : Int) < n := by omega
            obtain ⟨rfl, _, _⟩ := H5.out (by omega)
            have c1 := H6.out k hlt
            by_cases hzz : numZ g.n (g.len 0) g.flat lv k = s
            · have HT := Lib.hid (cntZ_yes hzz)
              rw [hzz] at c1
              have hx : (s == s) = true := by simp
              generalize cntZ (numZ g.n (g.len 0) g.flat lv) s k = q at hle HT ⊢
              go_wp2
              go_round
              case rel => exact ⟨k + 1, by omega, by go_num, by rw [HT.out]; go_num⟩
              case measure => simp [intOf]; omega
            · have HT := Lib.hid (cntZ_no hzz)
              obtain ⟨zz, ezz⟩ : ∃ zz, numZ g.n (g.len 0) g.flat lv k = zz := ⟨_, rfl⟩
              rw [ezz] at c1 hzz
              have hx : (zz == s) = false := by rw [beq_eq_false_iff_ne]; exact hzz
              generalize cntZ (numZ g.n (g.len 0) g.flat lv) s k = q at hle HT ⊢
              clear ezz
              go_wp2
              go_round
              case rel => exact ⟨k + 1, by omega, by go_num, by rw [HT.out]⟩
              case measure => simp [intOf]; omega
          · have ek : k = n := by omega
            have HA2 := Lib.hid (show ((cntZ (numZ g.n (g.len 0) g.flat lv) s k : Nat) : Int) = g.arV lv s by rw [HA.out, ek])
            rw [HA2.out]
            have hge : ¬ (k : Int) < n := by omega
            go_wp2
            go_ret
            exact ⟨rfl, HB3.out⟩
      · have HA := Lib.hid (HNO.out (fun k => by omega))
        have hz' : (rg : Int) ≤ s := by omega
        go_wp2
        go_ret
        exact ⟨ret_int HA.out.symm, HB3.out⟩

end Go.Proofs.Ytcfeckpbjdipeaa
