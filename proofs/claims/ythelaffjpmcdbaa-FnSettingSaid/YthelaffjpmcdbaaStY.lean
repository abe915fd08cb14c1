/- SettingBest of the program. -/
import Derived.Test.YthelaffjpmcdbaaStW
import Derived.Test.YthelaffjpmcdbaaStX
namespace Go.Proofs.Ythelaffjpmcdbaa
open Go.RowKit
set_option linter.unusedVariables false

theorem owI_congr {lo hi : Nat} {w : World} {v : Value} {n : Nat} {Z Z' : Nat → Int} (h : OwI lo hi w v n Z) (e : ∀ i, i < n → Z i = Z' i) : OwI lo hi w v n Z' := by
  rcases h with ⟨rfl, rfl⟩ | ⟨b, N, cap, F, rfl, h1, h2, h3, h4, h5, h6, h7, h8⟩
  · exact Or.inl ⟨rfl, rfl⟩
  · exact Or.inr ⟨b, N, cap, F, rfl, h1, h2, h3, h4, h5, h6, fun i hi => by rw [← e i hi]; exact h7 i hi, fun i hi => by rw [← e i hi]; exact h8 i hi⟩
theorem owI_mono {lo hi lo' hi' : Nat} {w : World} {v : Value} {n : Nat} {Z : Nat → Int} (h : OwI lo hi w v n Z) (h1 : lo' ≤ lo) (h2 : hi ≤ hi') : OwI lo' hi' w v n Z := by
  rcases h with h | ⟨b, N, cap, F, k0, k1, k2, k3⟩
  · exact Or.inl h
  · exact Or.inr ⟨b, N, cap, F, k0, by omega, by omega, k3⟩

set_option maxHeartbeats 2000000 in
set_option maxRecDepth 20000 in
theorem cloneS_nil (w : World) : Calls Try.prog 59 #[.slice none 0 0] w (fun e w' => e = .returned (.slice none 0 0) ∧ w = w') := by
  have he : ∀ W : World, (binOp .eql 26 (.slice none 0 0) (.slice none 0 0)).run Try.prog W = .ok (.bool true) W := fun _ => rfl
  go_enter Try.func59, Try.ntmps59
  go_wp2
  go_ret
  exact ⟨rfl, rfl⟩

set_option maxHeartbeats 2000000 in
set_option maxRecDepth 20000 in
theorem cloneS_any (v : Value) (lo hi n : Nat) (Z : Nat → Int) (w : World) (hv : RdI lo hi w v n Z) (h0 : 0 < n) (hn : n ≤ 100) (hh : hi ≤ w.heap.size) :
    Calls Try.prog 59 #[v] w (LgPost1 n Z w) := by
  obtain ⟨i0, hi0, hz0, hz1, hz2⟩ := info_parts Try.infoI
  have hr := hv.range
  obtain ⟨b, off, cap, rfl, hcap, _, hbh, hc⟩ := hv.open h0
  have HOK := Lib.hid (show NsOk (fnL Z n) from fnL_ok hr)
  have HB0 := Lib.hid ((Below.refl w.heap.size w).alloc (Nat.le_refl _) (.cells #[] 3))
  have HL0 := Lib.hid (nums_lit w)
  have HC := Lib.hid (fun j (hj : j < n) => (HB0.out.cell (p := ⟨b, off + j, none⟩) (by show b < _; omega)).trans (hc j hj))
  have he : ∀ W : World, (binOp .eql 26 (.slice (some ⟨b, off, none⟩) n cap) (.slice none 0 0)).run Try.prog W = .ok (.bool false) W := fun _ => rfl
  clear hc hv hr
  go_enter Try.func59, Try.ntmps59
  go_wp2_with (first | (at_builtin; refine wpList_append_own _ rfl _ _ 26 rfl w.heap.size 3 i0 (.int .i64 0) 1 8 Try.underlying26 hi0 hz0 hz1 hz2 rfl (by decide) _ 0 (nsV []) rfl HL0.out ⟨b, off, none⟩ n cap (nsV (fnL Z n)) rfl (by rw [sz_len]; omega) (sz_news HC.out) (by simp [nsV, Value.oneCell']) (by unfold maxLen; omega) (by omega) (by simp) ?_; intro v' w4 hown4 hg4 _; have HO4 := Lib.hid hown4; have HG4 := Lib.hid hg4; clear hown4 hg4))
  have HB4 := Lib.hid (HB0.out.grown HG4.out (by simp) (fun k hk => (HL0.out.lt k hk).1))
  have hnum : Nums w.heap.size w4 v' (fnL Z n) := by
    have h := HO4.out
    unfold Nums
    rw [fnL_len]
    simpa [nsV] using h
  have HL4 := Lib.hid (hnum.owI HOK.out)
  obtain ⟨a, c, e⟩ := hnum.shape
  clear hnum
  go_wp2
  go_ret
  have HL5 := HL4.out
  rw [fnL_len] at HL5
  exact ⟨v', rfl, ⟨_, _, _, e⟩, owI_congr HL5 (fun i hi => fnL_z Z n i hi), HB4.out⟩

theorem callFunc_best : ∀ (args : Array Value) (W : World), Sem.run Try.prog (callFunc 58 args) W = .ok (.enter 58 args) W := fun _ _ => by kernel_rfl

/-- the best so far: its weight in a box, itself in another one -/
def Cb (C D lo n : Nat) (Z : Nat → Int) (w0 : World) (B S : Nat) (done : List (Nat → Int)) (w : World) : Prop :=
  (∃ vb, w.heap[C]? = some (.cells #[.int .i64 (fbF (fun sd => wtK Z sd n) (-1, fun _ => -1) done).1] 3 (0, 0)) ∧ w.heap[D]? = some (.cells #[vb] 26 (0, 0)) ∧
    (∃ a l c, vb = .slice a l c) ∧ ((n = 0 ∧ vb = .slice none 0 0) ∨ (0 < n ∧ (done ≠ [] → OwI lo w.heap.size w vb n (fbF (fun sd => wtK Z sd n) (-1, fun _ => -1) done).2)))) ∧
  (C ≠ B ∧ C ≠ S ∧ D ≠ B ∧ D ≠ S ∧ C ≠ D) ∧ Below w0.heap.size w0 w ∧ (w0.heap.size ≤ B ∧ w0.heap.size ≤ S ∧ w0.heap.size ≤ C ∧ w0.heap.size ≤ D) ∧ (C < lo ∧ D < lo ∧ B < lo ∧ (0 < n → S < lo)) ∧ lo ≤ w.heap.size
theorem Cb.oth {C D lo n : Nat} {Z : Nat → Int} {w0 : World} {B S : Nat} {done : List (Nat → Int)} {W W' : World} (h : Cb C D lo n Z w0 B S done W) (ho : Oth B S W W') : Cb C D lo n Z w0 B S done W' := by
  obtain ⟨⟨vb, h1, h2, h3, h4⟩, h5, h6, h7, h8, h9⟩ := h
  refine ⟨⟨vb, (ho.block C (lt_of_block h1) h5.1 h5.2.1).trans h1, (ho.block D (lt_of_block h2) h5.2.2.1 h5.2.2.2.1).trans h2, h3, ?_⟩, h5, h6.trans (ho.below h7.1 h7.2.1 h6.size), h7, h8, Nat.le_trans h9 ho.size⟩
  rcases h4 with h4 | ⟨h4, h4'⟩
  · exact Or.inl h4
  · exact Or.inr ⟨h4, fun hd => owI_mono ((h4' hd).same (ho.sameIn (Or.inr h8.2.2.1) (Or.inr (h8.2.2.2 h4)) (Nat.le_refl _))) (Nat.le_refl _) ho.size⟩

theorem wt_nonneg {n : Nat} {Z sd : Nat → Int} (h : LsOk n Z) : -1 < wtK Z sd n := by have := (wtK_range (sd := sd) h n (Nat.le_refl _)).1; omega

theorem owI_setCell {lo hi b : Nat} {w : World} {v : Value} {n : Nat} {Z : Nat → Int} {o : Nat} {u : Value} (h : OwI lo hi w v n Z) (hb : b < lo) : OwI lo hi (w.setCell ⟨b, o, none⟩ u) v n Z :=
  h.same (fun k h1 _ => Below.heap_setCell _ _ _ _ (by show k ≠ b; omega))

theorem best_end {C D lo B S n hi : Nat} {Z : Nat → Int} {lv sv : Value} {w0 : World} {done : List (Nat → Int)} {sd M : Nat → Int} {w : World} {m y : Int} {vb : Value} (a : Option Addr) (l c : Nat) (hst : St B S n hi Z lv sv sd M w) (hhi : hi ≤ w0.heap.size)
    (k1 : w.heap[C]? = some (.cells #[.int .i64 m] 3 (0, 0))) (k2 : w.heap[D]? = some (.cells #[vb] 26 (0, 0))) (h5 : C ≠ B ∧ C ≠ S ∧ D ≠ B ∧ D ≠ S ∧ C ≠ D) (h6 : Below w0.heap.size w0 w) (h7 : w0.heap.size ≤ B ∧ w0.heap.size ≤ S ∧ w0.heap.size ≤ C ∧ w0.heap.size ≤ D) (h8 : C < lo ∧ D < lo ∧ B < lo ∧ (0 < n → S < lo)) (h9 : lo ≤ w.heap.size)
    (hv : (n = 0 ∧ (.slice a l c : Value) = .slice none 0 0) ∨ (0 < n ∧ OwI lo w.heap.size w (.slice a l c) n sd)) (hfb : fbF (fun sd => wtK Z sd n) (-1, fun _ => -1) (done ++ [sd]) = (y, sd)) :
    EachPost B S n hi Z lv sv sd M (Cb C D lo n Z w0 B S) (done ++ [sd]) (.returned (.tuple #[])) ((w.setCell ⟨D, 0, none⟩ (.slice a l c)).setCell ⟨C, 0, none⟩ (.int .i64 y)) := by
  have hb := hst.hiB
  have hs := hst.hiS
  have e1 : ((w.setCell ⟨D, 0, none⟩ (.slice a l c)).setCell ⟨C, 0, none⟩ (.int .i64 y)).heap.size = w.heap.size := by rw [setCell_size, setCell_size]
  have hD := heap_setCell_same w D 0 _ _ (.slice a l c) k2
  have hC : (w.setCell ⟨D, 0, none⟩ (.slice a l c)).heap[C]? = some (.cells #[.int .i64 m] 3 (0, 0)) := (Below.heap_setCell _ _ _ _ (show C ≠ D from h5.2.2.2.2)).trans k1
  have hC2 := heap_setCell_same _ C 0 _ _ (.int .i64 y) hC
  have hD2 : ((w.setCell ⟨D, 0, none⟩ (.slice a l c)).setCell ⟨C, 0, none⟩ (.int .i64 y)).heap[D]? = _ := (Below.heap_setCell _ _ _ _ (show D ≠ C from fun h => h5.2.2.2.2 h.symm)).trans hD
  have far : ∀ q, q ≠ C → q ≠ D → ((w.setCell ⟨D, 0, none⟩ (.slice a l c)).setCell ⟨C, 0, none⟩ (.int .i64 y)).heap[q]? = w.heap[q]? := fun q q1 q2 => (Below.heap_setCell _ _ _ _ q1).trans (Below.heap_setCell _ _ _ _ q2)
  refine ⟨rfl, hst.same (fun k _ k2 => far k (by omega) (by omega)) (far S (fun h => h5.2.1 h.symm) (fun h => h5.2.2.2.1 h.symm)) (far B (fun h => h5.1 h.symm) (fun h => h5.2.2.1 h.symm)), ⟨.slice a l c, by rw [hfb]; simpa using hC2, by simpa using hD2, ⟨_, _, _, rfl⟩, ?_⟩, h5, (h6.setCell (p := ⟨D, 0, none⟩) h7.2.2.2 _).setCell (p := ⟨C, 0, none⟩) h7.2.2.1 _, h7, h8, by rw [e1]; exact h9⟩
  rcases hv with h | ⟨h, h'⟩
  · exact Or.inl h
  · refine Or.inr ⟨h, fun _ => ?_⟩
    rw [hfb, e1]
    exact owI_setCell (owI_setCell h' h8.2.1) h8.1

set_option maxRecDepth 20000 in
set_option maxHeartbeats 16000000 in
theorem best1_any (C D lo B S n hi : Nat) (Z : Nat → Int) (lv sv : Value) (w0 : World) (hok : LsOk n Z) (done : List (Nat → Int)) (sd M : Nat → Int) (w : World) (hst : St B S n hi Z lv sv sd M w) (hsv : n = 0 → sv = .slice none 0 0) (hhi : hi ≤ w0.heap.size) (hj : Cb C D lo n Z w0 B S done w) :
    Calls Try.prog 58 #[.pointer (some ⟨B, 0, none⟩), .pointer (some ⟨C, 0, none⟩), .pointer (some ⟨D, 0, none⟩)] w (fun e w' => EachPost B S n hi Z lv sv sd M (Cb C D lo n Z w0 B S) (done ++ [sd]) e w') := by
  obtain ⟨⟨vb, h1, h2, ⟨ba, bl, bc, rfl⟩, h4⟩, h5, h6, h7, h8, h9⟩ := hj
  have hn6 := hok.1
  obtain ⟨m, em⟩ : ∃ m, (fbF (fun sd => wtK Z sd n) (-1, fun _ => -1) done).1 = m := ⟨_, rfl⟩
  obtain ⟨y, ey⟩ : ∃ y, wtK Z sd n = y := ⟨_, rfl⟩
  have hfb : fbF (fun sd => wtK Z sd n) (-1, fun _ => -1) (done ++ [sd]) = if m < y then (y, sd) else fbF (fun sd => wtK Z sd n) (-1, fun _ => -1) done := by
    rw [fbF_app, fbF_one, em, ey]
  have hy : -1 < y := by rw [← ey]; exact wt_nonneg hok
  have hdn : done = [] → m = -1 := fun h => by rw [← em, h]; rfl
  have HWT := Lib.hid (weight_any B S n hi Z lv sv sd M w hst hok)
  rw [em] at h1
  rw [ey] at HWT
  have HST := Lib.hid hst
  have HFB := Lib.hid hfb
  have H4 := Lib.hid h4
  have H56 := Lib.hid h6
  have H1 := Lib.hid h1
  have H2 := Lib.hid h2
  clear hst hfb h4 h6
  go_enter Try.func58, Try.ntmps58
  go_wp2_with fail
  refine HWT.out.mono ?_
  rintro e w1 ⟨rfl, hb1⟩
  have HS1 := Lib.hid (HST.out.below hb1)
  have k1 := (hb1.block C (lt_of_block h1)).trans h1
  have k2 := (hb1.block D (lt_of_block h2)).trans h2
  have HB1 := Lib.hid hb1
  have hsz1 := hb1.size
  have c0 : w1.cell? ⟨C, 0, none⟩ = some (.int .i64 m) := by simp [World.cell?, k1]
  have K1 := Lib.hid k1
  have K2 := Lib.hid k2
  clear h1 h2 hb1 k1 k2
  by_cases hlt : m < y
  case neg =>
    have HF := Lib.hid (show fbF (fun sd => wtK Z sd n) (-1, fun _ => -1) (done ++ [sd]) = fbF (fun sd => wtK Z sd n) (-1, fun _ => -1) done by rw [HFB.out, if_neg hlt])
    have hne : done ≠ [] := fun h => by have := hdn h; omega
    go_wp2
    first | go_end0 | refine bodyPost_ret (results_none rfl _ _ _) rfl ?_
    refine ⟨rfl, HS1.out, ⟨_, by rw [HF.out, em]; exact K1.out, K2.out, ⟨_, _, _, rfl⟩, ?_⟩, h5, H56.out.trans (HB1.out.mono H56.out.size), h7, h8, by omega⟩
    rcases H4.out with h | ⟨h, h'⟩
    · exact Or.inl h
    · refine Or.inr ⟨h, fun _ => ?_⟩
      rw [HF.out]
      exact owI_mono ((h' hne).same (SameIn.below HB1.out (Nat.le_refl _))) (Nat.le_refl _) hsz1
  have HF := Lib.hid (show fbF (fun sd => wtK Z sd n) (-1, fun _ => -1) (done ++ [sd]) = (y, sd) by rw [HFB.out, if_pos hlt])
  have d0 := HS1.out.sides_cell
  by_cases hn0 : n = 0
  · have hsv0 := hsv hn0
    subst hsv0
    have c1 : w1.cell? ⟨D, 0, none⟩ = some (.slice ba bl bc) := by have := K2.out; simp [World.cell?, this]
    have f0 : w1.frozen? ⟨C, 0, none⟩ = false := by have := K1.out; simp [World.frozen?, this]
    have f1 : w1.frozen? ⟨D, 0, none⟩ = false := by have := K2.out; simp [World.frozen?, this]
    have g1 : (w1.setCell ⟨D, 0, none⟩ (.slice none 0 0)).cell? ⟨C, 0, none⟩ = some (.int .i64 m) := (World.cell?_setCell_other _ _ _ _ (by intro h; exact h5.2.2.2.2 (congrArg Addr.block h).symm)).trans c0
    go_wp2_with fail
    refine (cloneS_nil _).mono ?_
    rintro e w2 ⟨rfl, rfl⟩
    go_wp2
    first | go_end0 | refine bodyPost_ret (results_none rfl _ _ _) rfl ?_
    exact best_end none 0 0 HS1.out hhi K1.out K2.out h5 (H56.out.trans (HB1.out.mono H56.out.size)) h7 h8 (by omega) (Or.inl ⟨hn0, rfl⟩) HF.out
  have hn1 : 0 < n := by omega
  have HCL := Lib.hid (cloneS_any sv S (S + 1) n sd w1 HS1.out.sides.rd hn1 (by omega) (by
    have := HS1.out
    obtain ⟨_, _, _, hsd, _⟩ := this.side_open hn1
    have := World.block_lt_of_cell? _ _ (hsd 0 hn1)
    show S < _
    exact this))
  obtain ⟨sa, sc, hse⟩ := HS1.out.sides.rd.shape
  subst hse
  go_wp2_with fail
  refine HCL.out.mono ?_
  rintro e w2 ⟨v', rfl, ⟨va, vl, vc, rfl⟩, how, hb2⟩
  have HOW := Lib.hid how
  have HS2 := Lib.hid (HS1.out.below hb2)
  have k1 := (hb2.block C (lt_of_block K1.out)).trans K1.out
  have k2 := (hb2.block D (lt_of_block K2.out)).trans K2.out
  have K12 := Lib.hid k1
  have K22 := Lib.hid k2
  have c1 : w2.cell? ⟨D, 0, none⟩ = some (.slice ba bl bc) := by simp [World.cell?, k2]
  have f0 : w2.frozen? ⟨C, 0, none⟩ = false := by simp [World.frozen?, k1]
  have f1 : w2.frozen? ⟨D, 0, none⟩ = false := by simp [World.frozen?, k2]
  have c2 : w2.cell? ⟨C, 0, none⟩ = some (.int .i64 m) := by simp [World.cell?, k1]
  have g1 : (w2.setCell ⟨D, 0, none⟩ (.slice va vl vc)).cell? ⟨C, 0, none⟩ = some (.int .i64 m) := (World.cell?_setCell_other _ _ _ _ (by intro h; exact h5.2.2.2.2 (congrArg Addr.block h).symm)).trans c2
  have HB2 := Lib.hid (H56.out.trans ((HB1.out.mono H56.out.size).trans (hb2.mono (by have := H56.out.size; omega))))
  have hsz2 := hb2.size
  clear how hb2 k1 k2 c0
  go_wp2
  first | go_end0 | refine bodyPost_ret (results_none rfl _ _ _) rfl ?_
  exact best_end va vl vc HS2.out hhi K12.out K22.out h5 HB2.out h7 h8 (by omega) (Or.inr ⟨hn1, owI_mono HOW.out (by omega) (Nat.le_refl _)⟩) HF.out


end Go.Proofs.Ythelaffjpmcdbaa
