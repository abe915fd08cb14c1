/- Two grids mended along their common side: the program. -/
import Derived.Test.YtjllmidagcniaaaMdM
import Derived.Test.YtjllmidagcniaaaGpJ
namespace Go.Proofs.Ytjllmidagcniaaa
open Go.RowKit
set_option linter.unusedVariables false

/-- two rows of heights, mended below row k, and the two boxes that hold the reliefs -/
structure MdI (a b : G) (B P n1 g1 c1 n2 g2 c2 : Nat) (k : Nat) (w W : World) : Prop where
  r1 : ∃ N F, Rr W a.n (a.len 0) n1 g1 c1 (mdA a b k).flat N F
  r2 : ∃ N F, Rr W b.n (b.len 0) n2 g2 c2 (mdB a b k).flat N F
  b1 : W.heap[P]? = some (.cells #[.int .i64 a.n, .int .i64 (a.len 0), .slice (some ⟨g1, 0, none⟩) n1 c1] 58 (0, 0))
  b2 : W.heap[P + 1]? = some (.cells #[.int .i64 b.n, .int .i64 (b.len 0), .slice (some ⟨g2, 0, none⟩) n2 c2] 58 (0, 0))
  below : Below B w W
  far : ∀ k, k < w.heap.size → k ≠ g1 → k ≠ g2 → W.heap[k]? = w.heap[k]?
theorem MdI.keep {a b : G} {B P n1 g1 c1 n2 g2 c2 k : Nat} {w W W' : World} (h : MdI a b B P n1 g1 c1 n2 g2 c2 k w W) (hb : Below W.heap.size W W') (hB : B ≤ W.heap.size) : MdI a b B P n1 g1 c1 n2 g2 c2 k w W' := by
  obtain ⟨⟨N, F, h1⟩, ⟨M, E, h2⟩, h3, h4, h5, h6⟩ := h
  exact ⟨⟨N, F, h1.below hb (Nat.le_refl _)⟩, ⟨M, E, h2.below hb (Nat.le_refl _)⟩, (hb.block P (lt_of_block h3)).trans h3, (hb.block _ (lt_of_block h4)).trans h4, h5.trans (hb.mono hB), fun k hk q1 q2 => (hb.block k (by have := h5.size; omega)).trans (h6 k hk q1 q2)⟩
theorem Rr.set {W : World} {R C n g c : Nat} {Z : Nat → Int} {N : Nat} {F : Nat → Value} (h : Rr W R C n g c Z N F) (i : Nat) (x : Int) : Rr (W.setCell ⟨g, i, none⟩ (.int .i64 x)) R C n g c (fun j => if j = i then x else Z j) N (fun j => if j = i then .int .i64 x else F j) :=
  ⟨h.n_eq, h.le, h.row.set i _, h.leN, fun j hj => by
    by_cases e : j = i
    · simp [e]
    · simp [e, h.val j hj]⟩
theorem Rr.other {W : World} {R C n g c : Nat} {Z : Nat → Int} {N : Nat} {F : Nat → Value} (h : Rr W R C n g c Z N F) {p : Addr} (hp : g ≠ p.block) (x : Value) : Rr (W.setCell p x) R C n g c Z N F :=
  ⟨h.n_eq, h.le, h.row.setOther hp x, h.leN, h.val⟩
theorem Rr.congr {W : World} {R C n g c : Nat} {Z Z' : Nat → Int} {N : Nat} {F : Nat → Value} (h : Rr W R C n g c Z N F) (e : ∀ i, i < n → Z i = Z' i) : Rr W R C n g c Z' N F :=
  ⟨h.n_eq, h.le, h.row, h.leN, fun i hi => by rw [h.val i hi, e i hi]⟩
theorem MdI.step {a b : G} {B P n1 g1 c1 n2 g2 c2 k m1 m2 : Nat} {w W : World} {M : Int} (h : MdI a b B P n1 g1 c1 n2 g2 c2 k w W) (hB1 : B ≤ g1) (hB2 : B ≤ g2) (hne : g1 ≠ g2) (q1 : g1 ≠ P ∧ g1 ≠ P + 1) (q2 : g2 ≠ P ∧ g2 ≠ P + 1) (hl1 : 1 ≤ a.len 0) (hl2 : 1 ≤ b.len 0)
    (e1 : k * a.len 0 + (a.len 0 - 1) = m1) (e2 : k * b.len 0 = m2) (eM : midV a b k = M) : MdI a b B P n1 g1 c1 n2 g2 c2 (k + 1) w ((W.setCell ⟨g1, m1, none⟩ (.int .i64 M)).setCell ⟨g2, m2, none⟩ (.int .i64 M)) := by
  obtain ⟨⟨N, F, h1⟩, ⟨O, E, h2⟩, h3, h4, h5, h6⟩ := h
  subst e1 e2 eM
  refine ⟨⟨_, _, ((h1.set _ _).other (p := ⟨g2, _, none⟩) hne _).congr fun i _ => (mdA_flat hl1).symm⟩, ⟨_, _, ((h2.other (p := ⟨g1, _, none⟩) hne.symm _).set _ _).congr fun i _ => (mdB_flat hl2).symm⟩, ?_, ?_, (h5.setCell (p := ⟨g1, _, none⟩) hB1 _).setCell (p := ⟨g2, _, none⟩) hB2 _, fun k hk x1 x2 => by rw [Below.heap_setCell _ _ _ _ x2, Below.heap_setCell _ _ _ _ x1, h6 k hk x1 x2]⟩
  · rw [Below.heap_setCell _ _ _ _ q2.1.symm, Below.heap_setCell _ _ _ _ q1.1.symm, h3]
  · rw [Below.heap_setCell _ _ _ _ q2.2.symm, Below.heap_setCell _ _ _ _ q1.2.symm, h4]
theorem MdI.drewN {a b : G} {B P n1 g1 c1 n2 g2 c2 k : Nat} {w W : World} (h : MdI a b B P n1 g1 c1 n2 g2 c2 k w W) (n : Nat) : MdI a b B P n1 g1 c1 n2 g2 c2 k w (W.drewN n) := by
  obtain ⟨⟨N, F, h1⟩, ⟨O, E, h2⟩, h3, h4, h5, h6⟩ := h
  exact ⟨⟨N, F, h1.below (below_drewN (Below.refl _ _) n) (Nat.le_refl _)⟩, ⟨O, E, h2.below (below_drewN (Below.refl _ _) n) (Nat.le_refl _)⟩, h3, h4, below_drewN h5 n, h6⟩

theorem md_size (W : World) (p q : Addr) (x y : Value) (n : Nat) : (((W.drewN n).setCell p x).setCell q y).heap.size = W.heap.size := by
  simp [World.setCell]

def MendPost (a b : G) (B n1 g1 c1 n2 g2 c2 : Nat) (w : World) (e : Ending) (w' : World) : Prop :=
  e = .returned (.tuple #[]) ∧ w.heap.size + 2 ≤ w'.heap.size ∧ MdI a b B w.heap.size n1 g1 c1 n2 g2 c2 a.n w w'

set_option maxHeartbeats 8000000 in
set_option maxRecDepth 20000 in
theorem mend_any (a b : G) (B n1 g1 c1 N1 n2 g2 c2 N2 : Nat) (F1 F2 : Nat → Value) (w : World) (hok : RwOk a b) (h1 : Rr w a.n (a.len 0) n1 g1 c1 a.flat N1 F1) (h2 : Rr w b.n (b.len 0) n2 g2 c2 b.flat N2 F2) (hB1 : B ≤ g1) (hB2 : B ≤ g2) (hne : g1 ≠ g2) :
    Calls Try.prog 55 #[.agg #[.int .i64 a.n, .int .i64 (a.len 0), .slice (some ⟨g1, 0, none⟩) n1 c1], .agg #[.int .i64 b.n, .int .i64 (b.len 0), .slice (some ⟨g2, 0, none⟩) n2 c2]] w (MendPost a b B n1 g1 c1 n2 g2 c2 w) := by
  obtain ⟨W0, hW0⟩ : ∃ W0, W0 = (w.alloc (.cells #[.int .i64 a.n, .int .i64 (a.len 0), .slice (some ⟨g1, 0, none⟩) n1 c1] 58)).alloc (.cells #[.int .i64 b.n, .int .i64 (b.len 0), .slice (some ⟨g2, 0, none⟩) n2 c2] 58) := ⟨_, rfl⟩
  have hs0 : W0.heap.size = w.heap.size + 2 := by rw [hW0]; simp
  have hb0 : Below w.heap.size w W0 := by rw [hW0]; exact ((Below.refl _ _).alloc (Nat.le_refl _) _).alloc (by simp) _
  have e3 : W0.heap[w.heap.size]? = some (.cells #[.int .i64 a.n, .int .i64 (a.len 0), .slice (some ⟨g1, 0, none⟩) n1 c1] 58 (0, 0)) := by rw [hW0]; exact heap_alloc2_old _ _ _
  have e4 : W0.heap[w.heap.size + 1]? = some (.cells #[.int .i64 b.n, .int .i64 (b.len 0), .slice (some ⟨g2, 0, none⟩) n2 c2] 58 (0, 0)) := by rw [hW0]; exact heap_alloc2_new _ _ _
  obtain ⟨a0, _, _, _, _, _⟩ := cells3 e3
  have hg1 := h1.row.lt
  have hg2 := h2.row.lt
  have HI := Lib.hid (show MdI a b B w.heap.size n1 g1 c1 n2 g2 c2 0 w W0 from ⟨⟨N1, F1, by rw [mdA_zero]; exact h1.below hb0 (Nat.le_refl _)⟩, ⟨N2, F2, by rw [mdB_zero]; exact h2.below hb0 (Nat.le_refl _)⟩, e3, e4, hb0.mono (by omega), fun k hk _ _ => hb0.block k hk⟩)
  have HW0 := Lib.hid hW0
  have HH := Lib.hid hok
  have hn7 := hok.1.1.2
  rw [hW0] at a0
  clear hb0 e3 e4 hW0 h1 h2 hok
  go_enter Try.func55, Try.ntmps55
  go_wp2
  rw [← HW0.out]
  clear a0 HW0
  go_loopw [10] (fun i wr => ∃ r : Nat, r ≤ a.n ∧ i = .int .i64 r ∧ MdI a b B w.heap.size n1 g1 c1 n2 g2 c2 r w wr ∧ w.heap.size + 2 ≤ wr.heap.size) (fun i _ => a.n - (intOf i).toNat)
  case atStart => exact ⟨0, Nat.zero_le _, rfl, HI.out, by omega⟩
  case round =>
    obtain ⟨r, hr, rfl, hmd, hsz⟩ := hrel
    by_cases hlt : r < a.n
    · have hltb : r < b.n := by have := HH.out.2.2; omega
      have hlt' : (r : Int) < a.n := by omega
      have HMD := Lib.hid hmd
      obtain ⟨q0, q1, q2, _, _, _⟩ := cells3 hmd.b1
      obtain ⟨q3, q4, q5, _, _, _⟩ := cells3 hmd.b2
      have hl1 := HH.out.1.2.1.1
      have hl7 := HH.out.1.2.1.2
      have hm1 := HH.out.2.1.2.1.1
      have hm7 := HH.out.2.1.2.1.2
      have s1 := (seam_at (C := a.len 0) hlt hl1).1
      have s2 := (seam_at (C := b.len 0) hltb hm1).2
      have t1 := mul_le_49 (R := a.n) (C := a.len 0) hn7 hl7
      have t2 := mul_le_49 (R := b.n) (C := b.len 0) (by have := HH.out.2.2; omega) hm7
      have HSM := Lib.hid (fun (m1 m2 : Nat) (e1 : r * a.len 0 + (a.len 0 - 1) = m1) (e2 : r * b.len 0 = m2) (W : World) => seam_any a.n (a.len 0) n1 g1 c1 b.n (b.len 0) n2 g2 c2 r m1 m2 W e1 e2 hl1 (by omega) (by omega))
      have y1 : r * a.len 0 + (a.len 0 - 1) < n1 := by obtain ⟨⟨_, _, hr1⟩, _⟩ := hmd; rw [hr1.n_eq]; exact s1
      have y2 : r * b.len 0 < n2 := by obtain ⟨_, ⟨_, _, hr2⟩, _⟩ := hmd; rw [hr2.n_eq]; exact s2
      have hn1 : n1 ≤ 49 := by obtain ⟨⟨_, _, hr1⟩, _⟩ := hmd; rw [hr1.n_eq]; exact t1
      have hn2 : n2 ≤ 49 := by obtain ⟨_, ⟨_, _, hr2⟩, _⟩ := hmd; rw [hr2.n_eq]; exact t2
      have f1 : (mdA a b r).flat (r * a.len 0 + (a.len 0 - 1)) = a.z r (a.len 0 - 1) := by
        have h := (mdA a b r).flat_at r (a.len 0 - 1) (show _ < a.len 0 by omega)
        refine h.trans ?_
        show (if r < r ∧ _ then _ else _) = _
        rw [if_neg (by omega)]
      have f2 : (mdB a b r).flat (r * b.len 0) = b.z r 0 := by
        have h := (mdB a b r).flat_at r 0 (show _ < b.len 0 by omega)
        rw [Nat.add_zero] at h
        refine h.trans ?_
        show (if r < r ∧ _ then _ else _) = _
        rw [if_neg (by omega)]
      have K1 := Lib.hid (fun (W : World) (hW : MdI a b B w.heap.size n1 g1 c1 n2 g2 c2 r w W) => (show W.cell? ⟨g1, r * a.len 0 + (a.len 0 - 1), none⟩ = some (.int .i64 (a.z r (a.len 0 - 1))) ∧ W.frozen? ⟨g1, r * a.len 0 + (a.len 0 - 1), none⟩ = false from by
        obtain ⟨⟨_, _, hr1⟩, _⟩ := hW
        exact ⟨by rw [hr1.cell y1, f1], hr1.row.frozen _⟩))
      have K2 := Lib.hid (fun (W : World) (hW : MdI a b B w.heap.size n1 g1 c1 n2 g2 c2 r w W) => (show W.cell? ⟨g2, r * b.len 0, none⟩ = some (.int .i64 (b.z r 0)) ∧ W.frozen? ⟨g2, r * b.len 0, none⟩ = false from by
        obtain ⟨_, ⟨_, _, hr2⟩, _⟩ := hW
        exact ⟨by rw [hr2.cell y2, f2], hr2.row.frozen _⟩))
      have hmr := mid_range HH.out hlt
      have hM : midV a b r = (a.z r (a.len 0 - 1) + b.z r 0) / 2 := rfl
      have za := (HH.out.1.2.2 r hlt).2 (a.len 0 - 1) (by have := (HH.out.1.2.2 r hlt).1; omega)
      have zb := (HH.out.2.1.2.2 r hltb).2 0 (by have := (HH.out.2.1.2.2 r hltb).1; omega)
      obtain ⟨A, hA⟩ : ∃ A, a.z r (a.len 0 - 1) = A := ⟨_, rfl⟩
      obtain ⟨C, hC⟩ : ∃ C, b.z r 0 = C := ⟨_, rfl⟩
      rw [hA] at K1 za hM
      rw [hC] at K2 zb hM
      rw [hM] at hmr
      have HM := Lib.hid hM
      obtain ⟨m1, em1⟩ : ∃ m1, r * a.len 0 + (a.len 0 - 1) = m1 := ⟨_, rfl⟩
      obtain ⟨m2, em2⟩ : ∃ m2, r * b.len 0 = m2 := ⟨_, rfl⟩
      have HSN := Lib.hid (HSM.out m1 m2 em1 em2)
      rw [em1] at K1 y1
      rw [em2] at K2 y2
      have HE1 := Lib.hid em1
      have HE2 := Lib.hid em2
      have y1' : (m1 : Int) < n1 := by omega
      have y2' : (m2 : Int) < n2 := by omega
      have z1' : (0 : Int) ≤ m1 := by omega
      have z2' : (0 : Int) ≤ m2 := by omega
      have hne2 : g2 ≠ g1 := fun e => hne e.symm
      have nb1 : g1 ≠ w.heap.size := by omega
      have nb2 : g1 ≠ w.heap.size + 1 := by omega
      have nb3 : g2 ≠ w.heap.size := by omega
      have nb4 : g2 ≠ w.heap.size + 1 := by omega
      have nb5 : w.heap.size ≠ g1 := by omega
      have nb6 : w.heap.size + 1 ≠ g1 := by omega
      have hS : IntKind.i64.wrap (A + C) = A + C := IntWalk.i64_in _ (by omega)
      have hS1 : IntKind.i64.wrap ((A + C) / 2) = (A + C) / 2 := IntWalk.i64_in _ (by omega)
      have hS2 : (A + C).tdiv 2 = (A + C) / 2 := Int.tdiv_eq_ediv_of_nonneg (by omega)
      clear HSM hA hC hM em1 em2 f1 f2 s1 s2 t1 t2 hmd
      go_wp2_with fail
      refine (HSN.out _).mono ?_
      rintro e w1 ⟨rfl, hb1⟩
      have HM1 := Lib.hid (HMD.out.keep hb1 (by omega))
      have hz1 := hb1.size
      obtain ⟨k1, k2⟩ := K1.out w1 HM1.out
      obtain ⟨l1, l2⟩ := K2.out w1 HM1.out
      obtain ⟨p0, p1, p2, _, _, _⟩ := cells3 HM1.out.b1
      obtain ⟨p3, p4, p5, _, _, _⟩ := cells3 HM1.out.b2
      clear hb1 q0 q1 q2 q3 q4 q5
      go_wp2_with fail
      go_quiet (fail)
      clear hS hS1 hS2
      go_wp2_with fail
      go_region
      all_goals clear k1 k2 l1 l2 p0 p1 p2 p3 p4 p5
      all_goals go_wp2
      all_goals go_roundw
      case rel => exact ⟨r + 1, by omega, by go_num, ((HM1.out.drewN _).step hB1 hB2 hne ⟨by omega, by omega⟩ ⟨by omega, by omega⟩ hl1 hm1 HE1.out HE2.out HM.out), by rw [md_size]; omega⟩
      case measure => simp [intOf]; omega
    · have e : r = a.n := by omega
      subst e
      have HMD := Lib.hid hmd
      have HSZ := Lib.hid hsz
      clear hmd
      go_wp2
      exact bodyPost_end (results_none rfl _ _ _) rfl ⟨rfl, HSZ.out, HMD.out⟩

set_option maxHeartbeats 4000000 in
set_option maxRecDepth 20000 in
theorem implGridsMend_any (v u : Value) (lo hi : Nat) (a b : G) (w : World) (hv : RdM lo hi w v a) (hu : RdM lo hi w u b) (hh : hi ≤ w.heap.size) :
    Calls Try.prog 15 #[v, u] w fun e w' => (RwOk a b → GPost2 true (mdA a b a.n) (mdB a b a.n) w e w') ∧ (¬ RwOk a b → GPost2 false G0 G0 w e w') := by
  have HC := Lib.hid (reliefsBeside_any v u lo hi a b w hv hu hh)
  clear hv hu
  go_enter Try.func15, Try.ntmps15
  go_wp2_with fail
  refine HC.out.mono ?_
  rintro e w1 ⟨X1, Y1, A1, n1, c1, X2, Y2, A2, n2, c2, rfl, hb1, hy⟩
  by_cases h : RwOk a b
  case neg =>
    have HF := Lib.hid (rwB_no h)
    have HNO := Lib.hid h
    have hB : Below w.heap.size w ((w1.alloc (.cells #[.int .i64 X1, .int .i64 Y1, .slice A1 n1 c1] 58)).alloc (.cells #[.int .i64 X2, .int .i64 Y2, .slice A2 n2 c2] 58)) := (hb1.alloc hb1.size _).alloc (by have := hb1.size; simp; omega) _
    have HB := Lib.hid hB
    have hz := hB.size
    have HZ := Lib.hid hz
    rw [HF.out]
    clear hy h hb1 hB hz
    go_wp2
    go_ret3
    exact ⟨fun h => absurd h HNO.out, fun _ => ⟨_, _, w.heap.size, rfl, ⟨_, _, _, rfl⟩, ⟨_, _, _, rfl⟩, Nat.le_refl _, HZ.out, OwM.none _ _ _, OwM.none _ _ _, HB.out⟩⟩
  case pos =>
    obtain ⟨g1, N1, F1, g2, N2, F2, ⟨rfl, rfl, rfl, e4, e5, e6, e7, e8, e9⟩, rfl, rfl, rfl, d4, d5, d6, d7, d8, d9⟩ := hy h
    have HF := Lib.hid (rwB_yes h)
    have hb2 : Below w1.heap.size w1 ((w1.alloc (.cells #[.int .i64 a.n, .int .i64 (a.len 0), .slice (some ⟨g1, 0, none⟩) n1 c1] 58)).alloc (.cells #[.int .i64 b.n, .int .i64 (b.len 0), .slice (some ⟨g2, 0, none⟩) n2 c2] 58)) := ((Below.refl _ _).alloc (Nat.le_refl _) _).alloc (by simp) _
    have hB := hb1.trans (hb2.mono hb1.size)
    have HB := Lib.hid hB
    have R1 : Rr w1 a.n (a.len 0) n1 g1 c1 a.flat N1 F1 := ⟨e4, e5, e7, e8, e9⟩
    have R2 : Rr w1 b.n (b.len 0) n2 g2 c2 b.flat N2 F2 := ⟨d4, d5, d7, d8, d9⟩
    have L1 := heap_alloc2_old w1 (.cells #[.int .i64 a.n, .int .i64 (a.len 0), .slice (some ⟨g1, 0, none⟩) n1 c1] 58) (.cells #[.int .i64 b.n, .int .i64 (b.len 0), .slice (some ⟨g2, 0, none⟩) n2 c2] 58)
    have L2 := heap_alloc2_new w1 (.cells #[.int .i64 a.n, .int .i64 (a.len 0), .slice (some ⟨g1, 0, none⟩) n1 c1] 58) (.cells #[.int .i64 b.n, .int .i64 (b.len 0), .slice (some ⟨g2, 0, none⟩) n2 c2] 58)
    obtain ⟨k0, k1, k2, _, _, _⟩ := cells3 L1
    obtain ⟨l0, l1, l2, _, _, _⟩ := cells3 L2
    have lt1 : g1 < w1.heap.size := e7.lt
    have lt2 : g2 < w1.heap.size := d7.lt
    have HMD := Lib.hid (mend_any a b w.heap.size n1 g1 c1 N1 n2 g2 c2 N2 F1 F2 _ h (R1.below hb2 (Nat.le_refl _)) (R2.below hb2 (Nat.le_refl _)) e6 (by omega) (by omega))
    have HH := Lib.hid h
    rw [HF.out]
    clear hy h hb1 hb2 R1 R2 e4 e5 e6 e7 e8 e9 d4 d5 d6 d7 d8 d9
    go_wp2_with fail
    refine HMD.out.mono ?_
    rintro e w2 ⟨rfl, hz2, hmd⟩
    have hz1 : ((w1.alloc (.cells #[.int .i64 a.n, .int .i64 (a.len 0), .slice (some ⟨g1, 0, none⟩) n1 c1] 58)).alloc (.cells #[.int .i64 b.n, .int .i64 (b.len 0), .slice (some ⟨g2, 0, none⟩) n2 c2] 58)).heap.size = w1.heap.size + 2 := by simp
    have M1 := (hmd.far w1.heap.size (by omega) (by omega) (by omega)).trans L1
    have M2 := (hmd.far (w1.heap.size + 1) (by omega) (by omega) (by omega)).trans L2
    have HX := Lib.hid (hB.trans (hmd.below.mono (Nat.le_refl _)))
    obtain ⟨⟨_, _, r1⟩, ⟨_, _, r2⟩, _⟩ := hmd
    have r1v := r1.rv
    have r2v := r2.rv
    have va := mdA_valid HH.out a.n
    have vb := mdB_valid HH.out a.n
    obtain ⟨p0, p1, p2, _, _, _⟩ := cells3 M1
    obtain ⟨q0, q1, q2, _, _, _⟩ := cells3 M2
    have hwz := HX.out.size
    have hm1z := lt_of_block M2
    have HL1 := Lib.hid (fun (W : World) (hW : Below w2.heap.size w2 W) => lists_any a.n (a.len 0) n1 g1 c1 (mdA a b a.n).flat W r1v.n_eq HH.out.1.1.2 HH.out.1.2.1.2 HH.out.1.2.1.1 (fun i hi => (r1v.keep hW (Nat.le_refl _)).cell i hi) (by have := hW.size; have := r1v.lt; omega) r1v.le (fun i hi => by
      have h := G.range_of va (i / a.len 0) (by show _ < a.n; rw [r1v.n_eq] at hi; exact (Nat.div_lt_iff_lt_mul HH.out.1.2.1.1).2 hi) (i % a.len 0) (by rw [(va.2.2 _ (by show _ < a.n; rw [r1v.n_eq] at hi; exact (Nat.div_lt_iff_lt_mul HH.out.1.2.1.1).2 hi)).1]; exact Nat.mod_lt _ HH.out.1.2.1.1)
      exact h))
    have HL2 := Lib.hid (fun (W : World) (hW : Below w2.heap.size w2 W) => lists_any b.n (b.len 0) n2 g2 c2 (mdB a b a.n).flat W r2v.n_eq HH.out.2.1.1.2 HH.out.2.1.2.1.2 HH.out.2.1.2.1.1 (fun i hi => (r2v.keep hW (Nat.le_refl _)).cell i hi) (by have := hW.size; have := r2v.lt; omega) r2v.le (fun i hi => by
      have h := G.range_of vb (i / b.len 0) (by show _ < b.n; rw [r2v.n_eq] at hi; exact (Nat.div_lt_iff_lt_mul HH.out.2.1.2.1.1).2 hi) (i % b.len 0) (by rw [(vb.2.2 _ (by show _ < b.n; rw [r2v.n_eq] at hi; exact (Nat.div_lt_iff_lt_mul HH.out.2.1.2.1.1).2 hi)).1]; exact Nat.mod_lt _ HH.out.2.1.2.1.1)
      exact h))
    have HE := Lib.hid (show (∀ W : World, Below w2.heap.size w2 W → W.cell? ⟨w1.heap.size, 0, none⟩ = some (.int .i64 a.n) ∧ W.cell? ⟨w1.heap.size, 1, none⟩ = some (.int .i64 (a.len 0)) ∧ W.cell? ⟨w1.heap.size, 2, none⟩ = some (.slice (some ⟨g1, 0, none⟩) n1 c1) ∧ W.cell? ⟨w1.heap.size + 1, 0, none⟩ = some (.int .i64 b.n) ∧ W.cell? ⟨w1.heap.size + 1, 1, none⟩ = some (.int .i64 (b.len 0)) ∧ W.cell? ⟨w1.heap.size + 1, 2, none⟩ = some (.slice (some ⟨g2, 0, none⟩) n2 c2)) from fun W hW => by
      obtain ⟨x0, x1, x2, _, _, _⟩ := cells3 (cells3_of M1 hW (by omega))
      obtain ⟨y0, y1, y2, _, _, _⟩ := cells3 (cells3_of M2 hW (by omega))
      exact ⟨x0, x1, x2, y0, y1, y2⟩)
    have EA : G.Eqv (gridOf a.n (a.len 0) (mdA a b a.n).flat) (mdA a b a.n) := ⟨rfl, fun r hr => ⟨(HH.out.1.2.2 r hr).1.symm, fun c hc => (mdA a b a.n).flat_at r c hc⟩⟩
    have EB : G.Eqv (gridOf b.n (b.len 0) (mdB a b a.n).flat) (mdB a b a.n) := ⟨rfl, fun r hr => ⟨(HH.out.2.1.2.2 r hr).1.symm, fun c hc => (mdB a b a.n).flat_at r c hc⟩⟩
    have HEA := Lib.hid EA
    have HEB := Lib.hid EB
    clear hz1 M1 M2 r1 r2 r1v r2v va vb k0 k1 k2 l0 l1 l2 hB EA EB
    go_wp2_with fail
    go_region_held3 (fun w' => w'.cell? ⟨w1.heap.size, 0, none⟩ = some (.int .i64 a.n) ∧ w'.cell? ⟨w1.heap.size, 1, none⟩ = some (.int .i64 (a.len 0)) ∧ w'.cell? ⟨w1.heap.size, 2, none⟩ = some (.slice (some ⟨g1, 0, none⟩) n1 c1) ∧ w'.cell? ⟨w1.heap.size + 1, 0, none⟩ = some (.int .i64 b.n) ∧ w'.cell? ⟨w1.heap.size + 1, 1, none⟩ = some (.int .i64 (b.len 0)) ∧ w'.cell? ⟨w1.heap.size + 1, 2, none⟩ = some (.slice (some ⟨g2, 0, none⟩) n2 c2))
      (first | exact s2.out | exact s1.out | go_keep)
      (first
        | (go_at_call 56; have hs1 := s1.out; (with_reducible refine (HL2.out _ Y1.out).mono ?_); rintro e w4 ⟨v4, rfl, hs4, ho4, hb4⟩; have Y2 := Lib.hid (Y1.out.trans (hb4.mono Y1.out.size)); have s2 := Lib.hid (HE.out w4 Y2.out); have O1' := Lib.hid (O1.out.same (SameIn.below hb4 (Nat.le_refl _))); have O2 := Lib.hid ho4; have S2 := Lib.hid hs4; have Z2 := Lib.hid hb4.size; clear hb4 hs1 ho4 hs4)
        | (go_at_call 56; (with_reducible refine (HL1.out w2.drew (Below.refl w2.heap.size w2).drew).mono ?_); rintro e w3 ⟨v3, rfl, hs3, ho3, hb3⟩; have Y1 := Lib.hid (show Below w2.heap.size w2 w3 from hb3.undrew); have s1 := Lib.hid (HE.out w3 Y1.out); have O1 := Lib.hid ho3; have S1 := Lib.hid hs3; have Z1 := Lib.hid hb3.size; clear hb3 ho3 hs3))
    have hmid : w.heap.size ≤ w2.heap.size := hwz
    have z1 := Z1.out
    have z2 := Z2.out
    have OA : Hid (OwM w.heap.size w3.heap.size w4 v3 (mdA a b a.n)) := Lib.hid ((O1'.out.mono (show w.heap.size ≤ w2.heap.size from hwz) (Nat.le_refl _)).congr HEA.out)
    have OB := Lib.hid (O2.out.congr HEB.out)
    have HBF := Lib.hid (HX.out.trans (Y2.out.mono hwz))
    have hza : w.heap.size ≤ w3.heap.size := by have := Y1.out.size; omega
    clear p0 p1 p2 q0 q1 q2
    go_wp2
    go_ret3
    exact ⟨fun _ => ⟨_, _, w3.heap.size, rfl, S1.out, S2.out, hza, z2, OA.out, OB.out, HBF.out⟩, fun h => absurd HH.out h⟩

end Go.Proofs.Ytjllmidagcniaaa
