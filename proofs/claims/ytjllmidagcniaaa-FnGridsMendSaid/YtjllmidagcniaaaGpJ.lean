/- The gap between two reliefs; the program's GridsGap and GridsAgree. -/
import Derived.Test.YtjllmidagcniaaaGpI
namespace Go.Proofs.Ytjllmidagcniaaa
open Go.RowKit
set_option linter.unusedVariables false

theorem apart_any (x y : Int) (w : World) (h1 : -1000000 ≤ x - y) (h2 : x - y ≤ 1000000) :
    Calls Try.prog 84 #[.int .i64 x, .int .i64 y] w fun e w' => e = .returned (.int .i64 (absI (x - y))) ∧ w' = w := by
  have h3 : -1000000 ≤ y - x := by omega
  have h4 : y - x ≤ 1000000 := by omega
  go_enter Try.func84, Try.ntmps84
  go_wp2
  go_ret
  exact ⟨ret_int (by unfold absI; omega), rfl⟩

/-- two numbers -/
def TwoPost (x y : Int) (w : World) (e : Ending) (w' : World) : Prop := e = .returned (.tuple #[.int .i64 x, .int .i64 y]) ∧ Below w.heap.size w w'

set_option maxHeartbeats 2000000 in
set_option maxRecDepth 20000 in
theorem seam_any (R C1 n1 g1 c1 R2 C2 n2 g2 c2 r m1 m2 : Nat) (w : World) (h1 : r * C1 + (C1 - 1) = m1) (h2 : r * C2 = m2) (hC : 1 ≤ C1) (hm1 : m1 ≤ 1000) (hm2 : m2 ≤ 1000) :
    Calls Try.prog 83 #[.agg #[.int .i64 R, .int .i64 C1, .slice (some ⟨g1, 0, none⟩) n1 c1], .agg #[.int .i64 R2, .int .i64 C2, .slice (some ⟨g2, 0, none⟩) n2 c2], .int .i64 r] w (TwoPost m1 m2 w) := by
  have hCm : C1 ≤ 1001 := by omega
  have k1 : (r : Int) * (C1 : Int) + ((C1 : Int) - 1) = (m1 : Int) := by rw [← h1]; simp; omega
  have k2 : (r : Int) * (C2 : Int) + 0 = (m2 : Int) := by rw [← h2]; simp
  have p1 : (0 : Int) ≤ (r : Int) * (C1 : Int) := by rw [← Int.natCast_mul]; omega
  have p2 : (0 : Int) ≤ (r : Int) * (C2 : Int) := by rw [← Int.natCast_mul]; omega
  have HI1 := Lib.hid (fun (W : World) => index_any R C1 n1 g1 c1 r ((C1 : Int) - 1) m1 W k1 p1 (by omega) (by omega))
  have HI2 := Lib.hid (fun (W : World) => index_any R2 C2 n2 g2 c2 r 0 m2 W k2 p2 (by omega) (by omega))
  obtain ⟨W0, hW0⟩ : ∃ W0, W0 = (w.alloc (.cells #[.int .i64 R, .int .i64 C1, .slice (some ⟨g1, 0, none⟩) n1 c1] 58)).alloc (.cells #[.int .i64 R2, .int .i64 C2, .slice (some ⟨g2, 0, none⟩) n2 c2] 58) := ⟨_, rfl⟩
  have hs0 : W0.heap.size = w.heap.size + 2 := by rw [hW0]; simp
  have hb0 : Below w.heap.size w W0 := by rw [hW0]; exact ((Below.refl _ _).alloc (Nat.le_refl _) _).alloc (by simp) _
  have e3 : W0.heap[w.heap.size]? = some (.cells #[.int .i64 R, .int .i64 C1, .slice (some ⟨g1, 0, none⟩) n1 c1] 58 (0, 0)) := by rw [hW0]; exact heap_alloc2_old _ _ _
  have e4 : W0.heap[w.heap.size + 1]? = some (.cells #[.int .i64 R2, .int .i64 C2, .slice (some ⟨g2, 0, none⟩) n2 c2] 58 (0, 0)) := by rw [hW0]; exact heap_alloc2_new _ _ _
  obtain ⟨a0, a1, a2, _, _, _⟩ := cells3 e3
  obtain ⟨b0, b1, b2, _, _, _⟩ := cells3 e4
  have HW0 := Lib.hid hW0
  have HB0 := Lib.hid hb0
  have hS : IntKind.i64.wrap ((C1 : Int) - 1) = (C1 : Int) - 1 := IntWalk.i64_in _ (by omega)
  have HE := Lib.hid (show (∀ W : World, Below W0.heap.size W0 W → W.cell? ⟨w.heap.size, 0, none⟩ = some (.int .i64 R) ∧ W.cell? ⟨w.heap.size, 1, none⟩ = some (.int .i64 C1) ∧ W.cell? ⟨w.heap.size, 2, none⟩ = some (.slice (some ⟨g1, 0, none⟩) n1 c1) ∧ W.cell? ⟨w.heap.size + 1, 0, none⟩ = some (.int .i64 R2) ∧ W.cell? ⟨w.heap.size + 1, 1, none⟩ = some (.int .i64 C2) ∧ W.cell? ⟨w.heap.size + 1, 2, none⟩ = some (.slice (some ⟨g2, 0, none⟩) n2 c2)) from fun W hW => by
    obtain ⟨x0, x1, x2, _, _, _⟩ := cells3 (cells3_of e3 hW (by omega))
    obtain ⟨y0, y1, y2, _, _, _⟩ := cells3 (cells3_of e4 hW (by omega))
    exact ⟨x0, x1, x2, y0, y1, y2⟩)
  clear hb0 e3 e4 hW0 h1 h2 k1 k2 p1 p2
  go_enter Try.func83, Try.ntmps83
  go_wp2_with fail
  rw [← HW0.out]
  clear HW0
  go_region_held3 (fun w' => w'.cell? ⟨w.heap.size, 0, none⟩ = some (.int .i64 R) ∧ w'.cell? ⟨w.heap.size, 1, none⟩ = some (.int .i64 C1) ∧ w'.cell? ⟨w.heap.size, 2, none⟩ = some (.slice (some ⟨g1, 0, none⟩) n1 c1) ∧ w'.cell? ⟨w.heap.size + 1, 0, none⟩ = some (.int .i64 R2) ∧ w'.cell? ⟨w.heap.size + 1, 1, none⟩ = some (.int .i64 C2) ∧ w'.cell? ⟨w.heap.size + 1, 2, none⟩ = some (.slice (some ⟨g2, 0, none⟩) n2 c2))
    (first | exact s2.out | exact s1.out | go_keep)
    (first
      | (go_at_call 70; have hs1 := s1.out; (with_reducible refine (HI2.out _).mono ?_); rintro e w3 ⟨rfl, hb3⟩; have X2 := Lib.hid (X1.out.trans (hb3.mono X1.out.size)); have s2 := Lib.hid (HE.out w3 X2.out); clear hb3 hs1)
      | (go_at_call 70; (with_reducible refine (HI1.out _).mono ?_); rintro e w2 ⟨rfl, hb2⟩; have X1 := Lib.hid (show Below W0.heap.size W0 w2 from hb2.undrew); have s1 := Lib.hid (HE.out w2 X1.out); clear hb2))
  all_goals clear hS a0 a1 a2 b0 b1 b2
  all_goals go_wp2
  all_goals go_ret2
  all_goals exact ⟨rfl, HB0.out.trans (X2.out.mono (by omega))⟩

/-- a relief's heights in a row of their own -/
structure Rr (w : World) (R C n g c : Nat) (Z : Nat → Int) (N : Nat) (F : Nat → Value) : Prop where
  n_eq : n = R * C
  le : n ≤ c
  row : w.rowIs g 3 N F
  leN : n ≤ N
  val : ∀ i, i < n → F i = .int .i64 (Z i)
theorem Rr.cell {w : World} {R C n g c : Nat} {Z : Nat → Int} {N : Nat} {F : Nat → Value} (h : Rr w R C n g c Z N F) {i : Nat} (hi : i < n) : w.cell? ⟨g, i, none⟩ = some (.int .i64 (Z i)) := by
  rw [h.row.cell (by have := h.leN; omega), h.val i hi]
theorem Rr.below {w w' : World} {R C n g c : Nat} {Z : Nat → Int} {N : Nat} {F : Nat → Value} (h : Rr w R C n g c Z N F) {B : Nat} (hb : Below B w w') (hB : w.heap.size ≤ B) : Rr w' R C n g c Z N F :=
  ⟨h.n_eq, h.le, h.row.of_block (hb.block g (by have := h.row.lt; omega)), h.leN, h.val⟩
theorem Rr.rv {w : World} {R C n g c : Nat} {Z : Nat → Int} {N : Nat} {F : Nat → Value} (h : Rr w R C n g c Z N F) : Rv w R C n g c Z :=
  ⟨h.n_eq, h.row.lt, h.le, fun _ hi => h.cell hi⟩

theorem seam_at {R C r : Nat} (hr : r < R) (hC : 1 ≤ C) : r * C + (C - 1) < R * C ∧ r * C < R * C := by
  have h : (r + 1) * C ≤ R * C := Nat.mul_le_mul_right C hr
  rw [Nat.add_mul, Nat.one_mul] at h
  omega

set_option maxHeartbeats 4000000 in
set_option maxRecDepth 20000 in
theorem gap_any (a b : G) (n1 g1 c1 n2 g2 c2 : Nat) (w : World) (hok : RwOk a b) (h1 : Rv w a.n (a.len 0) n1 g1 c1 a.flat) (h2 : Rv w b.n (b.len 0) n2 g2 c2 b.flat) :
    Calls Try.prog 54 #[.agg #[.int .i64 a.n, .int .i64 (a.len 0), .slice (some ⟨g1, 0, none⟩) n1 c1], .agg #[.int .i64 b.n, .int .i64 (b.len 0), .slice (some ⟨g2, 0, none⟩) n2 c2]] w (IntPost (gapS a b a.n) w) := by
  obtain ⟨W0, hW0⟩ : ∃ W0, W0 = (w.alloc (.cells #[.int .i64 a.n, .int .i64 (a.len 0), .slice (some ⟨g1, 0, none⟩) n1 c1] 58)).alloc (.cells #[.int .i64 b.n, .int .i64 (b.len 0), .slice (some ⟨g2, 0, none⟩) n2 c2] 58) := ⟨_, rfl⟩
  have hs0 : W0.heap.size = w.heap.size + 2 := by rw [hW0]; simp
  have hb0 : Below w.heap.size w W0 := by rw [hW0]; exact ((Below.refl _ _).alloc (Nat.le_refl _) _).alloc (by simp) _
  have e3 : W0.heap[w.heap.size]? = some (.cells #[.int .i64 a.n, .int .i64 (a.len 0), .slice (some ⟨g1, 0, none⟩) n1 c1] 58 (0, 0)) := by rw [hW0]; exact heap_alloc2_old _ _ _
  have e4 : W0.heap[w.heap.size + 1]? = some (.cells #[.int .i64 b.n, .int .i64 (b.len 0), .slice (some ⟨g2, 0, none⟩) n2 c2] 58 (0, 0)) := by rw [hW0]; exact heap_alloc2_new _ _ _
  obtain ⟨a0, _, _, _, _, _⟩ := cells3 e3
  have HE := Lib.hid (show (∀ W : World, Below W0.heap.size W0 W → W.cell? ⟨w.heap.size, 0, none⟩ = some (.int .i64 a.n) ∧ W.cell? ⟨w.heap.size, 1, none⟩ = some (.int .i64 (a.len 0)) ∧ W.cell? ⟨w.heap.size, 2, none⟩ = some (.slice (some ⟨g1, 0, none⟩) n1 c1) ∧ W.cell? ⟨w.heap.size + 1, 0, none⟩ = some (.int .i64 b.n) ∧ W.cell? ⟨w.heap.size + 1, 1, none⟩ = some (.int .i64 (b.len 0)) ∧ W.cell? ⟨w.heap.size + 1, 2, none⟩ = some (.slice (some ⟨g2, 0, none⟩) n2 c2)) from fun W hW => by
    obtain ⟨x0, x1, x2, _, _, _⟩ := cells3 (cells3_of e3 hW (by omega))
    obtain ⟨y0, y1, y2, _, _, _⟩ := cells3 (cells3_of e4 hW (by omega))
    exact ⟨x0, x1, x2, y0, y1, y2⟩)
  have HV1 := Lib.hid (h1.keep hb0 (Nat.le_refl _))
  have HV2 := Lib.hid (h2.keep hb0 (Nat.le_refl _))
  have HW0 := Lib.hid hW0
  have HB0 := Lib.hid hb0
  have HH := Lib.hid hok
  have hn7 := hok.1.1.2
  rw [hW0] at a0
  clear hb0 e3 e4 hW0 h1 h2 hok
  go_enter Try.func54, Try.ntmps54
  go_wp2
  rw [← HW0.out]
  clear a0 HW0
  go_loopw [5, 11] (fun s i wr => ∃ r : Nat, r ≤ a.n ∧ i = .int .i64 r ∧ s = .int .i64 (gapS a b r) ∧ Below W0.heap.size W0 wr) (fun _ i _ => a.n - (intOf i).toNat)
  case atStart => exact ⟨0, Nat.zero_le _, rfl, rfl, Below.refl _ _⟩
  case round =>
    obtain ⟨r, hr, rfl, rfl, hbr⟩ := hrel
    have HBR := Lib.hid hbr
    have hg := gapS_ok HH.out r hr
    clear hbr
    by_cases hlt : r < a.n
    · have hltb : r < b.n := by have := HH.out.2.2; omega
      have hlt' : (r : Int) < a.n := by omega
      obtain ⟨q0, q1, q2, q3, q4, q5⟩ := HE.out wr HBR.out
      have hl1 := HH.out.1.2.1.1
      have hl7 := HH.out.1.2.1.2
      have hm1 := HH.out.2.1.2.1.1
      have hm7 := HH.out.2.1.2.1.2
      have s1 := (seam_at (C := a.len 0) hlt hl1).1
      have s2 := (seam_at (C := b.len 0) hltb hm1).2
      have t1 := mul_le_49 (R := a.n) (C := a.len 0) hn7 hl7
      have t2 := mul_le_49 (R := b.n) (C := b.len 0) (by have := HH.out.2.2; omega) hm7
      have hd := dfV_range HH.out hlt
      have hab := absI_range hd.1 hd.2
      have hf1 := a.flat_at r (a.len 0 - 1) (by omega)
      have hf2 := b.flat_at r 0 (by omega)
      rw [Nat.add_zero] at hf2
      have HSM := Lib.hid (fun (m1 m2 : Nat) (e1 : r * a.len 0 + (a.len 0 - 1) = m1) (e2 : r * b.len 0 = m2) (W : World) => seam_any a.n (a.len 0) n1 g1 c1 b.n (b.len 0) n2 g2 c2 r m1 m2 W e1 e2 hl1 (by omega) (by omega))
      have y1 : r * a.len 0 + (a.len 0 - 1) < n1 := by rw [HV1.out.n_eq]; exact s1
      have y2 : r * b.len 0 < n2 := by rw [HV2.out.n_eq]; exact s2
      have hn1 : n1 ≤ 49 := by rw [HV1.out.n_eq]; exact t1
      have hn2 : n2 ≤ 49 := by rw [HV2.out.n_eq]; exact t2
      have K1 := Lib.hid (fun (W : World) (hW : Below W0.heap.size W0 W) => (HV1.out.keep hW (Nat.le_refl _)).cell _ y1)
      have K2 := Lib.hid (fun (W : World) (hW : Below W0.heap.size W0 W) => (HV2.out.keep hW (Nat.le_refl _)).cell _ y2)
      rw [hf1] at K1
      rw [hf2] at K2
      have hD : dfV a b r = a.z r (a.len 0 - 1) - b.z r 0 := rfl
      obtain ⟨A, hA⟩ : ∃ A, a.z r (a.len 0 - 1) = A := ⟨_, rfl⟩
      obtain ⟨B, hB⟩ : ∃ B, b.z r 0 = B := ⟨_, rfl⟩
      rw [hA] at K1 hD
      rw [hB] at K2 hD
      rw [hD] at hab hd
      obtain ⟨m1, em1⟩ : ∃ m1, r * a.len 0 + (a.len 0 - 1) = m1 := ⟨_, rfl⟩
      obtain ⟨m2, em2⟩ : ∃ m2, r * b.len 0 = m2 := ⟨_, rfl⟩
      have HSN := Lib.hid (HSM.out m1 m2 em1 em2)
      rw [em1] at K1 y1
      rw [em2] at K2 y2
      have HD := Lib.hid hD
      have hS2 : IntKind.i64.wrap (gapS a b r + absI (A - B)) = gapS a b r + absI (A - B) := IntWalk.i64_in _ (by omega)
      have HAP := Lib.hid (fun W : World => apart_any A B W (by omega) (by omega))
      have y1' : (m1 : Int) < n1 := by omega
      have y2' : (m2 : Int) < n2 := by omega
      have z1' : (0 : Int) ≤ m1 := by omega
      have z2' : (0 : Int) ≤ m2 := by omega
      clear HSM hA hB hD em1 em2 hf1 hf2 s1 s2 t1 t2
      go_wp2_with fail
      refine (HSN.out _).mono ?_
      rintro e w1 ⟨rfl, hb1⟩
      have HB1 := Lib.hid (HBR.out.trans (hb1.mono HBR.out.size))
      have k1 := K1.out w1 HB1.out
      have k2 := K2.out w1 HB1.out
      obtain ⟨_, _, p2, _, _, p5⟩ := HE.out w1 HB1.out
      clear hb1 q0 q1 q2 q3 q4 q5
      go_wp2_with fail
      go_quiet ((go_at_call 84; exact Calls.quiet_of_same (HAP.out _)))
      clear hS2
      go_wp2
      go_roundw
      case rel => exact ⟨r + 1, by omega, by go_num, by show _ = Value.int .i64 (gapS a b r + absI (dfV a b r)); rw [HD.out], below_drewN HB1.out _⟩
      case measure => simp [intOf]; omega
    · have e : r = a.n := by omega
      subst e
      have HB := Lib.hid (HB0.out.trans (HBR.out.mono (by omega)))
      clear hg
      go_wp2
      go_ret
      exact ⟨rfl, HB.out⟩

set_option maxHeartbeats 2000000 in
set_option maxRecDepth 20000 in
theorem implGridsGap_any (v u : Value) (lo hi : Nat) (a b : G) (w : World) (hv : RdM lo hi w v a) (hu : RdM lo hi w u b) (hh : hi ≤ w.heap.size) :
    Calls Try.prog 17 #[v, u] w (IntPost (gapV a b) w) := by
  have HC := Lib.hid (reliefsBeside_any v u lo hi a b w hv hu hh)
  clear hv hu
  go_enter Try.func17, Try.ntmps17
  go_wp2_with fail
  refine HC.out.mono ?_
  rintro e w1 ⟨X1, Y1, A1, n1, c1, X2, Y2, A2, n2, c2, rfl, hb1, hy⟩
  by_cases h : RwOk a b
  case neg =>
    have HF := Lib.hid (rwB_no h)
    have HG := Lib.hid (gapV_no h)
    have HB := Lib.hid (show Below w.heap.size w ((w1.alloc (.cells #[.int .i64 X1, .int .i64 Y1, .slice A1 n1 c1] 58)).alloc (.cells #[.int .i64 X2, .int .i64 Y2, .slice A2 n2 c2] 58)) from (hb1.alloc hb1.size _).alloc (by have := hb1.size; simp; omega) _)
    rw [HF.out]
    clear hy h hb1
    go_wp2
    go_ret
    exact ⟨ret_int HG.out.symm, HB.out⟩
  case pos =>
    obtain ⟨g1, N1, F1, g2, N2, F2, ⟨rfl, rfl, rfl, e4, e5, e6, e7, e8, e9⟩, rfl, rfl, rfl, d4, d5, d6, d7, d8, d9⟩ := hy h
    have HF := Lib.hid (rwB_yes h)
    have HG := Lib.hid (gapV_yes h)
    have hb2 : Below w1.heap.size w1 ((w1.alloc (.cells #[.int .i64 a.n, .int .i64 (a.len 0), .slice (some ⟨g1, 0, none⟩) n1 c1] 58)).alloc (.cells #[.int .i64 b.n, .int .i64 (b.len 0), .slice (some ⟨g2, 0, none⟩) n2 c2] 58)) := ((Below.refl _ _).alloc (Nat.le_refl _) _).alloc (by simp) _
    have HB := Lib.hid (hb1.trans (hb2.mono hb1.size))
    have R1 : Rr w1 a.n (a.len 0) n1 g1 c1 a.flat N1 F1 := ⟨e4, e5, e7, e8, e9⟩
    have R2 : Rr w1 b.n (b.len 0) n2 g2 c2 b.flat N2 F2 := ⟨d4, d5, d7, d8, d9⟩
    obtain ⟨k0, k1, k2, _, _, _⟩ := cells3 (heap_alloc2_old w1 (.cells #[.int .i64 a.n, .int .i64 (a.len 0), .slice (some ⟨g1, 0, none⟩) n1 c1] 58) (.cells #[.int .i64 b.n, .int .i64 (b.len 0), .slice (some ⟨g2, 0, none⟩) n2 c2] 58))
    obtain ⟨l0, l1, l2, _, _, _⟩ := cells3 (heap_alloc2_new w1 (.cells #[.int .i64 a.n, .int .i64 (a.len 0), .slice (some ⟨g1, 0, none⟩) n1 c1] 58) (.cells #[.int .i64 b.n, .int .i64 (b.len 0), .slice (some ⟨g2, 0, none⟩) n2 c2] 58))
    have HGP := Lib.hid (gap_any a b n1 g1 c1 n2 g2 c2 _ h (R1.below hb2 (Nat.le_refl _)).rv (R2.below hb2 (Nat.le_refl _)).rv)
    have HH := Lib.hid h
    have hgs := gapS_ok h a.n (Nat.le_refl _)
    rw [HF.out]
    clear hy h hb1 hb2 R1 R2 e4 e5 e6 e7 e8 e9 d4 d5 d6 d7 d8 d9
    go_wp2_with fail
    refine HGP.out.mono ?_
    rintro e w2 ⟨rfl, hb2⟩
    have HB2 := Lib.hid (HB.out.trans (hb2.mono HB.out.size))
    clear hb2 hgs
    go_wp2
    go_ret
    exact ⟨ret_int HG.out.symm, HB2.out⟩


/-- the two grids agree along their side -/
noncomputable def agB (a b : G) : Bool := decide (gapV a b = 0)

set_option maxHeartbeats 2000000 in
set_option maxRecDepth 20000 in
theorem implGridsAgree_any (v u : Value) (lo hi : Nat) (a b : G) (w : World) (hv : RdM lo hi w v a) (hu : RdM lo hi w u b) (hh : hi ≤ w.heap.size) :
    Calls Try.prog 13 #[v, u] w (BlPost (agB a b) w) := by
  have HC := Lib.hid (reliefsBeside_any v u lo hi a b w hv hu hh)
  clear hv hu
  go_enter Try.func13, Try.ntmps13
  go_wp2_with fail
  refine HC.out.mono ?_
  rintro e w1 ⟨X1, Y1, A1, n1, c1, X2, Y2, A2, n2, c2, rfl, hb1, hy⟩
  by_cases h : RwOk a b
  case neg =>
    have HF := Lib.hid (rwB_no h)
    have HG := Lib.hid (gapV_no h)
    have HB := Lib.hid (show Below w.heap.size w ((w1.alloc (.cells #[.int .i64 X1, .int .i64 Y1, .slice A1 n1 c1] 58)).alloc (.cells #[.int .i64 X2, .int .i64 Y2, .slice A2 n2 c2] 58)) from (hb1.alloc hb1.size _).alloc (by have := hb1.size; simp; omega) _)
    rw [HF.out]
    clear hy h hb1
    go_wp2
    go_ret
    exact ⟨by rw [show agB a b = false by simp [agB, HG.out]]; rfl, HB.out⟩
  case pos =>
    obtain ⟨g1, N1, F1, g2, N2, F2, ⟨rfl, rfl, rfl, e4, e5, e6, e7, e8, e9⟩, rfl, rfl, rfl, d4, d5, d6, d7, d8, d9⟩ := hy h
    have HF := Lib.hid (rwB_yes h)
    have HG := Lib.hid (gapV_yes h)
    have hb2 : Below w1.heap.size w1 ((w1.alloc (.cells #[.int .i64 a.n, .int .i64 (a.len 0), .slice (some ⟨g1, 0, none⟩) n1 c1] 58)).alloc (.cells #[.int .i64 b.n, .int .i64 (b.len 0), .slice (some ⟨g2, 0, none⟩) n2 c2] 58)) := ((Below.refl _ _).alloc (Nat.le_refl _) _).alloc (by simp) _
    have HB := Lib.hid (hb1.trans (hb2.mono hb1.size))
    have R1 : Rr w1 a.n (a.len 0) n1 g1 c1 a.flat N1 F1 := ⟨e4, e5, e7, e8, e9⟩
    have R2 : Rr w1 b.n (b.len 0) n2 g2 c2 b.flat N2 F2 := ⟨d4, d5, d7, d8, d9⟩
    obtain ⟨k0, k1, k2, _, _, _⟩ := cells3 (heap_alloc2_old w1 (.cells #[.int .i64 a.n, .int .i64 (a.len 0), .slice (some ⟨g1, 0, none⟩) n1 c1] 58) (.cells #[.int .i64 b.n, .int .i64 (b.len 0), .slice (some ⟨g2, 0, none⟩) n2 c2] 58))
    obtain ⟨l0, l1, l2, _, _, _⟩ := cells3 (heap_alloc2_new w1 (.cells #[.int .i64 a.n, .int .i64 (a.len 0), .slice (some ⟨g1, 0, none⟩) n1 c1] 58) (.cells #[.int .i64 b.n, .int .i64 (b.len 0), .slice (some ⟨g2, 0, none⟩) n2 c2] 58))
    have HGP := Lib.hid (gap_any a b n1 g1 c1 n2 g2 c2 _ h (R1.below hb2 (Nat.le_refl _)).rv (R2.below hb2 (Nat.le_refl _)).rv)
    have HH := Lib.hid h
    have hgs := gapS_ok h a.n (Nat.le_refl _)
    rw [HF.out]
    clear hy h hb1 hb2 R1 R2 e4 e5 e6 e7 e8 e9 d4 d5 d6 d7 d8 d9
    by_cases h0 : gapS a b a.n = 0
    · have hx : (gapS a b a.n == 0) = true := by rw [h0]; rfl
      have HA := Lib.hid (show agB a b = true by simp [agB, HG.out, h0])
      clear h0
      go_wp2_with fail
      refine HGP.out.mono ?_
      rintro e w2 ⟨rfl, hb2⟩
      have HB2 := Lib.hid (HB.out.trans (hb2.mono HB.out.size))
      clear hb2 hgs
      go_wp2
      go_ret
      exact ⟨by rw [HA.out]; rfl, HB2.out⟩
    · have hx : (gapS a b a.n == 0) = false := by simp [h0]
      have HA := Lib.hid (show agB a b = false by simp [agB, HG.out, h0])
      clear h0
      go_wp2_with fail
      refine HGP.out.mono ?_
      rintro e w2 ⟨rfl, hb2⟩
      have HB2 := Lib.hid (HB.out.trans (hb2.mono HB.out.size))
      clear hb2 hgs
      go_wp2
      go_ret
      exact ⟨by rw [HA.out]; rfl, HB2.out⟩


end Go.Proofs.Ytjllmidagcniaaa
