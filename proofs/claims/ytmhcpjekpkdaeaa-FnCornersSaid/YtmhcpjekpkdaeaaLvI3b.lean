/- The count of corners in the program. -/
import Derived.Test.YtmhcpjekpkdaeaaLvI3
namespace Go.Proofs.Ytmhcpjekpkdaeaa
open Go.RowKit Go.Shelf
set_option linter.unusedVariables false
attribute [local go_sem] Oper.semAt_some

/-- how many of a list of corners are all land -/
def cornL {R C : Nat} (Z : Nat → Int) (lv : Int) : List (Cr R C) → Nat
  | [] => 0
  | x :: l => (if CrOk C Z lv x.1.1 x.1.2 then 1 else 0) + cornL Z lv l
theorem cornL_append {R C : Nat} (Z : Nat → Int) (lv : Int) : ∀ a b : List (Cr R C), cornL Z lv (a ++ b) = cornL Z lv a + cornL Z lv b
  | [], b => by simp [cornL]
  | x :: a, b => by simp only [List.cons_append, cornL, cornL_append Z lv a b]; omega
theorem cornL_snoc {R C : Nat} (Z : Nat → Int) (lv : Int) (a : List (Cr R C)) (x : Cr R C) : cornL Z lv (a ++ [x]) = cornL Z lv a + (if CrOk C Z lv x.1.1 x.1.2 then 1 else 0) := by rw [cornL_append]; simp [cornL]
theorem cornL_le {R C : Nat} (Z : Nat → Int) (lv : Int) : ∀ a : List (Cr R C), cornL Z lv a ≤ a.length
  | [] => by simp [cornL]
  | x :: a => by have := cornL_le Z lv a; simp only [cornL, List.length_cons]; split <;> omega
theorem crL_len (R C r : Nat) : ∀ c, (crL R C r c).length ≤ c
  | 0 => by simp [crL]
  | c + 1 => by have := crL_len R C r c; simp only [crL, List.length_append]; split <;> simp <;> omega
theorem crA_len (R C : Nat) : ∀ r, (crA R C r).length ≤ r * C
  | 0 => by simp [crA]
  | r + 1 => by have := crA_len R C r; have := crL_len R C r (C - 1); simp only [crA, List.length_append, Nat.add_mul]; omega
theorem cornL_row {R C : Nat} (Z : Nat → Int) (lv : Int) {r : Nat} (hr : r + 1 < R) : ∀ c, c < C → cornL Z lv (crL R C r c) = crRow C Z lv r c
  | 0, _ => rfl
  | c + 1, h => by rw [crL_succ ⟨hr, h⟩, cornL_snoc, crRow, cornL_row Z lv hr c (by omega)]
theorem cornL_all {R C : Nat} (Z : Nat → Int) (lv : Int) (hC : 1 ≤ C) : ∀ r, r < R → cornL Z lv (crA R C r) = cornN C Z lv r
  | 0, _ => rfl
  | r + 1, h => by rw [crA, cornL_append, cornN, cornL_all Z lv hC r (by omega), cornL_row Z lv h (C - 1) (by omega)]

/-- the layer's box and the four cells' box, as they read -/
def Four (W : World) (b bx R C gg cnt cap : Nat) (lv x y : Int) : Prop :=
  W.cell? ⟨b, 0, none⟩ = some (.int .i64 R) ∧ W.cell? ⟨b, 1, none⟩ = some (.int .i64 C) ∧ W.cell? ⟨b, 2, none⟩ = some (.slice (some ⟨gg, 0, none⟩) cnt cap) ∧ W.cell? ⟨b, 3, none⟩ = some (.int .i64 lv) ∧
  W.cell? ⟨bx, 0, none⟩ = some (.int .i64 x) ∧ W.cell? ⟨bx, 1, none⟩ = some (.int .i64 (x + 1)) ∧ W.cell? ⟨bx, 2, none⟩ = some (.int .i64 y) ∧ W.cell? ⟨bx, 3, none⟩ = some (.int .i64 (y + 1))
theorem Four.below {W W' : World} {b bx R C gg cnt cap : Nat} {lv x y : Int} (h : Four W b bx R C gg cnt cap lv x y) {n : Nat} (k : Below n W W') (h1 : b < n) (h2 : bx < n) : Four W' b bx R C gg cnt cap lv x y := by
  obtain ⟨a0, a1, a2, a3, a4, a5, a6, a7⟩ := h
  exact ⟨(k.cell (p := ⟨b, 0, none⟩) h1).trans a0, (k.cell (p := ⟨b, 1, none⟩) h1).trans a1, (k.cell (p := ⟨b, 2, none⟩) h1).trans a2, (k.cell (p := ⟨b, 3, none⟩) h1).trans a3, (k.cell (p := ⟨bx, 0, none⟩) h2).trans a4, (k.cell (p := ⟨bx, 1, none⟩) h2).trans a5, (k.cell (p := ⟨bx, 2, none⟩) h2).trans a6, (k.cell (p := ⟨bx, 3, none⟩) h2).trans a7⟩

theorem cr_idx {R C : Nat} (x : Cr R C) : cJ x + 1 < R * C ∧ cI x + 1 < R * C := by
  have h1 : (x.1.1 + 2) * C ≤ R * C := Nat.mul_le_mul_right C x.2.1
  have h2 : (x.1.1 + 2) * C = (x.1.1 + 1) * C + C := by rw [show x.1.1 + 2 = (x.1.1 + 1) + 1 by omega, Nat.add_mul, Nat.one_mul]
  have h3 : (x.1.1 + 1) * C = x.1.1 * C + C := by rw [Nat.add_mul, Nat.one_mul]
  have h4 := x.2.2
  unfold cI cJ
  omega


set_option maxRecDepth 100000 in
set_option maxHeartbeats 20000000 in
theorem cornerCount_any (R C gg cap cnt : Nat) (hR1 : 1 ≤ R) (hC1 : 1 ≤ C) (hR : R ≤ 7) (hC : C ≤ 7) (Z : Nat → Int) (lv : Int) (w : World) (h : Rv w R C cnt gg cap Z) :
    Calls Try.prog 59 #[.agg #[.int .i64 R, .int .i64 C, .slice (some ⟨gg, 0, none⟩) cnt cap, .int .i64 lv]] w (IntPost (cornN C Z lv (R - 1)) w) := by
  have H := Lib.hid h
  have h49 := mul_le_49 hR hC
  have HCN := Lib.hid h.n_eq
  have hcn49 : cnt ≤ 49 := by rw [HCN.out]; exact h49
  have hgl : gg < w.heap.size := h.lt
  have hle : cnt ≤ cap := h.le
  clear h
  refine (callsIn_wide (n := 5)).1 ?_
  refine callsIn_of_wp_marks Try.func59 rfl trivial ?_ rfl
  simp only [Try.ntmps59, List.size_toArray, List.length_cons, List.length_nil, Nat.reduceAdd, Nat.reduceSub, Array.replicate_succ, Array.replicate_zero, List.push_toArray, List.append_toArray, List.nil_append, List.cons_append]
  gi_wp2_with (refine ⟨trivial, ?_⟩; gi_at_call 79; refine (callsIn_wide.2 (corners_any R C gg cnt cap _)).mono ?_; rintro e w' ⟨rfl, rfl⟩)
  obtain ⟨k1, k2, k3, ksz, kb⟩ := three_allocs w (.cells #[.int .i64 R, .int .i64 C, .slice (some ⟨gg, 0, none⟩) cnt cap, .int .i64 lv] 48) (.cells #[.int .i64 0] 3) (.cells #[.int .i64 R, .int .i64 C, .slice (some ⟨gg, 0, none⟩) cnt cap] 43)
  generalize hW0 : ((w.alloc (.cells #[.int .i64 R, .int .i64 C, .slice (some ⟨gg, 0, none⟩) cnt cap, .int .i64 lv] 48)).alloc (.cells #[.int .i64 0] 3)).alloc (.cells #[.int .i64 R, .int .i64 C, .slice (some ⟨gg, 0, none⟩) cnt cap] 43) = W0 at k1 k2 k3 ksz kb ⊢
  clear hW0
  refine wpIn_rangeFunc_ownH rfl (by omega) (gf := 86) (lb := #[.pointer (some ⟨w.heap.size + 1 + 1, 0, none⟩)]) rfl trivial (enters_of Try.func86 (by kernel_rfl) rfl)
    (corners_stops 4 (by omega) (w.heap.size + 1 + 1) R C gg cap cnt hR1 hC1 hR hC W0 (by omega) (three_cells k3)) Kb.trans (kb_b (by omega)) (Below.refl _ _) (fun _ => rfl)
    (fun pre W => (((Boxed W (w.heap.size + 1) 3 (.int .i64 (cornL Z lv pre)) ∧ W.heap[w.heap.size]? = some (.cells #[.int .i64 R, .int .i64 C, .slice (some ⟨gg, 0, none⟩) cnt cap, .int .i64 lv] 48 (0, 0))) ∧ W.heap[w.heap.size + 1 + 1]? = some (.cells #[.int .i64 R, .int .i64 C, .slice (some ⟨gg, 0, none⟩) cnt cap] 43 (0, 0)))) ∧ Below w.heap.size w W)
    (fun _ _ _ => False)
    (OwnFrom.and (OwnFrom.and (OwnFrom.and (Own.from (boxed_own _ _ _) _) (keep_block (by omega))) (keep_block (by omega))) (ownFrom_below (Nat.le_refl _) (by omega)))
    (fun _ _ _ _ _ hs _ _ => hs) ⟨⟨⟨k2, k1⟩, k3⟩, kb⟩
    (fun x a' W => ∃ Bx, w.heap.size + 1 + 1 < Bx ∧ W.heap[Bx]? = some (.cells #[.int .i64 (cI x), .int .i64 ((cI x : Int) + 1), .int .i64 (cJ x), .int .i64 ((cJ x : Int) + 1)] 79 (0, 0)) ∧ a' = { tmps := #[.agg #[.int .i64 R, .int .i64 C, .slice (some ⟨gg, 0, none⟩) cnt cap, .int .i64 lv], .pointer (some ⟨w.heap.size, 0, none⟩), .int .i64 0, .pointer (some ⟨w.heap.size + 1, 0, none⟩), .pointer (some ⟨Bx, 0, none⟩), .pointer (some ⟨w.heap.size, 0, none⟩), .agg #[.int .i64 R, .int .i64 C, .slice (some ⟨gg, 0, none⟩) cnt cap], .func (.func 86) #[] #[.pointer (some ⟨w.heap.size + 1 + 1, 0, none⟩)], .agg #[.int .i64 (cI x), .int .i64 ((cI x : Int) + 1), .int .i64 (cJ x), .int .i64 ((cJ x : Int) + 1)], undef, undef, undef, undef, undef, undef, undef, undef, undef, undef, undef, undef, undef, undef, undef, undef, undef, undef, undef, undef, undef, undef, undef, undef, undef], defers := [] })
    (fun x a' _ X Y row hs hg hr => by
      obtain ⟨Bx, h1, h2, h3⟩ := hs
      refine ⟨Bx, h1, (hg.block Bx (Array.getElem?_eq_some_iff.1 h2).1 (fun e => ?_)).trans h2, h3⟩
      obtain ⟨_, o, ho, hc⟩ := hr Bx e.symm
      rw [h2] at ho; cases ho; cases hc)
    ?assign ?body ?done ?stop
  case assign =>
    rintro l pre x W K ⟨⟨⟨hbx, hm⟩, hrl⟩, hB⟩ hK
    simp only [cEnc]
    have hlt := hB.size
    have hl2 : w.heap.size + 1 + 1 < W.heap.size := (Array.getElem?_eq_some_iff.1 hrl).1
    have HK := Lib.hid @hK
    have HBX := Lib.hid hbx
    have HM := Lib.hid hm
    have HRL := Lib.hid hrl
    have HB := Lib.hid hB
    clear hK hbx hm hrl hB
    gi_wp2
    refine HK.out _ _ ((KeepsOthers.alloc _ _).from _) (Kb.of_below ((Below.refl _ W).alloc (Nat.le_refl _) _) hl2) ⟨⟨⟨HBX.out.alloc _, (Below.heap_alloc W _ _ (by omega)).trans HM.out⟩, (Below.heap_alloc W _ _ hl2).trans HRL.out⟩, HB.out.alloc hlt _⟩ ⟨W.heap.size, hl2, heap_alloc_new W _, rfl⟩
  case body =>
    rintro l pre x a' W hl ⟨rr, hrr⟩ ⟨⟨⟨hbx, hm⟩, hrl⟩, hB⟩ ⟨Bx, hBx, hcx, rfl⟩ hpl
    have hRW := H.out.keep hB (Nat.le_refl _)
    have hidx := cr_idx x
    have hS3 : w.heap.size + 1 < W.heap.size := hbx.lt
    have hl2 : w.heap.size + 1 + 1 < W.heap.size := (Array.getElem?_eq_some_iff.1 hrl).1
    have hBl : Bx < W.heap.size := (Array.getElem?_eq_some_iff.1 hcx).1
    have hq := cornL_le Z lv pre
    have hN : pre.length ≤ 49 := by
      have h1 := crA_len R C (R - 1)
      have h2 : (R - 1) * C ≤ 49 := mul_le_49 (by omega) hC
      omega
    have HSN := Lib.hid (cornL_snoc Z lv pre x)
    have HQ := Lib.hid (show CrOk C Z lv x.1.1 x.1.2 ↔ lv ≤ Z (cI x) ∧ lv ≤ Z (cI x + 1) ∧ lv ≤ Z (cJ x) ∧ lv ≤ Z (cJ x + 1) from Iff.rfl)
    have HIS := Lib.hid (fun (j : Nat) (hj : j < cnt) (V : World) (hV : Rv V R C cnt gg cap Z) => (⟨fun hz => isLand_yes R C gg cap cnt Z lv j V hV hj (by omega) hz, fun hz => isLand_no R C gg cap cnt Z lv j V hV hj (by omega) hz⟩ : (lv ≤ Z j → Calls Try.prog 67 #[.agg #[.int .i64 R, .int .i64 C, .slice (some ⟨gg, 0, none⟩) cnt cap, .int .i64 lv], .int .i64 (j : Nat)] V (BlPost true V)) ∧ (¬ lv ≤ Z j → Calls Try.prog 67 #[.agg #[.int .i64 R, .int .i64 C, .slice (some ⟨gg, 0, none⟩) cnt cap, .int .i64 lv], .int .i64 (j : Nat)] V (BlPost false V))))
    obtain ⟨ia, eia⟩ : ∃ ia, cI x = ia := ⟨_, rfl⟩
    obtain ⟨ib, eib⟩ : ∃ ib, cJ x = ib := ⟨_, rfl⟩
    obtain ⟨q, eq⟩ : ∃ q, cornL Z lv pre = q := ⟨_, rfl⟩
    rw [eia, eib] at hidx HQ hcx
    rw [eia, eib]
    rw [eq] at hq HSN hbx
    have hF : Four W w.heap.size Bx R C gg cnt cap lv ia ib := by
      obtain ⟨a0, a1, a2, a3⟩ := cells4 hm
      obtain ⟨b0, b1, b2, b3⟩ := cells4 hcx
      exact ⟨a0, a1, a2, a3, b0, b1, b2, b3⟩
    have hc49 : cnt = R * C := HCN.out
    have j0 : ia < cnt := by omega
    have j1 : ia + 1 < cnt := by omega
    have j2 : ib < cnt := by omega
    have j3 : ib + 1 < cnt := by omega
    have HRW := Lib.hid hRW
    have HF := Lib.hid hF
    have HBX := Lib.hid hbx
    have HM := Lib.hid hm
    have HRL := Lib.hid hrl
    have HB := Lib.hid hB
    have hf := hF
    obtain ⟨m0, m1, m2, m3, f0, f1, f2, f3⟩ := hf
    clear hRW hF hbx hm hrl hB hcx hrr eia eib eq hc49
    by_cases z0 : lv ≤ Z ia
    case neg =>
      have hI0 := (HIS.out ia j0 W HRW.out).2 z0
      have HI0 := Lib.hid hI0
      clear hI0
      gi_wp2_with fail
      refine ⟨trivial, ?_⟩
      gi_at_call 67
      refine ((callsIn_wide.2 HI0.out).inRound l).mono ?_
      rintro e v0 ⟨rfl, hb0⟩
      have B0 := Lib.hid (show Below W.heap.size W v0 from (Below.refl _ W).trans (hb0.mono (Nat.le_refl _)))
      have R0 := Lib.hid (HRW.out.keep B0.out (Nat.le_refl _))
      obtain ⟨n0, n1, n2, n3, g0, g1, g2, g3⟩ := HF.out.below B0.out (by omega) hBl
      clear hb0 m0 m1 m2 m3 f0 f1 f2 f3
      have m0 := n0; have m1 := n1; have m2 := n2; have m3 := n3; have f0 := g0; have f1 := g1; have f2 := g2; have f3 := g3; clear n0 n1 n2 n3 g0 g1 g2 g3
      have HS2 := Lib.hid (show cornL Z lv (pre ++ [x]) = q by rw [HSN.out, if_neg (fun h => by have := (HQ.out.1 h).1; omega)]; rfl)
      clear m0 m1 m2 m3 f0 f1 f2 f3
      gi_wp2
      repeat (first | (refine ⟨trivial, ?_⟩; gi_wp2) | (refine ⟨fun _ h => (by cases h), ?_⟩; gi_wp2))
      refine ⟨(others_below B0.out).from _, Kb.of_below B0.out hl2, ⟨⟨⟨?_, (B0.out.block _ (by omega)).trans HM.out⟩, (B0.out.block _ hl2).trans HRL.out⟩, HB.out.trans (B0.out.mono HB.out.size)⟩⟩
      rw [HS2.out]
      exact (B0.out.block _ hS3).trans HBX.out
    case pos =>
      by_cases z1 : lv ≤ Z (ia + 1)
      case neg =>
        have hI0 := (HIS.out ia j0 W HRW.out).1 z0
        have HI0 := Lib.hid hI0
        clear hI0
        gi_wp2_with fail
        refine ⟨trivial, ?_⟩
        gi_at_call 67
        refine ((callsIn_wide.2 HI0.out).inRound l).mono ?_
        rintro e v0 ⟨rfl, hb0⟩
        have B0 := Lib.hid (show Below W.heap.size W v0 from (Below.refl _ W).trans (hb0.mono (Nat.le_refl _)))
        have R0 := Lib.hid (HRW.out.keep B0.out (Nat.le_refl _))
        obtain ⟨n0, n1, n2, n3, g0, g1, g2, g3⟩ := HF.out.below B0.out (by omega) hBl
        clear hb0 m0 m1 m2 m3 f0 f1 f2 f3
        have m0 := n0; have m1 := n1; have m2 := n2; have m3 := n3; have f0 := g0; have f1 := g1; have f2 := g2; have f3 := g3; clear n0 n1 n2 n3 g0 g1 g2 g3
        have hI1 := (HIS.out (ia + 1) j1 v0 R0.out).2 z1
        simp only [Int.natCast_add, Int.natCast_one] at hI1
        have HI1 := Lib.hid hI1
        clear hI1
        gi_wp2_with fail
        refine ⟨trivial, ?_⟩
        gi_at_call 67
        refine ((callsIn_wide.2 HI1.out).inRound l).mono ?_
        rintro e v1 ⟨rfl, hb1⟩
        have B1 := Lib.hid (show Below W.heap.size W v1 from (B0.out).trans (hb1.mono B0.out.size))
        have R1 := Lib.hid (HRW.out.keep B1.out (Nat.le_refl _))
        obtain ⟨n0, n1, n2, n3, g0, g1, g2, g3⟩ := HF.out.below B1.out (by omega) hBl
        clear hb1 m0 m1 m2 m3 f0 f1 f2 f3
        have m0 := n0; have m1 := n1; have m2 := n2; have m3 := n3; have f0 := g0; have f1 := g1; have f2 := g2; have f3 := g3; clear n0 n1 n2 n3 g0 g1 g2 g3
        have HS2 := Lib.hid (show cornL Z lv (pre ++ [x]) = q by rw [HSN.out, if_neg (fun h => by have := (HQ.out.1 h).2.1; omega)]; rfl)
        clear m0 m1 m2 m3 f0 f1 f2 f3
        gi_wp2
        repeat (first | (refine ⟨trivial, ?_⟩; gi_wp2) | (refine ⟨fun _ h => (by cases h), ?_⟩; gi_wp2))
        refine ⟨(others_below B1.out).from _, Kb.of_below B1.out hl2, ⟨⟨⟨?_, (B1.out.block _ (by omega)).trans HM.out⟩, (B1.out.block _ hl2).trans HRL.out⟩, HB.out.trans (B1.out.mono HB.out.size)⟩⟩
        rw [HS2.out]
        exact (B1.out.block _ hS3).trans HBX.out
      case pos =>
        by_cases z2 : lv ≤ Z ib
        case neg =>
          have hI0 := (HIS.out ia j0 W HRW.out).1 z0
          have HI0 := Lib.hid hI0
          clear hI0
          gi_wp2_with fail
          refine ⟨trivial, ?_⟩
          gi_at_call 67
          refine ((callsIn_wide.2 HI0.out).inRound l).mono ?_
          rintro e v0 ⟨rfl, hb0⟩
          have B0 := Lib.hid (show Below W.heap.size W v0 from (Below.refl _ W).trans (hb0.mono (Nat.le_refl _)))
          have R0 := Lib.hid (HRW.out.keep B0.out (Nat.le_refl _))
          obtain ⟨n0, n1, n2, n3, g0, g1, g2, g3⟩ := HF.out.below B0.out (by omega) hBl
          clear hb0 m0 m1 m2 m3 f0 f1 f2 f3
          have m0 := n0; have m1 := n1; have m2 := n2; have m3 := n3; have f0 := g0; have f1 := g1; have f2 := g2; have f3 := g3; clear n0 n1 n2 n3 g0 g1 g2 g3
          have hI1 := (HIS.out (ia + 1) j1 v0 R0.out).1 z1
          simp only [Int.natCast_add, Int.natCast_one] at hI1
          have HI1 := Lib.hid hI1
          clear hI1
          gi_wp2_with fail
          refine ⟨trivial, ?_⟩
          gi_at_call 67
          refine ((callsIn_wide.2 HI1.out).inRound l).mono ?_
          rintro e v1 ⟨rfl, hb1⟩
          have B1 := Lib.hid (show Below W.heap.size W v1 from (B0.out).trans (hb1.mono B0.out.size))
          have R1 := Lib.hid (HRW.out.keep B1.out (Nat.le_refl _))
          obtain ⟨n0, n1, n2, n3, g0, g1, g2, g3⟩ := HF.out.below B1.out (by omega) hBl
          clear hb1 m0 m1 m2 m3 f0 f1 f2 f3
          have m0 := n0; have m1 := n1; have m2 := n2; have m3 := n3; have f0 := g0; have f1 := g1; have f2 := g2; have f3 := g3; clear n0 n1 n2 n3 g0 g1 g2 g3
          have hI2 := (HIS.out ib j2 v1 R1.out).2 z2
          have HI2 := Lib.hid hI2
          clear hI2
          gi_wp2_with fail
          refine ⟨trivial, ?_⟩
          gi_at_call 67
          refine ((callsIn_wide.2 HI2.out).inRound l).mono ?_
          rintro e v2 ⟨rfl, hb2⟩
          have B2 := Lib.hid (show Below W.heap.size W v2 from (B1.out).trans (hb2.mono B1.out.size))
          have R2 := Lib.hid (HRW.out.keep B2.out (Nat.le_refl _))
          obtain ⟨n0, n1, n2, n3, g0, g1, g2, g3⟩ := HF.out.below B2.out (by omega) hBl
          clear hb2 m0 m1 m2 m3 f0 f1 f2 f3
          have m0 := n0; have m1 := n1; have m2 := n2; have m3 := n3; have f0 := g0; have f1 := g1; have f2 := g2; have f3 := g3; clear n0 n1 n2 n3 g0 g1 g2 g3
          have HS2 := Lib.hid (show cornL Z lv (pre ++ [x]) = q by rw [HSN.out, if_neg (fun h => by have := (HQ.out.1 h).2.2.1; omega)]; rfl)
          clear m0 m1 m2 m3 f0 f1 f2 f3
          gi_wp2
          repeat (first | (refine ⟨trivial, ?_⟩; gi_wp2) | (refine ⟨fun _ h => (by cases h), ?_⟩; gi_wp2))
          refine ⟨(others_below B2.out).from _, Kb.of_below B2.out hl2, ⟨⟨⟨?_, (B2.out.block _ (by omega)).trans HM.out⟩, (B2.out.block _ hl2).trans HRL.out⟩, HB.out.trans (B2.out.mono HB.out.size)⟩⟩
          rw [HS2.out]
          exact (B2.out.block _ hS3).trans HBX.out
        case pos =>
          by_cases z3 : lv ≤ Z (ib + 1)
          case neg =>
            have hI0 := (HIS.out ia j0 W HRW.out).1 z0
            have HI0 := Lib.hid hI0
            clear hI0
            gi_wp2_with fail
            refine ⟨trivial, ?_⟩
            gi_at_call 67
            refine ((callsIn_wide.2 HI0.out).inRound l).mono ?_
            rintro e v0 ⟨rfl, hb0⟩
            have B0 := Lib.hid (show Below W.heap.size W v0 from (Below.refl _ W).trans (hb0.mono (Nat.le_refl _)))
            have R0 := Lib.hid (HRW.out.keep B0.out (Nat.le_refl _))
            obtain ⟨n0, n1, n2, n3, g0, g1, g2, g3⟩ := HF.out.below B0.out (by omega) hBl
            clear hb0 m0 m1 m2 m3 f0 f1 f2 f3
            have m0 := n0; have m1 := n1; have m2 := n2; have m3 := n3; have f0 := g0; have f1 := g1; have f2 := g2; have f3 := g3; clear n0 n1 n2 n3 g0 g1 g2 g3
            have hI1 := (HIS.out (ia + 1) j1 v0 R0.out).1 z1
            simp only [Int.natCast_add, Int.natCast_one] at hI1
            have HI1 := Lib.hid hI1
            clear hI1
            gi_wp2_with fail
            refine ⟨trivial, ?_⟩
            gi_at_call 67
            refine ((callsIn_wide.2 HI1.out).inRound l).mono ?_
            rintro e v1 ⟨rfl, hb1⟩
            have B1 := Lib.hid (show Below W.heap.size W v1 from (B0.out).trans (hb1.mono B0.out.size))
            have R1 := Lib.hid (HRW.out.keep B1.out (Nat.le_refl _))
            obtain ⟨n0, n1, n2, n3, g0, g1, g2, g3⟩ := HF.out.below B1.out (by omega) hBl
            clear hb1 m0 m1 m2 m3 f0 f1 f2 f3
            have m0 := n0; have m1 := n1; have m2 := n2; have m3 := n3; have f0 := g0; have f1 := g1; have f2 := g2; have f3 := g3; clear n0 n1 n2 n3 g0 g1 g2 g3
            have hI2 := (HIS.out ib j2 v1 R1.out).1 z2
            have HI2 := Lib.hid hI2
            clear hI2
            gi_wp2_with fail
            refine ⟨trivial, ?_⟩
            gi_at_call 67
            refine ((callsIn_wide.2 HI2.out).inRound l).mono ?_
            rintro e v2 ⟨rfl, hb2⟩
            have B2 := Lib.hid (show Below W.heap.size W v2 from (B1.out).trans (hb2.mono B1.out.size))
            have R2 := Lib.hid (HRW.out.keep B2.out (Nat.le_refl _))
            obtain ⟨n0, n1, n2, n3, g0, g1, g2, g3⟩ := HF.out.below B2.out (by omega) hBl
            clear hb2 m0 m1 m2 m3 f0 f1 f2 f3
            have m0 := n0; have m1 := n1; have m2 := n2; have m3 := n3; have f0 := g0; have f1 := g1; have f2 := g2; have f3 := g3; clear n0 n1 n2 n3 g0 g1 g2 g3
            have hI3 := (HIS.out (ib + 1) j3 v2 R2.out).2 z3
            simp only [Int.natCast_add, Int.natCast_one] at hI3
            have HI3 := Lib.hid hI3
            clear hI3
            gi_wp2_with fail
            refine ⟨trivial, ?_⟩
            gi_at_call 67
            refine ((callsIn_wide.2 HI3.out).inRound l).mono ?_
            rintro e v3 ⟨rfl, hb3⟩
            have B3 := Lib.hid (show Below W.heap.size W v3 from (B2.out).trans (hb3.mono B2.out.size))
            have R3 := Lib.hid (HRW.out.keep B3.out (Nat.le_refl _))
            obtain ⟨n0, n1, n2, n3, g0, g1, g2, g3⟩ := HF.out.below B3.out (by omega) hBl
            clear hb3 m0 m1 m2 m3 f0 f1 f2 f3
            have m0 := n0; have m1 := n1; have m2 := n2; have m3 := n3; have f0 := g0; have f1 := g1; have f2 := g2; have f3 := g3; clear n0 n1 n2 n3 g0 g1 g2 g3
            have HS2 := Lib.hid (show cornL Z lv (pre ++ [x]) = q by rw [HSN.out, if_neg (fun h => by have := (HQ.out.1 h).2.2.2; omega)]; rfl)
            clear m0 m1 m2 m3 f0 f1 f2 f3
            gi_wp2
            repeat (first | (refine ⟨trivial, ?_⟩; gi_wp2) | (refine ⟨fun _ h => (by cases h), ?_⟩; gi_wp2))
            refine ⟨(others_below B3.out).from _, Kb.of_below B3.out hl2, ⟨⟨⟨?_, (B3.out.block _ (by omega)).trans HM.out⟩, (B3.out.block _ hl2).trans HRL.out⟩, HB.out.trans (B3.out.mono HB.out.size)⟩⟩
            rw [HS2.out]
            exact (B3.out.block _ hS3).trans HBX.out
          case pos =>
            have hI0 := (HIS.out ia j0 W HRW.out).1 z0
            have HI0 := Lib.hid hI0
            clear hI0
            gi_wp2_with fail
            refine ⟨trivial, ?_⟩
            gi_at_call 67
            refine ((callsIn_wide.2 HI0.out).inRound l).mono ?_
            rintro e v0 ⟨rfl, hb0⟩
            have B0 := Lib.hid (show Below W.heap.size W v0 from (Below.refl _ W).trans (hb0.mono (Nat.le_refl _)))
            have R0 := Lib.hid (HRW.out.keep B0.out (Nat.le_refl _))
            obtain ⟨n0, n1, n2, n3, g0, g1, g2, g3⟩ := HF.out.below B0.out (by omega) hBl
            clear hb0 m0 m1 m2 m3 f0 f1 f2 f3
            have m0 := n0; have m1 := n1; have m2 := n2; have m3 := n3; have f0 := g0; have f1 := g1; have f2 := g2; have f3 := g3; clear n0 n1 n2 n3 g0 g1 g2 g3
            have hI1 := (HIS.out (ia + 1) j1 v0 R0.out).1 z1
            simp only [Int.natCast_add, Int.natCast_one] at hI1
            have HI1 := Lib.hid hI1
            clear hI1
            gi_wp2_with fail
            refine ⟨trivial, ?_⟩
            gi_at_call 67
            refine ((callsIn_wide.2 HI1.out).inRound l).mono ?_
            rintro e v1 ⟨rfl, hb1⟩
            have B1 := Lib.hid (show Below W.heap.size W v1 from (B0.out).trans (hb1.mono B0.out.size))
            have R1 := Lib.hid (HRW.out.keep B1.out (Nat.le_refl _))
            obtain ⟨n0, n1, n2, n3, g0, g1, g2, g3⟩ := HF.out.below B1.out (by omega) hBl
            clear hb1 m0 m1 m2 m3 f0 f1 f2 f3
            have m0 := n0; have m1 := n1; have m2 := n2; have m3 := n3; have f0 := g0; have f1 := g1; have f2 := g2; have f3 := g3; clear n0 n1 n2 n3 g0 g1 g2 g3
            have hI2 := (HIS.out ib j2 v1 R1.out).1 z2
            have HI2 := Lib.hid hI2
            clear hI2
            gi_wp2_with fail
            refine ⟨trivial, ?_⟩
            gi_at_call 67
            refine ((callsIn_wide.2 HI2.out).inRound l).mono ?_
            rintro e v2 ⟨rfl, hb2⟩
            have B2 := Lib.hid (show Below W.heap.size W v2 from (B1.out).trans (hb2.mono B1.out.size))
            have R2 := Lib.hid (HRW.out.keep B2.out (Nat.le_refl _))
            obtain ⟨n0, n1, n2, n3, g0, g1, g2, g3⟩ := HF.out.below B2.out (by omega) hBl
            clear hb2 m0 m1 m2 m3 f0 f1 f2 f3
            have m0 := n0; have m1 := n1; have m2 := n2; have m3 := n3; have f0 := g0; have f1 := g1; have f2 := g2; have f3 := g3; clear n0 n1 n2 n3 g0 g1 g2 g3
            have hI3 := (HIS.out (ib + 1) j3 v2 R2.out).1 z3
            simp only [Int.natCast_add, Int.natCast_one] at hI3
            have HI3 := Lib.hid hI3
            clear hI3
            gi_wp2_with fail
            refine ⟨trivial, ?_⟩
            gi_at_call 67
            refine ((callsIn_wide.2 HI3.out).inRound l).mono ?_
            rintro e v3 ⟨rfl, hb3⟩
            have B3 := Lib.hid (show Below W.heap.size W v3 from (B2.out).trans (hb3.mono B2.out.size))
            have R3 := Lib.hid (HRW.out.keep B3.out (Nat.le_refl _))
            obtain ⟨n0, n1, n2, n3, g0, g1, g2, g3⟩ := HF.out.below B3.out (by omega) hBl
            clear hb3 m0 m1 m2 m3 f0 f1 f2 f3
            have m0 := n0; have m1 := n1; have m2 := n2; have m3 := n3; have f0 := g0; have f1 := g1; have f2 := g2; have f3 := g3; clear n0 n1 n2 n3 g0 g1 g2 g3
            have HS2 := Lib.hid (show ((cornL Z lv (pre ++ [x]) : Nat) : Int) = q + 1 by rw [HSN.out, if_pos (HQ.out.2 ⟨z0, z1, z2, z3⟩)]; omega)
            have hbx3 : Boxed v3 (w.heap.size + 1) 3 (.int .i64 q) := (B3.out.block _ hS3).trans HBX.out
            have c3 := hbx3.cell
            have fz := hbx3.frozen
            have HBX3 := Lib.hid hbx3
            clear hbx3 m0 m1 m2 m3 f0 f1 f2 f3
            gi_wp2
            refine ⟨((others_below B3.out).trans (KeepsOthers.setCell _ _ _)).from _, ⟨?_, ?_⟩, ⟨⟨⟨?_, ?_⟩, ?_⟩, ?_⟩⟩
            · have := B3.out.size
              simpa [World.setCell] using this
            · exact (Below.heap_setCell _ _ _ _ (by simp)).trans (B3.out.block _ hl2)
            · rw [HS2.out]; exact HBX3.out.set _
            · exact (Below.heap_setCell _ _ _ _ (by simp)).trans ((B3.out.block _ (by omega)).trans HM.out)
            · exact (Below.heap_setCell _ _ _ _ (by simp)).trans ((B3.out.block _ hl2).trans HRL.out)
            · exact (HB.out.trans (B3.out.mono HB.out.size)).setCell (p := ⟨w.heap.size + 1, 0, none⟩) (Nat.le_succ _) _
  case done =>
    rintro D ys W hD rfl ⟨⟨⟨hbx, hm⟩, hrl⟩, hB⟩ hKD
    have cS := hbx.cell
    rw [cornL_all Z lv hC1 _ (by omega)] at cS
    have HB := Lib.hid hB
    have HKD := Lib.hid hKD
    clear hbx hm hrl hB hKD
    gi_wp2
    refine ⟨by simp, .inl ⟨_, _, rfl, run_takeDeferred HKD.out, ?_⟩⟩
    exact ⟨_, results_tmp rfl _ _ _, rfl, HB.out.trans (belowK_b (w := w) (Nat.le_refl _) W D _ _ (by omega) HKD.out rfl rfl)⟩
  case stop =>
    rintro D c pre W _ _ h _
    exact h.elim

set_option maxHeartbeats 2000000 in
set_option maxRecDepth 100000 in
theorem implLevelCorners_any (v : Value) (lo hi : Nat) (g : G) (lv : Int) (w : World) (hv : RdM lo hi w v g) (hh : hi ≤ w.heap.size) :
    Calls Try.prog 34 #[v, .int .i64 lv] w (IntPost (g.cnV lv) w) := by
  by_cases h : g.LvOk lv
  case neg =>
    have HC := Lib.hid (layerOf_no v lo hi g lv w hv hh h)
    have HA := Lib.hid (G.cnV_no h)
    clear hv h
    go_enter Try.func34, Try.ntmps34
    go_wp2_with fail
    refine HC.out.mono ?_
    rintro e w1 ⟨rfl, hb1⟩
    have HB1 := Lib.hid (hb1.alloc hb1.size (.cells #[.int .i64 0, .int .i64 0, .slice none 0 0, .int .i64 0] 48))
    clear hb1
    go_wp2
    go_ret
    exact ⟨ret_int HA.out.symm, HB1.out⟩
  case pos =>
    have HC := Lib.hid (layerOf_yes v lo hi g lv w hv hh h)
    have HA := Lib.hid (G.cnV_yes h)
    have h49 := mul_le_49 h.1.1.2 h.1.2.1.2
    have h71 := h.1.1.2
    have h72 := h.1.2.1.2
    have h61 := h.1.1.1
    have h62 := h.1.2.1.1
    clear hv h
    go_enter Try.func34, Try.ntmps34
    go_wp2_with fail
    refine HC.out.mono ?_
    rintro e w1 ⟨n, gg, cap, rfl, hrv, hb1⟩
    have HN := Lib.hid hrv.n_eq
    have hn49 : n ≤ 49 := by rw [hrv.n_eq]; exact h49
    have HB1 := Lib.hid (hb1.alloc hb1.size (.cells #[.int .i64 g.n, .int .i64 (g.len 0), .slice (some ⟨gg, 0, none⟩) n cap, .int .i64 lv] 48))
    have HL := Lib.hid (cornerCount_any g.n (g.len 0) gg cap n h61 h62 h71 h72 g.flat lv _ (hrv.keep ((Below.refl w1.heap.size w1).alloc (Nat.le_refl _) (.cells #[.int .i64 g.n, .int .i64 (g.len 0), .slice (some ⟨gg, 0, none⟩) n cap, .int .i64 lv] 48)) (Nat.le_refl _)))
    clear hrv hb1
    go_wp2_with fail
    refine HL.out.mono ?_
    rintro e w3 ⟨rfl, hb3⟩
    have HB3 := Lib.hid (HB1.out.trans (hb3.mono HB1.out.size))
    clear hb3
    go_wp2
    go_ret
    exact ⟨ret_int (by rw [HA.out]), HB3.out⟩


end Go.Proofs.Ytmhcpjekpkdaeaa
