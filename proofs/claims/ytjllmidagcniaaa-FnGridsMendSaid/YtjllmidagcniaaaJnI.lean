/- Two grids joined along their common side: the program. -/
import Derived.Test.YtjllmidagcniaaaJnM
import Derived.Test.YtjllmidagcniaaaImplJ
import Derived.Test.YtjllmidagcniaaaImplI
namespace Go.Proofs.Ytjllmidagcniaaa
open Go.RowKit
set_option linter.unusedVariables false

/-- the flat numbers of what lies behind the first column, beside another grid -/
theorem join_flat {a b : G} {C2 r c : Nat} (hC : C2 + 1 = b.len 0) (hc : c < a.len 0 + C2) :
    bsZ (a.len 0) C2 a.flat (fun i => b.flat ((0 + i / C2) * b.len 0 + (1 + i % C2))) (r * (a.len 0 + C2) + c) = (joinG a b).z r c := by
  rw [bsZ_at hc]
  simp only [joinG]
  by_cases h : c < a.len 0
  · rw [if_pos h, if_pos h, a.flat_at r c h]
  · rw [if_neg h, if_neg h]
    have h2 : c - a.len 0 < C2 := by omega
    have hd := div_at r (c - a.len 0) C2 h2
    simp only [hd.1, hd.2, Nat.zero_add]
    rw [show 1 + (c - a.len 0) = c - a.len 0 + 1 by omega]
    exact b.flat_at r _ (by omega)

def JgPost (a b : G) (w : World) (e : Ending) (w' : World) : Prop := (JoinOk a b → GPost true (joinG a b) w e w') ∧ (¬ JoinOk a b → GPost false G0 w e w')

set_option maxHeartbeats 8000000 in
set_option maxRecDepth 20000 in
theorem implGridsJoin_any (v u : Value) (lo hi : Nat) (a b : G) (w : World) (hv : RdM lo hi w v a) (hu : RdM lo hi w u b) (hh : hi ≤ w.heap.size) :
    Calls Try.prog 20 #[v, u] w (JgPost a b w) := by
  have HC := Lib.hid (reliefsBeside_any v u lo hi a b w hv hu hh)
  clear hv hu
  go_enter Try.func20, Try.ntmps20
  go_wp2_with fail
  refine HC.out.mono ?_
  rintro e w1 ⟨X1, Y1, A1, n1, c1, X2, Y2, A2, n2, c2, rfl, hb1, hy⟩
  by_cases h : RwOk a b
  case neg =>
    have HF := Lib.hid (rwB_no h)
    have HNO := Lib.hid (show ¬ JoinOk a b from fun g => h (agB_ok g.1))
    have HB := Lib.hid (show Below w.heap.size w ((w1.alloc (.cells #[.int .i64 X1, .int .i64 Y1, .slice A1 n1 c1] 58)).alloc (.cells #[.int .i64 X2, .int .i64 Y2, .slice A2 n2 c2] 58)) from (hb1.alloc hb1.size _).alloc (by have := hb1.size; simp; omega) _)
    rw [HF.out]
    clear hy h hb1
    go_wp2
    go_ret2
    exact ⟨fun h => absurd h HNO.out, fun _ => ⟨_, rfl, ⟨_, _, _, rfl⟩, OwM.none _ _ _, HB.out⟩⟩
  case pos =>
    obtain ⟨g1, N1, F1, g2, N2, F2, ⟨rfl, rfl, rfl, e4, e5, e6, e7, e8, e9⟩, rfl, rfl, rfl, d4, d5, d6, d7, d8, d9⟩ := hy h
    have HF := Lib.hid (rwB_yes h)
    have HG := Lib.hid (gapV_yes h)
    have hb2 : Below w1.heap.size w1 ((w1.alloc (.cells #[.int .i64 a.n, .int .i64 (a.len 0), .slice (some ⟨g1, 0, none⟩) n1 c1] 58)).alloc (.cells #[.int .i64 b.n, .int .i64 (b.len 0), .slice (some ⟨g2, 0, none⟩) n2 c2] 58)) := ((Below.refl _ _).alloc (Nat.le_refl _) _).alloc (by simp) _
    have HB := Lib.hid (hb1.trans (hb2.mono hb1.size))
    have R1 : Rr w1 a.n (a.len 0) n1 g1 c1 a.flat N1 F1 := ⟨e4, e5, e7, e8, e9⟩
    have R2 : Rr w1 b.n (b.len 0) n2 g2 c2 b.flat N2 F2 := ⟨d4, d5, d7, d8, d9⟩
    have V1 := (R1.below hb2 (Nat.le_refl _)).rv
    have V2 := (R2.below hb2 (Nat.le_refl _)).rv
    have L1 := heap_alloc2_old w1 (.cells #[.int .i64 a.n, .int .i64 (a.len 0), .slice (some ⟨g1, 0, none⟩) n1 c1] 58) (.cells #[.int .i64 b.n, .int .i64 (b.len 0), .slice (some ⟨g2, 0, none⟩) n2 c2] 58)
    have L2 := heap_alloc2_new w1 (.cells #[.int .i64 a.n, .int .i64 (a.len 0), .slice (some ⟨g1, 0, none⟩) n1 c1] 58) (.cells #[.int .i64 b.n, .int .i64 (b.len 0), .slice (some ⟨g2, 0, none⟩) n2 c2] 58)
    obtain ⟨k0, k1, k2, _, _, _⟩ := cells3 L1
    obtain ⟨l0, l1, l2, _, _, _⟩ := cells3 L2
    have HGP := Lib.hid (gap_any a b n1 g1 c1 n2 g2 c2 _ h V1 V2)
    have HH := Lib.hid h
    have hgs := gapS_ok h a.n (Nat.le_refl _)
    have HL1 := Lib.hid L1
    have HL2 := Lib.hid L2
    have HV1 := Lib.hid V1
    have HV2 := Lib.hid V2
    rw [HF.out]
    clear hy h hb1 hb2 R1 R2 e4 e5 e6 e7 e8 e9 d4 d5 d6 d7 d8 d9 L1 L2 V1 V2
    by_cases h0 : gapS a b a.n = 0
    case neg =>
      have hx : (gapS a b a.n != 0) = true := by simp [h0]
      have HNO := Lib.hid (show ¬ JoinOk a b from fun g => by have g1 := g.1; simp [agB, HG.out, h0] at g1)
      clear h0
      go_wp2_with fail
      refine HGP.out.mono ?_
      rintro e w2 ⟨rfl, hb2⟩
      have HB2 := Lib.hid (HB.out.trans (hb2.mono HB.out.size))
      clear hb2 hgs
      go_wp2
      go_ret2
      exact ⟨fun h => absurd h HNO.out, fun _ => ⟨_, rfl, ⟨_, _, _, rfl⟩, OwM.none _ _ _, HB2.out⟩⟩
    case pos =>
      have hx : (gapS a b a.n != 0) = false := by rw [h0]; rfl
      have HA := Lib.hid (show agB a b = true by simp [agB, HG.out, h0])
      clear h0
      generalize hW0 : (w1.alloc (.cells #[.int .i64 a.n, .int .i64 (a.len 0), .slice (some ⟨g1, 0, none⟩) n1 c1] 58)).alloc (.cells #[.int .i64 b.n, .int .i64 (b.len 0), .slice (some ⟨g2, 0, none⟩) n2 c2] 58) = W0 at HGP HL1 HL2 HV1 HV2 HB k0 k1 k2 l0 l1 l2
      have HW0 := Lib.hid hW0
      have hz0 : w1.heap.size + 2 = W0.heap.size := by rw [← hW0]; simp
      clear hW0
      go_wp2_with fail
      rw [HW0.out]
      refine HGP.out.mono ?_
      rintro e w2 ⟨rfl, hb2⟩
      have HB2 := Lib.hid (HB.out.trans (hb2.mono HB.out.size))
      have M1 := (hb2.block w1.heap.size (by omega)).trans HL1.out
      have M2 := (hb2.block (w1.heap.size + 1) (by omega)).trans HL2.out
      obtain ⟨p0, p1, p2, _, _, _⟩ := cells3 M1
      obtain ⟨q0, q1, q2, _, _, _⟩ := cells3 M2
      have lt2 := lt_of_block M2
      have HE := Lib.hid (show (∀ W : World, Below w2.heap.size w2 W → W.cell? ⟨w1.heap.size, 0, none⟩ = some (.int .i64 a.n) ∧ W.cell? ⟨w1.heap.size, 1, none⟩ = some (.int .i64 (a.len 0)) ∧ W.cell? ⟨w1.heap.size, 2, none⟩ = some (.slice (some ⟨g1, 0, none⟩) n1 c1) ∧ W.cell? ⟨w1.heap.size + 1, 0, none⟩ = some (.int .i64 b.n) ∧ W.cell? ⟨w1.heap.size + 1, 1, none⟩ = some (.int .i64 (b.len 0)) ∧ W.cell? ⟨w1.heap.size + 1, 2, none⟩ = some (.slice (some ⟨g2, 0, none⟩) n2 c2)) from fun W hW => by
        obtain ⟨x0, x1, x2, _, _, _⟩ := cells3 (cells3_of M1 hW (by omega))
        obtain ⟨y0, y1, y2, _, _, _⟩ := cells3 (cells3_of M2 hW (by omega))
        exact ⟨x0, x1, x2, y0, y1, y2⟩)
      have W1 := Lib.hid (HV1.out.keep hb2 (Nat.le_refl _))
      have W2 := Lib.hid (HV2.out.keep hb2 (Nat.le_refl _))
      obtain ⟨C2, hC2⟩ : ∃ C2, C2 + 1 = b.len 0 := ⟨b.len 0 - 1, by have := HH.out.2.1.2.1.1; omega⟩
      have HC2 := Lib.hid hC2
      have hb7 := HH.out.2.1.2.1.2
      have hsl : IntKind.i64.wrap ((b.len 0 : Int) - 1) = (C2 : Int) := by rw [IntWalk.i64_in _ (by omega)]; omega
      have HPT := Lib.hid (fun (W : World) (hW : Below w2.heap.size w2 W) => show Calls Try.prog 61 #[.agg #[.int .i64 b.n, .int .i64 (b.len 0), .slice (some ⟨g2, 0, none⟩) n2 c2], .int .i64 0, .int .i64 1, .int .i64 b.n, .int .i64 C2] W (MPost b.n C2 (fun i => b.flat ((0 + i / C2) * b.len 0 + (1 + i % C2))) W) from part_any b.n (b.len 0) n2 g2 c2 0 1 b.n C2 b.flat W (W2.out.keep hW (Nat.le_refl _)) HH.out.2.1.1.2 HH.out.2.1.2.1.2 (by omega) (by omega))
      have HBS := Lib.hid (fun (n3 g3 c3 : Nat) (W : World) (hW : Below w2.heap.size w2 W) (h3 : Rv W b.n C2 n3 g3 c3 (fun i => b.flat ((0 + i / C2) * b.len 0 + (1 + i % C2)))) => beside_two a.n b.n (a.len 0) n1 g1 c1 C2 n3 g3 c3 a.flat _ W HH.out.2.2 (W1.out.keep hW (Nat.le_refl _)) h3 HH.out.1.1.2 HH.out.1.2.1.2 (by omega))
      clear hb2 hgs k0 k1 k2 l0 l1 l2 M1 M2 hC2
      by_cases hl : a.len 0 + (b.len 0 - 1) ≤ 7
      · have HGR := Lib.hid (fun (n4 g4 c4 : Nat) (W : World) (h4 : Rv W a.n (a.len 0 + C2) n4 g4 c4 (bsZ (a.len 0) C2 a.flat (fun i => b.flat ((0 + i / C2) * b.len 0 + (1 + i % C2))))) => grid_yes a.n (a.len 0 + C2) n4 g4 c4 _ W h4 (relOk_of h4.n_eq HH.out.1.1 (by have := HH.out.1.2.1; have := HC2.out; omega) (fun r hr c hc => by
          rw [join_flat HC2.out hc]
          have hv := (join_valid HH.out).2 hl
          exact (hv.2.2 r hr).2 c (by show c < a.len 0 + (b.len 0 - 1); have := HC2.out; omega))))
        have HOK := Lib.hid (show JoinOk a b from ⟨HA.out, hl⟩)
        clear hl
        go_wp2_with fail
        go_region_held3 (fun w' => w'.cell? ⟨w1.heap.size, 0, none⟩ = some (.int .i64 a.n) ∧ w'.cell? ⟨w1.heap.size, 1, none⟩ = some (.int .i64 (a.len 0)) ∧ w'.cell? ⟨w1.heap.size, 2, none⟩ = some (.slice (some ⟨g1, 0, none⟩) n1 c1) ∧ w'.cell? ⟨w1.heap.size + 1, 0, none⟩ = some (.int .i64 b.n) ∧ w'.cell? ⟨w1.heap.size + 1, 1, none⟩ = some (.int .i64 (b.len 0)) ∧ w'.cell? ⟨w1.heap.size + 1, 2, none⟩ = some (.slice (some ⟨g2, 0, none⟩) n2 c2))
          (first | exact s3.out | exact s2.out | exact s1.out | go_keep)
          (first
            | (go_at_call 61; (with_reducible refine (HPT.out w2.drew (Below.refl w2.heap.size w2).drew).mono ?_); rintro e w3 ⟨n3, g3, c3, rfl, h3, hb3⟩; have Y1 := Lib.hid (show Below w2.heap.size w2 w3 from hb3.undrew); have s1 := Lib.hid (HE.out w3 Y1.out); have H3 := Lib.hid h3; clear hb3 h3)
            | (go_at_call 60; (with_reducible refine (HBS.out n3 g3 c3 _ Y1.out H3.out).mono ?_); rintro e w4 ⟨n4, g4, c4, rfl, h4, hb4⟩; have Y2 := Lib.hid (Y1.out.trans (hb4.mono Y1.out.size)); have s2 := Lib.hid (HE.out w4 Y2.out); have H4 := Lib.hid h4; clear hb4 h4)
            | (go_at_call 59; refine (HGR.out n4 g4 c4 _ H4.out).mono ?_; rintro e w5 ⟨v5, rfl, ⟨aa, ll, cc, rfl⟩, ho, hb5⟩; have Y3 := Lib.hid (Y2.out.trans (hb5.mono Y2.out.size)); have s3 := Lib.hid (HE.out w5 Y3.out); have HO := Lib.hid ho; have HB5 := Lib.hid hb5; clear hb5 ho))
        have HP : Hid (GPost true (joinG a b) w (.returned (.tuple #[.slice aa ll cc, .bool true])) w5) := GPost.up ⟨_, rfl, ⟨_, _, _, rfl⟩, HO.out, HB5.out⟩ (HB2.out.trans (Y2.out.mono HB2.out.size)) ⟨rfl, fun r hr => ⟨by show a.len 0 + C2 = a.len 0 + (b.len 0 - 1); have := HC2.out; omega, fun c hc => join_flat HC2.out hc⟩⟩
        clear p0 p1 p2 q0 q1 q2 hsl
        go_wp2
        go_ret2
        exact ⟨fun _ => HP.out, fun h => absurd HOK.out h⟩
      · have HGR := Lib.hid (fun (n4 g4 c4 : Nat) (W : World) (h4 : Rv W a.n (a.len 0 + C2) n4 g4 c4 (bsZ (a.len 0) C2 a.flat (fun i => b.flat ((0 + i / C2) * b.len 0 + (1 + i % C2))))) => grid_no a.n (a.len 0 + C2) n4 g4 c4 _ W h4 (fun hok => hl (by have := hok.2.1.2; have := HC2.out; omega)) (by
          rw [h4.n_eq]
          have h1 := HH.out.1.1.2; have h2 := HH.out.1.2.1.2
          have := Nat.mul_le_mul h1 (show a.len 0 + C2 ≤ 14 by have := HC2.out; omega)
          omega) (by have := HH.out.1.1; omega) (by have := HH.out.1.2.1; have := HC2.out; omega))
        have HOK := Lib.hid (show ¬ JoinOk a b from fun g => hl g.2)
        clear hl
        go_wp2_with fail
        go_region_held3 (fun w' => w'.cell? ⟨w1.heap.size, 0, none⟩ = some (.int .i64 a.n) ∧ w'.cell? ⟨w1.heap.size, 1, none⟩ = some (.int .i64 (a.len 0)) ∧ w'.cell? ⟨w1.heap.size, 2, none⟩ = some (.slice (some ⟨g1, 0, none⟩) n1 c1) ∧ w'.cell? ⟨w1.heap.size + 1, 0, none⟩ = some (.int .i64 b.n) ∧ w'.cell? ⟨w1.heap.size + 1, 1, none⟩ = some (.int .i64 (b.len 0)) ∧ w'.cell? ⟨w1.heap.size + 1, 2, none⟩ = some (.slice (some ⟨g2, 0, none⟩) n2 c2))
          (first | exact s3.out | exact s2.out | exact s1.out | go_keep)
          (first
            | (go_at_call 61; (with_reducible refine (HPT.out w2.drew (Below.refl w2.heap.size w2).drew).mono ?_); rintro e w3 ⟨n3, g3, c3, rfl, h3, hb3⟩; have Y1 := Lib.hid (show Below w2.heap.size w2 w3 from hb3.undrew); have s1 := Lib.hid (HE.out w3 Y1.out); have H3 := Lib.hid h3; clear hb3 h3)
            | (go_at_call 60; (with_reducible refine (HBS.out n3 g3 c3 _ Y1.out H3.out).mono ?_); rintro e w4 ⟨n4, g4, c4, rfl, h4, hb4⟩; have Y2 := Lib.hid (Y1.out.trans (hb4.mono Y1.out.size)); have s2 := Lib.hid (HE.out w4 Y2.out); have H4 := Lib.hid h4; clear hb4 h4)
            | (go_at_call 59; refine (HGR.out n4 g4 c4 _ H4.out).mono ?_; rintro e w5 ⟨v5, rfl, ⟨aa, ll, cc, rfl⟩, ho, hb5⟩; have Y3 := Lib.hid (Y2.out.trans (hb5.mono Y2.out.size)); have s3 := Lib.hid (HE.out w5 Y3.out); have HO := Lib.hid ho; have HB5 := Lib.hid hb5; clear hb5 ho))
        have HP : Hid (GPost false G0 w (.returned (.tuple #[.slice aa ll cc, .bool false])) w5) := GPost.up ⟨_, rfl, ⟨_, _, _, rfl⟩, HO.out, HB5.out⟩ (HB2.out.trans (Y2.out.mono HB2.out.size)) (G.Eqv.refl _)
        clear p0 p1 p2 q0 q1 q2 hsl
        go_wp2
        go_ret2
        exact ⟨fun h => absurd h HOK.out, fun _ => HP.out⟩

end Go.Proofs.Ytjllmidagcniaaa
