/- LevelInside in the program. -/
import Derived.Test.YtplfphpnpjjinaaRegN
namespace Go.Proofs.Ytplfphpnpjjinaa
open Go.RowKit
set_option linter.unusedVariables false

/-- the row of numbers around when k cells are done -/
noncomputable def insF (R C : Nat) (Z : Nat → Int) (hv lv : Int) (k j : Nat) : Value := open Classical in if ∃ x, x < k ∧ numZ R C Z hv x = j then .int .i64 (inZ R C Z hv lv j) else .int .i64 0
theorem insF_zero {R C : Nat} {Z : Nat → Int} {hv lv : Int} (j : Nat) : insF R C Z hv lv 0 j = .int .i64 0 := by
  unfold insF
  rw [if_neg (fun ⟨x, h, _⟩ => by omega)]
theorem insF_hit {R C : Nat} {Z : Nat → Int} {hv lv : Int} {k m : Nat} (h : numZ R C Z hv k = m) (j : Nat) : (if j = m then Value.int .i64 (inZ R C Z hv lv m) else insF R C Z hv lv k j) = insF R C Z hv lv (k + 1) j := by
  by_cases e : j = m
  · subst e
    rw [if_pos rfl]
    unfold insF
    rw [if_pos ⟨k, by omega, h⟩]
  · rw [if_neg e]
    unfold insF
    by_cases h2 : ∃ x, x < k ∧ numZ R C Z hv x = j
    · obtain ⟨x, h3, h4⟩ := h2
      rw [if_pos ⟨x, h3, h4⟩, if_pos ⟨x, by omega, h4⟩]
    · rw [if_neg h2, if_neg]
      rintro ⟨x, h3, h4⟩
      by_cases ek : x = k
      · subst ek; omega
      · exact h2 ⟨x, by omega, h4⟩
theorem insF_skip {R C : Nat} {Z : Nat → Int} {hv lv : Int} {k : Nat} (h : numZ R C Z hv k < 0) (j : Nat) : insF R C Z hv lv k j = insF R C Z hv lv (k + 1) j := by
  unfold insF
  by_cases h2 : ∃ x, x < k ∧ numZ R C Z hv x = j
  · obtain ⟨x, h3, h4⟩ := h2
    rw [if_pos ⟨x, h3, h4⟩, if_pos ⟨x, by omega, h4⟩]
  · rw [if_neg h2, if_neg]
    rintro ⟨x, h3, h4⟩
    by_cases ek : x = k
    · subst ek; omega
    · exact h2 ⟨x, by omega, h4⟩
theorem insF_end {R C : Nat} {Z : Nat → Int} {hv lv : Int} (hl : lv ≤ hv) {j : Nat} (hj : j < rgN R C Z hv (R * C)) : insF R C Z hv lv (R * C) j = .int .i64 (inZ R C Z hv lv j) := by
  obtain ⟨x, h1, h2⟩ := inZ_ex (lv := lv) hl hj
  unfold insF
  rw [if_pos ⟨x, h1, h2⟩]

/-- what a layer leaves, whether it is one or not -/
def LySome (b : Bool) (w : World) (e : Ending) (w' : World) : Prop :=
  ∃ (x y z : Int) (p : Option Addr) (n c : Nat), e = .returned (.tuple #[.agg #[.int .i64 x, .int .i64 y, .slice p n c, .int .i64 z], .bool b]) ∧ Below w.heap.size w w'
theorem layerOf_some (v : Value) (lo hi : Nat) (g : G) (lv : Int) (w : World) (hv : RdM lo hi w v g) (hh : hi ≤ w.heap.size) :
    Calls Try.prog 52 #[v, .int .i64 lv] w (LySome (g.lvB lv) w) := by
  by_cases h : g.LvOk lv
  · rw [G.lvB_yes h]
    refine (layerOf_yes v lo hi g lv w hv hh h).mono ?_
    rintro e w1 ⟨n, gg, cap, rfl, hrv, hb1⟩
    exact ⟨_, _, _, _, _, _, rfl, hb1⟩
  · rw [G.lvB_no h]
    refine (layerOf_no v lo hi g lv w hv hh h).mono ?_
    rintro e w1 ⟨rfl, hb1⟩
    exact ⟨_, _, _, _, _, _, rfl, hb1⟩

set_option maxHeartbeats 20000000 in
set_option maxRecDepth 100000 in
theorem implLevelInside_no (v : Value) (lo hi : Nat) (g : G) (hv lv : Int) (w : World) (hr : RdM lo hi w v g) (hh : hi ≤ w.heap.size) (h : ¬ g.InOk hv lv) :
    Calls Try.prog 28 #[v, .int .i64 hv, .int .i64 lv] w (LgPost false 0 (inZ g.n (g.len 0) g.flat hv lv) w) := by
  have HC1 := Lib.hid (layerOf_some v lo hi g hv w hr hh)
  have HC2 := Lib.hid (fun (W : World) (hb : Below w.heap.size w W) => layerOf_some v lo hi g lv W (hr.same (SameIn.below hb hh)) (Nat.le_trans hh hb.size))
  have HK := Lib.hid (show g.lvB hv = true → g.lvB lv = true → hv ≤ lv from fun h1 h2 => by
    rcases Int.lt_or_le lv hv with h3 | h3
    · refine absurd ⟨?_, ?_, h3⟩ h
      · simpa [G.lvB] using h1
      · simpa [G.lvB] using h2
    · exact h3)
  generalize g.lvB hv = b1 at HC1 HK
  generalize g.lvB lv = b2 at HC2 HK
  clear hr h
  go_enter Try.func28, Try.ntmps28
  go_wp2_with fail
  refine HC1.out.mono ?_
  rintro e w1 ⟨x1, y1, z1, p1, n1, c1, rfl, hb1⟩
  have HB1 := Lib.hid (hb1.alloc hb1.size (.cells #[.int .i64 x1, .int .i64 y1, .slice p1 n1 c1, .int .i64 z1] 54))
  clear hb1
  go_wp2_with fail
  refine (HC2.out _ HB1.out).mono ?_
  rintro e w2 ⟨x2, y2, z2, p2, n2, c2, rfl, hb2⟩
  have HB2 := Lib.hid ((HB1.out.trans (hb2.mono HB1.out.size)).alloc (Nat.le_trans HB1.out.size hb2.size) (.cells #[.int .i64 x2, .int .i64 y2, .slice p2 n2 c2, .int .i64 z2] 54))
  clear hb2
  cases b1
  · cases b2
    · go_wp2
      go_ret2
      exact ⟨_, rfl, ⟨_, _, _, rfl⟩, OwI.none _ _ _ _, HB2.out⟩
    · go_wp2
      go_ret2
      exact ⟨_, rfl, ⟨_, _, _, rfl⟩, OwI.none _ _ _ _, HB2.out⟩
  · cases b2
    · go_wp2
      go_ret2
      exact ⟨_, rfl, ⟨_, _, _, rfl⟩, OwI.none _ _ _ _, HB2.out⟩
    · have hle := HK.out rfl rfl
      go_wp2
      go_ret2
      exact ⟨_, rfl, ⟨_, _, _, rfl⟩, OwI.none _ _ _ _, HB2.out⟩

set_option maxHeartbeats 20000000 in
set_option maxRecDepth 100000 in
theorem implLevelInside_yes (v : Value) (lo hi : Nat) (g : G) (hv lv : Int) (w : World) (hr : RdM lo hi w v g) (hh : hi ≤ w.heap.size) (h : g.InOk hv lv) :
    Calls Try.prog 28 #[v, .int .i64 hv, .int .i64 lv] w (LgPost true (rgN g.n (g.len 0) g.flat hv (g.n * g.len 0)) (inZ g.n (g.len 0) g.flat hv lv) w) := by
  have HC1 := Lib.hid (layerOf_yes v lo hi g hv w hr hh h.1)
  have HC2 := Lib.hid (fun (W : World) (hb : Below w.heap.size w W) => layerOf_yes v lo hi g lv W (hr.same (SameIn.below hb hh)) (Nat.le_trans hh hb.size) h.2.1)
  have h71 := h.1.1.1.2
  have h72 := h.1.1.2.1.2
  have h49 := mul_le_49 h71 h72
  have hN0 : 0 < g.n * g.len 0 := Nat.mul_pos h.1.1.1.1 h.1.1.2.1.1
  have hlt3 := h.2.2
  have hrl := rgN_le g.n (g.len 0) g.flat hv (g.n * g.len 0)
  have HI := Lib.hid (fun (x k : Nat) (hx : x < g.n * g.len 0) (e : numZ g.n (g.len 0) g.flat hv x = k) => inZ_at (R := g.n) (C := g.len 0) (Z := g.flat) (hv := hv) (lv := lv) (by omega) hx e)
  have HE := Lib.hid (fun (j : Nat) (hj : j < rgN g.n (g.len 0) g.flat hv (g.n * g.len 0)) => insF_end (R := g.n) (C := g.len 0) (Z := g.flat) (hv := hv) (lv := lv) (by omega) hj)
  have HRG := Lib.hid (fun k => inZ_range (R := g.n) (C := g.len 0) (Z := g.flat) (hv := hv) (lv := lv) (by omega) k)
  have HNL := Lib.hid (fun (x : Nat) (hx : x < g.n * g.len 0) (h0 : 0 ≤ numZ g.n (g.len 0) g.flat hv x) => show numZ g.n (g.len 0) g.flat hv x < rgN g.n (g.len 0) g.flat hv (g.n * g.len 0) from by
    by_cases hl : hv ≤ g.flat x
    · exact numZ_lt hl (by have := cmZ_le g.n (g.len 0) g.flat hv x; omega)
    · rw [numZ_no hl] at h0; omega)
  obtain ⟨N, eN⟩ : ∃ N, g.n * g.len 0 = N := ⟨_, rfl⟩
  have EN := Lib.hid eN
  rw [eN] at HI HE HNL hN0 hrl h49 ⊢
  obtain ⟨rg, erg⟩ : ∃ rg, rgN g.n (g.len 0) g.flat hv N = rg := ⟨_, rfl⟩
  have ERG := Lib.hid erg
  rw [erg] at HE HNL hrl ⊢
  clear hr h eN erg
  go_enter Try.func28, Try.ntmps28
  go_wp2_with fail
  refine HC1.out.mono ?_
  rintro e w1 ⟨m1, g1, p1, rfl, hv1, hb1⟩
  obtain rfl : m1 = N := by rw [hv1.n_eq, EN.out]
  have HB1 := Lib.hid (hb1.alloc hb1.size (.cells #[.int .i64 g.n, .int .i64 (g.len 0), .slice (some ⟨g1, 0, none⟩) m1 p1, .int .i64 hv] 54))
  have HX1 := Lib.hid (heap_alloc_new w1 (.cells #[.int .i64 g.n, .int .i64 (g.len 0), .slice (some ⟨g1, 0, none⟩) m1 p1, .int .i64 hv] 54))
  have HA1 := Lib.hid ((Below.refl w1.heap.size w1).alloc (Nat.le_refl _) (.cells #[.int .i64 g.n, .int .i64 (g.len 0), .slice (some ⟨g1, 0, none⟩) m1 p1, .int .i64 hv] 54))
  have HV1 := Lib.hid hv1
  clear hb1 hv1
  go_wp2_with fail
  refine (HC2.out _ HB1.out).mono ?_
  rintro e w2 ⟨m2, g2, p2, rfl, hv2, hb2⟩
  obtain rfl : m2 = m1 := by rw [hv2.n_eq, EN.out]
  have hs2 : w1.heap.size + 1 ≤ w2.heap.size := by have := hb2.size; simpa using this
  have HB2 := Lib.hid ((HB1.out.trans (hb2.mono HB1.out.size)).alloc (Nat.le_trans HB1.out.size hb2.size) (.cells #[.int .i64 g.n, .int .i64 (g.len 0), .slice (some ⟨g2, 0, none⟩) m2 p2, .int .i64 lv] 54))
  have hA2 := (HA1.out.trans (hb2.mono HA1.out.size)).alloc (Nat.le_trans HA1.out.size hb2.size) (.cells #[.int .i64 g.n, .int .i64 (g.len 0), .slice (some ⟨g2, 0, none⟩) m2 p2, .int .i64 lv] 54)
  have HL1 := Lib.hid (numI_nm g.n (g.len 0) g1 p1 m2 h71 h72 g.flat hv _ (HV1.out.keep hA2 (Nat.le_refl _)))
  have hx1 : (w2.alloc (.cells #[.int .i64 g.n, .int .i64 (g.len 0), .slice (some ⟨g2, 0, none⟩) m2 p2, .int .i64 lv] 54)).heap[w1.heap.size]? = some (.cells #[.int .i64 g.n, .int .i64 (g.len 0), .slice (some ⟨g1, 0, none⟩) m2 p1, .int .i64 hv] 54 (0, 0)) :=
    (Below.heap_alloc w2 _ _ (by omega)).trans ((hb2.block w1.heap.size (by simp)).trans HX1.out)
  have HX2 := Lib.hid (heap_alloc_new w2 (.cells #[.int .i64 g.n, .int .i64 (g.len 0), .slice (some ⟨g2, 0, none⟩) m2 p2, .int .i64 lv] 54))
  have HV2 := Lib.hid hv2
  have HA2' := Lib.hid ((Below.refl w2.heap.size w2).alloc (Nat.le_refl _) (.cells #[.int .i64 g.n, .int .i64 (g.len 0), .slice (some ⟨g2, 0, none⟩) m2 p2, .int .i64 lv] 54))
  obtain ⟨a0, a1, a2, a3⟩ := cells4 hx1
  clear hb2 hv2 hA2 hx1
  go_wp2_with fail
  refine HL1.out.mono ?_
  rintro e w3 ⟨q1, rfl, ⟨l1, c1, rfl⟩, ho1, hb3⟩
  rw [ERG.out]
  have hs3 : w2.heap.size + 1 ≤ w3.heap.size := by have := hb3.size; simpa using this
  have HB3 := Lib.hid (HB2.out.trans (hb3.mono HB2.out.size))
  have hx2 := (hb3.block w2.heap.size (by simp)).trans HX2.out
  have HL2 := Lib.hid (numI_nm g.n (g.len 0) g2 p2 m2 h71 h72 g.flat lv _ (HV2.out.keep (HA2'.out.trans (hb3.mono HA2'.out.size)) (Nat.le_refl _)))
  have HO1 := Lib.hid (show RdI (w.heap.size + 1) w3.heap.size w3 (.slice l1 m2 c1) m2 (numZ g.n (g.len 0) g.flat hv) from ho1.rd.mono (by have := HB1.out.size; simp at this ⊢; omega) (Nat.le_refl _))
  clear a0 a1 a2 a3
  obtain ⟨a0, a1, a2, a3⟩ := cells4 hx2
  clear hb3 ho1 hx2 HL1
  go_wp2_with fail
  refine HL2.out.mono ?_
  rintro e w4 ⟨q2, rfl, ⟨l2, c2, rfl⟩, ho2, hb4⟩
  have hs4 := hb4.size
  have HB4 := Lib.hid (HB3.out.trans (hb4.mono HB3.out.size))
  obtain ⟨ao1, cp1, b1, off1, e1, i2, i3, i4, i5, i6⟩ := (HO1.out.same (SameIn.below hb4 (Nat.le_refl _))).mono (Nat.le_refl _) hs4
  simp only [Value.slice.injEq] at e1
  obtain ⟨rfl, _, rfl⟩ := e1
  obtain ⟨rfl, hb11, hb12⟩ := i5 hN0
  have HC1c := Lib.hid (fun (W : World) (hs : SameIn 0 w4.heap.size w4 W) (i : Nat) (hi : i < m2) => show W.cell? ⟨b1, off1 + i, none⟩ = some (.int .i64 (numZ g.n (g.len 0) g.flat hv i)) from (World.cell?_of_block (a := ⟨b1, off1 + i, none⟩) (hs b1 (Nat.zero_le _) hb12)).trans (i6 i hi))
  clear i4 i5 i6
  obtain ⟨ao2, cp2, b2, off2, e2, j2, j3, j4, j5, j6⟩ := ho2.rd
  simp only [Value.slice.injEq] at e2
  obtain ⟨rfl, _, rfl⟩ := e2
  obtain ⟨rfl, hb21, hb22⟩ := j5 hN0
  have HC2c := Lib.hid (fun (W : World) (hs : SameIn 0 w4.heap.size w4 W) (i : Nat) (hi : i < m2) => show W.cell? ⟨b2, off2 + i, none⟩ = some (.int .i64 (numZ g.n (g.len 0) g.flat lv i)) from (World.cell?_of_block (a := ⟨b2, off2 + i, none⟩) (hs b2 (Nat.zero_le _) hb22)).trans (j6 i hi))
  clear j4 j5 j6
  have hmk := run_make_row' (P := Try.prog) 33 3 (.int .i64 0) 8 Try.underlying33 Try.infoI rfl .i64 .i64 rg (by omega) (by omega)
  clear hb4 ho2 HL2 a0 a1 a2 a3
  go_wp2
  have e1 : (w4.alloc (.cells (madeCells #[.int .i64 0] rg) 3)).heap.size = w4.heap.size + 1 := by simp
  have kr := (World.rowIs_made w4 (.int .i64 0) rg 3).congr (g := insF g.n (g.len 0) g.flat hv lv 0) (fun j _ => (insF_zero j).symm)
  have kb : Below w4.heap.size w4 (w4.alloc (.cells (madeCells #[.int .i64 0] rg) 3)) := (Below.refl _ _).alloc (Nat.le_refl _) _
  generalize hW : w4.alloc (.cells (madeCells #[.int .i64 0] rg) 3) = V at e1 kr kb ⊢
  clear hW hmk
  have KR := Lib.hid kr
  have KB := Lib.hid kb
  clear kr kb
  go_loopw [56] (fun i wr => ∃ k : Nat, k ≤ m2 ∧ i = .int .i64 k ∧ wr.rowIs w4.heap.size 3 rg (insF g.n (g.len 0) g.flat hv lv k) ∧ Below w4.heap.size w4 wr) (fun i _ => m2 - (intOf i).toNat)
  case atStart => exact ⟨0, Nat.zero_le _, rfl, KR.out, KB.out⟩
  case round =>
    obtain ⟨k, hk, rfl, hrow, hb⟩ := hrel
    have HROW := Lib.hid hrow
    have HBK := Lib.hid hb
    by_cases hlt : k < m2
    · have hlt' : (k : Int) < m2 := by omega
      have c1 := HC1c.out wr (fun j _ hj => hb.block j hj) k hlt
      have c2 := HC2c.out wr (fun j _ hj => hb.block j hj) k hlt
      have hzr := numZ_range g.n (g.len 0) g.flat hv (j := k) (by omega)
      by_cases hz : 0 ≤ numZ g.n (g.len 0) g.flat hv k
      · obtain ⟨m, hm⟩ : ∃ m : Nat, numZ g.n (g.len 0) g.flat hv k = m := ⟨(numZ g.n (g.len 0) g.flat hv k).toNat, by omega⟩
        have hmr := HNL.out k hlt hz
        have HQ := Lib.hid (HI.out k m hlt hm)
        have HIT := Lib.hid (fun j => insF_hit (R := g.n) (C := g.len 0) (Z := g.flat) (hv := hv) (lv := lv) hm j)
        rw [hm] at c1 hmr
        rw [← HQ.out] at c2
        have hmr' : m < rg := by omega
        have c3 := hrow.cell hmr'
        have f3 : wr.frozen? ⟨w4.heap.size, m, none⟩ = false := hrow.frozen m
        obtain ⟨y, ey⟩ : ∃ y, inZ g.n (g.len 0) g.flat hv lv m = y := ⟨_, rfl⟩
        obtain ⟨u, eu⟩ : ∃ u, insF g.n (g.len 0) g.flat hv lv k m = u := ⟨_, rfl⟩
        rw [ey] at c2 HIT
        rw [eu] at c3
        have HFIN := Lib.hid (show (wr.setCell ⟨w4.heap.size, m, none⟩ (.int .i64 y)).rowIs w4.heap.size 3 rg (insF g.n (g.len 0) g.flat hv lv (k + 1)) ∧ Below w4.heap.size w4 (wr.setCell ⟨w4.heap.size, m, none⟩ (.int .i64 y)) from
          ⟨(HROW.out.set m (.int .i64 y)).congr (fun j _ => HIT.out j), HBK.out.setCell (p := ⟨w4.heap.size, m, none⟩) (Nat.le_refl _) _⟩)
        have hm0 : (0 : Int) ≤ m := by omega
        clear hrow hb hz hm ey eu hzr
        go_wp2
        go_roundw
        case rel => exact ⟨k + 1, by omega, by go_num, HFIN.out.1, HFIN.out.2⟩
        case measure => simp [intOf]; omega
      · have HSK := Lib.hid (fun j => insF_skip (R := g.n) (C := g.len 0) (Z := g.flat) (hv := hv) (lv := lv) (k := k) (by omega) j)
        obtain ⟨zz, ezz⟩ : ∃ zz, numZ g.n (g.len 0) g.flat hv k = zz := ⟨_, rfl⟩
        rw [ezz] at c1 hz
        have HFIN := Lib.hid (HROW.out.congr (fun j _ => HSK.out j))
        clear hrow hb ezz hzr
        go_wp2
        go_roundw
        case rel => exact ⟨k + 1, by omega, by go_num, HFIN.out, HBK.out⟩
        case measure => simp [intOf]; omega
    · have ek : k = m2 := by omega
      rw [ek] at hrow
      have HFIN := Lib.hid (show OwI w.heap.size wr.heap.size wr (.slice (some ⟨w4.heap.size, 0, none⟩) rg rg) rg (inZ g.n (g.len 0) g.flat hv lv) from
        Or.inr ⟨w4.heap.size, rg, rg, _, rfl, HB4.out.size, hrow.lt, hrow, Nat.le_refl _, Nat.le_refl _, by omega, fun i hi => HE.out i hi, fun i _ => by have := HRG.out i; omega⟩)
      have hge : ¬ (k : Int) < m2 := by omega
      have HBF := Lib.hid (HB4.out.trans (HBK.out.mono HB4.out.size))
      clear hrow hb ek
      go_wp2
      go_ret2
      exact ⟨_, rfl, ⟨_, _, _, rfl⟩, HFIN.out, HBF.out⟩

theorem implLevelInside_any (v : Value) (lo hi : Nat) (g : G) (hv lv : Int) (w : World) (hr : RdM lo hi w v g) (hh : hi ≤ w.heap.size) :
    Calls Try.prog 28 #[v, .int .i64 hv, .int .i64 lv] w (LgPost (g.inB hv lv) (g.inN hv lv) (inZ g.n (g.len 0) g.flat hv lv) w) := by
  by_cases h : g.InOk hv lv
  · rw [G.inB_yes h, G.inN_yes h]; exact implLevelInside_yes v lo hi g hv lv w hr hh h
  · rw [G.inB_no h, G.inN_no h]; exact implLevelInside_no v lo hi g hv lv w hr hh h

end Go.Proofs.Ytplfphpnpjjinaa
