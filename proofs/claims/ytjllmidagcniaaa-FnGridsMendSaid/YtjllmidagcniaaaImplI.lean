/- The program's GridPart. -/
import Derived.Test.YtjllmidagcniaaaImplH
namespace Go.Proofs.Ytjllmidagcniaaa
open Go.RowKit
set_option linter.unusedVariables false

theorem callFunc_part : ∀ (args : Array Value) (W : World), Sem.run Try.prog (callFunc 91 args) W = .ok (.enter 91 args) W := fun _ _ => by kernel_rfl

set_option maxHeartbeats 1000000 in
set_option maxRecDepth 20000 in
theorem clos_part (R C n gg cap B T F r c m : Nat) (Zm : Int) (W : World) (h0 : W.cell? ⟨B, 0, none⟩ = some (.int .i64 R)) (h1 : W.cell? ⟨B, 1, none⟩ = some (.int .i64 C)) (h2 : W.cell? ⟨B, 2, none⟩ = some (.slice (some ⟨gg, 0, none⟩) n cap))
    (h3 : W.cell? ⟨B + 1, 0, none⟩ = some (.int .i64 T)) (h4 : W.cell? ⟨B + 1 + 1, 0, none⟩ = some (.int .i64 F))
    (hr : T + r < R) (hc : F + c < C) (hR : R ≤ 7) (hC : C ≤ 7) (hm : m = (T + r) * C + (F + c)) (hmn : m < n) (hn : n ≤ 49) (hcell : W.cell? ⟨gg, m, none⟩ = some (.int .i64 Zm)) :
    Calls Try.prog 91 #[.int .i64 r, .int .i64 c, .pointer (some ⟨B, 0, none⟩), .pointer (some ⟨B + 1, 0, none⟩), .pointer (some ⟨B + 1 + 1, 0, none⟩)] W (IntPost Zm W) := by
  have hmi : ((T : Int) + r) * (C : Int) + ((F : Int) + c) = (m : Int) := by
    rw [hm, Int.natCast_add, Int.natCast_mul, Int.natCast_add, Int.natCast_add]
  have hp0 : 0 ≤ ((T : Int) + r) * (C : Int) := Int.mul_nonneg (by omega) (by omega)
  have hp1 : ((T : Int) + r) * (C : Int) ≤ 1000 := by omega
  have HA := Lib.hid (at_any R C n gg cap Zm ((T : Int) + r) ((F : Int) + c) m W hmi hp0 hp1 hmn (by omega) hcell)
  clear hcell hmi hm hp0 hp1
  go_enter Try.func91, Try.ntmps91
  go_wp2_with fail
  refine HA.out.mono ?_
  rintro e w2 ⟨rfl, hb⟩
  go_wp2
  go_ret
  exact ⟨rfl, hb⟩

set_option maxHeartbeats 2000000 in
set_option maxRecDepth 20000 in
theorem part_any (R C n gg cap T F R2 C2 : Nat) (Z : Nat → Int) (w : World) (h : Rv w R C n gg cap Z) (hR : R ≤ 7) (hC : C ≤ 7) (hR2 : T + R2 ≤ R) (hC2 : F + C2 ≤ C) :
    Calls Try.prog 61 #[.agg #[.int .i64 R, .int .i64 C, .slice (some ⟨gg, 0, none⟩) n cap], .int .i64 T, .int .i64 F, .int .i64 R2, .int .i64 C2] w (MPost R2 C2 (fun i => Z ((T + i / C2) * C + (F + i % C2))) w) := by
  have hn49 : n ≤ 49 := by rw [h.n_eq]; exact mul_le_49 hR hC
  obtain ⟨W0, hW0⟩ : ∃ W0, W0 = (((w.alloc (.cells #[.int .i64 R, .int .i64 C, .slice (some ⟨gg, 0, none⟩) n cap] 58)).alloc (.cells #[.int .i64 T] 3)).alloc (.cells #[.int .i64 F] 3)).alloc (.cells #[.int .i64 0, .int .i64 0, .slice none 0 0] 58) := ⟨_, rfl⟩
  have hs0 : W0.heap.size = w.heap.size + 4 := by rw [hW0]; simp
  have hb0 : Below w.heap.size w W0 := by rw [hW0]; exact ((((Below.refl _ _).alloc (Nat.le_refl _) _).alloc (by simp) _).alloc (by simp <;> omega) _).alloc (by simp <;> omega) _
  have hbox : W0.heap[w.heap.size]? = some (.cells #[.int .i64 R, .int .i64 C, .slice (some ⟨gg, 0, none⟩) n cap] 58 (0, 0)) := by
    rw [hW0, Below.heap_alloc _ _ _ (by simp <;> omega), Below.heap_alloc _ _ _ (by simp <;> omega)]; exact heap_alloc2_old _ _ _
  have hkb : W0.heap[w.heap.size + 1]? = some (.cells #[.int .i64 T] 3 (0, 0)) := by
    rw [hW0, Below.heap_alloc _ _ _ (by simp <;> omega), Below.heap_alloc _ _ _ (by simp)]; exact heap_alloc2_new _ _ _
  have hkc : W0.heap[w.heap.size + 1 + 1]? = some (.cells #[.int .i64 F] 3 (0, 0)) := by
    rw [hW0, Below.heap_alloc _ _ _ (by simp)]; exact heap_alloc3_new _ _ _ _
  have hres : W0.heap[w.heap.size + 1 + 1 + 1]? = some (.cells #[.int .i64 0, .int .i64 0, .slice none 0 0] 58 (0, 0)) := by
    rw [hW0]
    have := heap_alloc_new (((w.alloc (.cells #[.int .i64 R, .int .i64 C, .slice (some ⟨gg, 0, none⟩) n cap] 58)).alloc (.cells #[.int .i64 T] 3)).alloc (.cells #[.int .i64 F] 3)) (.cells #[.int .i64 0, .int .i64 0, .slice none 0 0] 58)
    simpa using this
  have h0 := h.keep hb0 (Nat.le_refl _)
  have hcon := newRelief_any R2 C2 91 #[.pointer (some ⟨w.heap.size, 0, none⟩), .pointer (some ⟨w.heap.size + 1, 0, none⟩), .pointer (some ⟨w.heap.size + 1 + 1, 0, none⟩)] (fun i => Z ((T + i / C2) * C + (F + i % C2))) W0 (by omega) (by omega) callFunc_part (fun r c W hr hc hbel => by
    obtain ⟨k0, k1, k2, _, _, _⟩ := cells3 ((hbel.block _ (by omega)).trans hbox)
    have kk := cell_of_one ((hbel.block _ (by omega)).trans hkb)
    have kc := cell_of_one ((hbel.block _ (by omega)).trans hkc)
    have hv := h0.keep hbel (Nat.le_refl _)
    have hlt : (T + r) * C + (F + c) < n := cell_lt h0.n_eq (by omega) (by omega)
    have hdz := div_at r c C2 hc
    have key := clos_part R C n gg cap w.heap.size T F r c ((T + r) * C + (F + c)) (Z ((T + r) * C + (F + c))) W k0 k1 k2 kk kc (by omega) (by omega) hR hC rfl hlt hn49 (hv.cell _ hlt)
    refine key.mono fun e w' hp => ⟨?_, hp.2⟩
    rw [hp.1]
    exact ret_int (by simp only [hdz.1, hdz.2]))
  have HC := Lib.hid hcon
  have HRES := Lib.hid hres
  have HB0 := Lib.hid hb0
  have HS0 := Lib.hid hs0
  rw [hW0] at HC
  clear hcon h0 hbox hkb hkc hres hb0 hs0 h
  go_enter Try.func61, Try.ntmps61
  go_wp2_with fail
  refine HC.out.mono ?_
  rintro e w2 ⟨n', gg', cap', xs, hn', rfl, hown, hval, hb2⟩
  have hb3 : Below W0.heap.size W0 w2 := by rw [hW0]; exact hb2
  have hown' := hown
  rw [← hW0] at hown'
  have R3 := (hb3.block (w.heap.size + 1 + 1 + 1) (by have := HS0.out; omega)).trans HRES.out
  obtain ⟨r0, r1, r2, g0, g1, g2⟩ := cells3 R3
  have hlo := (hown'.lt gg' rfl).1
  have hE := three_set w2 (w.heap.size + 1 + 1 + 1) _ _ _ (.int .i64 R2) (.int .i64 C2) (.slice (some ⟨gg', 0, none⟩) n' cap') R3
  have O1 := own3 hown' (x := w.heap.size + 1 + 1 + 1) (by have := HS0.out; omega) (.int .i64 R2) (.int .i64 C2) (.slice (some ⟨gg', 0, none⟩) n' cap')
  have B1 := below3 (HB0.out.trans (hb3.mono HB0.out.size)) (x := w.heap.size + 1 + 1 + 1) (by omega) (.int .i64 R2) (.int .i64 C2) (.slice (some ⟨gg', 0, none⟩) n' cap')
  have HRV := Lib.hid (Rv.of_own O1 hn' hval)
  have HE := Lib.hid hE
  have HB1 := Lib.hid B1
  clear hE R3 O1 B1 hown hown' hval hb2 hb3 hn' hW0
  go_wp2
  exact bodyPost_ret (results_cell_row rfl _ _ (w.heap.size + 1 + 1 + 1) _ #[.int .i64 R2, .int .i64 C2, .slice (some ⟨gg', 0, none⟩) n' cap'] _ _ rfl HE.out Try.underlying58 rfl Try.sizeRel) rfl ⟨n', gg', cap', rfl, HRV.out, HB1.out⟩

/-- what GridPart asks, and its answer -/
def G.PartOk (g : G) (t b l r : Int) : Prop := g.Cell t l ∧ g.Cell b r ∧ t ≤ b ∧ l ≤ r
def partG (g : G) (t b l r : Nat) : G := { n := b - t + 1, len := fun _ => r - l + 1, z := fun i j => g.z (t + i) (l + j) }

theorem has_of_cell {g : G} {r c : Int} (h : g.Cell r c) : 0 ≤ r ∧ r < g.n ∧ 0 ≤ c ∧ c < g.len 0 := ⟨h.2.1.1, by have := h.2.1.2; omega, h.2.2.1, by have := h.2.2.2; omega⟩
theorem cell_of_has {g : G} {r c : Int} (hv : g.Valid) (h : 0 ≤ r ∧ r < g.n ∧ 0 ≤ c ∧ c < g.len 0) : g.Cell r c := ⟨hv, ⟨h.1, by omega⟩, h.2.2.1, by omega⟩

set_option maxHeartbeats 2000000 in
set_option maxRecDepth 20000 in
theorem implGridPart_yes (v : Value) (lo hi : Nat) (g : G) (t b l r : Nat) (w : World) (hv : RdM lo hi w v g) (hh : hi ≤ w.heap.size) (h : g.PartOk t b l r) :
    Calls Try.prog 22 #[v, .int .i64 t, .int .i64 b, .int .i64 l, .int .i64 r] w (GPost true (partG g t b l r) w) := by
  obtain ⟨hc1, hc2, htb, hlr⟩ := h
  have HC := Lib.hid (reliefOf_yes v lo hi g w hv hh hc1.1)
  have HH := Lib.hid hc1.1
  obtain ⟨p1, p2, p3, p4⟩ := has_of_cell hc1
  obtain ⟨q1, q2, q3, q4⟩ := has_of_cell hc2
  have hn7 := hc1.1.1.2
  have hl7 := hc1.1.2.1.2
  have e1 : (b : Int) - t + 1 = ((b - t + 1 : Nat) : Int) := by omega
  have e2 : (r : Int) - l + 1 = ((r - l + 1 : Nat) : Int) := by omega
  have E1 := Lib.hid e1
  have E2 := Lib.hid e2
  clear hv hc1 hc2 e1 e2
  go_enter Try.func22, Try.ntmps22
  go_wp2_with fail
  refine HC.out.mono ?_
  intro e w1 hq
  obtain ⟨n, gg, cap, rfl, hrv, hb1⟩ := hq.rv
  have HLOC := Lib.hid (heap_alloc_new w1 (.cells #[.int .i64 g.n, .int .i64 (g.len 0), .slice (some ⟨gg, 0, none⟩) n cap] 58))
  have HB1 := Lib.hid (hb1.alloc hb1.size (.cells #[.int .i64 g.n, .int .i64 (g.len 0), .slice (some ⟨gg, 0, none⟩) n cap] 58))
  have HRV := Lib.hid (hrv.keep ((Below.refl w1.heap.size w1).alloc (Nat.le_refl _) (.cells #[.int .i64 g.n, .int .i64 (g.len 0), .slice (some ⟨gg, 0, none⟩) n cap] 58)) (Nat.le_refl _))
  clear hq hrv hb1
  go_wp2_with fail
  refine (has_yes g.n (g.len 0) n gg cap t l _ p1 p2 p3 p4).mono ?_
  rintro e w2 ⟨rfl, hb2⟩
  have HRV2 := Lib.hid (HRV.out.keep hb2 (Nat.le_refl _))
  have HL2 := Lib.hid ((hb2.block w1.heap.size (by simp)).trans HLOC.out)
  obtain ⟨k0, k1, k2, _, _, _⟩ := cells3 HL2.out
  have HB2 := Lib.hid (HB1.out.trans (hb2.mono HB1.out.size))
  clear hb2
  go_wp2_with fail
  refine (has_yes g.n (g.len 0) n gg cap b r _ q1 q2 q3 q4).mono ?_
  rintro e w3 ⟨rfl, hb3⟩
  have HRV3 := Lib.hid (HRV2.out.keep hb3 (Nat.le_refl _))
  obtain ⟨m0, m1, m2, _, _, _⟩ := cells3 ((hb3.block w1.heap.size (lt_of_block HL2.out)).trans HL2.out)
  have HB3 := Lib.hid (HB2.out.trans (hb3.mono HB2.out.size))
  clear hb3 k0 k1 k2
  go_wp2_with fail
  rw [E1.out, E2.out]
  refine (part_any g.n (g.len 0) n gg cap t l (b - t + 1) (r - l + 1) g.flat w3 HRV3.out hn7 hl7 (by omega) (by omega)).mono ?_
  rintro e w4 ⟨n', gg', cap', rfl, hrv', hb4⟩
  have HB4 := Lib.hid (HB3.out.trans (hb4.mono HB3.out.size))
  have hz : ∀ i, i < b - t + 1 → ∀ j, j < r - l + 1 → g.flat ((t + (i * (r - l + 1) + j) / (r - l + 1)) * g.len 0 + (l + (i * (r - l + 1) + j) % (r - l + 1))) = g.z (t + i) (l + j) := fun i hi j hj => by
    have hd := div_at i j (r - l + 1) hj
    rw [hd.1, hd.2]
    exact g.flat_at _ _ (by omega)
  have HZ := Lib.hid hz
  have HG := Lib.hid (grid_yes (b - t + 1) (r - l + 1) n' gg' cap' _ w4 hrv' (relOk_of hrv'.n_eq (by omega) (by omega) (fun i hi j hj => by
    show 0 ≤ g.flat ((t + (i * (r - l + 1) + j) / (r - l + 1)) * g.len 0 + (l + (i * (r - l + 1) + j) % (r - l + 1))) ∧ g.flat ((t + (i * (r - l + 1) + j) / (r - l + 1)) * g.len 0 + (l + (i * (r - l + 1) + j) % (r - l + 1))) ≤ 99
    rw [HZ.out i hi j hj]
    exact valid_at HH.out (by omega) (by omega))))
  clear hrv' hb4 hz
  go_wp2_with fail
  refine HG.out.mono ?_
  rintro e w5 ⟨v5, rfl, ⟨a, ln, cc, rfl⟩, ho, hb5⟩
  have HP : Hid (GPost true (partG g t b l r) w (.returned (.tuple #[.slice a ln cc, .bool true])) w5) := GPost.up ⟨_, rfl, ⟨_, _, _, rfl⟩, ho, hb5⟩ HB4.out ⟨rfl, fun i hi => ⟨rfl, fun j hj => HZ.out i hi j hj⟩⟩
  clear ho hb5
  go_wp2
  go_ret2
  exact HP.out

set_option maxHeartbeats 2000000 in
set_option maxRecDepth 20000 in
theorem implGridPart_no (v : Value) (lo hi : Nat) (g : G) (t b l r : Int) (w : World) (hv : RdM lo hi w v g) (hh : hi ≤ w.heap.size) (h : ¬ g.PartOk t b l r) :
    Calls Try.prog 22 #[v, .int .i64 t, .int .i64 b, .int .i64 l, .int .i64 r] w (GPost false G0 w) := by
  by_cases hval : g.Valid
  case neg =>
    have HC := Lib.hid (reliefOf_no v lo hi g w hv hh hval)
    clear hv h
    go_enter Try.func22, Try.ntmps22
    go_wp2_with fail
    refine HC.out.mono ?_
    rintro e w1 ⟨rfl, hb1⟩
    have HB2 := Lib.hid (hb1.alloc hb1.size (.cells #[.int .i64 0, .int .i64 0, .slice none 0 0] 58))
    clear hb1
    go_wp2
    go_ret2
    exact ⟨_, rfl, ⟨_, _, _, rfl⟩, OwM.none _ _ _, HB2.out⟩
  case pos =>
    have HC := Lib.hid (reliefOf_yes v lo hi g w hv hh hval)
    have HH := Lib.hid hval
    have HNO := Lib.hid h
    clear hv hval h
    by_cases h1 : 0 ≤ t ∧ t < g.n ∧ 0 ≤ l ∧ l < g.len 0
    case neg =>
      go_enter Try.func22, Try.ntmps22
      go_wp2_with fail
      refine HC.out.mono ?_
      intro e w1 hq
      obtain ⟨n, gg, cap, rfl, hrv, hb1⟩ := hq.rv
      have HB1 := Lib.hid (hb1.alloc hb1.size (.cells #[.int .i64 g.n, .int .i64 (g.len 0), .slice (some ⟨gg, 0, none⟩) n cap] 58))
      clear hq hrv hb1
      go_wp2_with fail
      refine (has_no g.n (g.len 0) n gg cap t l _ h1).mono ?_
      rintro e w2 ⟨rfl, hb2⟩
      have HB2 := Lib.hid (HB1.out.trans (hb2.mono HB1.out.size))
      clear hb2 h1
      go_wp2
      go_ret2
      exact ⟨_, rfl, ⟨_, _, _, rfl⟩, OwM.none _ _ _, HB2.out⟩
    case pos =>
      have HC1 := Lib.hid (cell_of_has HH.out h1)
      obtain ⟨p1, p2, p3, p4⟩ := h1
      by_cases h2 : 0 ≤ b ∧ b < g.n ∧ 0 ≤ r ∧ r < g.len 0
      case neg =>
        go_enter Try.func22, Try.ntmps22
        go_wp2_with fail
        refine HC.out.mono ?_
        intro e w1 hq
        obtain ⟨n, gg, cap, rfl, hrv, hb1⟩ := hq.rv
        have HLOC := Lib.hid (heap_alloc_new w1 (.cells #[.int .i64 g.n, .int .i64 (g.len 0), .slice (some ⟨gg, 0, none⟩) n cap] 58))
        have HB1 := Lib.hid (hb1.alloc hb1.size (.cells #[.int .i64 g.n, .int .i64 (g.len 0), .slice (some ⟨gg, 0, none⟩) n cap] 58))
        clear hq hrv hb1
        go_wp2_with fail
        refine (has_yes g.n (g.len 0) n gg cap t l _ p1 p2 p3 p4).mono ?_
        rintro e w2 ⟨rfl, hb2⟩
        obtain ⟨k0, k1, k2, _, _, _⟩ := cells3 ((hb2.block w1.heap.size (by simp)).trans HLOC.out)
        have HB2 := Lib.hid (HB1.out.trans (hb2.mono HB1.out.size))
        clear hb2
        go_wp2_with fail
        refine (has_no g.n (g.len 0) n gg cap b r _ h2).mono ?_
        rintro e w3 ⟨rfl, hb3⟩
        have HB3 := Lib.hid (HB2.out.trans (hb3.mono HB2.out.size))
        clear hb3 h2
        go_wp2
        go_ret2
        exact ⟨_, rfl, ⟨_, _, _, rfl⟩, OwM.none _ _ _, HB3.out⟩
      case pos =>
        have HC2 := Lib.hid (cell_of_has HH.out h2)
        obtain ⟨q1, q2, q3, q4⟩ := h2
        have hcase : b < t ∨ (t ≤ b ∧ r < l) := by
          by_cases e1 : b < t
          · exact Or.inl e1
          · by_cases e2 : r < l
            · exact Or.inr ⟨by omega, e2⟩
            · exact absurd ⟨HC1.out, HC2.out, by omega, by omega⟩ HNO.out
        rcases hcase with hcase | ⟨hc1, hc2⟩
        all_goals
          go_enter Try.func22, Try.ntmps22
          go_wp2_with fail
          refine HC.out.mono ?_
          intro e w1 hq
          obtain ⟨n, gg, cap, rfl, hrv, hb1⟩ := hq.rv
          have HLOC := Lib.hid (heap_alloc_new w1 (.cells #[.int .i64 g.n, .int .i64 (g.len 0), .slice (some ⟨gg, 0, none⟩) n cap] 58))
          have HB1 := Lib.hid (hb1.alloc hb1.size (.cells #[.int .i64 g.n, .int .i64 (g.len 0), .slice (some ⟨gg, 0, none⟩) n cap] 58))
          clear hq hrv hb1
          go_wp2_with fail
          refine (has_yes g.n (g.len 0) n gg cap t l _ p1 p2 p3 p4).mono ?_
          rintro e w2 ⟨rfl, hb2⟩
          obtain ⟨k0, k1, k2, _, _, _⟩ := cells3 ((hb2.block w1.heap.size (by simp)).trans HLOC.out)
          have HB2 := Lib.hid (HB1.out.trans (hb2.mono HB1.out.size))
          clear hb2
          go_wp2_with fail
          refine (has_yes g.n (g.len 0) n gg cap b r _ q1 q2 q3 q4).mono ?_
          rintro e w3 ⟨rfl, hb3⟩
          have HB3 := Lib.hid (HB2.out.trans (hb3.mono HB2.out.size))
          clear hb3
          go_wp2
          go_ret2
          exact ⟨_, rfl, ⟨_, _, _, rfl⟩, OwM.none _ _ _, HB3.out⟩

end Go.Proofs.Ytjllmidagcniaaa
