/- The program's GridRaise. -/
import Derived.Test.YtjllmidagcniaaaSpecF
namespace Go.Proofs.Ytjllmidagcniaaa
open Go.RowKit
set_option linter.unusedVariables false

theorem callFunc_raised : ∀ (args : Array Value) (W : World), Sem.run Try.prog (callFunc 96 args) W = .ok (.enter 96 args) W := fun _ _ => by kernel_rfl

set_option maxHeartbeats 1000000 in
set_option maxRecDepth 20000 in
theorem clos_raised (R C n gg cap B r c m : Nat) (k Zm : Int) (W : World) (h0 : W.cell? ⟨B, 0, none⟩ = some (.int .i64 R)) (h1 : W.cell? ⟨B, 1, none⟩ = some (.int .i64 C)) (h2 : W.cell? ⟨B, 2, none⟩ = some (.slice (some ⟨gg, 0, none⟩) n cap))
    (h3 : W.cell? ⟨B + 1, 0, none⟩ = some (.int .i64 k)) (hB : B + 1 < W.heap.size)
    (hr : r < R) (hc : c < C) (hR : R ≤ 7) (hC : C ≤ 7) (hm : m = r * C + c) (hmn : m < n) (hn : n ≤ 49) (hcell : W.cell? ⟨gg, m, none⟩ = some (.int .i64 Zm)) (hz : 0 ≤ Zm ∧ Zm ≤ 99) (hk : -99 ≤ k ∧ k ≤ 99) :
    Calls Try.prog 96 #[.int .i64 r, .int .i64 c, .pointer (some ⟨B, 0, none⟩), .pointer (some ⟨B + 1, 0, none⟩)] W (IntPost (Zm + k) W) := by
  have hmi : (r : Int) * (C : Int) + (c : Int) = (m : Int) := by
    rw [hm, Int.natCast_add, Int.natCast_mul]
  have hp0 : 0 ≤ (r : Int) * (C : Int) := Int.mul_nonneg (by omega) (by omega)
  have hp1 : (r : Int) * (C : Int) ≤ 1000 := by omega
  have HA := Lib.hid (at_any R C n gg cap Zm (r : Int) (c : Int) m W.drew hmi hp0 hp1 hmn (by omega) hcell)
  obtain ⟨hz0, hz1⟩ := hz
  obtain ⟨hk0, hk1⟩ := hk
  have hw : IntKind.i64.wrap (Zm + k) = Zm + k := IntWalk.i64_in _ (by omega)
  clear hcell hmi hm hp0 hp1
  go_enter Try.func96, Try.ntmps96
  go_wp2_with fail
  go_region_held3 (fun w' => w'.cell? ⟨B, 0, none⟩ = some (.int .i64 R) ∧ w'.cell? ⟨B, 1, none⟩ = some (.int .i64 C) ∧ w'.cell? ⟨B, 2, none⟩ = some (.slice (some ⟨gg, 0, none⟩) n cap) ∧ w'.cell? ⟨B + 1, 0, none⟩ = some (.int .i64 k))
    (first | exact ⟨h0, h1, h2, h3⟩ | exact s4)
    (first | (go_at_call 68; refine HA.out.mono ?_; rintro e w2 ⟨rfl, hb0⟩; have hb2 := hb0.undrew; have s4 := (⟨(hb2.cell (p := ⟨B, 0, none⟩) (by show B < _; omega)).trans h0, (hb2.cell (p := ⟨B, 1, none⟩) (by show B < _; omega)).trans h1, (hb2.cell (p := ⟨B, 2, none⟩) (by show B < _; omega)).trans h2, (hb2.cell (p := ⟨B + 1, 0, none⟩) (by show B + 1 < _; omega)).trans h3⟩ : w2.cell? ⟨B, 0, none⟩ = some (.int .i64 R) ∧ w2.cell? ⟨B, 1, none⟩ = some (.int .i64 C) ∧ w2.cell? ⟨B, 2, none⟩ = some (.slice (some ⟨gg, 0, none⟩) n cap) ∧ w2.cell? ⟨B + 1, 0, none⟩ = some (.int .i64 k)); have HB2 := Lib.hid hb2; clear hb0 hb2))
  all_goals clear hw
  all_goals go_wp2
  all_goals go_ret
  all_goals exact ⟨rfl, HB2.out⟩

set_option maxHeartbeats 2000000 in
set_option maxRecDepth 20000 in
theorem raised_any (R C n gg cap : Nat) (Z : Nat → Int) (k : Int) (w : World) (h : Rv w R C n gg cap Z) (hR : R ≤ 7) (hC : C ≤ 7) (hz : ∀ i, i < n → 0 ≤ Z i ∧ Z i ≤ 99) (hk : -99 ≤ k ∧ k ≤ 99) :
    Calls Try.prog 77 #[.agg #[.int .i64 R, .int .i64 C, .slice (some ⟨gg, 0, none⟩) n cap], .int .i64 k] w (MPost R C (fun i => Z i + k) w) := by
  have hn49 : n ≤ 49 := by rw [h.n_eq]; exact mul_le_49 hR hC
  obtain ⟨W0, hW0⟩ : ∃ W0, W0 = ((w.alloc (.cells #[.int .i64 R, .int .i64 C, .slice (some ⟨gg, 0, none⟩) n cap] 58)).alloc (.cells #[.int .i64 k] 3)).alloc (.cells #[.int .i64 0, .int .i64 0, .slice none 0 0] 58) := ⟨_, rfl⟩
  have hs0 : W0.heap.size = w.heap.size + 3 := by rw [hW0]; simp
  have hb0 : Below w.heap.size w W0 := by rw [hW0]; exact (((Below.refl _ _).alloc (Nat.le_refl _) _).alloc (by simp) _).alloc (by simp; omega) _
  have hbox : W0.heap[w.heap.size]? = some (.cells #[.int .i64 R, .int .i64 C, .slice (some ⟨gg, 0, none⟩) n cap] 58 (0, 0)) := by
    rw [hW0, Below.heap_alloc _ _ _ (by simp; omega)]; exact heap_alloc2_old _ _ _
  have hkb : W0.heap[w.heap.size + 1]? = some (.cells #[.int .i64 k] 3 (0, 0)) := by
    rw [hW0, Below.heap_alloc _ _ _ (by simp)]; exact heap_alloc2_new _ _ _
  have hres : W0.heap[w.heap.size + 1 + 1]? = some (.cells #[.int .i64 0, .int .i64 0, .slice none 0 0] 58 (0, 0)) := by rw [hW0]; exact heap_alloc3_new _ _ _ _
  have h0 := h.keep hb0 (Nat.le_refl _)
  have hcon := newRelief_any R C 96 #[.pointer (some ⟨w.heap.size, 0, none⟩), .pointer (some ⟨w.heap.size + 1, 0, none⟩)] (fun i => Z i + k) W0 (by omega) (by omega) callFunc_raised (fun r c W hr hc hbel => by
    obtain ⟨k0, k1, k2, _, _, _⟩ := cells3 ((hbel.block _ (by omega)).trans hbox)
    have kk := cell_of_one ((hbel.block _ (by omega)).trans hkb)
    have hv := h0.keep hbel (Nat.le_refl _)
    have hlt : r * C + c < n := cell_lt h0.n_eq hr hc
    have key := clos_raised R C n gg cap w.heap.size r c (r * C + c) k (Z (r * C + c)) W k0 k1 k2 kk (by have := hbel.size; omega) hr hc hR hC rfl hlt hn49 (hv.cell _ hlt) (hz _ hlt) hk
    refine key.mono fun e w' hp => ⟨?_, hp.2⟩
    rw [hp.1])
  have HC := Lib.hid hcon
  have HRES := Lib.hid hres
  have HB0 := Lib.hid hb0
  have HS0 := Lib.hid hs0
  rw [hW0] at HC
  clear hcon h0 hbox hkb hres hb0 hs0 h hz
  go_enter Try.func77, Try.ntmps77
  go_wp2_with fail
  refine HC.out.mono ?_
  rintro e w2 ⟨n', gg', cap', xs, hn', rfl, hown, hval, hb2⟩
  have hb3 : Below W0.heap.size W0 w2 := by rw [hW0]; exact hb2
  have hown' := hown
  rw [← hW0] at hown'
  have R3 := (hb3.block (w.heap.size + 1 + 1) (by have := HS0.out; omega)).trans HRES.out
  obtain ⟨r0, r1, r2, g0, g1, g2⟩ := cells3 R3
  have hlo := (hown'.lt gg' rfl).1
  have hE := three_set w2 (w.heap.size + 1 + 1) _ _ _ (.int .i64 R) (.int .i64 C) (.slice (some ⟨gg', 0, none⟩) n' cap') R3
  have O1 := own3 hown' (x := w.heap.size + 1 + 1) (by have := HS0.out; omega) (.int .i64 R) (.int .i64 C) (.slice (some ⟨gg', 0, none⟩) n' cap')
  have B1 := below3 (HB0.out.trans (hb3.mono HB0.out.size)) (x := w.heap.size + 1 + 1) (by omega) (.int .i64 R) (.int .i64 C) (.slice (some ⟨gg', 0, none⟩) n' cap')
  have HRV := Lib.hid (Rv.of_own O1 hn' hval)
  have HE := Lib.hid hE
  have HB1 := Lib.hid B1
  clear hE R3 O1 B1 hown hown' hval hb2 hb3 hn' hW0
  go_wp2
  exact bodyPost_ret (results_cell_row rfl _ _ (w.heap.size + 1 + 1) _ #[.int .i64 R, .int .i64 C, .slice (some ⟨gg', 0, none⟩) n' cap'] _ _ rfl HE.out Try.underlying58 rfl Try.sizeRel) rfl ⟨n', gg', cap', rfl, HRV.out, HB1.out⟩

def RgPost (g : G) (k : Int) (w : World) (e : Ending) (w' : World) : Prop := (g.RaiseOk k → GPost true (raiseG g k) w e w') ∧ (¬ g.RaiseOk k → GPost false G0 w e w')

set_option maxHeartbeats 2000000 in
set_option maxRecDepth 20000 in
theorem implGridRaise_any (v : Value) (lo hi : Nat) (g : G) (k : Int) (w : World) (hv : RdM lo hi w v g) (hh : hi ≤ w.heap.size) :
    Calls Try.prog 44 #[v, .int .i64 k] w (RgPost g k w) := by
  by_cases h : g.Valid
  case neg =>
    have HC := Lib.hid (reliefOf_no v lo hi g w hv hh h)
    have HN := Lib.hid (show ¬ g.RaiseOk k from fun hr => h hr.1)
    clear hv h
    go_enter Try.func44, Try.ntmps44
    go_wp2_with fail
    refine HC.out.mono ?_
    rintro e w1 ⟨rfl, hb1⟩
    have HB2 := Lib.hid (hb1.alloc hb1.size (.cells #[.int .i64 0, .int .i64 0, .slice none 0 0] 58))
    clear hb1
    go_wp2
    go_ret2
    exact ⟨fun hr => absurd hr HN.out, fun _ => ⟨_, rfl, ⟨_, _, _, rfl⟩, OwM.none _ _ _, HB2.out⟩⟩
  case pos =>
    have HC := Lib.hid (reliefOf_yes v lo hi g w hv hh h)
    have HH := Lib.hid h
    clear hv h
    by_cases hk0 : k < -99
    · have HN := Lib.hid (show ¬ g.RaiseOk k from fun hr => by have := hr.2.1; omega)
      go_enter Try.func44, Try.ntmps44
      go_wp2_with fail
      refine HC.out.mono ?_
      intro e w1 hq
      obtain ⟨n, gg, cap, rfl, hrv, hb1⟩ := hq.rv
      have HB1 := Lib.hid (hb1.alloc hb1.size (.cells #[.int .i64 g.n, .int .i64 (g.len 0), .slice (some ⟨gg, 0, none⟩) n cap] 58))
      clear hq hrv hb1
      go_wp2
      go_ret2
      exact ⟨fun hr => absurd hr HN.out, fun _ => ⟨_, rfl, ⟨_, _, _, rfl⟩, OwM.none _ _ _, HB1.out⟩⟩
    · by_cases hk1 : 99 < k
      · have HN := Lib.hid (show ¬ g.RaiseOk k from fun hr => by have := hr.2.1; omega)
        go_enter Try.func44, Try.ntmps44
        go_wp2_with fail
        refine HC.out.mono ?_
        intro e w1 hq
        obtain ⟨n, gg, cap, rfl, hrv, hb1⟩ := hq.rv
        have HB1 := Lib.hid (hb1.alloc hb1.size (.cells #[.int .i64 g.n, .int .i64 (g.len 0), .slice (some ⟨gg, 0, none⟩) n cap] 58))
        clear hq hrv hb1
        go_wp2
        go_ret2
        exact ⟨fun hr => absurd hr HN.out, fun _ => ⟨_, rfl, ⟨_, _, _, rfl⟩, OwM.none _ _ _, HB1.out⟩⟩
      · go_enter Try.func44, Try.ntmps44
        go_wp2_with fail
        refine HC.out.mono ?_
        intro e w1 hq
        obtain ⟨n, gg, cap, rfl, hrv, hb1⟩ := hq.rv
        have hb2 := hb1.alloc hb1.size (.cells #[.int .i64 g.n, .int .i64 (g.len 0), .slice (some ⟨gg, 0, none⟩) n cap] 58)
        have hrv2 := hrv.keep ((Below.refl w1.heap.size w1).alloc (Nat.le_refl _) (.cells #[.int .i64 g.n, .int .i64 (g.len 0), .slice (some ⟨gg, 0, none⟩) n cap] 58)) (Nat.le_refl _)
        have HM := Lib.hid (raised_any g.n (g.len 0) n gg cap g.flat k _ hrv2 HH.out.1.2 HH.out.2.1.2 (rel_ok HH.out hrv.n_eq).2.2 ⟨by omega, by omega⟩)
        have HB2 := Lib.hid hb2
        clear hq hrv hb1 hb2 hrv2
        go_wp2_with fail
        refine HM.out.mono ?_
        rintro e w2 ⟨n', gg', cap', rfl, hrv', hb3⟩
        have HB3 := Lib.hid (HB2.out.trans (hb3.mono HB2.out.size))
        have HRV := Lib.hid hrv'
        clear hrv' hb3
        by_cases hval : (raiseG g k).Valid
        · have HOK := Lib.hid (show g.RaiseOk k from ⟨HH.out, by omega, hval⟩)
          have HG := Lib.hid (grid_yes g.n (g.len 0) n' gg' cap' _ w2 HRV.out (relOk_of HRV.out.n_eq HH.out.1 HH.out.2.1 (fun r hr c hc => by
            have := (hval.2.2 r hr).2 c hc
            show 0 ≤ g.flat (r * g.len 0 + c) + k ∧ g.flat (r * g.len 0 + c) + k ≤ 99
            rw [g.flat_at r c hc]
            exact this)))
          clear hval
          go_wp2_with fail
          refine HG.out.mono ?_
          rintro e w3 ⟨v3, rfl, ⟨a, l, c, rfl⟩, ho, hb4⟩
          have HP : Hid (GPost true (raiseG g k) w (.returned (.tuple #[.slice a l c, .bool true])) w3) := GPost.up ⟨_, rfl, ⟨_, _, _, rfl⟩, ho, hb4⟩ HB3.out ⟨rfl, fun r hr => ⟨rfl, fun c hc => by
            show g.flat (r * g.len 0 + c) + k = g.z r c + k
            rw [g.flat_at r c hc]⟩⟩
          clear ho hb4
          go_wp2
          go_ret2
          exact ⟨fun _ => HP.out, fun h => absurd HOK.out h⟩
        · have HOK := Lib.hid (show ¬ g.RaiseOk k from fun h => hval h.2.2)
          have HG := Lib.hid (grid_no g.n (g.len 0) n' gg' cap' _ w2 HRV.out (fun hok => hval ⟨HH.out.1, HH.out.2.1, fun r hr => ⟨rfl, fun c hc => by
            have hc' : c < g.len 0 := hc
            have : 0 ≤ g.flat (r * g.len 0 + c) + k ∧ g.flat (r * g.len 0 + c) + k ≤ 99 := hok.2.2 (r * g.len 0 + c) (cell_lt HRV.out.n_eq hr hc')
            rw [g.flat_at r c hc'] at this
            exact this⟩⟩) (by rw [HRV.out.n_eq]; have := mul_le_49 HH.out.1.2 HH.out.2.1.2; omega) (by have := HH.out.1; omega) (by have := HH.out.2.1; omega))
          clear hval
          go_wp2_with fail
          refine HG.out.mono ?_
          rintro e w3 ⟨v3, rfl, ⟨a, l, c, rfl⟩, ho, hb4⟩
          have HP : Hid (GPost false G0 w (.returned (.tuple #[.slice a l c, .bool false])) w3) := GPost.up ⟨_, rfl, ⟨_, _, _, rfl⟩, ho, hb4⟩ HB3.out (G.Eqv.refl _)
          clear ho hb4
          go_wp2
          go_ret2
          exact ⟨fun h => absurd h HOK.out, fun _ => HP.out⟩

end Go.Proofs.Ytjllmidagcniaaa
