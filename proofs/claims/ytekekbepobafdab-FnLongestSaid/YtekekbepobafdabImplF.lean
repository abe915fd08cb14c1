/- The program's GridTurn, GridMirror, GridInvert: what they answer. -/
import Derived.Test.YtekekbepobafdabImplE
namespace Go.Proofs.Ytekekbepobafdab
open Go.RowKit
set_option linter.unusedVariables false

def turnG (g : G) : G := { n := g.len 0, len := fun _ => g.n, z := fun r c => g.z (g.n - 1 - c) r }
def mirrorG (g : G) : G := { n := g.n, len := fun _ => g.len 0, z := fun r c => g.z r (g.len 0 - 1 - c) }
def invertG (g : G) : G := { n := g.n, len := fun _ => g.len 0, z := fun r c => 99 - g.z r c }

theorem relOk_of {R C n : Nat} {Z : Nat → Int} (hn : n = R * C) (hR : 1 ≤ R ∧ R ≤ 7) (hC : 1 ≤ C ∧ C ≤ 7) (h : ∀ r, r < R → ∀ c, c < C → 0 ≤ Z (r * C + c) ∧ Z (r * C + c) ≤ 99) : RelOk R C n Z := by
  refine ⟨hR, hC, fun i hi => ?_⟩
  have h0 : 0 < C := by omega
  have e1 : i / C < R := by rw [Nat.div_lt_iff_lt_mul h0]; omega
  have := h _ e1 (i % C) (Nat.mod_lt _ h0)
  rwa [Nat.mul_comm, Nat.div_add_mod] at this

theorem valid_at {g : G} (h : g.Valid) {r c : Nat} (hr : r < g.n) (hc : c < g.len 0) : 0 ≤ g.z r c ∧ g.z r c ≤ 99 :=
  (h.2.2 r hr).2 c (by rw [(h.2.2 r hr).1]; exact hc)

theorem RelYes.rv {g : G} {w w' : World} {e : Ending} (h : RelYes g w e w') : ∃ n gg cap, e = .returned (.tuple #[.agg #[.int .i64 g.n, .int .i64 (g.len 0), .slice (some ⟨gg, 0, none⟩) n cap], .bool true]) ∧ Rv w' g.n (g.len 0) n gg cap g.flat ∧ Below w.heap.size w w' := by
  obtain ⟨n, gg, cap, xs, hn, he, ho, hv, hb⟩ := h
  exact ⟨n, gg, cap, he, Rv.of_own ho hn hv, hb⟩

theorem GPost.up {b : Bool} {g g' : G} {w w1 w' : World} {e : Ending} (h : GPost b g w1 e w') (hb : Below w.heap.size w w1) (hg : G.Eqv g g') : GPost b g' w e w' := by
  obtain ⟨v, h1, h2, h3, h4⟩ := h
  exact ⟨v, h1, h2, (h3.mono hb.size (Nat.le_refl _)).congr hg, hb.trans (h4.mono hb.size)⟩

theorem z_turned {g : G} {r c : Nat} (hr : r < g.len 0) (hc : c < g.n) : (fun i => g.flat ((g.n - 1 - i % g.n) * g.len 0 + i / g.n)) (r * g.n + c) = g.z (g.n - 1 - c) r := by
  have hd := div_at r c (g.n) hc
  simp only [hd.1, hd.2]; rw [g.flat_at _ _ hr]

set_option maxHeartbeats 1000000 in
set_option maxRecDepth 20000 in
theorem implGridTurn_yes (v : Value) (lo hi : Nat) (g : G) (w : World) (hv : RdM lo hi w v g) (hh : hi ≤ w.heap.size) (h : g.Valid) :
    Calls Try.prog 14 #[v] w (GPost true (turnG g) w) := by
  have HC := Lib.hid (reliefOf_yes v lo hi g w hv hh h)
  have HH := Lib.hid h
  clear hv h
  go_enter Try.func14, Try.ntmps14
  go_wp2_with fail
  refine HC.out.mono ?_
  intro e w1 hq
  obtain ⟨n, gg, cap, rfl, hrv, hb1⟩ := hq.rv
  have hb2 : Below w.heap.size w (w1.alloc (.cells #[.int .i64 g.n, .int .i64 (g.len 0), .slice (some ⟨gg, 0, none⟩) n cap] 49)) := hb1.alloc hb1.size _
  have hrv2 := hrv.keep ((Below.refl w1.heap.size w1).alloc (Nat.le_refl _) (.cells #[.int .i64 g.n, .int .i64 (g.len 0), .slice (some ⟨gg, 0, none⟩) n cap] 49)) (Nat.le_refl _)
  have HM := Lib.hid (turned_any g.n (g.len 0) n gg cap g.flat _ hrv2 HH.out.1.2 HH.out.2.1.2 (rel_ok HH.out hrv.n_eq).2.2)
  have HB2 := Lib.hid hb2
  clear hq hrv hb1 hb2 hrv2
  go_wp2_with fail
  refine HM.out.mono ?_
  rintro e w2 ⟨n', gg', cap', rfl, hrv', hb3⟩
  have HB3 := Lib.hid (HB2.out.trans (hb3.mono HB2.out.size))
  have HG := Lib.hid (grid_yes (g.len 0) (g.n) n' gg' cap' (fun i => g.flat ((g.n - 1 - i % g.n) * g.len 0 + i / g.n)) w2 hrv' (relOk_of hrv'.n_eq (by have h := HH.out; exact h.2.1) (by have h := HH.out; exact h.1) (fun r hr c hc => by
    have h := HH.out
    have hz := z_turned (g := g) hr hc
    dsimp only at hz
    rw [hz]
    exact valid_at h (by omega) hr)))
  clear hrv' hb3
  go_wp2_with fail
  refine HG.out.mono ?_
  rintro e w3 ⟨v3, rfl, ⟨a, l, c, rfl⟩, ho, hb4⟩
  have HP : Hid (GPost true (turnG g) w (.returned (.tuple #[.slice a l c, .bool true])) w3) := GPost.up ⟨_, rfl, ⟨_, _, _, rfl⟩, ho, hb4⟩ HB3.out ⟨rfl, fun r hr => ⟨rfl, fun c hc => z_turned hr hc⟩⟩
  clear ho hb4
  go_wp2
  go_ret2
  exact HP.out

set_option maxHeartbeats 1000000 in
set_option maxRecDepth 20000 in
theorem implGridTurn_no (v : Value) (lo hi : Nat) (g : G) (w : World) (hv : RdM lo hi w v g) (hh : hi ≤ w.heap.size) (h : ¬ g.Valid) :
    Calls Try.prog 14 #[v] w (GPost false G0 w) := by
  have HC := Lib.hid (reliefOf_no v lo hi g w hv hh h)
  clear hv h
  go_enter Try.func14, Try.ntmps14
  go_wp2_with fail
  refine HC.out.mono ?_
  rintro e w1 ⟨rfl, hb1⟩
  have HB2 := Lib.hid (hb1.alloc hb1.size (.cells #[.int .i64 0, .int .i64 0, .slice none 0 0] 49))
  clear hb1
  go_wp2
  go_ret2
  exact ⟨_, rfl, ⟨_, _, _, rfl⟩, OwM.none _ _ _, HB2.out⟩

theorem z_mirrored {g : G} {r c : Nat} (hr : r < g.n) (hc : c < g.len 0) : (fun i => g.flat (i / g.len 0 * g.len 0 + (g.len 0 - 1 - i % g.len 0))) (r * g.len 0 + c) = g.z r (g.len 0 - 1 - c) := by
  have hd := div_at r c (g.len 0) hc
  simp only [hd.1, hd.2]; rw [g.flat_at _ _ (by omega)]

set_option maxHeartbeats 1000000 in
set_option maxRecDepth 20000 in
theorem implGridMirror_yes (v : Value) (lo hi : Nat) (g : G) (w : World) (hv : RdM lo hi w v g) (hh : hi ≤ w.heap.size) (h : g.Valid) :
    Calls Try.prog 17 #[v] w (GPost true (mirrorG g) w) := by
  have HC := Lib.hid (reliefOf_yes v lo hi g w hv hh h)
  have HH := Lib.hid h
  clear hv h
  go_enter Try.func17, Try.ntmps17
  go_wp2_with fail
  refine HC.out.mono ?_
  intro e w1 hq
  obtain ⟨n, gg, cap, rfl, hrv, hb1⟩ := hq.rv
  have hb2 : Below w.heap.size w (w1.alloc (.cells #[.int .i64 g.n, .int .i64 (g.len 0), .slice (some ⟨gg, 0, none⟩) n cap] 49)) := hb1.alloc hb1.size _
  have hrv2 := hrv.keep ((Below.refl w1.heap.size w1).alloc (Nat.le_refl _) (.cells #[.int .i64 g.n, .int .i64 (g.len 0), .slice (some ⟨gg, 0, none⟩) n cap] 49)) (Nat.le_refl _)
  have HM := Lib.hid (mirrored_any g.n (g.len 0) n gg cap g.flat _ hrv2 HH.out.1.2 HH.out.2.1.2 (rel_ok HH.out hrv.n_eq).2.2)
  have HB2 := Lib.hid hb2
  clear hq hrv hb1 hb2 hrv2
  go_wp2_with fail
  refine HM.out.mono ?_
  rintro e w2 ⟨n', gg', cap', rfl, hrv', hb3⟩
  have HB3 := Lib.hid (HB2.out.trans (hb3.mono HB2.out.size))
  have HG := Lib.hid (grid_yes (g.n) (g.len 0) n' gg' cap' (fun i => g.flat (i / g.len 0 * g.len 0 + (g.len 0 - 1 - i % g.len 0))) w2 hrv' (relOk_of hrv'.n_eq (by have h := HH.out; exact h.1) (by have h := HH.out; exact h.2.1) (fun r hr c hc => by
    have h := HH.out
    have hz := z_mirrored (g := g) hr hc
    dsimp only at hz
    rw [hz]
    exact valid_at h hr (by omega))))
  clear hrv' hb3
  go_wp2_with fail
  refine HG.out.mono ?_
  rintro e w3 ⟨v3, rfl, ⟨a, l, c, rfl⟩, ho, hb4⟩
  have HP : Hid (GPost true (mirrorG g) w (.returned (.tuple #[.slice a l c, .bool true])) w3) := GPost.up ⟨_, rfl, ⟨_, _, _, rfl⟩, ho, hb4⟩ HB3.out ⟨rfl, fun r hr => ⟨rfl, fun c hc => z_mirrored hr hc⟩⟩
  clear ho hb4
  go_wp2
  go_ret2
  exact HP.out

set_option maxHeartbeats 1000000 in
set_option maxRecDepth 20000 in
theorem implGridMirror_no (v : Value) (lo hi : Nat) (g : G) (w : World) (hv : RdM lo hi w v g) (hh : hi ≤ w.heap.size) (h : ¬ g.Valid) :
    Calls Try.prog 17 #[v] w (GPost false G0 w) := by
  have HC := Lib.hid (reliefOf_no v lo hi g w hv hh h)
  clear hv h
  go_enter Try.func17, Try.ntmps17
  go_wp2_with fail
  refine HC.out.mono ?_
  rintro e w1 ⟨rfl, hb1⟩
  have HB2 := Lib.hid (hb1.alloc hb1.size (.cells #[.int .i64 0, .int .i64 0, .slice none 0 0] 49))
  clear hb1
  go_wp2
  go_ret2
  exact ⟨_, rfl, ⟨_, _, _, rfl⟩, OwM.none _ _ _, HB2.out⟩

theorem z_inverted {g : G} {r c : Nat} (hr : r < g.n) (hc : c < g.len 0) : (fun i => 99 - g.flat i) (r * g.len 0 + c) = 99 - g.z r c := by
  have hd := div_at r c (g.len 0) hc
  show (99 : Int) - g.flat (r * g.len 0 + c) = _; rw [g.flat_at _ _ hc]

end Go.Proofs.Ytekekbepobafdab
