/- A relief as a grid again; turned, mirrored, inverted, raised. -/
import Derived.Test.YtekekbepobafdabImplD
namespace Go.Proofs.Ytekekbepobafdab
open Go.RowKit
set_option linter.unusedVariables false

theorem G.Eqv.refl (g : G) : G.Eqv g g := ⟨rfl, fun _ _ => ⟨rfl, fun _ _ => rfl⟩⟩

theorem OwM.congr {lo hi : Nat} {w : World} {v : Value} {g g' : G} (h : OwM lo hi w v g) (e : G.Eqv g g') : OwM lo hi w v g' := by
  obtain ⟨e1, e2⟩ := e
  rcases h with ⟨h, h0⟩ | ⟨b, Gb, h0, hn, h1, h2, h3, h4, h5⟩
  · exact Or.inl ⟨h, by omega⟩
  · refine Or.inr ⟨b, Gb, by rw [h0, e1], by omega, h1, h2, ?_, fun r hr => ?_, fun r s hr hs => h5 r s (by omega) (by omega)⟩
    · rw [← e1]; exact h3.congr (fun i hi => by rw [(e2 i hi).1])
    · obtain ⟨a1, a2, a3, a4, a5, a6⟩ := h4 r (by omega)
      obtain ⟨c1, c2⟩ := e2 r (by omega)
      exact ⟨a1, a2, a3, by omega, by rw [← c1]; exact a5.congr (fun i hi => by rw [c2 i hi]), fun c hc => by rw [← c2 c (by omega)]; exact a6 c (by omega)⟩

/-- a relief's heights can be read -/
structure Rv (w : World) (R C n gg cap : Nat) (Z : Nat → Int) : Prop where
  n_eq : n = R * C
  lt : gg < w.heap.size
  le : n ≤ cap
  cell : ∀ i, i < n → w.cell? ⟨gg, i, none⟩ = some (.int .i64 (Z i))

theorem Rv.keep {w w' : World} {R C n gg cap : Nat} {Z : Nat → Int} (h : Rv w R C n gg cap Z) {B : Nat} (hb : Below B w w') (hB : w.heap.size ≤ B) : Rv w' R C n gg cap Z :=
  ⟨h.n_eq, Nat.lt_of_lt_of_le h.lt hb.size, h.le, fun i hi => (hb.cell (p := ⟨gg, i, none⟩) (Nat.lt_of_lt_of_le h.lt hB)).trans (h.cell i hi)⟩

theorem Rv.of_own {w : World} {base R C n gg cap : Nat} {xs : List Value} {Z : Nat → Int} (h : w.ownsRow base 3 1 (.slice (some ⟨gg, 0, none⟩) n cap) n xs) (hn : n = R * C) (hv : ∀ i, i < n → xs[i]? = some (.int .i64 (Z i))) : Rv w R C n gg cap Z := by
  refine ⟨hn, (h.lt gg rfl).2, ?_, fun i hi => by rw [h.cellAt i (by omega)]; exact hv i hi⟩
  rcases h.2 with ⟨h', _⟩ | ⟨g, c, cur, hv', _, _, hle, _⟩
  · simp at h'
  · simp at hv'; omega

/-- what a function that answers a grid and true, or none and false, leaves -/
def GPost (b : Bool) (g : G) (w : World) (e : Ending) (w' : World) : Prop :=
  ∃ v, e = .returned (.tuple #[v, .bool b]) ∧ (∃ a l c, v = .slice a l c) ∧ OwM w.heap.size w'.heap.size w' v g ∧ Below w.heap.size w w'
def G0 : G := ⟨0, fun _ => 0, fun _ _ => 0⟩
theorem OwM.none (lo hi : Nat) (w : World) : OwM lo hi w (.slice none 0 0) G0 := Or.inl ⟨rfl, rfl⟩

theorem mul_le_49 {R C : Nat} (h1 : R ≤ 7) (h2 : C ≤ 7) : R * C ≤ 49 := Nat.mul_le_mul h1 h2

theorem OwM.mono {lo hi lo' hi' : Nat} {w : World} {v : Value} {g : G} (h : OwM lo hi w v g) (h1 : lo' ≤ lo) (h2 : hi ≤ hi') : OwM lo' hi' w v g := by
  rcases h with h | ⟨b, Gb, h0, hn, a1, a2, h3, h4, h5⟩
  · exact Or.inl h
  · refine Or.inr ⟨b, Gb, h0, hn, by omega, by omega, h3, fun r hr => ?_, h5⟩
    obtain ⟨c1, c2, c3⟩ := h4 r hr
    exact ⟨by omega, by omega, c3⟩

set_option maxHeartbeats 1000000 in
set_option maxRecDepth 20000 in
theorem grid_yes (R C n gg cap : Nat) (Z : Nat → Int) (w : World) (h : Rv w R C n gg cap Z) (hok : RelOk R C n Z) :
    Calls Try.prog 56 #[.agg #[.int .i64 R, .int .i64 C, .slice (some ⟨gg, 0, none⟩) n cap]] w (GPost true (gridOf R C Z) w) := by
  have hn49 : n ≤ 49 := by rw [h.n_eq]; exact mul_le_49 hok.1.2 hok.2.1.2
  have hb1 : Below w.heap.size w (w.alloc (.cells #[.int .i64 R, .int .i64 C, .slice (some ⟨gg, 0, none⟩) n cap] 49)) := (Below.refl _ _).alloc (Nat.le_refl _) _
  have H1 := Lib.hid (h.keep hb1 (Nat.le_refl _))
  have HV := Lib.hid (valid_any R C n gg cap Z _ H1.out.cell (by omega) H1.out.lt (by have := hok.1.2; omega) (by have := hok.2.1.2; omega))
  have HB := Lib.hid (relB_yes hok)
  have HOK := Lib.hid hok
  have HB1 := Lib.hid hb1
  clear h hok hb1
  go_enter Try.func56, Try.ntmps56
  go_wp2_with fail
  refine HV.out.mono ?_
  rintro e w2 ⟨rfl, hb2⟩
  rw [HB.out]
  have H2 := Lib.hid (H1.out.keep hb2 (Nat.le_refl _))
  have k0 : w2.cell? ⟨w.heap.size, 0, none⟩ = some (.int .i64 R) := (hb2.cell (p := ⟨w.heap.size, 0, none⟩) (by simp)).trans (by simp [go_sem])
  have k1 : w2.cell? ⟨w.heap.size, 1, none⟩ = some (.int .i64 C) := (hb2.cell (p := ⟨w.heap.size, 1, none⟩) (by simp)).trans (by simp [go_sem])
  have k2 : w2.cell? ⟨w.heap.size, 2, none⟩ = some (.slice (some ⟨gg, 0, none⟩) n cap) := (hb2.cell (p := ⟨w.heap.size, 2, none⟩) (by simp)).trans (by simp [go_sem])
  have HB2 := Lib.hid (HB1.out.trans (hb2.mono (by simp)))
  clear hb2
  go_wp2_with fail
  have hok := HOK.out
  refine (lists_any R C n gg cap Z w2 H2.out.n_eq hok.1.2 hok.2.1.2 hok.2.1.1 H2.out.cell H2.out.lt H2.out.le (fun i hi => by have := hok.2.2 i hi; omega)).mono ?_
  clear hok
  rintro e w3 ⟨v, rfl, ⟨a, l, c, rfl⟩, ho, hb3⟩
  have HO := Lib.hid ho
  have HB3 := Lib.hid hb3
  clear ho hb3
  go_wp2
  go_ret2
  exact ⟨_, rfl, ⟨_, _, _, rfl⟩, HO.out.mono HB2.out.size (Nat.le_refl _), HB2.out.trans (HB3.out.mono HB2.out.size)⟩

set_option maxHeartbeats 1000000 in
set_option maxRecDepth 20000 in
theorem grid_no (R C n gg cap : Nat) (Z : Nat → Int) (w : World) (h : Rv w R C n gg cap Z) (hok : ¬ RelOk R C n Z) (hn : n ≤ 1000) (hR : R ≤ 1000) (hC : C ≤ 1000) :
    Calls Try.prog 56 #[.agg #[.int .i64 R, .int .i64 C, .slice (some ⟨gg, 0, none⟩) n cap]] w (GPost false G0 w) := by
  have hb1 : Below w.heap.size w (w.alloc (.cells #[.int .i64 R, .int .i64 C, .slice (some ⟨gg, 0, none⟩) n cap] 49)) := (Below.refl _ _).alloc (Nat.le_refl _) _
  have H1 := Lib.hid (h.keep hb1 (Nat.le_refl _))
  have HV := Lib.hid (valid_any R C n gg cap Z _ H1.out.cell (by omega) H1.out.lt hR hC)
  have HB := Lib.hid (relB_no hok)
  have HB1 := Lib.hid hb1
  clear h hok hb1
  go_enter Try.func56, Try.ntmps56
  go_wp2_with fail
  refine HV.out.mono ?_
  rintro e w2 ⟨rfl, hb2⟩
  rw [HB.out]
  have HB2 := Lib.hid (HB1.out.trans (hb2.mono (by simp)))
  clear hb2
  go_wp2
  go_ret2
  exact ⟨_, rfl, ⟨_, _, _, rfl⟩, OwM.none _ _ _, HB2.out⟩

/-- what a method that makes a relief leaves -/
def MPost (R C : Nat) (Z : Nat → Int) (w : World) (e : Ending) (w' : World) : Prop :=
  ∃ n gg cap, e = .returned (.agg #[.int .i64 R, .int .i64 C, .slice (some ⟨gg, 0, none⟩) n cap]) ∧ Rv w' R C n gg cap Z ∧ Below w.heap.size w w'

theorem div_at (r c C : Nat) (hc : c < C) : (r * C + c) / C = r ∧ (r * C + c) % C = c := by
  have h0 : 0 < C := by omega
  constructor
  · rw [Nat.add_comm, Nat.add_mul_div_right _ _ h0, Nat.div_eq_of_lt hc]; omega
  · rw [Nat.add_comm, Nat.add_mul_mod_self_right, Nat.mod_eq_of_lt hc]

theorem cell_lt {r c R C n : Nat} (hn : n = R * C) (hr : r < R) (hc : c < C) : r * C + c < n := by
  have h1 : (r + 1) * C ≤ R * C := Nat.mul_le_mul_right C hr
  rw [Nat.add_mul] at h1
  omega


theorem callFunc_turned : ∀ (args : Array Value) (W : World), Sem.run Try.prog (callFunc 91 args) W = .ok (.enter 91 args) W := fun _ _ => by kernel_rfl

set_option maxHeartbeats 1000000 in
set_option maxRecDepth 20000 in
theorem clos_turned (R C n gg cap B r c m : Nat) (Zm : Int) (W : World) (h0 : W.cell? ⟨B, 0, none⟩ = some (.int .i64 R)) (h1 : W.cell? ⟨B, 1, none⟩ = some (.int .i64 C)) (h2 : W.cell? ⟨B, 2, none⟩ = some (.slice (some ⟨gg, 0, none⟩) n cap))
    (hr : r < C) (hc : c < R) (hR : R ≤ 7) (hC : C ≤ 7) (hm : m = (R - 1 - c) * C + r) (hmn : m < n) (hn : n ≤ 49) (hcell : W.cell? ⟨gg, m, none⟩ = some (.int .i64 Zm)) (hz : 0 ≤ Zm ∧ Zm ≤ 99) :
    Calls Try.prog 91 #[.int .i64 r, .int .i64 c, .pointer (some ⟨B, 0, none⟩)] W (IntPost Zm W) := by
  have hmi : ((R : Int) - 1 - c) * (C : Int) + (r : Int) = (m : Int) := by
    have e : ((R - 1 - c : Nat) : Int) = ((R : Int) - 1 - c) := by omega
    have e2 : ((r : Nat) : Int) = (r : Int) := by omega
    rw [hm, Int.natCast_add, Int.natCast_mul]
    rw [e, e2]
  have hp0 : 0 ≤ ((R : Int) - 1 - c) * (C : Int) := Int.mul_nonneg (by omega) (by omega)
  have hp1 : ((R : Int) - 1 - c) * (C : Int) ≤ 1000 := by omega
  have HA := Lib.hid (at_any R C n gg cap Zm ((R : Int) - 1 - c) (r : Int) m W hmi hp0 hp1 hmn (by omega) hcell)
  obtain ⟨hz0, hz1⟩ := hz
  clear hcell hmi hm hp0 hp1
  go_enter Try.func91, Try.ntmps91
  go_wp2_with fail
  refine HA.out.mono ?_
  rintro e w2 ⟨rfl, hb⟩
  go_wp2
  go_ret
  exact ⟨rfl, hb⟩

set_option maxHeartbeats 1000000 in
set_option maxRecDepth 20000 in
theorem turned_any (R C n gg cap : Nat) (Z : Nat → Int) (w : World) (h : Rv w R C n gg cap Z) (hR : R ≤ 7) (hC : C ≤ 7) (hz : ∀ i, i < n → 0 ≤ Z i ∧ Z i ≤ 99) :
    Calls Try.prog 55 #[.agg #[.int .i64 R, .int .i64 C, .slice (some ⟨gg, 0, none⟩) n cap]] w (MPost C R (fun i => Z ((R - 1 - i % R) * C + i / R)) w) := by
  have hn49 : n ≤ 49 := by rw [h.n_eq]; exact mul_le_49 hR hC
  obtain ⟨W0, hW0⟩ : ∃ W0, W0 = (w.alloc (.cells #[.int .i64 R, .int .i64 C, .slice (some ⟨gg, 0, none⟩) n cap] 49)).alloc (.cells #[.int .i64 0, .int .i64 0, .slice none 0 0] 49) := ⟨_, rfl⟩
  have hs0 : W0.heap.size = w.heap.size + 2 := by rw [hW0]; simp
  have hb0 : Below w.heap.size w W0 := by rw [hW0]; exact ((Below.refl _ _).alloc (Nat.le_refl _) _).alloc (by simp) _
  have hbox : W0.heap[w.heap.size]? = some (.cells #[.int .i64 R, .int .i64 C, .slice (some ⟨gg, 0, none⟩) n cap] 49 (0, 0)) := by rw [hW0]; exact heap_alloc2_old _ _ _
  have hres : W0.heap[w.heap.size + 1]? = some (.cells #[.int .i64 0, .int .i64 0, .slice none 0 0] 49 (0, 0)) := by rw [hW0]; exact heap_alloc2_new _ _ _
  have h0 := h.keep hb0 (Nat.le_refl _)
  have hcon := newRelief_any C R 91 #[.pointer (some ⟨w.heap.size, 0, none⟩)] (fun i => Z ((R - 1 - i % R) * C + i / R)) W0 (by omega) (by omega) callFunc_turned (fun r c W hr hc hbel => by
    obtain ⟨k0, k1, k2, _, _, _⟩ := cells3 ((hbel.block _ (by omega)).trans hbox)
    have hv := h0.keep hbel (Nat.le_refl _)
    have hlt : (R - 1 - c) * C + r < n := cell_lt h0.n_eq (by omega) hr
    have hdz := div_at r c R hc
    have key := clos_turned R C n gg cap w.heap.size r c ((R - 1 - c) * C + r) (Z ((R - 1 - c) * C + r)) W k0 k1 k2 hr hc hR hC rfl hlt hn49 (hv.cell _ hlt) (hz _ hlt)
    refine key.mono fun e w' hp => ⟨?_, hp.2⟩
    rw [hp.1]
    exact ret_int (by simp only [hdz.1, hdz.2]))
  have HC := Lib.hid hcon
  have HRES := Lib.hid hres
  have HB0 := Lib.hid hb0
  have HS0 := Lib.hid hs0
  rw [hW0] at HC
  clear hcon h0 hbox hres hb0 hs0 h hz
  go_enter Try.func55, Try.ntmps55
  go_wp2_with fail
  refine HC.out.mono ?_
  rintro e w2 ⟨n', gg', cap', xs, hn', rfl, hown, hval, hb2⟩
  have hb3 : Below W0.heap.size W0 w2 := by rw [hW0]; exact hb2
  have hown' := hown
  rw [← hW0] at hown'
  have R3 := (hb3.block (w.heap.size + 1) (by have := HS0.out; omega)).trans HRES.out
  obtain ⟨r0, r1, r2, g0, g1, g2⟩ := cells3 R3
  have hlo := (hown'.lt gg' rfl).1
  have hE := three_set w2 (w.heap.size + 1) _ _ _ (.int .i64 C) (.int .i64 R) (.slice (some ⟨gg', 0, none⟩) n' cap') R3
  have O1 := own3 hown' (x := w.heap.size + 1) (by have := HS0.out; omega) (.int .i64 C) (.int .i64 R) (.slice (some ⟨gg', 0, none⟩) n' cap')
  have B1 := below3 (HB0.out.trans (hb3.mono HB0.out.size)) (x := w.heap.size + 1) (by omega) (.int .i64 C) (.int .i64 R) (.slice (some ⟨gg', 0, none⟩) n' cap')
  have HRV := Lib.hid (Rv.of_own O1 hn' hval)
  have HE := Lib.hid hE
  have HB1 := Lib.hid B1
  clear hE R3 O1 B1 hown hown' hval hb2 hb3 hn' hW0
  go_wp2
  exact bodyPost_ret (results_cell_row rfl _ _ (w.heap.size + 1) _ #[.int .i64 C, .int .i64 R, .slice (some ⟨gg', 0, none⟩) n' cap'] _ _ rfl HE.out Try.underlying49 rfl Try.sizeRel) rfl ⟨n', gg', cap', rfl, HRV.out, HB1.out⟩

theorem callFunc_mirrored : ∀ (args : Array Value) (W : World), Sem.run Try.prog (callFunc 94 args) W = .ok (.enter 94 args) W := fun _ _ => by kernel_rfl

set_option maxHeartbeats 1000000 in
set_option maxRecDepth 20000 in
theorem clos_mirrored (R C n gg cap B r c m : Nat) (Zm : Int) (W : World) (h0 : W.cell? ⟨B, 0, none⟩ = some (.int .i64 R)) (h1 : W.cell? ⟨B, 1, none⟩ = some (.int .i64 C)) (h2 : W.cell? ⟨B, 2, none⟩ = some (.slice (some ⟨gg, 0, none⟩) n cap))
    (hr : r < R) (hc : c < C) (hR : R ≤ 7) (hC : C ≤ 7) (hm : m = r * C + (C - 1 - c)) (hmn : m < n) (hn : n ≤ 49) (hcell : W.cell? ⟨gg, m, none⟩ = some (.int .i64 Zm)) (hz : 0 ≤ Zm ∧ Zm ≤ 99) :
    Calls Try.prog 94 #[.int .i64 r, .int .i64 c, .pointer (some ⟨B, 0, none⟩)] W (IntPost Zm W) := by
  have hmi : (r : Int) * (C : Int) + ((C : Int) - 1 - c) = (m : Int) := by
    have e : ((r : Nat) : Int) = (r : Int) := by omega
    have e2 : ((C - 1 - c : Nat) : Int) = ((C : Int) - 1 - c) := by omega
    rw [hm, Int.natCast_add, Int.natCast_mul]
    rw [e2]
  have hp0 : 0 ≤ (r : Int) * (C : Int) := Int.mul_nonneg (by omega) (by omega)
  have hp1 : (r : Int) * (C : Int) ≤ 1000 := by omega
  have HA := Lib.hid (at_any R C n gg cap Zm (r : Int) ((C : Int) - 1 - c) m W hmi hp0 hp1 hmn (by omega) hcell)
  obtain ⟨hz0, hz1⟩ := hz
  clear hcell hmi hm hp0 hp1
  go_enter Try.func94, Try.ntmps94
  go_wp2_with fail
  refine HA.out.mono ?_
  rintro e w2 ⟨rfl, hb⟩
  go_wp2
  go_ret
  exact ⟨rfl, hb⟩

set_option maxHeartbeats 1000000 in
set_option maxRecDepth 20000 in
theorem mirrored_any (R C n gg cap : Nat) (Z : Nat → Int) (w : World) (h : Rv w R C n gg cap Z) (hR : R ≤ 7) (hC : C ≤ 7) (hz : ∀ i, i < n → 0 ≤ Z i ∧ Z i ≤ 99) :
    Calls Try.prog 58 #[.agg #[.int .i64 R, .int .i64 C, .slice (some ⟨gg, 0, none⟩) n cap]] w (MPost R C (fun i => Z (i / C * C + (C - 1 - i % C))) w) := by
  have hn49 : n ≤ 49 := by rw [h.n_eq]; exact mul_le_49 hR hC
  obtain ⟨W0, hW0⟩ : ∃ W0, W0 = (w.alloc (.cells #[.int .i64 R, .int .i64 C, .slice (some ⟨gg, 0, none⟩) n cap] 49)).alloc (.cells #[.int .i64 0, .int .i64 0, .slice none 0 0] 49) := ⟨_, rfl⟩
  have hs0 : W0.heap.size = w.heap.size + 2 := by rw [hW0]; simp
  have hb0 : Below w.heap.size w W0 := by rw [hW0]; exact ((Below.refl _ _).alloc (Nat.le_refl _) _).alloc (by simp) _
  have hbox : W0.heap[w.heap.size]? = some (.cells #[.int .i64 R, .int .i64 C, .slice (some ⟨gg, 0, none⟩) n cap] 49 (0, 0)) := by rw [hW0]; exact heap_alloc2_old _ _ _
  have hres : W0.heap[w.heap.size + 1]? = some (.cells #[.int .i64 0, .int .i64 0, .slice none 0 0] 49 (0, 0)) := by rw [hW0]; exact heap_alloc2_new _ _ _
  have h0 := h.keep hb0 (Nat.le_refl _)
  have hcon := newRelief_any R C 94 #[.pointer (some ⟨w.heap.size, 0, none⟩)] (fun i => Z (i / C * C + (C - 1 - i % C))) W0 (by omega) (by omega) callFunc_mirrored (fun r c W hr hc hbel => by
    obtain ⟨k0, k1, k2, _, _, _⟩ := cells3 ((hbel.block _ (by omega)).trans hbox)
    have hv := h0.keep hbel (Nat.le_refl _)
    have hlt : r * C + (C - 1 - c) < n := cell_lt h0.n_eq hr (by omega)
    have hdz := div_at r c C hc
    have key := clos_mirrored R C n gg cap w.heap.size r c (r * C + (C - 1 - c)) (Z (r * C + (C - 1 - c))) W k0 k1 k2 hr hc hR hC rfl hlt hn49 (hv.cell _ hlt) (hz _ hlt)
    refine key.mono fun e w' hp => ⟨?_, hp.2⟩
    rw [hp.1]
    exact ret_int (by simp only [hdz.1, hdz.2]))
  have HC := Lib.hid hcon
  have HRES := Lib.hid hres
  have HB0 := Lib.hid hb0
  have HS0 := Lib.hid hs0
  rw [hW0] at HC
  clear hcon h0 hbox hres hb0 hs0 h hz
  go_enter Try.func58, Try.ntmps58
  go_wp2_with fail
  refine HC.out.mono ?_
  rintro e w2 ⟨n', gg', cap', xs, hn', rfl, hown, hval, hb2⟩
  have hb3 : Below W0.heap.size W0 w2 := by rw [hW0]; exact hb2
  have hown' := hown
  rw [← hW0] at hown'
  have R3 := (hb3.block (w.heap.size + 1) (by have := HS0.out; omega)).trans HRES.out
  obtain ⟨r0, r1, r2, g0, g1, g2⟩ := cells3 R3
  have hlo := (hown'.lt gg' rfl).1
  have hE := three_set w2 (w.heap.size + 1) _ _ _ (.int .i64 R) (.int .i64 C) (.slice (some ⟨gg', 0, none⟩) n' cap') R3
  have O1 := own3 hown' (x := w.heap.size + 1) (by have := HS0.out; omega) (.int .i64 R) (.int .i64 C) (.slice (some ⟨gg', 0, none⟩) n' cap')
  have B1 := below3 (HB0.out.trans (hb3.mono HB0.out.size)) (x := w.heap.size + 1) (by omega) (.int .i64 R) (.int .i64 C) (.slice (some ⟨gg', 0, none⟩) n' cap')
  have HRV := Lib.hid (Rv.of_own O1 hn' hval)
  have HE := Lib.hid hE
  have HB1 := Lib.hid B1
  clear hE R3 O1 B1 hown hown' hval hb2 hb3 hn' hW0
  go_wp2
  exact bodyPost_ret (results_cell_row rfl _ _ (w.heap.size + 1) _ #[.int .i64 R, .int .i64 C, .slice (some ⟨gg', 0, none⟩) n' cap'] _ _ rfl HE.out Try.underlying49 rfl Try.sizeRel) rfl ⟨n', gg', cap', rfl, HRV.out, HB1.out⟩

end Go.Proofs.Ytekekbepobafdab
