/- The program's layers: made, asked for land, counted. -/
import Derived.Test.YtplfphpnpjjinabLvM
import Derived.Test.YtplfphpnpjjinabImplG
import Derived.Test.YtplfphpnpjjinabRange
namespace Go.Proofs.Ytplfphpnpjjinab
open Go.RowKit
set_option linter.unusedVariables false

theorem Try.sizeLay : (Try.prog.info? 60).map (·.size) = some 4 := by kernel_rfl

theorem four_set (w : World) (b : Nat) (x y z u x' y' z' u' : Value) {t : TypeId} (h : w.heap[b]? = some (.cells #[x, y, z, u] t (0, 0))) :
    ((((w.setCell ⟨b, 0, none⟩ x').setCell ⟨b, 1, none⟩ y').setCell ⟨b, 2, none⟩ z').setCell ⟨b, 3, none⟩ u').heap[b]? = some (.cells #[x', y', z', u'] t (0, 0)) := by
  have h1 := heap_setCell_same w b 0 #[x, y, z, u] t x' h
  have h2 := heap_setCell_same _ b 1 _ t y' h1
  have h3 := heap_setCell_same _ b 2 _ t z' h2
  have h4 := heap_setCell_same _ b 3 _ t u' h3
  rw [h4]
  simp
theorem cells4 {w : World} {b : Nat} {x y z u : Value} {t : TypeId} (h : w.heap[b]? = some (.cells #[x, y, z, u] t (0, 0))) :
    w.cell? ⟨b, 0, none⟩ = some x ∧ w.cell? ⟨b, 1, none⟩ = some y ∧ w.cell? ⟨b, 2, none⟩ = some z ∧ w.cell? ⟨b, 3, none⟩ = some u :=
  ⟨by simp [World.cell?, h], by simp [World.cell?, h], by simp [World.cell?, h], by simp [World.cell?, h]⟩
theorem froz4 {w : World} {b : Nat} {x y z u : Value} {t : TypeId} (h : w.heap[b]? = some (.cells #[x, y, z, u] t (0, 0))) :
    w.frozen? ⟨b, 0, none⟩ = false ∧ w.frozen? ⟨b, 1, none⟩ = false ∧ w.frozen? ⟨b, 2, none⟩ = false ∧ w.frozen? ⟨b, 3, none⟩ = false :=
  ⟨by simp [World.frozen?, h], by simp [World.frozen?, h], by simp [World.frozen?, h], by simp [World.frozen?, h]⟩
theorem cell4_far {w : World} {x y o : Nat} (a b c d : Value) (h : y ≠ x) : ((((w.setCell ⟨x, 0, none⟩ a).setCell ⟨x, 1, none⟩ b).setCell ⟨x, 2, none⟩ c).setCell ⟨x, 3, none⟩ d).cell? ⟨y, o, none⟩ = w.cell? ⟨y, o, none⟩ := by
  rw [World.cell?_of_block (a := ⟨y, o, none⟩) (Below.heap_setCell _ ⟨x, 3, none⟩ d y h), World.cell?_of_block (a := ⟨y, o, none⟩) (Below.heap_setCell _ ⟨x, 2, none⟩ c y h), World.cell?_of_block (a := ⟨y, o, none⟩) (Below.heap_setCell _ ⟨x, 1, none⟩ b y h), World.cell?_of_block (a := ⟨y, o, none⟩) (Below.heap_setCell _ ⟨x, 0, none⟩ a y h)]
theorem below4 {B : Nat} {a w : World} (h : Below B a w) {x : Nat} (hx : B ≤ x) (p q r s : Value) : Below B a ((((w.setCell ⟨x, 0, none⟩ p).setCell ⟨x, 1, none⟩ q).setCell ⟨x, 2, none⟩ r).setCell ⟨x, 3, none⟩ s) :=
  (((h.setCell (p := ⟨x, 0, none⟩) hx p).setCell (p := ⟨x, 1, none⟩) hx q).setCell (p := ⟨x, 2, none⟩) hx r).setCell (p := ⟨x, 3, none⟩) hx s

/-- what layerOf answers for a grid and a level -/
def LyYes (g : G) (lv : Int) (w : World) (e : Ending) (w' : World) : Prop :=
  ∃ n gg cap, e = .returned (.tuple #[.agg #[.int .i64 g.n, .int .i64 (g.len 0), .slice (some ⟨gg, 0, none⟩) n cap, .int .i64 lv], .bool true]) ∧ Rv w' g.n (g.len 0) n gg cap g.flat ∧ Below w.heap.size w w'
def LyNo (w : World) (e : Ending) (w' : World) : Prop :=
  e = .returned (.tuple #[.agg #[.int .i64 0, .int .i64 0, .slice none 0 0, .int .i64 0], .bool false]) ∧ Below w.heap.size w w'

set_option maxHeartbeats 4000000 in
set_option maxRecDepth 100000 in
theorem layerOf_yes (v : Value) (lo hi : Nat) (g : G) (lv : Int) (w : World) (hv : RdM lo hi w v g) (hh : hi ≤ w.heap.size) (h : g.LvOk lv) :
    Calls Try.prog 55 #[v, .int .i64 lv] w (LyYes g lv w) := by
  have hb0 := (Below.refl w.heap.size w).alloc (Nat.le_refl _) (.cells #[.int .i64 0, .int .i64 0, .slice none 0 0, .int .i64 0] 60)
  have HC := Lib.hid (reliefOf_yes v lo hi g (w.alloc (.cells #[.int .i64 0, .int .i64 0, .slice none 0 0, .int .i64 0] 60)) (hv.same (SameIn.below hb0 hh)) (Nat.le_trans hh hb0.size) h.1)
  have hl1 := h.2.1
  have hl2 := h.2.2
  have HB0 := Lib.hid hb0
  clear hv h hb0
  go_enter Try.func55, Try.ntmps55
  go_wp2_with fail
  refine HC.out.mono ?_
  rintro e w1 ⟨n, gg, cap, xs, hn, rfl, hown, hval, hb1⟩
  have hrv := Rv.of_own hown hn hval
  have hgl := (hown.lt gg rfl).1
  simp only [World.size_alloc] at hgl
  have hs1 := hb1.size
  simp only [World.size_alloc] at hs1
  have hR := (hb1.block w.heap.size (by simp)).trans (heap_alloc_new w (.cells #[.int .i64 0, .int .i64 0, .slice none 0 0, .int .i64 0] 60))
  have hB1 := HB0.out.trans (hb1.mono (by simp))
  have HLOC := Lib.hid (heap_alloc_new w1 (.cells #[.int .i64 g.n, .int .i64 (g.len 0), .slice (some ⟨gg, 0, none⟩) n cap] 50))
  have HR := Lib.hid ((Below.heap_alloc w1 (.cells #[.int .i64 g.n, .int .i64 (g.len 0), .slice (some ⟨gg, 0, none⟩) n cap] 50) w.heap.size (by omega)).trans hR)
  have HRV := Lib.hid (hrv.keep ((Below.refl w1.heap.size w1).alloc (Nat.le_refl _) (.cells #[.int .i64 g.n, .int .i64 (g.len 0), .slice (some ⟨gg, 0, none⟩) n cap] 50)) (Nat.le_refl _))
  have HB1 := Lib.hid (hB1.alloc (by omega) (.cells #[.int .i64 g.n, .int .i64 (g.len 0), .slice (some ⟨gg, 0, none⟩) n cap] 50))
  clear hn hown hval hb1 hrv hR hB1
  go_wp2_with fail
  refine (isHeight_yes lv _ hl1 hl2).mono ?_
  rintro e w' ⟨rfl, rfl⟩
  generalize hW1 : w1.alloc (.cells #[.int .i64 g.n, .int .i64 (g.len 0), .slice (some ⟨gg, 0, none⟩) n cap] 50) = W1 at HLOC HR HRV HB1 ⊢
  clear hW1
  obtain ⟨d0, d1, d2, _, _, _⟩ := cells3 HLOC.out
  obtain ⟨r0, r1, r2, r3⟩ := cells4 HR.out
  obtain ⟨f0, f1, f2, f3⟩ := froz4 HR.out
  have HE := Lib.hid (four_set W1 w.heap.size _ _ _ _ (.int .i64 g.n) (.int .i64 (g.len 0)) (.slice (some ⟨gg, 0, none⟩) n cap) (.int .i64 lv) HR.out)
  have B1 := below4 HB1.out (Nat.le_refl _) (.int .i64 g.n) (.int .i64 (g.len 0)) (.slice (some ⟨gg, 0, none⟩) n cap) (.int .i64 lv)
  have HBB := Lib.hid B1
  have hne : gg ≠ w.heap.size := by omega
  clear B1
  go_wp2
  exact bodyPost_ret (results_cell_row_tmp rfl _ _ w.heap.size _ #[.int .i64 g.n, .int .i64 (g.len 0), .slice (some ⟨gg, 0, none⟩) n cap, .int .i64 lv] _ _ rfl HE.out Try.underlying60 rfl Try.sizeLay (.bool true) rfl) rfl
    ⟨n, gg, cap, rfl, ⟨HRV.out.n_eq, by simpa [World.setCell] using HRV.out.lt, HRV.out.le, fun i hi => (cell4_far _ _ _ _ hne).trans (HRV.out.cell i hi)⟩, HBB.out⟩

set_option maxHeartbeats 4000000 in
set_option maxRecDepth 100000 in
theorem layerOf_no (v : Value) (lo hi : Nat) (g : G) (lv : Int) (w : World) (hv : RdM lo hi w v g) (hh : hi ≤ w.heap.size) (h : ¬ g.LvOk lv) :
    Calls Try.prog 55 #[v, .int .i64 lv] w (LyNo w) := by
  have hb0 := (Below.refl w.heap.size w).alloc (Nat.le_refl _) (.cells #[.int .i64 0, .int .i64 0, .slice none 0 0, .int .i64 0] 60)
  have HB0 := Lib.hid hb0
  have hv1 := hv.same (SameIn.below hb0 hh)
  have hh1 := Nat.le_trans hh hb0.size
  by_cases hval : g.Valid
  · have HC := Lib.hid (reliefOf_yes v lo hi g (w.alloc (.cells #[.int .i64 0, .int .i64 0, .slice none 0 0, .int .i64 0] 60)) hv1 hh1 hval)
    have HL := Lib.hid (show lv < 0 ∨ 99 < lv by
      by_cases h1 : 0 ≤ lv
      · by_cases h2 : lv ≤ 99
        · exact absurd ⟨hval, h1, h2⟩ h
        · omega
      · omega)
    clear hv h hb0 hval hv1 hh1
    go_enter Try.func55, Try.ntmps55
    go_wp2_with fail
    refine HC.out.mono ?_
    rintro e w1 ⟨n, gg, cap, xs, hn, rfl, hown, hval, hb1⟩
    have hs1 := hb1.size
    simp only [World.size_alloc] at hs1
    have hR := (hb1.block w.heap.size (by simp)).trans (heap_alloc_new w (.cells #[.int .i64 0, .int .i64 0, .slice none 0 0, .int .i64 0] 60))
    have hB1 := HB0.out.trans (hb1.mono (by simp))
    have HR := Lib.hid ((Below.heap_alloc w1 (.cells #[.int .i64 g.n, .int .i64 (g.len 0), .slice (some ⟨gg, 0, none⟩) n cap] 50) w.heap.size (by omega)).trans hR)
    have HB1 := Lib.hid (hB1.alloc (by omega) (.cells #[.int .i64 g.n, .int .i64 (g.len 0), .slice (some ⟨gg, 0, none⟩) n cap] 50))
    clear hn hown hval hb1 hR hB1
    go_wp2_with fail
    refine (isHeight_no lv _ HL.out).mono ?_
    rintro e w' ⟨rfl, rfl⟩
    generalize hW1 : w1.alloc (.cells #[.int .i64 g.n, .int .i64 (g.len 0), .slice (some ⟨gg, 0, none⟩) n cap] 50) = W1 at HR HB1 ⊢
    clear hW1
    obtain ⟨r0, r1, r2, r3⟩ := cells4 HR.out
    obtain ⟨f0, f1, f2, f3⟩ := froz4 HR.out
    have HE := Lib.hid (four_set W1 w.heap.size _ _ _ _ (.int .i64 0) (.int .i64 0) (.slice none 0 0) (.int .i64 0) HR.out)
    have B1 := below4 HB1.out (Nat.le_refl _) (.int .i64 0) (.int .i64 0) (.slice none 0 0) (.int .i64 0)
    have HBB := Lib.hid B1
    clear B1
    go_wp2
    exact bodyPost_ret (results_cell_row_tmp rfl _ _ w.heap.size _ #[.int .i64 0, .int .i64 0, .slice none 0 0, .int .i64 0] _ _ rfl HE.out Try.underlying60 rfl Try.sizeLay (.bool false) rfl) rfl ⟨rfl, HBB.out⟩
  · have HC := Lib.hid (reliefOf_no v lo hi g (w.alloc (.cells #[.int .i64 0, .int .i64 0, .slice none 0 0, .int .i64 0] 60)) hv1 hh1 hval)
    clear hv h hb0 hval hv1 hh1
    go_enter Try.func55, Try.ntmps55
    go_wp2_with fail
    refine HC.out.mono ?_
    rintro e w1 ⟨rfl, hb1⟩
    have hs1 := hb1.size
    simp only [World.size_alloc] at hs1
    have hR := (hb1.block w.heap.size (by simp)).trans (heap_alloc_new w (.cells #[.int .i64 0, .int .i64 0, .slice none 0 0, .int .i64 0] 60))
    have hB1 := HB0.out.trans (hb1.mono (by simp))
    have hR2 := (Below.heap_alloc w1 (.cells #[.int .i64 0, .int .i64 0, .slice none 0 0] 50) w.heap.size (by omega)).trans hR
    have HR := Lib.hid hR2
    have HB1 := Lib.hid (hB1.alloc (by omega) (.cells #[.int .i64 0, .int .i64 0, .slice none 0 0] 50))
    obtain ⟨r0, r1, r2, r3⟩ := cells4 hR2
    obtain ⟨f0, f1, f2, f3⟩ := froz4 hR2
    have HE := Lib.hid (four_set _ w.heap.size _ _ _ _ (.int .i64 0) (.int .i64 0) (.slice none 0 0) (.int .i64 0) hR2)
    have B1 := below4 HB1.out (Nat.le_refl _) (.int .i64 0) (.int .i64 0) (.slice none 0 0) (.int .i64 0)
    have HBB := Lib.hid B1
    clear hb1 hR hB1 hR2 B1
    go_wp2
    exact bodyPost_ret (results_cell_row_tmp rfl _ _ w.heap.size _ #[.int .i64 0, .int .i64 0, .slice none 0 0, .int .i64 0] _ _ rfl HE.out Try.underlying60 rfl Try.sizeLay (.bool false) rfl) rfl ⟨rfl, HBB.out⟩

set_option maxHeartbeats 2000000 in
set_option maxRecDepth 100000 in
theorem isLand_yes (R C gg cap cnt : Nat) (Z : Nat → Int) (lv : Int) (k : Nat) (w : World) (h : Rv w R C cnt gg cap Z) (hk : k < cnt) (hc : cnt ≤ 1000) (hl : lv ≤ Z k) :
    Calls Try.prog 92 #[.agg #[.int .i64 R, .int .i64 C, .slice (some ⟨gg, 0, none⟩) cnt cap, .int .i64 lv], .int .i64 k] w (BlPost true w) := by
  have hb := (Below.refl w.heap.size w).alloc (Nat.le_refl _) (.cells #[.int .i64 R, .int .i64 C, .slice (some ⟨gg, 0, none⟩) cnt cap, .int .i64 lv] 60)
  have c1 := (h.keep hb (Nat.le_refl _)).cell k hk
  have hle := h.le
  have HB := Lib.hid hb
  have hk' : (k : Int) < cnt := by omega
  generalize Z k = z at hl c1
  clear h hb
  go_enter Try.func92, Try.ntmps92
  go_wp2
  go_quiet (fail)
  go_wp2
  go_ret
  exact ⟨rfl, below_drewN HB.out _⟩

set_option maxHeartbeats 2000000 in
set_option maxRecDepth 100000 in
theorem isLand_no (R C gg cap cnt : Nat) (Z : Nat → Int) (lv : Int) (k : Nat) (w : World) (h : Rv w R C cnt gg cap Z) (hk : k < cnt) (hc : cnt ≤ 1000) (hl : ¬ lv ≤ Z k) :
    Calls Try.prog 92 #[.agg #[.int .i64 R, .int .i64 C, .slice (some ⟨gg, 0, none⟩) cnt cap, .int .i64 lv], .int .i64 k] w (BlPost false w) := by
  have hb := (Below.refl w.heap.size w).alloc (Nat.le_refl _) (.cells #[.int .i64 R, .int .i64 C, .slice (some ⟨gg, 0, none⟩) cnt cap, .int .i64 lv] 60)
  have c1 := (h.keep hb (Nat.le_refl _)).cell k hk
  have hle := h.le
  have HB := Lib.hid hb
  have hk' : (k : Int) < cnt := by omega
  generalize Z k = z at hl c1
  have hd : decide (lv ≤ z) = false := by simpa using hl
  clear h hb
  go_enter Try.func92, Try.ntmps92
  go_wp2
  go_quiet (fail)
  go_wp2
  go_ret
  exact ⟨rfl, below_drewN HB.out _⟩

end Go.Proofs.Ytplfphpnpjjinab
