/- Short corrections: the program's shortOf, FixesAre on both sides. -/
import Derived.Test.YtidlloelinmnnaaEl
import Derived.Test.YtidlloelinmnnaaFd
namespace Go.Proofs.Ytidlloelinmnnaa
open Go.RowKit Go.Shelf
set_option linter.unusedVariables false
set_option linter.unusedSimpArgs false

def AreOk (g : G) (n : Nat) (Z : Nat → Int) : Prop := FxOk g n Z ∧ ShL (fxF Z 0 n)
noncomputable def areB (g : G) (n : Nat) (Z : Nat → Int) : Bool := @decide (AreOk g n Z) (Classical.propDecidable _)
theorem areB_yes {g : G} {n : Nat} {Z : Nat → Int} (h : AreOk g n Z) : areB g n Z = true := by simp [areB, h]
theorem areB_no {g : G} {n : Nat} {Z : Nat → Int} (h : ¬ AreOk g n Z) : areB g n Z = false := by simp [areB, h]
/-- what shortOf leaves -/
def ShP (g : G) (n : Nat) (Z : Nat → Int) (w : World) (e : Ending) (w' : World) : Prop := Below w.heap.size w w' ∧
  ((AreOk g n Z ∧ ∃ n0 g0 c0 n1 g1 c1, e = .returned (.tuple #[edV g n0 g0 c0 n1 g1 c1 (fxF Z 0 n), .bool true])) ∨
   (¬ AreOk g n Z ∧ e = .returned (.tuple #[edZ, .bool false])))

set_option maxRecDepth 20000 in
set_option maxHeartbeats 4000000 in
theorem shortOf_any (v u : Value) (lo hi n : Nat) (g : G) (Z : Nat → Int) (w : World) (hv : RdM lo hi w v g) (hu : RdT lo hi w u n Z) (hh : hi ≤ w.heap.size) (hn : n ≤ 1048576) :
    Calls Try.prog 87 #[v, u] w (ShP g n Z w) := by
  have HN := Lib.hid (heap_alloc_new w (.cells #[.int .i64 0, .int .i64 0, .slice none 0 0, .int .i64 0, .int .i64 0, .slice none 0 0, .nilIface] 72))
  have HB1 := Lib.hid (show Below w.heap.size w (w.alloc (.cells #[.int .i64 0, .int .i64 0, .slice none 0 0, .int .i64 0, .int .i64 0, .slice none 0 0, .nilIface] 72)) from (Below.refl _ _).alloc (Nat.le_refl _) _)
  have hs1 : (w.alloc (.cells #[.int .i64 0, .int .i64 0, .slice none 0 0, .int .i64 0, .int .i64 0, .slice none 0 0, .nilIface] 72)).heap.size = w.heap.size + 1 := by simp
  have HC := Lib.hid (editionOf_any v u lo hi n g Z _ (hv.same (SameIn.below HB1.out hh)) (hu.same (SameIn.below HB1.out hh)) (by omega) hn)
  clear hv hu
  generalize hW1 : w.alloc (.cells #[.int .i64 0, .int .i64 0, .slice none 0 0, .int .i64 0, .int .i64 0, .slice none 0 0, .nilIface] 72) = W1 at HN HB1 hs1 HC
  go_enter Try.func87, Try.ntmps87
  go_wp2_with fail
  refine HC.out.mono ?_
  rintro e w2 ⟨hb2, hcase⟩
  have hz2 := hb2.size
  rcases hcase with ⟨hok, n0, g0, c0, n1, g1, c1, rfl, _, _⟩ | ⟨hno, rfl⟩
  · obtain ⟨vt, eV, hme, hcf⟩ := sh_rest (fxF Z 0 n)
    simp only [edV, eV]
    have HEV := Lib.hid eV
    have HFX := Lib.hid hok
    have hbB : Below w2.heap.size w2 (w2.alloc (.cells #[.int .i64 g.n, .int .i64 (g.len 0), .slice (some ⟨g0, 0, none⟩) n0 c0, .int .i64 g.n, .int .i64 (g.len 0), .slice (some ⟨g1, 0, none⟩) n1 c1, .iface vt (dnR (fxF Z 0 n))] 72)) := (Below.refl _ _).alloc (Nat.le_refl _) _
    have HB2 := Lib.hid ((HB1.out.trans (hb2.mono (by omega))).trans (hbB.mono (by omega)))
    have HN2 := Lib.hid (((hbB.block w.heap.size (by omega)).trans (hb2.block _ (by omega))).trans HN.out)
    have hm2 := heap_alloc_new w2 (.cells #[.int .i64 g.n, .int .i64 (g.len 0), .slice (some ⟨g0, 0, none⟩) n0 c0, .int .i64 g.n, .int .i64 (g.len 0), .slice (some ⟨g1, 0, none⟩) n1 c1, .iface vt (dnR (fxF Z 0 n))] 72)
    have HM2 := Lib.hid hm2
    have hz3 : (w2.alloc (.cells #[.int .i64 g.n, .int .i64 (g.len 0), .slice (some ⟨g0, 0, none⟩) n0 c0, .int .i64 g.n, .int .i64 (g.len 0), .slice (some ⟨g1, 0, none⟩) n1 c1, .iface vt (dnR (fxF Z 0 n))] 72)).heap.size = w2.heap.size + 1 := by simp
    generalize hW3 : w2.alloc (.cells #[.int .i64 g.n, .int .i64 (g.len 0), .slice (some ⟨g0, 0, none⟩) n0 c0, .int .i64 g.n, .int .i64 (g.len 0), .slice (some ⟨g1, 0, none⟩) n1 c1, .iface vt (dnR (fxF Z 0 n))] 72) = W3 at HB2 HN2 HM2 hm2 hz3
    obtain ⟨⟨m0, m1, m2, m3, m4, m5, m6⟩, _⟩ := cells7 hm2
    have HSH := Lib.hid (isShort_any (fxF Z 0 n) W3)
    clear hW1 hb2 hbB hok eV hm2
    by_cases hsh : ShL (fxF Z 0 n)
    case neg =>
      have HNO := Lib.hid (show ¬ AreOk g n Z from fun h => hsh h.2)
      rw [shB_no hsh] at HSH
      clear hsh
      go_wp2_with fail
      try rw [hW3]
      refine HSH.out.mono ?_
      rintro e w4 ⟨rfl, hb4⟩
      have hN4 := (hb4.block w.heap.size (by omega)).trans HN2.out
      obtain ⟨⟨q0, q1, q2, q3, q4, q5, q6⟩, f0, f1, f2, f3, f4, f5, f6⟩ := cells7 hN4
      have HE := Lib.hid (seven_set _ _ _ _ _ _ _ _ _ (.int .i64 0) (.int .i64 0) (.slice none 0 0) (.int .i64 0) (.int .i64 0) (.slice none 0 0) .nilIface hN4)
      have HB7 := Lib.hid (below7 (HB2.out.trans (hb4.mono (by omega))) (x := w.heap.size) (Nat.le_refl _) (.int .i64 0) (.int .i64 0) (.slice none 0 0) (.int .i64 0) (.int .i64 0) (.slice none 0 0) .nilIface)
      clear hb4 hN4 hW3 m0 m1 m2 m3 m4 m5 m6 hme hcf
      go_wp2
      exact bodyPost_ret (results_cell_row_tmp rfl _ _ w.heap.size _ #[.int .i64 0, .int .i64 0, .slice none 0 0, .int .i64 0, .int .i64 0, .slice none 0 0, .nilIface] _ _ rfl HE.out Try.underlying72 rfl Try.sizeEd _ rfl) rfl ⟨HB7.out, Or.inr ⟨HNO.out, rfl⟩⟩
    have HYES := Lib.hid (show AreOk g n Z from ⟨HFX.out, hsh⟩)
    rw [shB_yes hsh] at HSH
    clear hsh
    go_wp2_with fail
    try rw [hW3]
    refine HSH.out.mono ?_
    rintro e w4 ⟨rfl, hb4⟩
    have hN4 := (hb4.block w.heap.size (by omega)).trans HN2.out
    obtain ⟨⟨q0, q1, q2, q3, q4, q5, q6⟩, f0, f1, f2, f3, f4, f5, f6⟩ := cells7 hN4
    obtain ⟨⟨m0', m1', m2', m3', m4', m5', m6'⟩, _⟩ := cells7 ((hb4.block w2.heap.size (by omega)).trans HM2.out)
    have HE := Lib.hid (seven_set _ _ _ _ _ _ _ _ _ (.int .i64 g.n) (.int .i64 (g.len 0)) (.slice (some ⟨g0, 0, none⟩) n0 c0) (.int .i64 g.n) (.int .i64 (g.len 0)) (.slice (some ⟨g1, 0, none⟩) n1 c1) (.iface vt (dnR (fxF Z 0 n))) hN4)
    have HB7 := Lib.hid (below7 (HB2.out.trans (hb4.mono (by omega))) (x := w.heap.size) (Nat.le_refl _) (.int .i64 g.n) (.int .i64 (g.len 0)) (.slice (some ⟨g0, 0, none⟩) n0 c0) (.int .i64 g.n) (.int .i64 (g.len 0)) (.slice (some ⟨g1, 0, none⟩) n1 c1) (.iface vt (dnR (fxF Z 0 n))))
    clear hb4 hN4 hW3 m0 m1 m2 m3 m4 m5 m6 hme hcf
    go_wp2
    exact bodyPost_ret (results_cell_row_tmp rfl _ _ w.heap.size _ #[.int .i64 g.n, .int .i64 (g.len 0), .slice (some ⟨g0, 0, none⟩) n0 c0, .int .i64 g.n, .int .i64 (g.len 0), .slice (some ⟨g1, 0, none⟩) n1 c1, .iface vt (dnR (fxF Z 0 n))] _ _ rfl HE.out Try.underlying72 rfl Try.sizeEd _ rfl) rfl ⟨HB7.out, Or.inl ⟨HYES.out, n0, g0, c0, n1, g1, c1, by rw [edV, HEV.out]; rfl⟩⟩
  · have HNO := Lib.hid (show ¬ AreOk g n Z from fun h => hno h.1)
    simp only [edZ]
    have hbB : Below w2.heap.size w2 (w2.alloc (.cells #[.int .i64 0, .int .i64 0, .slice none 0 0, .int .i64 0, .int .i64 0, .slice none 0 0, .nilIface] 72)) := (Below.refl _ _).alloc (Nat.le_refl _) _
    have hN4 := ((hbB.block w.heap.size (by omega)).trans (hb2.block _ (by omega))).trans HN.out
    obtain ⟨⟨q0, q1, q2, q3, q4, q5, q6⟩, f0, f1, f2, f3, f4, f5, f6⟩ := cells7 hN4
    have HE := Lib.hid (seven_set _ _ _ _ _ _ _ _ _ (.int .i64 0) (.int .i64 0) (.slice none 0 0) (.int .i64 0) (.int .i64 0) (.slice none 0 0) .nilIface hN4)
    have HB7 := Lib.hid (below7 ((HB1.out.trans (hb2.mono (by omega))).trans (hbB.mono (by omega))) (x := w.heap.size) (Nat.le_refl _) (.int .i64 0) (.int .i64 0) (.slice none 0 0) (.int .i64 0) (.int .i64 0) (.slice none 0 0) .nilIface)
    clear hb2 hN4 hbB hno hW1
    go_wp2
    exact bodyPost_ret (results_cell_row_tmp rfl _ _ w.heap.size _ #[.int .i64 0, .int .i64 0, .slice none 0 0, .int .i64 0, .int .i64 0, .slice none 0 0, .nilIface] _ _ rfl HE.out Try.underlying72 rfl Try.sizeEd _ rfl) rfl ⟨HB7.out, Or.inr ⟨HNO.out, rfl⟩⟩

set_option maxRecDepth 20000 in
set_option maxHeartbeats 4000000 in
theorem implFixesAre_any (v u : Value) (lo hi n : Nat) (g : G) (Z : Nat → Int) (w : World) (hv : RdM lo hi w v g) (hu : RdT lo hi w u n Z) (hh : hi ≤ w.heap.size) (hn : n ≤ 1048576) :
    Calls Try.prog 48 #[v, u] w (BlPost (areB g n Z) w) := by
  have HE := Lib.hid (shortOf_any v u lo hi n g Z w hv hu hh hn)
  clear hv hu
  go_enter Try.func48, Try.ntmps48
  go_wp2_with fail
  refine HE.out.mono ?_
  rintro e w2 ⟨hb2, hcase⟩
  rcases hcase with ⟨hok, n0, g0, c0, n1, g1, c1, rfl⟩ | ⟨hno, rfl⟩
  · have HY := Lib.hid (areB_yes hok)
    obtain ⟨vt, eV, _⟩ := dn_rest (fxF Z 0 n)
    simp only [edV, eV]
    clear hok eV
    go_wp2
    go_ret
    exact ⟨by rw [HY.out]; rfl, hb2.alloc hb2.size _⟩
  · have HY := Lib.hid (areB_no hno)
    simp only [edZ]
    clear hno
    go_wp2
    go_ret
    exact ⟨by rw [HY.out]; rfl, hb2.alloc hb2.size _⟩

end Go.Proofs.Ytidlloelinmnnaa
