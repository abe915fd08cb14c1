/- The law FnPlaceFrom of the promises: its draw, its walk. -/
import Derived.Test.YteoncpifjifjlaaDoorQd
import Derived.Test.YteoncpifjifjlaaDoorQc
namespace Go.Proofs.YteoncpifjifjlaaDoor
open Go.RowKit
set_option linter.unusedVariables false

theorem add_any (s u : ByteArray) (h1 : s.size ≤ 1000) (h2 : u.size ≤ 1000) : ∃ t : ByteArray, t.size = s.size + u.size ∧ ∀ W : World, (Op.stringOp .add s u).run Tryd.prog W = .ok (.string t) W := by
  obtain ⟨⟨L⟩⟩ := s
  obtain ⟨⟨M⟩⟩ := u
  have e1 : L.length ≤ 1000 := h1
  have e2 : M.length ≤ 1000 := h2
  refine ⟨⟨(L ++ M).toArray⟩, ?_, fun W => run_string_add_lists (w := W) L M (by omega) (by omega)⟩
  show (L ++ M).length = L.length + M.length
  simp

set_option maxHeartbeats 1000000 in
theorem draw_DrawPlaceFrom (v : Value) (n hi : Nat) (w : World) (hv : RdB hi w v n) (hh : hi ≤ w.heap.size) :
    Calls Tryd.prog 32 #[v] w (TdPost w) := by
  have HO := Lib.hid (open_any v n hi w hv hh)
  obtain ⟨ao, cap, cb, off, Z, rfl, _⟩ := hv
  go_enter Tryd.func32, Tryd.ntmps32
  go_wp2_with fail
  refine HO.out.mono ?_
  rintro e w1 ⟨rfl, hr, hb, hs⟩
  have HB := Lib.hid hb
  have HR := Lib.hid hr
  have hs1 : w.heap.size < w1.heap.size := by omega
  clear hb hr hs
  go_wp2_with fail
  refine (sheetDraw_any w.heap.size 0 w1 HR.out (by omega) (by omega)).mono ?_
  rintro e w2 ⟨s, q, rfl, hz, hq, hr2, hc2⟩
  have HB2 := Lib.hid (HB.out.trans (hc2.below (Nat.le_refl _) (by omega)))
  have hs2 : w.heap.size < w2.heap.size := by have := hc2.size; omega
  have HT := Lib.hid (show Txs (w2.alloc (.cells #[.string ⟨#[97, 97]⟩, .string ⟨#[97, 98]⟩, .string ⟨#[99, 100]⟩, .string ⟨#[100, 100]⟩, .string ⟨#[98, 97]⟩, .string ⟨#[97]⟩, .string ⟨#[]⟩, .string ⟨#[97, 101]⟩, .string ⟨#[97, 98, 99]⟩] 9)) w2.heap.size 9 from ⟨_, _, _, heap_alloc_new w2 _, fun j hj => by
    rcases (by omega : j = 0 ∨ j = 1 ∨ j = 2 ∨ j = 3 ∨ j = 4 ∨ j = 5 ∨ j = 6 ∨ j = 7 ∨ j = 8) with rfl | rfl | rfl | rfl | rfl | rfl | rfl | rfl | rfl
    all_goals exact ⟨_, rfl, by decide⟩⟩)
  have HOF := Lib.hid (of_any w.heap.size q w2.heap.size 9 (w2.alloc (.cells #[.string ⟨#[97, 97]⟩, .string ⟨#[97, 98]⟩, .string ⟨#[99, 100]⟩, .string ⟨#[100, 100]⟩, .string ⟨#[98, 97]⟩, .string ⟨#[97]⟩, .string ⟨#[]⟩, .string ⟨#[97, 101]⟩, .string ⟨#[97, 98, 99]⟩] 9)) (hr2.keep ((Below.refl w2.heap.size w2).alloc (Nat.le_refl _) _) (by omega)) (by omega) (by omega) (by omega) (by omega) (by simp) HT.out)
  have HZ := Lib.hid hz
  clear hc2 hr2 hq hz HT
  go_wp2_with fail
  refine HOF.out.mono ?_
  rintro e w3 ⟨u, q2, rfl, hz2, hq2, hr3, hc3⟩
  have hb3 := HB2.out.alloc HB2.out.size (.cells #[.string ⟨#[97, 97]⟩, .string ⟨#[97, 98]⟩, .string ⟨#[99, 100]⟩, .string ⟨#[100, 100]⟩, .string ⟨#[98, 97]⟩, .string ⟨#[97]⟩, .string ⟨#[]⟩, .string ⟨#[97, 101]⟩, .string ⟨#[97, 98, 99]⟩] 9)
  have HB3 := Lib.hid (hb3.trans (hc3.below (Nat.le_refl _) (by simp; omega)))
  obtain ⟨t, ht, hadd⟩ := add_any s u (by have := HZ.out; omega) (by omega)
  have HT := Lib.hid (show t.size ≤ 20 by have := HZ.out; omega)
  clear hc3 hr3 hq2 hz2 hb3 ht
  go_wp2
  go_ret
  exact ⟨t, rfl, HT.out, HB3.out⟩

/-- the law behind its draw, on a full name -/
structure PfY (s sh : ByteArray) (A R a r : Int) (n : Nat) : Prop where
  ipf : ∀ W : World, Calls Tryd.prog 17 #[.string s] W (XyPost A R true W)
  spf : ∀ W : World, Calls Tryd.prog 16 #[.string s] W (XyPost A R true W)
  pn : ∀ W : World, Calls Tryd.prog 28 #[.int .i64 A, .int .i64 R] W (SbPost s true W)
  so : ∀ W : World, Calls Tryd.prog 26 #[.int .i64 A, .int .i64 R] W (SbPost sh true W)
  sf : ∀ W : World, Calls Tryd.prog 15 #[.string sh] W (XyPost a r true W)
  ax : 0 ≤ A ∧ A ≤ 103 ∧ 0 ≤ R ∧ R ≤ 103
  aa : 0 ≤ a ∧ a ≤ 100 ∧ 0 ≤ r ∧ r ≤ 100
  d1 : A - a < 4
  d2 : R - r < 4
  hs : s.size = n + 2
  hsh : sh = s.extract 0 n

theorem pfY_of {s : ByteArray} {X Y : Nat} (hz : s.size ≤ 9223372036854775807) (h : IsFl s X Y) (h1 : ∀ W : World, Calls Tryd.prog 16 #[.string s] W (XyPost X Y true W)) : ∃ n, PfY s (nmS (X / 4) (Y / 4)) X Y ((X / 4 * 4 : Nat) : Int) ((Y / 4 * 4 : Nat) : Int) n := by
  obtain ⟨n, e1, e2, e3⟩ := fl_head h
  have hX := h.1
  have hY := h.2.1
  have pn := fun W : World => implPN_yes X Y hX hY W
  rw [← h.2.2] at pn
  exact ⟨n, implPF_yes hz h, h1, pn, implSO_yes X Y hX hY, implSF_yes ⟨by omega, by omega, rfl⟩, by omega, by omega, by omega, by omega, e1, e3.2.2.symm⟩

set_option maxHeartbeats 4000000 in
set_option maxRecDepth 100000 in
theorem law_FnPlaceFrom (v : Value) (n : Nat) (w : World) (hv : RdB w.heap.size w v n) : Calls Tryd.prog 10 #[v] w (LawPost w) := by
  have HD := Lib.hid (draw_DrawPlaceFrom v n w.heap.size w hv (Nat.le_refl _))
  obtain ⟨ao, cap, cb, off, Z, rfl, hc1, hc2, _⟩ := hv
  by_cases hn : 1048576 < n
  · have hn' : (1048576 : Int) < n := by omega
    go_enter Tryd.func10, Tryd.ntmps10
    go_wp2
    go_ret
    exact ⟨rfl, Below.refl _ _⟩
  · have hn' : ¬ (1048576 : Int) < n := by omega
    go_enter Tryd.func10, Tryd.ntmps10
    go_wp2_with fail
    refine HD.out.mono ?_
    rintro e w1 ⟨s, rfl, hz, hb1⟩
    have HB1 := Lib.hid hb1
    clear hb1 HD
    rcases pf_or s (by omega) with ⟨X, Y, h, hp, _⟩ | ⟨h, hp, hq⟩
    · obtain ⟨m, hy⟩ := pfY_of (by omega) h hp
      generalize nmS (X / 4) (Y / 4) = sh at *
      generalize ((X / 4 * 4 : Nat) : Int) = a at *
      generalize ((Y / 4 * 4 : Nat) : Int) = r at *
      generalize (X : Int) = A at *
      generalize (Y : Int) = R at *
      have HY := Lib.hid hy
      obtain ⟨h1, h2, h3, h4⟩ := hy.ax
      obtain ⟨k1, k2, k3, k4⟩ := hy.aa
      have d1 := hy.d1
      have d2 := hy.d2
      have hss := hy.hs
      have hs1 := seq_yes (a := s) rfl
      have hs2 := seq_yes hy.hsh
      have q1 : (A != A) = false := by simp
      have q2 : (R != R) = false := by simp
      have hsub : (s.size : Int) - 2 = m := by omega
      have hm : (m : Int) ≤ 9223372036854775805 := by omega
      have hle : (m : Int) ≤ s.size := by omega
      have hle' : m ≤ s.size := by omega
      clear hy h hp hss hz
      go_wp2_with fail
      refine (HY.out.ipf _).mono ?_
      rintro e w2 ⟨rfl, hb⟩
      have HB2 := Lib.hid (HB1.out.trans (hb.mono HB1.out.size))
      clear hb
      go_wp2_with fail
      refine (HY.out.spf _).mono ?_
      rintro e w3 ⟨rfl, hb⟩
      have HB3 := Lib.hid (HB2.out.trans (hb.mono HB2.out.size))
      clear hb
      go_wp2_with fail
      refine (HY.out.pn _).mono ?_
      rintro e w4 ⟨rfl, hb⟩
      have HB4 := Lib.hid (HB3.out.trans (hb.mono HB3.out.size))
      clear hb
      go_wp2_with fail
      refine (HY.out.so _).mono ?_
      rintro e w5 ⟨rfl, hb⟩
      have HB5 := Lib.hid (HB4.out.trans (hb.mono HB4.out.size))
      clear hb
      go_wp2_with fail
      refine (HY.out.sf _).mono ?_
      rintro e w6 ⟨rfl, hb⟩
      have HB6 := Lib.hid (HB5.out.trans (hb.mono HB5.out.size))
      clear hb
      go_wp2
      go_ret
      exact ⟨rfl, HB6.out⟩
    · have HI := Lib.hid hq
      have HS := Lib.hid hp
      clear h hp hq
      go_wp2_with fail
      refine (HI.out _).mono ?_
      rintro e w2 ⟨rfl, hb⟩
      have HB2 := Lib.hid (HB1.out.trans (hb.mono HB1.out.size))
      clear hb
      go_wp2_with fail
      refine (HS.out _).mono ?_
      rintro e w3 ⟨rfl, hb⟩
      have HB3 := Lib.hid (HB2.out.trans (hb.mono HB2.out.size))
      clear hb
      go_wp2
      go_ret
      exact ⟨rfl, HB3.out⟩

end Go.Proofs.YteoncpifjifjlaaDoor
