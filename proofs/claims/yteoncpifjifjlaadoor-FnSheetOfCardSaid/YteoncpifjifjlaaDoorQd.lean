/- Draws of names. -/
import Derived.Test.YteoncpifjifjlaaDoorDrawA
import Derived.Test.YteoncpifjifjlaaDoorPq
namespace Go.Proofs.YteoncpifjifjlaaDoor
open Go.RowKit
set_option linter.unusedVariables false

theorem Chg.thenB {lo hi B : Nat} {w w2 x : World} (h : Chg lo hi w w2) (hb : Below B w2 x) (hB : w.heap.size ≤ B) : Chg lo hi w x :=
  ⟨hb.os.trans h.os, hb.tape.trans h.tape, hb.output.trans h.output, Nat.le_trans h.size hb.size, fun k h1 h2 => (hb.block k (by omega)).trans (h.block k h1 h2)⟩

/-- block b holds n short texts -/
def Txs (w : World) (b n : Nat) : Prop := ∃ cs t fr, w.heap[b]? = some (.cells cs t fr) ∧ ∀ k, k < n → ∃ s : ByteArray, cs[k]? = some (.string s) ∧ s.size ≤ 8

/-- a text is drawn -/
def TxPost (B p m : Nat) (w : World) (e : Ending) (w' : World) : Prop :=
  ∃ s : ByteArray, ∃ q, e = .returned (.string s) ∧ s.size ≤ 8 ∧ q ≤ p + m ∧ Rdr w' B q ∧ Chg B (B + 1) w w'

set_option maxHeartbeats 2000000 in
theorem of_any (B p b n : Nat) (w : World) (h : Rdr w B p) (hp : p ≤ 100000) (hn1 : 1 ≤ n) (hn2 : n ≤ 1000) (hb : b ≠ B) (hblt : b < w.heap.size) (ht : Txs w b n) :
    Calls Tryd.prog 63 #[.pointer (some ⟨B, 0, none⟩), .slice (some ⟨b, 0, none⟩) n n] w (TxPost B p 1 w) := by
  have HP := Lib.hid (pick_any B p n w h hp hn1 hn2)
  have HT := Lib.hid ht
  clear ht h
  go_enter Tryd.func63, Tryd.ntmps63
  go_wp2_with fail
  refine HP.out.mono ?_
  rintro e w1 ⟨k, hk, rfl, hr, hc, hs⟩
  obtain ⟨cs, t, fr, h1, h2⟩ := HT.out
  obtain ⟨s, e1, e2⟩ := h2 k hk
  have hcell : w1.cell? ⟨b, k, none⟩ = some (.string s) := by
    simp only [World.cell?, (hc.block b hblt (by omega)).trans h1]
    simpa using e1
  have hk' : (k : Int) < n := by omega
  have HR := Lib.hid hr
  have HC := Lib.hid hc
  have HZ := Lib.hid e2
  clear hr hc h1 h2 e1 e2 hs
  go_wp2
  go_ret
  exact ⟨s, p + 1, rfl, HZ.out, by omega, HR.out, HC.out⟩

set_option maxHeartbeats 800000 in
theorem sheetDraw_any (B p : Nat) (w : World) (h : Rdr w B p) (hB : B < w.heap.size) (hp : p ≤ 90000) : Calls Tryd.prog 61 #[.pointer (some ⟨B, 0, none⟩)] w (TxPost B p 3 w) := by
  have HP := Lib.hid (pick_any B p 12 w h (by omega) (by omega) (by omega))
  clear h
  go_enter Tryd.func61, Tryd.ntmps61
  go_wp2_with fail
  refine HP.out.mono ?_
  rintro e w1 ⟨k, hk, rfl, hr, hc, hs⟩
  have HR := Lib.hid hr
  have HC := Lib.hid hc
  have hB1 : B < w1.heap.size := by omega
  clear hr hc hs
  by_cases h0 : k = 0
  · subst h0
    have HT := Lib.hid (show Txs (w1.alloc (.cells #[.string ⟨#[]⟩, .string ⟨#[65]⟩, .string ⟨#[65, 48]⟩, .string ⟨#[65, 50, 55]⟩, .string ⟨#[67, 48, 49, 50]⟩, .string ⟨#[99, 49, 50]⟩, .string ⟨#[90, 50, 54]⟩, .string ⟨#[65, 49]⟩, .string ⟨#[65, 65]⟩] 9)) w1.heap.size 9 from ⟨_, _, _, heap_alloc_new w1 _, fun j hj => by
      rcases (by omega : j = 0 ∨ j = 1 ∨ j = 2 ∨ j = 3 ∨ j = 4 ∨ j = 5 ∨ j = 6 ∨ j = 7 ∨ j = 8) with rfl | rfl | rfl | rfl | rfl | rfl | rfl | rfl | rfl
      all_goals exact ⟨_, rfl, by decide⟩⟩)
    have HOF := Lib.hid (of_any B (p + 1) w1.heap.size 9 (w1.alloc (.cells #[.string ⟨#[]⟩, .string ⟨#[65]⟩, .string ⟨#[65, 48]⟩, .string ⟨#[65, 50, 55]⟩, .string ⟨#[67, 48, 49, 50]⟩, .string ⟨#[99, 49, 50]⟩, .string ⟨#[90, 50, 54]⟩, .string ⟨#[65, 49]⟩, .string ⟨#[65, 65]⟩] 9)) (HR.out.keep ((Below.refl w1.heap.size w1).alloc (Nat.le_refl _) _) (by omega)) (by omega) (by omega) (by omega) (by omega) (by simp) HT.out)
    clear HT
    go_wp2_with fail
    refine HOF.out.mono ?_
    rintro e w2 ⟨s, q, rfl, hz, hq, hr2, hc2⟩
    have HR2 := Lib.hid hr2
    have HC2 := Lib.hid (HC.out.trans (((Chg.refl B (B + 1) w1).thenB ((Below.refl w1.heap.size w1).alloc (Nat.le_refl _) _) (by omega)).trans hc2))
    have HZ := Lib.hid hz
    have HQ := Lib.hid hq
    clear hr2 hc2 hz hq
    go_wp2
    go_ret
    exact ⟨s, q, rfl, HZ.out, by have := HQ.out; omega, HR2.out, HC2.out⟩
  · have hk0 : ((k : Int) == 0) = false := by rw [beq_eq_false_iff_ne]; omega
    go_wp2_with fail
    refine (pick_any B (p + 1) 26 _ HR.out (by omega) (by omega) (by omega)).mono ?_
    rintro e w2 ⟨c, hc26, rfl, hr2, hc2, hs2⟩
    have HR2 := Lib.hid hr2
    have HC2 := Lib.hid (HC.out.trans hc2)
    clear hr2 hc2
    go_wp2_with fail
    refine (pick_any B (p + 1 + 1) 26 _ HR2.out (by omega) (by omega) (by omega)).mono ?_
    rintro e w3 ⟨r, hr26, rfl, hr3, hc3, hs3⟩
    have HR3 := Lib.hid hr3
    have HC3 := Lib.hid (HC2.out.trans hc3)
    clear hr3 hc3
    go_wp2_with fail
    refine (show Calls Tryd.prog 44 #[.int .i64 c, .int .i64 r] _ (StrPost (nmS c r) _) from l7Name_any c r _ hc26 hr26).mono ?_
    rintro e w4 ⟨rfl, hb4⟩
    have HR4 := Lib.hid (HR3.out.keep hb4 (by omega))
    have HC4 := Lib.hid (HC3.out.thenB hb4 HC3.out.size)
    clear hb4
    go_wp2
    go_ret
    exact ⟨nmS c r, p + 1 + 1 + 1, rfl, by have := nmS_size2 c r; omega, by omega, HR4.out, HC4.out⟩

/-- a text drawn -/
def TdPost (w : World) (e : Ending) (w' : World) : Prop := ∃ s : ByteArray, e = .returned (.string s) ∧ s.size ≤ 20 ∧ Below w.heap.size w w'

set_option maxHeartbeats 1000000 in
theorem draw_DrawSheetFrom (v : Value) (n hi : Nat) (w : World) (hv : RdB hi w v n) (hh : hi ≤ w.heap.size) :
    Calls Tryd.prog 29 #[v] w (TdPost w) := by
  have HO := Lib.hid (open_any v n hi w hv hh)
  obtain ⟨ao, cap, cb, off, Z, rfl, _⟩ := hv
  go_enter Tryd.func29, Tryd.ntmps29
  go_wp2_with fail
  refine HO.out.mono ?_
  rintro e w1 ⟨rfl, hr, hb, hs⟩
  have HB := Lib.hid hb
  have HR := Lib.hid hr
  clear hb hr
  go_wp2_with fail
  refine (sheetDraw_any w.heap.size 0 w1 HR.out (by omega) (by omega)).mono ?_
  rintro e w2 ⟨s, q, rfl, hz, hq, hr2, hc2⟩
  have HB2 := Lib.hid (HB.out.trans (hc2.below (Nat.le_refl _) (by omega)))
  have HZ := Lib.hid hz
  clear hc2 hr2 hq hz
  go_wp2
  go_ret
  exact ⟨s, rfl, by have := HZ.out; omega, HB2.out⟩

end Go.Proofs.YteoncpifjifjlaaDoor
