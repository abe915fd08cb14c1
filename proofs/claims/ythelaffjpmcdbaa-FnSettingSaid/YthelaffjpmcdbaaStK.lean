/- Settings of the program: leave, newSetting. -/
import Derived.Test.YthelaffjpmcdbaaStJ
namespace Go.Proofs.Ythelaffjpmcdbaa
open Go.RowKit
set_option linter.unusedVariables false

def LvPost8 (B S n hi : Nat) (Z : Nat → Int) (lv sv : Value) (sd M : Nat → Int) (k q a : Nat) (w : World) (e : Ending) (w' : World) : Prop :=
  e = .returned (.tuple #[]) ∧ St B S n hi Z lv sv (upS sd k (-1)) (mkM M q a 0) w' ∧ Oth B S w w'

set_option maxRecDepth 20000 in
set_option maxHeartbeats 16000000 in
theorem leave_any (B S n hi : Nat) (Z : Nat → Int) (lv sv : Value) (sd M : Nat → Int) (w : World) (hst : St B S n hi Z lv sv sd M w) (k : Nat) (hk : k < n) (hk6 : k < 6) (hz : LzOk Z k) (hs : 0 ≤ sd k ∧ sd k ≤ 3) (hp : PcZ Z k (sd k)) :
    Calls Try.prog 77 #[.pointer (some ⟨B, 0, none⟩), .int .i64 k] w (LvPost8 B S n hi Z lv sv sd M k (atA Z k (sd k)) (wdN Z k) w) := by
  obtain ⟨b, off, cap, rfl, h2, h3, hb1, hb2, h6⟩ := hst.list.open (by omega)
  obtain ⟨c0, c1, c2, c3⟩ := four_of h6 hk
  have cl := hst.list_cell
  obtain ⟨scap, rfl, hsc, hsd, hsf⟩ := hst.side_open (by omega)
  have d0 := hst.sides_cell
  have d1 := hsd k hk
  have HST := Lib.hid hst
  have hk' : (k : Int) < n := by omega
  obtain ⟨s, es⟩ : ∃ s, sd k = s := ⟨_, rfl⟩
  rw [es] at d1 hs hp
  rw [es]
  obtain ⟨ea, ⟨hw1, hw2⟩, ha, hwz⟩ := at_facts hz hp
  have HP := Lib.hid (fun W : World => labelPlaces_yes (Z (k * 4)) (Z (k * 4 + 1)) (Z (k * 4 + 2)) (Z (k * 4 + 3)) s W hz.1 hs hp)
  rw [← ea, ← hwz, Int.toNat_natCast] at HP
  rw [← hwz] at c2
  obtain ⟨q, eq⟩ : ∃ q, atA Z k s = q := ⟨_, rfl⟩
  obtain ⟨a, ea2⟩ : ∃ a, wdN Z k = a := ⟨_, rfl⟩
  rw [eq] at HP ha
  rw [ea2] at HP ha hw1 hw2 c2
  rw [eq, ea2]
  clear ea hwz eq ea2 hz hp hst h6 hsd hsf es
  go_enter Try.func77, Try.ntmps77
  go_wp2_with fail
  go_region_with ((go_at_call 55; (with_reducible refine (HP.out _).mono ?_); rintro e w1 ⟨vp, rfl, hn1, hb⟩; have HBW := Lib.hid (show Below w.heap.size w w1 from hb.undrew); have HNW := Lib.hid (show Nums w.heap.size w1 vp _ from hn1); clear hb hn1))
  all_goals (
    have hrd := HNW.out.rdI (plK_ok (by omega) (by omega) (by omega))
    rw [plK_len] at hrd
    have HMA := Lib.hid (mark_any B S n hi Z _ _ sd M w1 (HST.out.below HBW.out) 0 46 rfl _ _ _ a q (hrd.congr (fun i hi => plK_at _ _ i hi)) (Or.inr HST.out.lt) ha)
    have HO := Lib.hid (Oth.ofBelow (B := B) (S := S) HBW.out)
    clear hrd)
  all_goals go_wp2_with fail
  all_goals (
    refine HMA.out.mono ?_
    rintro e w2 ⟨rfl, hs2, ho2, hz2⟩
    obtain ⟨scap2, he2, hsc2, hsd2, hsf2⟩ := hs2.side_open (by omega)
    have d20 := hs2.sides_cell
    have d21 := hsd2 k hk
    have d22 := hsf2 k
    have HS3 := Lib.hid (hs2.side hk (-1) (by omega))
    have HO3 := Lib.hid ((HO.out.trans ho2).setCell (p := ⟨S, k, none⟩) (Or.inr rfl) (.int .i64 (-1)))
    clear hs2 ho2 hsd2 hsf2 he2 hsc2)
  all_goals go_wp2
  all_goals (first | go_end0 | refine bodyPost_ret (results_none rfl _ _ _) rfl ?_)
  all_goals exact ⟨rfl, HS3.out, HO3.out⟩

end Go.Proofs.Ythelaffjpmcdbaa
