/- Settings of the program: set and leave. -/
import Derived.Test.YthelaffjpmcdbaaStI
namespace Go.Proofs.Ythelaffjpmcdbaa
open Go.RowKit
set_option linter.unusedVariables false

/-- what set does -/
def SetPost (B S n hi : Nat) (Z : Nat → Int) (lv sv : Value) (sd M : Nat → Int) (k : Nat) (s : Int) (w : World) (e : Ending) (w' : World) : Prop :=
  (Fit Z M k s → e = .returned (.bool true) ∧ St B S n hi Z lv sv (upS sd k s) (stp Z M k s) w' ∧ Oth B S w w') ∧
  (¬ Fit Z M k s → e = .returned (.bool false) ∧ St B S n hi Z lv sv sd M w' ∧ Oth B S w w')

set_option maxRecDepth 20000 in
set_option maxHeartbeats 16000000 in
theorem set_any (B S n hi : Nat) (Z : Nat → Int) (lv sv : Value) (sd M : Nat → Int) (w : World) (hst : St B S n hi Z lv sv sd M w) (hM : MpOk M) (k : Nat) (s : Int) (hk : k < n) (hk6 : k < 6) (hz : LzOk Z k) (hs : -9223372036854775808 ≤ s ∧ s ≤ 9223372036854775807) :
    Calls Try.prog 74 #[.pointer (some ⟨B, 0, none⟩), .int .i64 k, .int .i64 s] w (SetPost B S n hi Z lv sv sd M k s w) := by
  obtain ⟨b, off, cap, rfl, h2, h3, hb1, hb2, h6⟩ := hst.list.open (by omega)
  obtain ⟨c0, c1, c2, c3⟩ := four_of h6 hk
  have cl := hst.list_cell
  have HST := Lib.hid hst
  have HMO := Lib.hid hM
  have HLZ := Lib.hid hz
  have hk' : (k : Int) < n := by omega
  clear h6 hM hst
  by_cases hp : (0 ≤ s ∧ s ≤ 3) ∧ PcZ Z k s
  case neg =>
    have HP := Lib.hid (fun W : World => labelPlaces_no (Z (k * 4)) (Z (k * 4 + 1)) (Z (k * 4 + 2)) (Z (k * 4 + 3)) s W hz.1 hp)
    have HF := Lib.hid (show ¬ Fit Z M k s from fun h => hp ⟨h.1, h.2.1⟩)
    clear hz hp
    go_enter Try.func74, Try.ntmps74
    go_wp2_with fail
    refine (HP.out _).mono ?_
    rintro e w1 ⟨vp, rfl, hn1, hb⟩
    obtain ⟨va, vc, rfl⟩ := hn1.shape
    have HS1 := Lib.hid (HST.out.below hb)
    have HO := Lib.hid (Oth.ofBelow (B := B) (S := S) hb)
    clear hn1 hb c0 c1 c2 c3 cl
    go_wp2
    go_ret
    exact ⟨fun h => absurd h HF.out, fun _ => ⟨rfl, HS1.out, HO.out⟩⟩
  obtain ⟨ea, ⟨hw1, hw2⟩, ha, hwz⟩ := at_facts hz hp.2
  have HP := Lib.hid (fun W : World => labelPlaces_yes (Z (k * 4)) (Z (k * 4 + 1)) (Z (k * 4 + 2)) (Z (k * 4 + 3)) s W hz.1 hp.1 hp.2)
  rw [← ea, ← hwz, Int.toNat_natCast] at HP
  rw [← hwz] at c2
  have HF1 := Lib.hid (show FrOk M (atA Z k s) (wdN Z k) → Fit Z M k s from fun h => ⟨hp.1, hp.2, h⟩)
  have HF2 := Lib.hid (show Fit Z M k s → FrOk M (atA Z k s) (wdN Z k) from fun h => h.2.2)
  have HSM := Lib.hid (show ∀ j, mkM M (atA Z k s) (wdN Z k) ((k : Int) + 1) j = stp Z M k s j from fun j => rfl)
  have hmk : mkB ((k : Int) + 1) = 48 + (k : Int) := by unfold mkB; rw [if_neg (by omega), if_neg (by omega)]; omega
  obtain ⟨q, eq⟩ : ∃ q, atA Z k s = q := ⟨_, rfl⟩
  obtain ⟨a, ea2⟩ : ∃ a, wdN Z k = a := ⟨_, rfl⟩
  rw [eq] at HP HF1 HF2 HSM ha
  rw [ea2] at HP HF1 HF2 HSM ha hw1 hw2 c2
  have HMK := Lib.hid hmk
  have HPD := Lib.hid hp
  clear hmk ea hwz eq ea2 hz hp
  go_enter Try.func74, Try.ntmps74
  go_wp2_with fail
  refine (HP.out _).mono ?_
  rintro e w1 ⟨vp, rfl, hn1, hb⟩
  have hrd := hn1.rdI (plK_ok (by omega) (by omega) (by omega))
  rw [plK_len] at hrd
  have hrd' : RdI w.heap.size w1.heap.size w1 vp a (fun i => (q : Int) + i) := hrd.congr (fun i hi => plK_at _ _ i hi)
  obtain ⟨va, vc, hve⟩ := hn1.shape
  rw [plK_len] at hve
  subst hve
  have HRD := Lib.hid hrd'
  have HS1 := Lib.hid (HST.out.below hb)
  have HO := Lib.hid (Oth.ofBelow (B := B) (S := S) hb)
  have hBlt := HST.out.lt
  clear hn1 hb c0 c1 c2 c3 cl hrd hrd'
  by_cases hf : FrOk M q a
  case neg =>
    have HN := Lib.hid (show ¬ Fit Z M k s from fun h => hf (HF2.out h))
    have HFR := Lib.hid ((free_any B S n hi Z _ sv sd M w1 HS1.out HMO.out _ _ _ a q HRD.out ha).mono (fun _ _ h => (⟨h.2.1 hf, h.2.2⟩ : _ ∧ _)))
    clear hf
    go_wp2_with fail
    refine HFR.out.mono ?_
    rintro e w2 ⟨rfl, rfl⟩
    go_wp2
    go_ret
    exact ⟨fun h => absurd h HN.out, fun _ => ⟨rfl, HS1.out, HO.out⟩⟩
  have HN := Lib.hid (HF1.out hf)
  have HFR := Lib.hid ((free_any B S n hi Z _ sv sd M w1 HS1.out HMO.out _ _ _ a q HRD.out ha).mono (fun _ _ h => (⟨h.1 hf, h.2.2⟩ : _ ∧ _)))
  clear hf
  have HMA := Lib.hid (mark_any B S n hi Z _ sv sd M w1 HS1.out ((k : Int) + 1) (48 + (k : Int)) HMK.out _ _ _ a q HRD.out (Or.inr hBlt) ha)
  go_wp2_with fail
  refine HFR.out.mono ?_
  rintro e w2 ⟨rfl, rfl⟩
  go_wp2_with fail
  refine HMA.out.mono ?_
  rintro e w2 ⟨rfl, hs2, ho2, hz2⟩
  obtain ⟨scap, rfl, hsc, hsd, hsf⟩ := hs2.side_open (by omega)
  have d0 := hs2.sides_cell
  have d1 := hsd k hk
  have d2 := hsf k
  have HS3 := Lib.hid ((hs2.congr (fun j _ => HSM.out j) (fun _ _ => rfl)).side hk s hs)
  have HO3 := Lib.hid ((HO.out.trans ho2).setCell (p := ⟨S, k, none⟩) (Or.inr rfl) (.int .i64 s))
  clear hs2 ho2 hsd hsf
  go_wp2
  go_ret
  exact ⟨fun _ => ⟨rfl, HS3.out, HO3.out⟩, fun h => absurd HN.out h⟩

end Go.Proofs.Ythelaffjpmcdbaa
