/- What the program and the model answer about names: short. -/
import Derived.Test.YteoncpifjifjlaaDoorPq
import Derived.Test.YteoncpifjifjlaaDoorSb
namespace Go.Proofs.YteoncpifjifjlaaDoor
open Go.RowKit
set_option linter.unusedVariables false

/-- a full name, or none: what both answer -/
theorem pf_or (s : ByteArray) (hs : s.size ≤ 9223372036854775807) :
    (∃ X Y, IsFl s X Y ∧ (∀ W : World, Calls Tryd.prog 16 #[.string s] W (XyPost X Y true W)) ∧ ∀ W : World, Calls Tryd.prog 17 #[.string s] W (XyPost X Y true W)) ∨
    (NoFl s ∧ (∀ W : World, Calls Tryd.prog 16 #[.string s] W (XyPost 0 0 false W)) ∧ ∀ W : World, Calls Tryd.prog 17 #[.string s] W (XyPost 0 0 false W)) := by
  by_cases h4 : s.size < 4
  · refine .inr ⟨fl_no_short h4, (fun W => specPlaceFrom_short s W h4), (fun W => implPlaceFrom_any s _ _ false W (fun W => ?_))⟩
    by_cases h2 : s.size < 2
    · exact placeFrom_short s W h2
    · obtain ⟨n, hn⟩ : ∃ n, s.size = n + 2 := ⟨s.size - 2, by omega⟩
      have hz : (s.extract 0 n).size = n := by simp; omega
      exact placeFrom_head s n W hn hs (fun W => cornerFrom_no _ W (fun W => sheetFrom_no _ W (by omega) (nm_no_short (by omega))))
  · obtain ⟨n, hn⟩ : ∃ n, s.size = n + 2 := ⟨s.size - 2, by omega⟩
    have hz : (s.extract 0 n).size = n := by simp; omega
    rcases nm_or (s.extract 0 n) with ⟨c, r, h⟩ | h
    · have hA : ∀ W : World, Calls Tryd.prog 14 #[.string (s.extract 0 n)] W (XyPost ((c * 4 : Nat) : Int) ((r * 4 : Nat) : Int) true W) := fun W => specSheetFrom_any _ c r true W h.1 h.2.1 (fun W => l7Find_yes _ c r W h)
      have hC := fun W : World => cornerFrom_yes (s.extract 0 n) c r W h
      have hc := h.1
      have hr := h.2.1
      obtain ⟨t, ht⟩ : ∃ t, s.extract n s.size = t := ⟨_, rfl⟩
      have ts : t.size = 2 := by rw [← ht]; simp; omega
      have t0 : (t[0]'(by omega)).toNat = (s[n]'(by omega)).toNat := by subst ht; rw [ByteArray.getElem_extract]; rfl
      have t1 : (t[1]'(by omega)).toNat = (s[n + 1]'(by omega)).toNat := by subst ht; rw [ByteArray.getElem_extract]
      by_cases ha : Lq (s[n]'(by omega)).toNat
      · by_cases hb : Lq (s[n + 1]'(by omega)).toNat
        · obtain ⟨X, Y, hf, ex, ey⟩ := fl_of hn h _ _ rfl rfl ha hb
          have g := fl_head hf
          have e4 : X / 4 = c ∧ Y / 4 = r := by
            have := ((fl_iff hn X Y).1 hf.2.2).1
            have e9 := nmS_inj (by have := hf.1; omega) (by have := hf.2.1; omega) hc hr (this.symm.trans h.2.2)
            exact e9
          refine .inl ⟨X, Y, hf, (fun W => specPlaceFrom_yes s n (c * 4) (r * 4) X Y W hn (by omega) hs (by omega) (by omega) (by omega) (by omega) (by omega) (by omega) hA hf.2.2), (fun W => implPlaceFrom_any s _ _ true W (fun W => placeFrom_tail s n _ _ _ _ true W hn hs hC (fun W => ?_)))⟩
          rw [ht, ← ex, ← ey]
          exact within_yes _ _ t _ _ W ts t0 t1 (by omega) (by omega) (by omega) (by omega) ha hb
        · refine .inr ⟨fl_no_letter hn (.inr hb), (fun W => specPlaceFrom_none s n (c * 4) (r * 4) W hn (by omega) hs (by omega) (by omega) hA (fl_no_letter hn (.inr hb))), (fun W => implPlaceFrom_any s _ _ false W (fun W => placeFrom_tail s n _ _ _ _ false W hn hs hC (fun W => ?_)))⟩
          rw [ht]
          exact within_noB _ _ t _ _ W ts t0 t1 (by omega) (by omega) (by omega) (by omega) ha hb
      · refine .inr ⟨fl_no_letter hn (.inl ha), (fun W => specPlaceFrom_none s n (c * 4) (r * 4) W hn (by omega) hs (by omega) (by omega) hA (fl_no_letter hn (.inl ha))), (fun W => implPlaceFrom_any s _ _ false W (fun W => placeFrom_tail s n _ _ _ _ false W hn hs hC (fun W => ?_)))⟩
        rw [ht]
        exact within_noA _ _ t _ _ W ts t0 t1 (by omega) (by omega) (by omega) (by omega) ha
    · exact .inr ⟨fl_no_head hn h, (fun W => specPlaceFrom_head s n W hn (by omega) hs (fun W => specSheetFrom_any _ 0 0 false W (by omega) (by omega) (fun W => l7Find_no _ W h))), (fun W => implPlaceFrom_any s _ _ false W (fun W => placeFrom_head s n W hn hs (fun W => cornerFrom_no _ W (fun W => sheetFrom_no _ W (by omega) h))))⟩


theorem implPF_yes {s : ByteArray} {X Y : Nat} (hs : s.size ≤ 9223372036854775807) (h : IsFl s X Y) (W : World) : Calls Tryd.prog 17 #[.string s] W (XyPost X Y true W) := by
  rcases pf_or s hs with ⟨X', Y', h', _, h2⟩ | ⟨h', _⟩
  · obtain ⟨rfl, rfl⟩ := flS_inj h.1 h.2.1 h'.1 h'.2.1 (h.2.2.symm.trans h'.2.2)
    exact h2 W
  · exact absurd h.2.2 (h' X Y h.1 h.2.1)
theorem implSF_yes {s : ByteArray} {c r : Nat} (h : IsNm s c r) (W : World) : Calls Tryd.prog 15 #[.string s] W (XyPost ((c * 4 : Nat) : Int) ((r * 4 : Nat) : Int) true W) :=
  implSheetFrom_any s _ _ true W (fun W => cornerFrom_yes s c r W h)
theorem implSF_no {s : ByteArray} (hs : s.size ≤ 9223372036854775807) (h : NoNm s) (W : World) : Calls Tryd.prog 15 #[.string s] W (XyPost 0 0 false W) :=
  implSheetFrom_any s _ _ false W (fun W => cornerFrom_no s W (fun W => sheetFrom_no s W hs h))
theorem specSF_yes {s : ByteArray} {c r : Nat} (h : IsNm s c r) (W : World) : Calls Tryd.prog 14 #[.string s] W (XyPost ((c * 4 : Nat) : Int) ((r * 4 : Nat) : Int) true W) :=
  specSheetFrom_any s c r true W h.1 h.2.1 (fun W => l7Find_yes s c r W h)
theorem specSF_no {s : ByteArray} (h : NoNm s) (W : World) : Calls Tryd.prog 14 #[.string s] W (XyPost 0 0 false W) :=
  specSheetFrom_any s 0 0 false W (by omega) (by omega) (fun W => l7Find_no s W h)
theorem implSO_yes (X Y : Nat) (hX : X < 104) (hY : Y < 104) (W : World) : Calls Tryd.prog 26 #[.int .i64 X, .int .i64 Y] W (SbPost (nmS (X / 4) (Y / 4)) true W) :=
  implSheetOf_any _ _ _ _ W (fun W => nameAt_sheet X Y W hX hY)
theorem implSO_no (x y : Int) (h : plB x y = false) (W : World) : Calls Tryd.prog 26 #[.int .i64 x, .int .i64 y] W (SbPost ⟨#[]⟩ false W) :=
  implSheetOf_any _ _ _ _ W (fun W => nameAt_no 0 x y W h)
theorem implPN_yes (X Y : Nat) (hX : X < 104) (hY : Y < 104) (W : World) : Calls Tryd.prog 28 #[.int .i64 X, .int .i64 Y] W (SbPost (flS X Y) true W) :=
  implPlaceName_any _ _ _ _ W (fun W => nameAt_place X Y W hX hY)
theorem implPN_no (x y : Int) (h : plB x y = false) (W : World) : Calls Tryd.prog 28 #[.int .i64 x, .int .i64 y] W (SbPost ⟨#[]⟩ false W) :=
  implPlaceName_any _ _ _ _ W (fun W => nameAt_no 1 x y W h)
/-- the law's two answers about a place to the east or to the west -/
theorem so_or (x y : Int) : (∃ X Y : Nat, X < 104 ∧ Y < 104 ∧ x = X ∧ y = Y ∧ ∀ W : World, Calls Tryd.prog 26 #[.int .i64 x, .int .i64 y] W (SbPost (nmS (X / 4) (Y / 4)) true W)) ∨ (plB x y = false ∧ ∀ W : World, Calls Tryd.prog 26 #[.int .i64 x, .int .i64 y] W (SbPost ⟨#[]⟩ false W)) := by
  rcases pl_or x y with ⟨X, Y, h1, h2, rfl, rfl⟩ | h
  · exact .inl ⟨X, Y, h1, h2, rfl, rfl, implSO_yes X Y h1 h2⟩
  · exact .inr ⟨h, implSO_no x y h⟩

end Go.Proofs.YteoncpifjifjlaaDoor
