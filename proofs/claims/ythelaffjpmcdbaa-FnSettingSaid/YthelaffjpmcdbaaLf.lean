/- LabelsFlip: the model and the program. -/
import Derived.Test.YthelaffjpmcdbaaLc
import Derived.Test.YthelaffjpmcdbaaPrM
namespace Go.Proofs.Ythelaffjpmcdbaa
open Go.RowKit
set_option linter.unusedVariables false

/-- labels that the call is making -/
def Labs (B : Nat) (w : World) (v : Value) (n : Nat) (Z : Nat → Int) : Prop := w.ownsRow B 28 4 v n (nsV (fnL Z (n * 4)))
theorem Labs.owT {B : Nat} {w : World} {v : Value} {n : Nat} {Z : Nat → Int} (h : Labs B w v n Z) (hr : ∀ j, j < n * 4 → -9223372036854775808 ≤ Z j ∧ Z j ≤ 9223372036854775807) : OwT B w.heap.size w v n Z := by
  obtain ⟨hlen, ⟨rfl, h0⟩ | ⟨b, cap, cur, rfl, hB, hb, hc, hcap, hcs, ht⟩⟩ := h
  · exact Or.inl ⟨rfl, h0⟩
  · have hlt : b < w.heap.size := (Array.getElem?_eq_some_iff.1 hb).1
    refine Or.inr ⟨b, cur.size, cap, fun i => (cur[i]?).getD (.int .i64 0), rfl, hB, hlt, ⟨cur, hb, rfl, fun i hi => by simp [hi]⟩, by rw [hcs]; omega, hc, by unfold maxLen at hcap; omega, fun i hi => ?_, hr⟩
    have e1 : cur.toList[i]? = (nsV (fnL Z (n * 4)))[i]? := by rw [← ht, List.getElem?_take_of_lt (by omega)]
    have e2 : cur[i]? = some (.int .i64 (Z i)) := by rw [← Array.getElem?_toList, e1, nsV_at _ _ (by rw [fnL_len]; exact hi), fnL_z Z _ i hi]
    show (cur[i]?).getD _ = _
    rw [e2]; rfl
theorem Labs.below {B C : Nat} {w w' : World} {v : Value} {n : Nat} {Z : Nat → Int} (h : Labs B w v n Z) (hb : Below C w w') (hC : w.heap.size ≤ C) : Labs B w' v n Z :=
  ownsRow_below h hb (fun k hk => by have := (h.lt k hk).2; omega)
theorem labs_none (B : Nat) (w : World) (Z : Nat → Int) : Labs B w (.slice none 0 0) 0 Z := ⟨rfl, Or.inl ⟨rfl, rfl⟩⟩
theorem labs_lit (w : World) (Z : Nat → Int) : Labs w.heap.size (w.alloc (.cells #[] 28)) (.slice (some ⟨w.heap.size, 0, none⟩) 0 0) 0 Z := World.ownsRow_lit w #[] 0 (Nat.le_refl _) (Nat.zero_le _) (by simp)
theorem labs_push {B : Nat} {w : World} {v : Value} {n : Nat} {Z : Nat → Int} {a b c d : Int} (h : w.ownsRow B 28 4 v (n + 1) (nsV (fnL Z (n * 4)) ++ [.int .i64 a, .int .i64 b, .int .i64 c, .int .i64 d])) (ea : a = Z (n * 4)) (eb : b = Z (n * 4 + 1)) (ec : c = Z (n * 4 + 2)) (ed : d = Z (n * 4 + 3)) : Labs B w v (n + 1) Z := by
  subst ea eb ec ed
  unfold Labs
  rw [Nat.add_mul]
  have e : fnL Z (n * 4 + 1 * 4) = fnL Z (n * 4) ++ [Z (n * 4), Z (n * 4 + 1), Z (n * 4 + 2), Z (n * 4 + 3)] := by
    show ((((fnL Z (n * 4)) ++ [Z (n * 4)]) ++ [Z (n * 4 + 1)]) ++ [Z (n * 4 + 2)]) ++ [Z (n * 4 + 3)] = _
    simp
  rw [e]
  simpa [nsV] using h
theorem labs_len (n : Nat) (Z : Nat → Int) : (nsV (fnL Z (n * 4))).length = n * 4 := by simp [nsV, fnL_len]

/-- labels turned over -/
def flZ (Z : Nat → Int) (j : Nat) : Int := if j % 4 = 1 then 9 - Z j else Z j
theorem flZ_at (Z : Nat → Int) (k : Nat) : flZ Z (k * 4) = Z (k * 4) ∧ flZ Z (k * 4 + 1) = 9 - Z (k * 4 + 1) ∧ flZ Z (k * 4 + 2) = Z (k * 4 + 2) ∧ flZ Z (k * 4 + 3) = Z (k * 4 + 3) :=
  ⟨if_neg (by omega), if_pos (by omega), if_neg (by omega), if_neg (by omega)⟩
theorem ls_range {n : Nat} {Z : Nat → Int} (h : LsOk n Z) : ∀ j, j < n * 4 → -100 ≤ Z j ∧ Z j ≤ 100 := fun j hj => by
  obtain ⟨h0, h1, h2, h3⟩ := (h.2 (j / 4) (by omega)).1
  rcases (by omega : j = j / 4 * 4 ∨ j = j / 4 * 4 + 1 ∨ j = j / 4 * 4 + 2 ∨ j = j / 4 * 4 + 3) with e | e | e | e
  all_goals (rw [e]; omega)
theorem flZ_range {n : Nat} {Z : Nat → Int} (h : LsOk n Z) : ∀ j, j < n * 4 → -9223372036854775808 ≤ flZ Z j ∧ flZ Z j ≤ 9223372036854775807 := fun j hj => by
  have := ls_range h j hj
  unfold flZ
  split <;> omega
noncomputable def lsM (n : Nat) (Z : Nat → Int) : Nat := if lsB n Z = true then n else 0


set_option maxRecDepth 20000 in
set_option maxHeartbeats 16000000 in
theorem implLabelsFlip_any (v : Value) (lo hi n : Nat) (Z : Nat → Int) (w : World) (hv : RdT lo hi w v n Z) (hh : hi ≤ w.heap.size) (hn : n ≤ 1048576) :
    Calls Try.prog 34 #[v] w (TgPost (lsB n Z) (lsM n Z) (flZ Z) w) := by
  have HLV := Lib.hid (implLabelsValid_any v lo hi n Z w hv hh (by omega))
  obtain ⟨i0, hi0, hz0, hz1, hz2⟩ := info_parts Try.infoLb
  unfold lsM
  by_cases hok : LsOk n Z
  case neg =>
    obtain ⟨av, cv, rfl⟩ := hv.shape
    rw [lsB_no hok] at HLV
    rw [lsB_no hok]
    clear hok hv
    go_enter Try.func34, Try.ntmps34
    go_wp2_with fail
    refine HLV.out.mono ?_
    rintro e w1 ⟨rfl, hb1⟩
    have HB1 := Lib.hid hb1
    clear hb1
    go_wp2
    go_ret2
    exact ⟨_, rfl, ⟨_, _, _, rfl⟩, Labs.owT (ownsRow_base (labs_lit w1 (flZ Z)) HB1.out.size) (fun j hj => by simp at hj), HB1.out.alloc HB1.out.size _⟩
  rw [lsB_yes hok] at HLV
  rw [lsB_yes hok, if_pos rfl]
  have hn6 := hok.1
  have HR := Lib.hid (ls_range hok)
  have HRF := Lib.hid (flZ_range hok)
  obtain ⟨ao, cap, b, off, rfl, h2, h3, h4, h5, h6⟩ := hv
  have H6 := Lib.hid h6
  clear h4 h6 hok
  go_enter Try.func34, Try.ntmps34
  go_wp2_with fail
  refine HLV.out.mono ?_
  rintro e w1 ⟨rfl, hb1⟩
  have HB1 := Lib.hid hb1
  clear hb1
  go_wp2
  go_loopw [4, 13] (fun o c wr => ∃ (k : Nat) (u : Value), k ≤ n ∧ c = .int .i64 k ∧ u = o ∧ Labs w.heap.size wr u k (flZ Z) ∧ Below w.heap.size w wr) (fun _ c => fun _ => n - (intOf c).toNat)
  case atStart => exact ⟨0, _, Nat.zero_le _, rfl, rfl, labs_none _ _ _, HB1.out⟩
  case round =>
    obtain ⟨k, u, hk, rfl, rfl, hli, hb⟩ := hrel
    have HB2 := Lib.hid hb
    have HLI := Lib.hid hli
    clear hli
    by_cases hlt : k < n
    · obtain ⟨rfl, _, _⟩ := h5 (by omega)
      have hlt' : (k : Int) < n := by omega
      obtain ⟨c0, c1, c2, c3⟩ := four_of (w := wr) (fun i hi => (hb.cell (p := ⟨b, off + i, none⟩) (by show b < _; omega)).trans (H6.out i hi)) hlt
      clear h5 hb
      obtain ⟨X, eX⟩ : ∃ X, Z (k * 4) = X := ⟨_, rfl⟩
      obtain ⟨Y, eY⟩ : ∃ Y, Z (k * 4 + 1) = Y := ⟨_, rfl⟩
      obtain ⟨A, eA⟩ : ∃ A, Z (k * 4 + 2) = A := ⟨_, rfl⟩
      obtain ⟨G, eG⟩ : ∃ G, Z (k * 4 + 3) = G := ⟨_, rfl⟩
      have hyr := HR.out (k * 4 + 1) (by omega)
      have HF := Lib.hid (flZ_at Z k)
      rw [eX, eY, eA, eG] at HF
      rw [eX] at c0
      rw [eY] at c1 hyr
      rw [eA] at c2
      rw [eG] at c3
      have HB3 := Lib.hid (HB2.out.alloc HB2.out.size (.cells #[.int .i64 X, .int .i64 (9 - Y), .int .i64 A, .int .i64 G] 28))
      have HLN := Lib.hid (show (wr.alloc (.cells #[.int .i64 X, .int .i64 (9 - Y), .int .i64 A, .int .i64 G] 28)).ownsRow w.heap.size 28 4 u k (nsV (fnL (flZ Z) (k * 4))) from World.ownsRow.alloc HLI.out _)
      clear eX eY eA eG
      go_wp2_with (first | (at_builtin; refine wpList_append_own _ rfl _ _ 23 rfl w.heap.size 28 i0 _ 4 32 Try.underlying23 hi0 hz0 hz1 hz2 rfl (by decide) _ k (nsV (fnL (flZ Z) (k * 4))) rfl (HLN.out.alloc _) ⟨wr.heap.size + 1, 0, none⟩ 1 1 [.int .i64 X, .int .i64 (9 - Y), .int .i64 A, .int .i64 G] rfl rfl (World.news_of_block (cs := #[.int .i64 X, .int .i64 (9 - Y), .int .i64 A, .int .i64 G]) (t := 28) (fr := (0, 0)) (heap_alloc2_new wr _ _)) (by simp [Value.oneCell']) (by unfold maxLen; omega) (by omega) (by have := HB2.out.size; simp; omega) ?_; intro v' w4 hown4 hg4 _; have HO4 := Lib.hid hown4; have HG4 := Lib.hid hg4; clear hown4 hg4))
      have HB4 := Lib.hid ((HB3.out.alloc HB3.out.size (.cells #[.int .i64 X, .int .i64 (9 - Y), .int .i64 A, .int .i64 G] 28)).grown HG4.out (by have := HB2.out.size; simp; omega) (fun q hq => (HLN.out.lt q hq).1))
      have HL4 := Lib.hid (labs_push (Z := flZ Z) HO4.out HF.out.1.symm HF.out.2.1.symm HF.out.2.2.1.symm HF.out.2.2.2.symm)
      go_wp2
      go_roundw
      case rel => exact ⟨k + 1, _, by omega, by go_num, rfl, HL4.out, HB4.out⟩
      case measure => simp [intOf]; omega
    · obtain rfl : k = n := by omega
      clear h5 hb
      go_wp2
      go_ret2
      obtain ⟨sa, sc, hs⟩ := (HLI.out.owT HRF.out).rd.shape
      exact ⟨_, rfl, ⟨_, _, _, hs⟩, HLI.out.owT HRF.out, HB2.out⟩

set_option maxRecDepth 20000 in
set_option maxHeartbeats 16000000 in
theorem specLabelsFlip_any (v : Value) (lo hi n : Nat) (Z : Nat → Int) (w : World) (hv : RdT lo hi w v n Z) (hh : hi ≤ w.heap.size) (hn : n ≤ 1048576) :
    Calls Try.prog 35 #[v] w (TsPost (lsB n Z) (lsM n Z) (flZ Z) w) := by
  have HV := Lib.hid (fun (W : World) (hb : Below w.heap.size w W) => specLabelsValid_any v lo hi n Z W (hv.same (SameIn.below hb hh)) (by have := hb.size; omega) hn)
  have HB0 := Lib.hid ((Below.refl w.heap.size w).alloc (Nat.le_refl _) (.cells #[] 28))
  have HL0 := Lib.hid (labs_lit w (flZ Z))
  obtain ⟨i0, hi0, hz0, hz1, hz2⟩ := info_parts Try.infoLb
  unfold lsM
  by_cases hok : LsOk n Z
  case neg =>
    obtain ⟨av, cv, rfl⟩ := hv.shape
    rw [lsB_no hok] at HV
    rw [lsB_no hok]
    clear hok hv
    go_enter Try.func35, Try.ntmps35
    go_wp2
    refine wp_loop_rounds 1 ?_
    rw [rounds_succ]
    by_cases h0 : (0 : Int) < n
    · go_wp2_with fail
      refine (HV.out _ HB0.out).mono ?_
      rintro e w1 ⟨rfl, hb1⟩
      have HB1 := Lib.hid (HB0.out.trans (hb1.mono HB0.out.size))
      have HL1 := Lib.hid (HL0.out.below hb1 (Nat.le_refl _))
      have HC := Lib.hid (HV.out _ HB1.out)
      clear hb1
      go_wp2_with fail
      refine HC.out.mono ?_
      rintro e w2 ⟨rfl, hb2⟩
      have HB2 := Lib.hid (HB1.out.trans (hb2.mono HB1.out.size))
      have HL2 := Lib.hid (HL1.out.below hb2 (Nat.le_refl _))
      clear hb2
      go_wp2
      go_ret2
      exact ⟨_, rfl, ⟨_, _, _, rfl⟩, (Labs.owT HL2.out (fun j hj => by simp at hj)).rd, HB2.out⟩
    · go_wp2_with fail
      refine (HV.out _ HB0.out).mono ?_
      rintro e w1 ⟨rfl, hb1⟩
      have HB1 := Lib.hid (HB0.out.trans (hb1.mono HB0.out.size))
      have HL1 := Lib.hid (HL0.out.below hb1 (Nat.le_refl _))
      clear hb1
      go_wp2
      go_ret2
      exact ⟨_, rfl, ⟨_, _, _, rfl⟩, (Labs.owT HL1.out (fun j hj => by simp at hj)).rd, HB1.out⟩
  rw [lsB_yes hok] at HV
  rw [lsB_yes hok, if_pos rfl]
  have hn6 := hok.1
  have HR := Lib.hid (ls_range hok)
  have HRF := Lib.hid (flZ_range hok)
  obtain ⟨ao, cap, b, off, rfl, h2, h3, h4, h5, h6⟩ := hv
  have H6 := Lib.hid h6
  clear h4 h6 hok
  go_enter Try.func35, Try.ntmps35
  go_wp2
  go_loopw [4, 5] (fun o c wr => ∃ (k : Nat) (u : Value), k ≤ n ∧ c = .int .i64 k ∧ u = o ∧ Labs w.heap.size wr u k (flZ Z) ∧ Below w.heap.size w wr) (fun _ c => fun _ => n - (intOf c).toNat)
  case atStart => exact ⟨0, _, Nat.zero_le _, rfl, rfl, HL0.out, HB0.out⟩
  case round =>
    obtain ⟨k, u, hk, rfl, rfl, hli, hb⟩ := hrel
    have HBR := Lib.hid hb
    have HLR := Lib.hid hli
    clear hli
    by_cases hlt : k < n
    · obtain ⟨rfl, hq1, hq2⟩ := h5 (by omega)
      have hlt' : (k : Int) < n := by omega
      have HC := Lib.hid (HV.out _ HBR.out)
      clear hb h5
      go_wp2_with fail
      refine HC.out.mono ?_
      rintro e wx ⟨rfl, hbx⟩
      have HB2 := Lib.hid (HBR.out.trans (hbx.mono HBR.out.size))
      have HLI := Lib.hid (HLR.out.below hbx (Nat.le_refl _))
      obtain ⟨c0, c1, c2, c3⟩ := four_of (w := wx) (fun i hi => (HB2.out.cell (p := ⟨b, off + i, none⟩) (by show b < _; omega)).trans (H6.out i hi)) hlt
      clear hbx
      obtain ⟨X, eX⟩ : ∃ X, Z (k * 4) = X := ⟨_, rfl⟩
      obtain ⟨Y, eY⟩ : ∃ Y, Z (k * 4 + 1) = Y := ⟨_, rfl⟩
      obtain ⟨A, eA⟩ : ∃ A, Z (k * 4 + 2) = A := ⟨_, rfl⟩
      obtain ⟨G, eG⟩ : ∃ G, Z (k * 4 + 3) = G := ⟨_, rfl⟩
      have hyr := HR.out (k * 4 + 1) (by omega)
      have HF := Lib.hid (flZ_at Z k)
      rw [eX, eY, eA, eG] at HF
      rw [eX] at c0
      rw [eY] at c1 hyr
      rw [eA] at c2
      rw [eG] at c3
      have HB3 := Lib.hid (HB2.out.alloc HB2.out.size (.cells #[.int .i64 X, .int .i64 (9 - Y), .int .i64 A, .int .i64 G] 28))
      have HLN := Lib.hid (show (wx.alloc (.cells #[.int .i64 X, .int .i64 (9 - Y), .int .i64 A, .int .i64 G] 28)).ownsRow w.heap.size 28 4 u k (nsV (fnL (flZ Z) (k * 4))) from World.ownsRow.alloc HLI.out _)
      clear eX eY eA eG
      go_wp2_with (first | (at_builtin; refine wpList_append_own _ rfl _ _ 23 rfl w.heap.size 28 i0 _ 4 32 Try.underlying23 hi0 hz0 hz1 hz2 rfl (by decide) _ k (nsV (fnL (flZ Z) (k * 4))) rfl (HLN.out.alloc _) ⟨wx.heap.size + 1, 0, none⟩ 1 1 [.int .i64 X, .int .i64 (9 - Y), .int .i64 A, .int .i64 G] rfl rfl (World.news_of_block (cs := #[.int .i64 X, .int .i64 (9 - Y), .int .i64 A, .int .i64 G]) (t := 28) (fr := (0, 0)) (heap_alloc2_new wx _ _)) (by simp [Value.oneCell']) (by unfold maxLen; omega) (by omega) (by have := HB2.out.size; simp; omega) ?_; intro v' w4 hown4 hg4 _; have HO4 := Lib.hid hown4; have HG4 := Lib.hid hg4; clear hown4 hg4))
      have HB4 := Lib.hid ((HB3.out.alloc HB3.out.size (.cells #[.int .i64 X, .int .i64 (9 - Y), .int .i64 A, .int .i64 G] 28)).grown HG4.out (by have := HB2.out.size; simp; omega) (fun q hq => (HLN.out.lt q hq).1))
      have HL4 := Lib.hid (labs_push (Z := flZ Z) HO4.out HF.out.1.symm HF.out.2.1.symm HF.out.2.2.1.symm HF.out.2.2.2.symm)
      go_wp2
      go_roundw
      case rel => exact ⟨k + 1, _, by omega, by go_num, rfl, HL4.out, HB4.out⟩
      case measure => simp [intOf]; omega
    · obtain rfl : k = n := by omega
      have HC := Lib.hid (HV.out _ HBR.out)
      clear h5 hb
      go_wp2_with fail
      refine HC.out.mono ?_
      rintro e wx ⟨rfl, hbx⟩
      have HB2 := Lib.hid (HBR.out.trans (hbx.mono HBR.out.size))
      have HLI := Lib.hid (HLR.out.below hbx (Nat.le_refl _))
      clear hbx
      go_wp2
      go_ret2
      obtain ⟨sa, sc, hs⟩ := (HLI.out.owT HRF.out).rd.shape
      exact ⟨_, rfl, ⟨_, _, _, hs⟩, (HLI.out.owT HRF.out).rd, HB2.out⟩

end Go.Proofs.Ythelaffjpmcdbaa
