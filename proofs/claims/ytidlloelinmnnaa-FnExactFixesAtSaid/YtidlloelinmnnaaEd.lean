/- FixesShort and EditionFar of the model; two reliefs with as many rows and columns, in the program. -/
import Derived.Test.YtidlloelinmnnaaEc
import Derived.Test.YtidlloelinmnnaaGpI
namespace Go.Proofs.Ytidlloelinmnnaa
open Go.RowKit Go.Shelf
set_option linter.unusedVariables false
set_option linter.unusedSimpArgs false

def shL (g : G) (n : Nat) (Z : Nat → Int) : List Fx := mkD (g.len 0) g.flat (edH g n Z) 0 (g.n * g.len 0)
noncomputable def shE (g : G) (n : Nat) (Z : Nat → Int) : List Fx := if fxB g n Z = true then shL g n Z else []
theorem shE_yes {g : G} {n : Nat} {Z : Nat → Int} (h : FxOk g n Z) : shE g n Z = shL g n Z := by rw [shE, if_pos (fxB_yes h)]
theorem shE_no {g : G} {n : Nat} {Z : Nat → Int} (h : ¬ FxOk g n Z) : shE g n Z = [] := by rw [shE, if_neg (by rw [fxB_no h]; simp)]
theorem shE_len (g : G) (n : Nat) (Z : Nat → Int) : (shE g n Z).length ≤ 49 := by
  by_cases h : FxOk g n Z
  · rw [shE_yes h]; exact Nat.le_trans (mkD_len _ _ _ _ _) (mul_le_49 h.1.1.2 h.1.2.1.2)
  · rw [shE_no h]; simp
theorem shE_range (g : G) (n : Nat) (Z : Nat → Int) : ∀ j, j < (shE g n Z).length * 4 → -9223372036854775808 ≤ fzZ (shE g n Z) j ∧ fzZ (shE g n Z) j ≤ 9223372036854775807 := by
  by_cases h : FxOk g n Z
  · rw [shE_yes h]; exact mkD_range h.1.1.2 h.1.2.1 (flat_range h.1) (edH_range h)
  · rw [shE_no h]; intro j hj; simp at hj
theorem ak_ed {g : G} {h : Nat → Int} (hv : g.Valid) (hh : ∀ i, i < g.n * g.len 0 → 0 ≤ h i ∧ h i ≤ 99) : AkOk g (edK g h) := ⟨hv, edK_valid hv hh, rfl, rfl⟩
theorem mkL_ed {g : G} {h : Nat → Int} (hv : g.Valid) : mkL g (edK g h) = mkD (g.len 0) g.flat h 0 (g.n * g.len 0) := mkD_congr _ _ (fun j _ h2 => ⟨rfl, edK_flat hv h j (by omega)⟩)

set_option maxRecDepth 20000 in
set_option maxHeartbeats 4000000 in
theorem specFixesShort_any (v u : Value) (lo hi n : Nat) (g : G) (Z : Nat → Int) (w : World) (hv : RdM lo hi w v g) (hu : RdT lo hi w u n Z) (hh : hi ≤ w.heap.size) (hn : n ≤ 1048576) :
    Calls Try.prog 47 #[v, u] w (FsPost (fxB g n Z) (shE g n Z) w) := by
  have HD := Lib.hid (specFixesDo_any v u lo hi n g Z w hv hu hh hn)
  have HV := Lib.hid (fun (W : World) (hb : Below w.heap.size w W) => hv.same (SameIn.below hb hh))
  obtain ⟨au, cu, rfl⟩ := hu.shape
  obtain ⟨_, _, _, _, _, _, rfl, n1, n2, _⟩ := hv
  by_cases hok : FxOk g n Z
  case neg =>
    have HX := Lib.hid (shE_no hok)
    rw [fxB_no hok] at HD ⊢
    clear hok hu
    go_enter Try.func47, Try.ntmps47
    go_wp2_with fail
    refine HD.out.mono ?_
    rintro e w2 ⟨v2, rfl, ⟨_, _, _, rfl⟩, _, hb2⟩
    have HB2 := Lib.hid hb2
    have HL := Lib.hid (ownsRow_base (lf_lit w2) hb2.size)
    clear hb2
    go_wp2
    go_ret2
    refine ⟨.slice (some ⟨w2.heap.size, 0, none⟩) 0 0, rfl, ⟨_, _, _, rfl⟩, ?_, HB2.out.alloc HB2.out.size _⟩
    rw [HX.out]; exact HL.out
  have HX := Lib.hid ((shE_yes hok).trans (mkL_ed (h := edH g n Z) hok.1).symm)
  have HAK := Lib.hid (ak_ed hok.1 (edH_range hok))
  rw [fxB_yes hok, exG_yes hok] at HD
  rw [fxB_yes hok]
  clear hok hu
  go_enter Try.func47, Try.ntmps47
  go_wp2_with fail
  refine HD.out.mono ?_
  rintro e w2 ⟨v2, rfl, ⟨_, _, _, rfl⟩, hr2, hb2⟩
  have HM := Lib.hid (specFixesMake_any _ _ 0 w2.heap.size g (edK g (edH g n Z)) w2 ((HV.out w2 hb2).mono (Nat.zero_le _) (Nat.le_trans hh hb2.size)) (hr2.mono (Nat.zero_le _) (Nat.le_refl _)) (Nat.le_refl _))
  rw [akB_yes HAK.out, mkE_yes HAK.out, ← HX.out] at HM
  have HB2 := Lib.hid hb2
  clear hb2 hr2
  go_wp2_with fail
  refine HM.out.mono ?_
  rintro e w3 ⟨v3, rfl, ⟨_, _, _, rfl⟩, hl3, hb3⟩
  have HL := Lib.hid (ownsRow_base hl3 HB2.out.size)
  have HB3 := Lib.hid (HB2.out.trans (hb3.mono HB2.out.size))
  clear hl3 hb3
  go_wp2
  go_ret2
  exact ⟨_, rfl, ⟨_, _, _, rfl⟩, HL.out, HB3.out⟩

noncomputable def faE (a b : G) : Int := if akB a b = true then ((mkL a b).length : Int) else -1
theorem faE_yes {a b : G} (h : AkOk a b) : faE a b = ((mkL a b).length : Int) := by rw [faE, if_pos (akB_yes h)]
theorem faE_no {a b : G} (h : ¬ AkOk a b) : faE a b = -1 := by rw [faE, if_neg (by rw [akB_no h]; simp)]
set_option maxRecDepth 20000 in
set_option maxHeartbeats 4000000 in
theorem specEditionFar_any (v u : Value) (lo hi : Nat) (a b : G) (w : World) (hv : RdM lo hi w v a) (hu : RdM lo hi w u b) (hh : hi ≤ w.heap.size) :
    Calls Try.prog 56 #[v, u] w (IntPost (faE a b) w) := by
  have HM := Lib.hid (specFixesMake_any v u lo hi a b w hv hu hh)
  obtain ⟨_, _, _, _, _, _, rfl, n1, n2, _⟩ := hv
  obtain ⟨_, _, _, _, _, _, rfl, n3, n4, _⟩ := hu
  by_cases hok : AkOk a b
  case neg =>
    have HX := Lib.hid (faE_no hok)
    rw [akB_no hok] at HM
    clear hok
    go_enter Try.func56, Try.ntmps56
    go_wp2_with fail
    refine HM.out.mono ?_
    rintro e w2 ⟨v2, rfl, ⟨_, _, _, rfl⟩, _, hb2⟩
    have HB2 := Lib.hid hb2
    clear hb2
    go_wp2
    go_ret
    exact ⟨ret_int HX.out.symm, HB2.out⟩
  have HX := Lib.hid (faE_yes hok)
  rw [akB_yes hok, mkE_yes hok] at HM
  clear hok
  go_enter Try.func56, Try.ntmps56
  go_wp2_with fail
  refine HM.out.mono ?_
  rintro e w2 ⟨v2, rfl, _, hl, hb2⟩
  obtain ⟨_, _, rfl⟩ := hl.shape
  have HB2 := Lib.hid hb2
  clear hb2 hl
  go_wp2
  go_ret
  exact ⟨ret_int HX.out.symm, HB2.out⟩

/-- two reliefs with as many rows and columns -/
def RaPost (a b : G) (w : World) (e : Ending) (w' : World) : Prop := Below w.heap.size w w' ∧
  ((AkOk a b ∧ ∃ n1 g1 c1 n2 g2 c2, e = .returned (.tuple #[.agg #[.int .i64 a.n, .int .i64 (a.len 0), .slice (some ⟨g1, 0, none⟩) n1 c1], .agg #[.int .i64 b.n, .int .i64 (b.len 0), .slice (some ⟨g2, 0, none⟩) n2 c2], .bool true]) ∧ Rv w' a.n (a.len 0) n1 g1 c1 a.flat ∧ Rv w' b.n (b.len 0) n2 g2 c2 b.flat) ∨
   (¬ AkOk a b ∧ ∃ (X1 Y1 : Int) (A1 : Option Addr) (n1 c1 : Nat) (X2 Y2 : Int) (A2 : Option Addr) (n2 c2 : Nat), e = .returned (.tuple #[.agg #[.int .i64 X1, .int .i64 Y1, .slice A1 n1 c1], .agg #[.int .i64 X2, .int .i64 Y2, .slice A2 n2 c2], .bool false])))

theorem rv_drew {w : World} {R C n gg cap : Nat} {Z : Nat → Int} (h : Rv w R C n gg cap Z) : Rv w.drew R C n gg cap Z := h.keep (below_un (Below.refl w.heap.size w)) (Nat.le_refl _)
theorem two_allocs' (w : World) (a b : Obj) : ∃ W, W = (w.alloc a).alloc b ∧ W.heap.size = w.heap.size + 2 ∧ W.heap[w.heap.size]? = some a ∧ W.heap[w.heap.size + 1]? = some b ∧ Below w.heap.size w W :=
  ⟨_, rfl, by simp, (Below.heap_alloc _ _ _ (by simp)).trans (heap_alloc_new w _), heap_alloc2_new w _ _, ((Below.refl _ _).alloc (Nat.le_refl _) _).alloc (by simp) _⟩

set_option maxRecDepth 20000 in
set_option maxHeartbeats 4000000 in
theorem reliefsAlike_any (v u : Value) (lo hi : Nat) (a b : G) (w : World) (hv : RdM lo hi w v a) (hu : RdM lo hi w u b) (hh : hi ≤ w.heap.size) :
    Calls Try.prog 89 #[v, u] w (RaPost a b w) := by
  have hb0 : Below w.heap.size w ((w.alloc (.cells #[.int .i64 0, .int .i64 0, .slice none 0 0] 68)).alloc (.cells #[.int .i64 0, .int .i64 0, .slice none 0 0] 68)) := ((Below.refl _ _).alloc (Nat.le_refl _) _).alloc (by simp) _
  have h4 := heap_alloc2_old w (.cells #[.int .i64 0, .int .i64 0, .slice none 0 0] 68) (.cells #[.int .i64 0, .int .i64 0, .slice none 0 0] 68)
  have h5 := heap_alloc2_new w (.cells #[.int .i64 0, .int .i64 0, .slice none 0 0] 68) (.cells #[.int .i64 0, .int .i64 0, .slice none 0 0] 68)
  have hs := heap_size_alloc2 w (.cells #[.int .i64 0, .int .i64 0, .slice none 0 0] 68) (.cells #[.int .i64 0, .int .i64 0, .slice none 0 0] 68)
  have HC := Lib.hid (reliefsBeside_any v u lo hi a b _ (hv.same (SameIn.below hb0 hh)) (hu.same (SameIn.below hb0 hh)) (by omega))
  generalize hW1 : ((w.alloc (.cells #[.int .i64 0, .int .i64 0, .slice none 0 0] 68)).alloc (.cells #[.int .i64 0, .int .i64 0, .slice none 0 0] 68)) = W1 at hb0 h4 h5 hs HC
  have H4 := Lib.hid h4
  have H5 := Lib.hid h5
  have HB0 := Lib.hid hb0
  clear hv hu h4 h5 hb0
  go_enter Try.func89, Try.ntmps89
  go_wp2_with fail
  refine HC.out.mono ?_
  rintro e w2 ⟨X1, Y1, A1, n1, c1, X2, Y2, A2, n2, c2, rfl, hb2, hrows⟩
  have hz2 := hb2.size
  obtain ⟨W4, hW4, hs4, k0, k1, kb⟩ := two_allocs' w2 (.cells #[.int .i64 X1, .int .i64 Y1, .slice A1 n1 c1] 68) (.cells #[.int .i64 X2, .int .i64 Y2, .slice A2 n2 c2] 68)
  have J4 := Lib.hid ((kb.block w.heap.size (by omega)).trans ((hb2.block _ (by omega)).trans H4.out))
  have J5 := Lib.hid ((kb.block (w.heap.size + 1) (by omega)).trans ((hb2.block _ (by omega)).trans H5.out))
  have HB4 := Lib.hid (HB0.out.trans ((hb2.trans (kb.mono (by omega))).mono (by omega)))
  have HRW := Lib.hid hrows
  have K0 := Lib.hid k0
  have K1 := Lib.hid k1
  have KB := Lib.hid kb
  clear hb2 hrows k0 k1 kb hW1 HC
  go_wp2_with fail
  rw [← hW4]
  clear hW4
  have HS := Lib.hid (fun (W : World) (e0 : W.heap[w2.heap.size]? = W4.heap[w2.heap.size]?) (e1 : W.heap[w2.heap.size + 1]? = W4.heap[w2.heap.size + 1]?) => show W.cell? ⟨w2.heap.size, 0, none⟩ = some (.int .i64 X1) ∧ W.cell? ⟨w2.heap.size, 1, none⟩ = some (.int .i64 Y1) ∧ W.cell? ⟨w2.heap.size, 2, none⟩ = some (.slice A1 n1 c1) ∧ W.cell? ⟨w2.heap.size + 1, 0, none⟩ = some (.int .i64 X2) ∧ W.cell? ⟨w2.heap.size + 1, 1, none⟩ = some (.int .i64 Y2) ∧ W.cell? ⟨w2.heap.size + 1, 2, none⟩ = some (.slice A2 n2 c2) from by
    obtain ⟨x0, x1, x2, _⟩ := cells3 (e0.trans K0.out)
    obtain ⟨y0, y1, y2, _⟩ := cells3 (e1.trans K1.out)
    exact ⟨x0, x1, x2, y0, y1, y2⟩)
  by_cases hrw : RwOk a b
  case neg =>
    have HNO := Lib.hid (show ¬ AkOk a b from fun h => hrw ⟨h.1, h.2.1, h.2.2.1⟩)
    rw [rwB_no hrw]
    clear hrw HRW
    refine wp_region_held_drew (S := (fun w' => w'.cell? ⟨w2.heap.size, 0, none⟩ = some (.int .i64 X1) ∧ w'.cell? ⟨w2.heap.size, 1, none⟩ = some (.int .i64 Y1) ∧ w'.cell? ⟨w2.heap.size, 2, none⟩ = some (.slice A1 n1 c1) ∧ w'.cell? ⟨w2.heap.size + 1, 0, none⟩ = some (.int .i64 X2) ∧ w'.cell? ⟨w2.heap.size + 1, 1, none⟩ = some (.int .i64 Y2) ∧ w'.cell? ⟨w2.heap.size + 1, 2, none⟩ = some (.slice A2 n2 c2))) (by kernel_rfl) ?_ (fun hHeld => ?_)
    · exact HS.out _ rfl rfl
    refine wpAnyH_take (i := 0) (v := ?_) (by simp only [List.getElem?_toArray, List.getElem?_cons_succ, List.getElem?_cons_zero]; exact rfl) (by kernel_rfl) (by kernel_rfl) (by kernel_rfl) (by exact fun _ _ _ h => h) (Or.inl ⟨by rfl, ?_⟩) (by assumption) ?_
    rotate_left
    · intro w hSw; (try dsimp only at hSw); go_simp; try with_reducible rfl
    try simp only [Act.put, List.setIfInBounds_toArray, List.set_cons_zero, List.set_cons_succ]
    refine wpAnyH_take (i := 1) (v := ?_) (by simp only [List.getElem?_toArray, List.getElem?_cons_succ, List.getElem?_cons_zero]; exact rfl) (by kernel_rfl) (by kernel_rfl) (by kernel_rfl) (by exact fun _ _ _ h => h) (Or.inl ⟨by rfl, ?_⟩) (by assumption) ?_
    rotate_left
    · intro w hSw; (try dsimp only at hSw); go_simp; try with_reducible rfl
    try simp only [Act.put, List.setIfInBounds_toArray, List.set_cons_zero, List.set_cons_succ]
    refine wpAnyH_take (i := 2) (v := ?_) (by simp only [List.getElem?_toArray, List.getElem?_cons_succ, List.getElem?_cons_zero]; exact rfl) (by kernel_rfl) (by kernel_rfl) (by kernel_rfl) (by exact fun _ _ _ h => h) (Or.inl ⟨by rfl, ?_⟩) (by assumption) ?_
    rotate_left
    · intro w hSw; (try dsimp only at hSw); go_simp; try with_reducible rfl
    try simp only [Act.put, List.setIfInBounds_toArray, List.set_cons_zero, List.set_cons_succ]
    refine wpAnyH_take (i := 3) (v := ?_) (by simp only [List.getElem?_toArray, List.getElem?_cons_succ, List.getElem?_cons_zero]; exact rfl) (by kernel_rfl) (by kernel_rfl) (by kernel_rfl) (by exact fun _ _ _ h => h) (Or.inl ⟨by rfl, ?_⟩) (by assumption) ?_
    rotate_left
    · intro w hSw; (try dsimp only at hSw); go_simp; try with_reducible rfl
    try simp only [Act.put, List.setIfInBounds_toArray, List.set_cons_zero, List.set_cons_succ]
    refine wpAnyH_take (i := 4) (v := undef) (by simp only [List.getElem?_toArray, List.getElem?_cons_succ, List.getElem?_cons_zero]; exact rfl) (by kernel_rfl) (by kernel_rfl) (by kernel_rfl) (by exact fun _ _ _ h => h) (Or.inr ⟨by kernel_rfl, rfl⟩) (by assumption) ?_
    try simp only [Act.put, List.setIfInBounds_toArray, List.set_cons_zero, List.set_cons_succ]
    refine wpAnyH_take (i := 5) (v := undef) (by simp only [List.getElem?_toArray, List.getElem?_cons_succ, List.getElem?_cons_zero]; exact rfl) (by kernel_rfl) (by kernel_rfl) (by kernel_rfl) (by exact fun _ _ _ h => h) (Or.inr ⟨by kernel_rfl, rfl⟩) (by assumption) ?_
    try simp only [Act.put, List.setIfInBounds_toArray, List.set_cons_zero, List.set_cons_succ]
    refine wpAnyH_take (i := 6) (v := undef) (by simp only [List.getElem?_toArray, List.getElem?_cons_succ, List.getElem?_cons_zero]; exact rfl) (by kernel_rfl) (by kernel_rfl) (by kernel_rfl) (by exact fun _ _ _ h => h) (Or.inr ⟨by kernel_rfl, rfl⟩) (by assumption) ?_
    try simp only [Act.put, List.setIfInBounds_toArray, List.set_cons_zero, List.set_cons_succ]
    refine wpAnyH_take (i := 7) (v := undef) (by simp only [List.getElem?_toArray, List.getElem?_cons_succ, List.getElem?_cons_zero]; exact rfl) (by kernel_rfl) (by kernel_rfl) (by kernel_rfl) (by exact fun _ _ _ h => h) (Or.inr ⟨by kernel_rfl, rfl⟩) (by assumption) ?_
    try simp only [Act.put, List.setIfInBounds_toArray, List.set_cons_zero, List.set_cons_succ]
    refine wpAnyH_take (i := 8) (v := undef) (by simp only [List.getElem?_toArray, List.getElem?_cons_succ, List.getElem?_cons_zero]; exact rfl) (by kernel_rfl) (by kernel_rfl) (by kernel_rfl) (by exact fun _ _ _ h => h) (Or.inr ⟨by kernel_rfl, rfl⟩) (by assumption) ?_
    try simp only [Act.put, List.setIfInBounds_toArray, List.set_cons_zero, List.set_cons_succ]
    refine wpAnyH_take (i := 9) (v := ?_) (by simp only [List.getElem?_toArray, List.getElem?_cons_succ, List.getElem?_cons_zero]; exact rfl) (by kernel_rfl) (by kernel_rfl) (by kernel_rfl) (by exact fun _ _ _ h => h) (Or.inl ⟨by rfl, ?_⟩) (by assumption) ?_
    rotate_left
    · intro w hSw; (try dsimp only at hSw); go_simp; try with_reducible rfl
    try simp only [Act.put, List.setIfInBounds_toArray, List.set_cons_zero, List.set_cons_succ]
    obtain ⟨p0, p1, p2, q0, q1, q2⟩ := cells3 J4.out
    refine wpAnyH_ready (rs := [10]) (by kernel_rfl) (by simp) ?_
    refine AllReadyH.cons (by simp only [List.getElem?_toArray, List.getElem?_cons_succ, List.getElem?_cons_zero]; exact rfl) (fun K hK => ?_) AllReadyH.nil
    go_simp
    refine hK.out _ _ ?_ (fun hHeld2 => ?_)
    · exact HS.out _ (heap3_far _ (by omega) _ _ _) (heap3_far _ (by omega) _ _ _)
    clear hK K p0 p1 p2 q0 q1 q2
    try simp only [Act.put, List.setIfInBounds_toArray, List.set_cons_zero, List.set_cons_succ]
    have E4 := Lib.hid (three_set W4 w.heap.size _ _ _ (.int .i64 X1) (.int .i64 Y1) (.slice A1 n1 c1) J4.out)
    have M5 := Lib.hid ((heap3_far W4 (x := w.heap.size) (y := w.heap.size + 1) (by omega) (.int .i64 X1) (.int .i64 Y1) (.slice A1 n1 c1)).trans J5.out)
    have HB5 := Lib.hid (below3 HB4.out (x := w.heap.size) (Nat.le_refl _) (.int .i64 X1) (.int .i64 Y1) (.slice A1 n1 c1))
    have FAR := Lib.hid (fun (y : Nat) (hy : y ≠ w.heap.size) => heap3_far W4 (x := w.heap.size) (y := y) hy (.int .i64 X1) (.int .i64 Y1) (.slice A1 n1 c1))
    have hz5 : (((W4.setCell ⟨w.heap.size, 0, none⟩ (.int .i64 X1)).setCell ⟨w.heap.size, 1, none⟩ (.int .i64 Y1)).setCell ⟨w.heap.size, 2, none⟩ (.slice A1 n1 c1)).heap.size = W4.heap.size := by simp [World.setCell]
    change wpAnyH _ _ _ _ _ _ _ _ (((W4.setCell ⟨w.heap.size, 0, none⟩ (.int .i64 X1)).setCell ⟨w.heap.size, 1, none⟩ (.int .i64 Y1)).setCell ⟨w.heap.size, 2, none⟩ (.slice A1 n1 c1)).drew
    clear hHeld2 hHeld
    generalize (((W4.setCell ⟨w.heap.size, 0, none⟩ (.int .i64 X1)).setCell ⟨w.heap.size, 1, none⟩ (.int .i64 Y1)).setCell ⟨w.heap.size, 2, none⟩ (.slice A1 n1 c1)) = W5 at E4 M5 HB5 FAR hz5 ⊢
    obtain ⟨p0, p1, p2, q0, q1, q2⟩ := cells3 M5.out
    refine wpAnyH_ready (rs := [11]) (by kernel_rfl) (by simp) ?_
    refine AllReadyH.cons (by simp only [List.getElem?_toArray, List.getElem?_cons_succ, List.getElem?_cons_zero]; exact rfl) (fun K hK => ?_) AllReadyH.nil
    go_simp
    refine hK.out _ _ ?_ (fun hHeld3 => ?_)
    · exact HS.out _ ((heap3_far _ (by omega) _ _ _).trans (FAR.out _ (by omega))) ((heap3_far _ (by omega) _ _ _).trans (FAR.out _ (by omega)))
    clear hK K p0 p1 p2 q0 q1 q2
    try simp only [Act.put, List.setIfInBounds_toArray, List.set_cons_zero, List.set_cons_succ]
    refine wpAnyH_take (i := 12) (v := ?_) (by simp only [List.getElem?_toArray, List.getElem?_cons_succ, List.getElem?_cons_zero]; exact rfl) (by kernel_rfl) (by kernel_rfl) (by kernel_rfl) (by exact fun _ _ _ h => h) (Or.inl ⟨by rfl, ?_⟩) (by assumption) ?_
    rotate_left
    · intro w hSw; (try dsimp only at hSw); go_simp; try with_reducible rfl
    try simp only [Act.put, List.setIfInBounds_toArray, List.set_cons_zero, List.set_cons_succ]
    refine wpAnyH_done (by kernel_rfl) ?_ _
    have E5 := Lib.hid (three_set W5 (w.heap.size + 1) _ _ _ (.int .i64 X2) (.int .i64 Y2) (.slice A2 n2 c2) M5.out)
    have E6 := Lib.hid ((heap3_far W5 (x := w.heap.size + 1) (y := w.heap.size) (by omega) (.int .i64 X2) (.int .i64 Y2) (.slice A2 n2 c2)).trans E4.out)
    have HB6 := Lib.hid (below_un (below3 HB5.out (x := w.heap.size + 1) (by omega) (.int .i64 X2) (.int .i64 Y2) (.slice A2 n2 c2)))
    clear hHeld3
    go_wp2
    exact bodyPost_ret (results_cell2_tmp rfl _ (World.drew (((W5.setCell ⟨w.heap.size + 1, 0, none⟩ (.int .i64 X2)).setCell ⟨w.heap.size + 1, 1, none⟩ (.int .i64 Y2)).setCell ⟨w.heap.size + 1, 2, none⟩ (.slice A2 n2 c2))) w.heap.size (w.heap.size + 1) _ _ #[.int .i64 X1, .int .i64 Y1, .slice A1 n1 c1] #[.int .i64 X2, .int .i64 Y2, .slice A2 n2 c2] _ _ _ rfl E6.out rfl E5.out Try.underlying68 rfl Try.sizeRel Try.sizeRel _ rfl) rfl ⟨HB6.out, Or.inr ⟨HNO.out, _, _, _, _, _, _, _, _, _, _, rfl⟩⟩
  rw [rwB_yes hrw]
  have hrr := HRW.out hrw
  by_cases hyy : Y1 = Y2
  case neg =>
    have hq : (Y1 == Y2) = false := by simpa using hyy
    have HNO := Lib.hid (show ¬ AkOk a b from fun h => by
      obtain ⟨g1, N1, F1, g2, N2, F2, ⟨e1, e2, _⟩, f1, f2, _⟩ := hrr
      have := h.2.2.2
      exact hyy (by rw [e2, f2]; omega))
    clear hrw HRW hrr hyy
    refine wp_region_held_drew (S := (fun w' => w'.cell? ⟨w2.heap.size, 0, none⟩ = some (.int .i64 X1) ∧ w'.cell? ⟨w2.heap.size, 1, none⟩ = some (.int .i64 Y1) ∧ w'.cell? ⟨w2.heap.size, 2, none⟩ = some (.slice A1 n1 c1) ∧ w'.cell? ⟨w2.heap.size + 1, 0, none⟩ = some (.int .i64 X2) ∧ w'.cell? ⟨w2.heap.size + 1, 1, none⟩ = some (.int .i64 Y2) ∧ w'.cell? ⟨w2.heap.size + 1, 2, none⟩ = some (.slice A2 n2 c2))) (by kernel_rfl) ?_ (fun hHeld => ?_)
    · exact HS.out _ rfl rfl
    refine wpAnyH_take (i := 0) (v := ?_) (by simp only [List.getElem?_toArray, List.getElem?_cons_succ, List.getElem?_cons_zero]; exact rfl) (by kernel_rfl) (by kernel_rfl) (by kernel_rfl) (by exact fun _ _ _ h => h) (Or.inl ⟨by rfl, ?_⟩) (by assumption) ?_
    rotate_left
    · intro w hSw; (try dsimp only at hSw); go_simp; try with_reducible rfl
    try simp only [Act.put, List.setIfInBounds_toArray, List.set_cons_zero, List.set_cons_succ]
    refine wpAnyH_take (i := 1) (v := ?_) (by simp only [List.getElem?_toArray, List.getElem?_cons_succ, List.getElem?_cons_zero]; exact rfl) (by kernel_rfl) (by kernel_rfl) (by kernel_rfl) (by exact fun _ _ _ h => h) (Or.inl ⟨by rfl, ?_⟩) (by assumption) ?_
    rotate_left
    · intro w hSw; (try dsimp only at hSw); go_simp; try with_reducible rfl
    try simp only [Act.put, List.setIfInBounds_toArray, List.set_cons_zero, List.set_cons_succ]
    refine wpAnyH_take (i := 2) (v := ?_) (by simp only [List.getElem?_toArray, List.getElem?_cons_succ, List.getElem?_cons_zero]; exact rfl) (by kernel_rfl) (by kernel_rfl) (by kernel_rfl) (by exact fun _ _ _ h => h) (Or.inl ⟨by rfl, ?_⟩) (by assumption) ?_
    rotate_left
    · intro w hSw; (try dsimp only at hSw); go_simp; try with_reducible rfl
    try simp only [Act.put, List.setIfInBounds_toArray, List.set_cons_zero, List.set_cons_succ]
    refine wpAnyH_take (i := 3) (v := ?_) (by simp only [List.getElem?_toArray, List.getElem?_cons_succ, List.getElem?_cons_zero]; exact rfl) (by kernel_rfl) (by kernel_rfl) (by kernel_rfl) (by exact fun _ _ _ h => h) (Or.inl ⟨by rfl, ?_⟩) (by assumption) ?_
    rotate_left
    · intro w hSw; (try dsimp only at hSw); go_simp; try with_reducible rfl
    try simp only [Act.put, List.setIfInBounds_toArray, List.set_cons_zero, List.set_cons_succ]
    refine wpAnyH_take (i := 4) (v := ?_) (by simp only [List.getElem?_toArray, List.getElem?_cons_succ, List.getElem?_cons_zero]; exact rfl) (by kernel_rfl) (by kernel_rfl) (by kernel_rfl) (by exact fun _ _ _ h => h) (Or.inl ⟨by rfl, ?_⟩) (by assumption) ?_
    rotate_left
    · intro w hSw; (try dsimp only at hSw); go_simp; try with_reducible rfl
    try simp only [Act.put, List.setIfInBounds_toArray, List.set_cons_zero, List.set_cons_succ]
    refine wpAnyH_take (i := 5) (v := ?_) (by simp only [List.getElem?_toArray, List.getElem?_cons_succ, List.getElem?_cons_zero]; exact rfl) (by kernel_rfl) (by kernel_rfl) (by kernel_rfl) (by exact fun _ _ _ h => h) (Or.inl ⟨by rfl, ?_⟩) (by assumption) ?_
    rotate_left
    · intro w hSw; (try dsimp only at hSw); go_simp; try with_reducible rfl
    try simp only [Act.put, List.setIfInBounds_toArray, List.set_cons_zero, List.set_cons_succ]
    refine wpAnyH_take (i := 6) (v := ?_) (by simp only [List.getElem?_toArray, List.getElem?_cons_succ, List.getElem?_cons_zero]; exact rfl) (by kernel_rfl) (by kernel_rfl) (by kernel_rfl) (by exact fun _ _ _ h => h) (Or.inl ⟨by rfl, ?_⟩) (by assumption) ?_
    rotate_left
    · intro w hSw; (try dsimp only at hSw); go_simp; try with_reducible rfl
    try simp only [Act.put, List.setIfInBounds_toArray, List.set_cons_zero, List.set_cons_succ]
    refine wpAnyH_take (i := 7) (v := ?_) (by simp only [List.getElem?_toArray, List.getElem?_cons_succ, List.getElem?_cons_zero]; exact rfl) (by kernel_rfl) (by kernel_rfl) (by kernel_rfl) (by exact fun _ _ _ h => h) (Or.inl ⟨by rfl, ?_⟩) (by assumption) ?_
    rotate_left
    · intro w hSw; (try dsimp only at hSw); go_simp; try with_reducible rfl
    try simp only [Act.put, List.setIfInBounds_toArray, List.set_cons_zero, List.set_cons_succ]
    refine wpAnyH_take (i := 8) (v := ?_) (by simp only [List.getElem?_toArray, List.getElem?_cons_succ, List.getElem?_cons_zero]; exact rfl) (by kernel_rfl) (by kernel_rfl) (by kernel_rfl) (by exact fun _ _ _ h => h) (Or.inl ⟨by rfl, ?_⟩) (by assumption) ?_
    rotate_left
    · intro w hSw; (try dsimp only at hSw); go_simp; try with_reducible rfl
    try simp only [Act.put, List.setIfInBounds_toArray, List.set_cons_zero, List.set_cons_succ]
    refine wpAnyH_take (i := 9) (v := ?_) (by simp only [List.getElem?_toArray, List.getElem?_cons_succ, List.getElem?_cons_zero]; exact rfl) (by kernel_rfl) (by kernel_rfl) (by kernel_rfl) (by exact fun _ _ _ h => h) (Or.inl ⟨by rfl, ?_⟩) (by assumption) ?_
    rotate_left
    · intro w hSw; (try dsimp only at hSw); go_simp; try with_reducible rfl
    try simp only [Act.put, List.setIfInBounds_toArray, List.set_cons_zero, List.set_cons_succ]
    obtain ⟨p0, p1, p2, q0, q1, q2⟩ := cells3 J4.out
    refine wpAnyH_ready (rs := [10]) (by kernel_rfl) (by simp) ?_
    refine AllReadyH.cons (by simp only [List.getElem?_toArray, List.getElem?_cons_succ, List.getElem?_cons_zero]; exact rfl) (fun K hK => ?_) AllReadyH.nil
    go_simp
    refine hK.out _ _ ?_ (fun hHeld2 => ?_)
    · exact HS.out _ (heap3_far _ (by omega) _ _ _) (heap3_far _ (by omega) _ _ _)
    clear hK K p0 p1 p2 q0 q1 q2
    try simp only [Act.put, List.setIfInBounds_toArray, List.set_cons_zero, List.set_cons_succ]
    have E4 := Lib.hid (three_set W4 w.heap.size _ _ _ (.int .i64 X1) (.int .i64 Y1) (.slice A1 n1 c1) J4.out)
    have M5 := Lib.hid ((heap3_far W4 (x := w.heap.size) (y := w.heap.size + 1) (by omega) (.int .i64 X1) (.int .i64 Y1) (.slice A1 n1 c1)).trans J5.out)
    have HB5 := Lib.hid (below3 HB4.out (x := w.heap.size) (Nat.le_refl _) (.int .i64 X1) (.int .i64 Y1) (.slice A1 n1 c1))
    have FAR := Lib.hid (fun (y : Nat) (hy : y ≠ w.heap.size) => heap3_far W4 (x := w.heap.size) (y := y) hy (.int .i64 X1) (.int .i64 Y1) (.slice A1 n1 c1))
    have hz5 : (((W4.setCell ⟨w.heap.size, 0, none⟩ (.int .i64 X1)).setCell ⟨w.heap.size, 1, none⟩ (.int .i64 Y1)).setCell ⟨w.heap.size, 2, none⟩ (.slice A1 n1 c1)).heap.size = W4.heap.size := by simp [World.setCell]
    change wpAnyH _ _ _ _ _ _ _ _ (((W4.setCell ⟨w.heap.size, 0, none⟩ (.int .i64 X1)).setCell ⟨w.heap.size, 1, none⟩ (.int .i64 Y1)).setCell ⟨w.heap.size, 2, none⟩ (.slice A1 n1 c1)).drew
    clear hHeld2 hHeld
    generalize (((W4.setCell ⟨w.heap.size, 0, none⟩ (.int .i64 X1)).setCell ⟨w.heap.size, 1, none⟩ (.int .i64 Y1)).setCell ⟨w.heap.size, 2, none⟩ (.slice A1 n1 c1)) = W5 at E4 M5 HB5 FAR hz5 ⊢
    obtain ⟨p0, p1, p2, q0, q1, q2⟩ := cells3 M5.out
    refine wpAnyH_ready (rs := [11]) (by kernel_rfl) (by simp) ?_
    refine AllReadyH.cons (by simp only [List.getElem?_toArray, List.getElem?_cons_succ, List.getElem?_cons_zero]; exact rfl) (fun K hK => ?_) AllReadyH.nil
    go_simp
    refine hK.out _ _ ?_ (fun hHeld3 => ?_)
    · exact HS.out _ ((heap3_far _ (by omega) _ _ _).trans (FAR.out _ (by omega))) ((heap3_far _ (by omega) _ _ _).trans (FAR.out _ (by omega)))
    clear hK K p0 p1 p2 q0 q1 q2
    try simp only [Act.put, List.setIfInBounds_toArray, List.set_cons_zero, List.set_cons_succ]
    refine wpAnyH_take (i := 12) (v := ?_) (by simp only [List.getElem?_toArray, List.getElem?_cons_succ, List.getElem?_cons_zero]; exact rfl) (by kernel_rfl) (by kernel_rfl) (by kernel_rfl) (by exact fun _ _ _ h => h) (Or.inl ⟨by rfl, ?_⟩) (by assumption) ?_
    rotate_left
    · intro w hSw; (try dsimp only at hSw); go_simp; try with_reducible rfl
    try simp only [Act.put, List.setIfInBounds_toArray, List.set_cons_zero, List.set_cons_succ]
    refine wpAnyH_done (by kernel_rfl) ?_ _
    have E5 := Lib.hid (three_set W5 (w.heap.size + 1) _ _ _ (.int .i64 X2) (.int .i64 Y2) (.slice A2 n2 c2) M5.out)
    have E6 := Lib.hid ((heap3_far W5 (x := w.heap.size + 1) (y := w.heap.size) (by omega) (.int .i64 X2) (.int .i64 Y2) (.slice A2 n2 c2)).trans E4.out)
    have HB6 := Lib.hid (below_un (below3 HB5.out (x := w.heap.size + 1) (by omega) (.int .i64 X2) (.int .i64 Y2) (.slice A2 n2 c2)))
    clear hHeld3
    go_wp2
    exact bodyPost_ret (results_cell2_tmp rfl _ (World.drew (((W5.setCell ⟨w.heap.size + 1, 0, none⟩ (.int .i64 X2)).setCell ⟨w.heap.size + 1, 1, none⟩ (.int .i64 Y2)).setCell ⟨w.heap.size + 1, 2, none⟩ (.slice A2 n2 c2))) w.heap.size (w.heap.size + 1) _ _ #[.int .i64 X1, .int .i64 Y1, .slice A1 n1 c1] #[.int .i64 X2, .int .i64 Y2, .slice A2 n2 c2] _ _ _ rfl E6.out rfl E5.out Try.underlying68 rfl Try.sizeRel Try.sizeRel _ rfl) rfl ⟨HB6.out, Or.inr ⟨HNO.out, _, _, _, _, _, _, _, _, _, _, rfl⟩⟩
  have hq : (Y1 == Y2) = true := by simpa using hyy
  obtain ⟨g1, N1, F1, g2, N2, F2, ⟨rfl, rfl, rfl, e4, e5, e6, e7, e8, e9⟩, rfl, rfl, rfl, f4, f5, f6, f7, f8, f9⟩ := hrr
  have HOK := Lib.hid (show AkOk a b from ⟨hrw.1, hrw.2.1, hrw.2.2, by omega⟩)
  have hg1 := e7.lt
  have hg2 := f7.lt
  have HV1 := Lib.hid (show ∀ W : World, W.heap[g1]? = W4.heap[g1]? → W4.heap.size ≤ W.heap.size → Rv W a.n (a.len 0) n1 g1 c1 a.flat from fun W h hz => ⟨e4, by omega, e5, fun i hi => by rw [((e7.of_block (KB.out.block g1 (by omega))).of_block h).cell (by omega), e9 i hi]⟩)
  have HV2 := Lib.hid (show ∀ W : World, W.heap[g2]? = W4.heap[g2]? → W4.heap.size ≤ W.heap.size → Rv W b.n (b.len 0) n2 g2 c2 b.flat from fun W h hz => ⟨f4, by omega, f5, fun i hi => by rw [((f7.of_block (KB.out.block g2 (by omega))).of_block h).cell (by omega), f9 i hi]⟩)
  clear e4 f4 e7 e9 f7 f9 hrw HRW hyy
  refine wp_region_held_drew (S := (fun w' => w'.cell? ⟨w2.heap.size, 0, none⟩ = some (.int .i64 a.n) ∧ w'.cell? ⟨w2.heap.size, 1, none⟩ = some (.int .i64 (a.len 0)) ∧ w'.cell? ⟨w2.heap.size, 2, none⟩ = some (.slice (some ⟨g1, 0, none⟩) n1 c1) ∧ w'.cell? ⟨w2.heap.size + 1, 0, none⟩ = some (.int .i64 b.n) ∧ w'.cell? ⟨w2.heap.size + 1, 1, none⟩ = some (.int .i64 (b.len 0)) ∧ w'.cell? ⟨w2.heap.size + 1, 2, none⟩ = some (.slice (some ⟨g2, 0, none⟩) n2 c2))) (by kernel_rfl) ?_ (fun hHeld => ?_)
  · exact HS.out _ rfl rfl
  refine wpAnyH_take (i := 0) (v := ?_) (by simp only [List.getElem?_toArray, List.getElem?_cons_succ, List.getElem?_cons_zero]; exact rfl) (by kernel_rfl) (by kernel_rfl) (by kernel_rfl) (by exact fun _ _ _ h => h) (Or.inl ⟨by rfl, ?_⟩) (by assumption) ?_
  rotate_left
  · intro w hSw; (try dsimp only at hSw); go_simp; try with_reducible rfl
  try simp only [Act.put, List.setIfInBounds_toArray, List.set_cons_zero, List.set_cons_succ]
  refine wpAnyH_take (i := 1) (v := ?_) (by simp only [List.getElem?_toArray, List.getElem?_cons_succ, List.getElem?_cons_zero]; exact rfl) (by kernel_rfl) (by kernel_rfl) (by kernel_rfl) (by exact fun _ _ _ h => h) (Or.inl ⟨by rfl, ?_⟩) (by assumption) ?_
  rotate_left
  · intro w hSw; (try dsimp only at hSw); go_simp; try with_reducible rfl
  try simp only [Act.put, List.setIfInBounds_toArray, List.set_cons_zero, List.set_cons_succ]
  refine wpAnyH_take (i := 2) (v := ?_) (by simp only [List.getElem?_toArray, List.getElem?_cons_succ, List.getElem?_cons_zero]; exact rfl) (by kernel_rfl) (by kernel_rfl) (by kernel_rfl) (by exact fun _ _ _ h => h) (Or.inl ⟨by rfl, ?_⟩) (by assumption) ?_
  rotate_left
  · intro w hSw; (try dsimp only at hSw); go_simp; try with_reducible rfl
  try simp only [Act.put, List.setIfInBounds_toArray, List.set_cons_zero, List.set_cons_succ]
  refine wpAnyH_take (i := 3) (v := ?_) (by simp only [List.getElem?_toArray, List.getElem?_cons_succ, List.getElem?_cons_zero]; exact rfl) (by kernel_rfl) (by kernel_rfl) (by kernel_rfl) (by exact fun _ _ _ h => h) (Or.inl ⟨by rfl, ?_⟩) (by assumption) ?_
  rotate_left
  · intro w hSw; (try dsimp only at hSw); go_simp; try with_reducible rfl
  try simp only [Act.put, List.setIfInBounds_toArray, List.set_cons_zero, List.set_cons_succ]
  refine wpAnyH_take (i := 4) (v := ?_) (by simp only [List.getElem?_toArray, List.getElem?_cons_succ, List.getElem?_cons_zero]; exact rfl) (by kernel_rfl) (by kernel_rfl) (by kernel_rfl) (by exact fun _ _ _ h => h) (Or.inl ⟨by rfl, ?_⟩) (by assumption) ?_
  rotate_left
  · intro w hSw; (try dsimp only at hSw); go_simp; try with_reducible rfl
  try simp only [Act.put, List.setIfInBounds_toArray, List.set_cons_zero, List.set_cons_succ]
  refine wpAnyH_take (i := 5) (v := ?_) (by simp only [List.getElem?_toArray, List.getElem?_cons_succ, List.getElem?_cons_zero]; exact rfl) (by kernel_rfl) (by kernel_rfl) (by kernel_rfl) (by exact fun _ _ _ h => h) (Or.inl ⟨by rfl, ?_⟩) (by assumption) ?_
  rotate_left
  · intro w hSw; (try dsimp only at hSw); go_simp; try with_reducible rfl
  try simp only [Act.put, List.setIfInBounds_toArray, List.set_cons_zero, List.set_cons_succ]
  refine wpAnyH_take (i := 6) (v := ?_) (by simp only [List.getElem?_toArray, List.getElem?_cons_succ, List.getElem?_cons_zero]; exact rfl) (by kernel_rfl) (by kernel_rfl) (by kernel_rfl) (by exact fun _ _ _ h => h) (Or.inl ⟨by rfl, ?_⟩) (by assumption) ?_
  rotate_left
  · intro w hSw; (try dsimp only at hSw); go_simp; try with_reducible rfl
  try simp only [Act.put, List.setIfInBounds_toArray, List.set_cons_zero, List.set_cons_succ]
  refine wpAnyH_take (i := 7) (v := ?_) (by simp only [List.getElem?_toArray, List.getElem?_cons_succ, List.getElem?_cons_zero]; exact rfl) (by kernel_rfl) (by kernel_rfl) (by kernel_rfl) (by exact fun _ _ _ h => h) (Or.inl ⟨by rfl, ?_⟩) (by assumption) ?_
  rotate_left
  · intro w hSw; (try dsimp only at hSw); go_simp; try with_reducible rfl
  try simp only [Act.put, List.setIfInBounds_toArray, List.set_cons_zero, List.set_cons_succ]
  refine wpAnyH_take (i := 8) (v := ?_) (by simp only [List.getElem?_toArray, List.getElem?_cons_succ, List.getElem?_cons_zero]; exact rfl) (by kernel_rfl) (by kernel_rfl) (by kernel_rfl) (by exact fun _ _ _ h => h) (Or.inl ⟨by rfl, ?_⟩) (by assumption) ?_
  rotate_left
  · intro w hSw; (try dsimp only at hSw); go_simp; try with_reducible rfl
  try simp only [Act.put, List.setIfInBounds_toArray, List.set_cons_zero, List.set_cons_succ]
  refine wpAnyH_take (i := 9) (v := ?_) (by simp only [List.getElem?_toArray, List.getElem?_cons_succ, List.getElem?_cons_zero]; exact rfl) (by kernel_rfl) (by kernel_rfl) (by kernel_rfl) (by exact fun _ _ _ h => h) (Or.inl ⟨by rfl, ?_⟩) (by assumption) ?_
  rotate_left
  · intro w hSw; (try dsimp only at hSw); go_simp; try with_reducible rfl
  try simp only [Act.put, List.setIfInBounds_toArray, List.set_cons_zero, List.set_cons_succ]
  obtain ⟨p0, p1, p2, q0, q1, q2⟩ := cells3 J4.out
  refine wpAnyH_ready (rs := [10]) (by kernel_rfl) (by simp) ?_
  refine AllReadyH.cons (by simp only [List.getElem?_toArray, List.getElem?_cons_succ, List.getElem?_cons_zero]; exact rfl) (fun K hK => ?_) AllReadyH.nil
  go_simp
  refine hK.out _ _ ?_ (fun hHeld2 => ?_)
  · exact HS.out _ (heap3_far _ (by omega) _ _ _) (heap3_far _ (by omega) _ _ _)
  clear hK K p0 p1 p2 q0 q1 q2
  try simp only [Act.put, List.setIfInBounds_toArray, List.set_cons_zero, List.set_cons_succ]
  have E4 := Lib.hid (three_set W4 w.heap.size _ _ _ (.int .i64 a.n) (.int .i64 (a.len 0)) (.slice (some ⟨g1, 0, none⟩) n1 c1) J4.out)
  have M5 := Lib.hid ((heap3_far W4 (x := w.heap.size) (y := w.heap.size + 1) (by omega) (.int .i64 a.n) (.int .i64 (a.len 0)) (.slice (some ⟨g1, 0, none⟩) n1 c1)).trans J5.out)
  have HB5 := Lib.hid (below3 HB4.out (x := w.heap.size) (Nat.le_refl _) (.int .i64 a.n) (.int .i64 (a.len 0)) (.slice (some ⟨g1, 0, none⟩) n1 c1))
  have FAR := Lib.hid (fun (y : Nat) (hy : y ≠ w.heap.size) => heap3_far W4 (x := w.heap.size) (y := y) hy (.int .i64 a.n) (.int .i64 (a.len 0)) (.slice (some ⟨g1, 0, none⟩) n1 c1))
  have hz5 : (((W4.setCell ⟨w.heap.size, 0, none⟩ (.int .i64 a.n)).setCell ⟨w.heap.size, 1, none⟩ (.int .i64 (a.len 0))).setCell ⟨w.heap.size, 2, none⟩ (.slice (some ⟨g1, 0, none⟩) n1 c1)).heap.size = W4.heap.size := by simp [World.setCell]
  change wpAnyH _ _ _ _ _ _ _ _ (((W4.setCell ⟨w.heap.size, 0, none⟩ (.int .i64 a.n)).setCell ⟨w.heap.size, 1, none⟩ (.int .i64 (a.len 0))).setCell ⟨w.heap.size, 2, none⟩ (.slice (some ⟨g1, 0, none⟩) n1 c1)).drew
  clear hHeld2 hHeld
  generalize (((W4.setCell ⟨w.heap.size, 0, none⟩ (.int .i64 a.n)).setCell ⟨w.heap.size, 1, none⟩ (.int .i64 (a.len 0))).setCell ⟨w.heap.size, 2, none⟩ (.slice (some ⟨g1, 0, none⟩) n1 c1)) = W5 at E4 M5 HB5 FAR hz5 ⊢
  obtain ⟨p0, p1, p2, q0, q1, q2⟩ := cells3 M5.out
  refine wpAnyH_ready (rs := [11]) (by kernel_rfl) (by simp) ?_
  refine AllReadyH.cons (by simp only [List.getElem?_toArray, List.getElem?_cons_succ, List.getElem?_cons_zero]; exact rfl) (fun K hK => ?_) AllReadyH.nil
  go_simp
  refine hK.out _ _ ?_ (fun hHeld3 => ?_)
  · exact HS.out _ ((heap3_far _ (by omega) _ _ _).trans (FAR.out _ (by omega))) ((heap3_far _ (by omega) _ _ _).trans (FAR.out _ (by omega)))
  clear hK K p0 p1 p2 q0 q1 q2
  try simp only [Act.put, List.setIfInBounds_toArray, List.set_cons_zero, List.set_cons_succ]
  refine wpAnyH_take (i := 12) (v := ?_) (by simp only [List.getElem?_toArray, List.getElem?_cons_succ, List.getElem?_cons_zero]; exact rfl) (by kernel_rfl) (by kernel_rfl) (by kernel_rfl) (by exact fun _ _ _ h => h) (Or.inl ⟨by rfl, ?_⟩) (by assumption) ?_
  rotate_left
  · intro w hSw; (try dsimp only at hSw); go_simp; try with_reducible rfl
  try simp only [Act.put, List.setIfInBounds_toArray, List.set_cons_zero, List.set_cons_succ]
  refine wpAnyH_done (by kernel_rfl) ?_ _
  have E5 := Lib.hid (three_set W5 (w.heap.size + 1) _ _ _ (.int .i64 b.n) (.int .i64 (b.len 0)) (.slice (some ⟨g2, 0, none⟩) n2 c2) M5.out)
  have E6 := Lib.hid ((heap3_far W5 (x := w.heap.size + 1) (y := w.heap.size) (by omega) (.int .i64 b.n) (.int .i64 (b.len 0)) (.slice (some ⟨g2, 0, none⟩) n2 c2)).trans E4.out)
  have HB6 := Lib.hid (below_un (below3 HB5.out (x := w.heap.size + 1) (by omega) (.int .i64 b.n) (.int .i64 (b.len 0)) (.slice (some ⟨g2, 0, none⟩) n2 c2)))
  clear hHeld3
  have HR1 := Lib.hid (rv_drew (HV1.out _ ((heap3_far W5 (x := w.heap.size + 1) (by omega) (.int .i64 b.n) (.int .i64 (b.len 0)) (.slice (some ⟨g2, 0, none⟩) n2 c2)).trans (FAR.out _ (by omega))) (by simp [World.setCell]; omega)))
  have HR2 := Lib.hid (rv_drew (HV2.out _ ((heap3_far W5 (x := w.heap.size + 1) (by omega) (.int .i64 b.n) (.int .i64 (b.len 0)) (.slice (some ⟨g2, 0, none⟩) n2 c2)).trans (FAR.out _ (by omega))) (by simp [World.setCell]; omega)))
  go_wp2
  exact bodyPost_ret (results_cell2_tmp rfl _ (World.drew (((W5.setCell ⟨w.heap.size + 1, 0, none⟩ (.int .i64 b.n)).setCell ⟨w.heap.size + 1, 1, none⟩ (.int .i64 (b.len 0))).setCell ⟨w.heap.size + 1, 2, none⟩ (.slice (some ⟨g2, 0, none⟩) n2 c2))) w.heap.size (w.heap.size + 1) _ _ #[.int .i64 a.n, .int .i64 (a.len 0), .slice (some ⟨g1, 0, none⟩) n1 c1] #[.int .i64 b.n, .int .i64 (b.len 0), .slice (some ⟨g2, 0, none⟩) n2 c2] _ _ _ rfl E6.out rfl E5.out Try.underlying68 rfl Try.sizeRel Try.sizeRel _ rfl) rfl ⟨HB6.out, Or.inl ⟨HOK.out, n1, g1, c1, n2, g2, c2, rfl, HR1.out, HR2.out⟩⟩

end Go.Proofs.Ytidlloelinmnnaa
