/- Places of a label at a side: of the model and of the program. -/
import Derived.Test.YthelaffjpmcdbaaLc
import Derived.Test.YthelaffjpmcdbaaPrM
namespace Go.Proofs.Ythelaffjpmcdbaa
open Go.RowKit
set_option linter.unusedVariables false

/-- the west end of a label at a side -/
def weX (x a s : Int) : Int := if s = 0 then x + 1 else if s = 1 then x - a else x
def weY (y s : Int) : Int := if s = 2 then y - 1 else if s = 3 then y + 1 else y
/-- it lies on the map -/
def PcOk (x y a s : Int) : Prop := (0 ≤ weX x a s ∧ weX x a s + a ≤ 10) ∧ (0 ≤ weY y s ∧ weY y s ≤ 9)
instance (x y a s : Int) : Decidable (PcOk x y a s) := by unfold PcOk; exact inferInstance
/-- its first k places -/
def plK (p : Int) : Nat → List Int
  | 0 => []
  | k + 1 => plK p k ++ [p + k]
theorem plK_len (p : Int) (k : Nat) : (plK p k).length = k := by
  induction k with
  | zero => rfl
  | succ k ih => simp [plK, ih]
theorem plK_at (p : Int) (k : Nat) : ∀ i, i < k → nsZ (plK p k) i = p + i := by
  induction k with
  | zero => intro i hi; omega
  | succ k ih =>
    intro i hi
    show (plK p k ++ [p + (k : Int)]).getD i 0 = _
    by_cases h : i < k
    · have := ih i h
      rw [nsZ, List.getD_eq_getElem?_getD] at this
      rw [List.getD_eq_getElem?_getD, List.getElem?_append_left (by rw [plK_len]; exact h)]
      exact this
    · obtain rfl : i = k := by omega
      rw [List.getD_eq_getElem?_getD, List.getElem?_append_right (by rw [plK_len]; omega), plK_len]
      simp
/-- the first place -/
def pcA (x y a s : Int) : Int := 10 * weY y s + weX x a s
/-- the places of a label at a side, if it lies on the map -/
def pcL (x y a s : Int) : List Int := if PcOk x y a s then plK (pcA x y a s) a.toNat else []
theorem pcL_yes {x y a s : Int} (h : PcOk x y a s) : pcL x y a s = plK (pcA x y a s) a.toNat := if_pos h
theorem pcL_no {x y a s : Int} (h : ¬ PcOk x y a s) : pcL x y a s = [] := if_neg h

/- the program -/
def WePost (x y : Int) (b : Bool) (w : World) (e : Ending) (w' : World) : Prop := e = .returned (.tuple #[.int .i64 x, .int .i64 y, .bool b]) ∧ Below w.heap.size w w'

set_option maxHeartbeats 4000000 in
theorem westEnd_any (x y a g s : Int) (w : World) (h : LbOk x y a g) (hs : 0 ≤ s ∧ s ≤ 3) :
    Calls Try.prog 75 #[.agg #[.int .i64 x, .int .i64 y, .int .i64 a, .int .i64 g], .int .i64 s] w (WePost (weX x a s) (weY y s) true w) := by
  obtain ⟨⟨h1, h2⟩, ⟨h3, h4⟩, ⟨h5, h6⟩, h7, h8⟩ := h
  have hB : Below w.heap.size w (w.alloc (.cells #[.int .i64 x, .int .i64 y, .int .i64 a, .int .i64 g] 28)) := (Below.refl _ _).alloc (Nat.le_refl _) _
  have HB := Lib.hid hB
  clear hB
  rcases (by omega : s = 0 ∨ s = 1 ∨ s = 2 ∨ s = 3) with rfl | rfl | rfl | rfl
  · go_enter Try.func75, Try.ntmps75
    go_wp2
    go_quiet (fail)
    go_wp2
    go_ret3
    exact ⟨rfl, below_drewN HB.out _⟩
  · go_enter Try.func75, Try.ntmps75
    go_wp2
    go_quiet (fail)
    go_wp2
    go_ret3
    exact ⟨rfl, below_drewN HB.out _⟩
  · go_enter Try.func75, Try.ntmps75
    go_wp2
    go_quiet (fail)
    go_wp2
    go_ret3
    exact ⟨rfl, below_drewN HB.out _⟩
  · go_enter Try.func75, Try.ntmps75
    go_wp2
    go_quiet (fail)
    go_wp2
    go_ret3
    exact ⟨rfl, below_drewN HB.out _⟩

set_option maxHeartbeats 4000000 in
theorem westEnd_no (x y a g s : Int) (w : World) (hs : ¬ (0 ≤ s ∧ s ≤ 3)) :
    Calls Try.prog 75 #[.agg #[.int .i64 x, .int .i64 y, .int .i64 a, .int .i64 g], .int .i64 s] w (WePost 0 0 false w) := by
  have HB := Lib.hid (show Below w.heap.size w (w.alloc (.cells #[.int .i64 x, .int .i64 y, .int .i64 a, .int .i64 g] 28)) from (Below.refl _ _).alloc (Nat.le_refl _) _)
  have s0 : (s == 0) = false := by simp; omega
  have s1 : (s == 1) = false := by simp; omega
  have s2 : (s == 2) = false := by simp; omega
  have s3 : (s == 3) = false := by simp; omega
  clear hs
  go_enter Try.func75, Try.ntmps75
  go_wp2
  go_ret3
  exact ⟨rfl, HB.out⟩

theorem placeIndex_any (x y : Int) (w : World) (h1 : -100 ≤ x) (h2 : x ≤ 100) (h3 : -100 ≤ y) (h4 : y ≤ 100) : Calls Try.prog 76 #[.int .i64 x, .int .i64 y] w fun e w' => e = .returned (.int .i64 (10 * y + x)) ∧ w = w' := by
  go_enter Try.func76, Try.ntmps76
  go_wp2
  go_ret
  exact ⟨rfl, rfl⟩

/-- whether a label can lie at a side -/
def pcB (x y a s : Int) : Bool := decide ((0 ≤ s ∧ s ≤ 3) ∧ PcOk x y a s)
def pcM (x y a s : Int) : List Int := if (0 ≤ s ∧ s ≤ 3) ∧ PcOk x y a s then plK (pcA x y a s) a.toNat else []

set_option maxRecDepth 20000 in
set_option maxHeartbeats 8000000 in
theorem labelPlaces_no (x y a g s : Int) (w : World) (h : LbOk x y a g) (hs : ¬ ((0 ≤ s ∧ s ≤ 3) ∧ PcOk x y a s)) :
    Calls Try.prog 55 #[.agg #[.int .i64 x, .int .i64 y, .int .i64 a, .int .i64 g], .int .i64 s] w (NbPost false [] w) := by
  have hN := heap_alloc_new w (.cells #[.int .i64 x, .int .i64 y, .int .i64 a, .int .i64 g] 28)
  have HN := Lib.hid hN
  have HB := Lib.hid (show Below w.heap.size w (w.alloc (.cells #[.int .i64 x, .int .i64 y, .int .i64 a, .int .i64 g] 28)) from (Below.refl _ _).alloc (Nat.le_refl _) _)
  clear hN
  by_cases h0 : 0 ≤ s ∧ s ≤ 3
  case neg =>
    have HW := Lib.hid (fun W : World => westEnd_no x y a g s W h0)
    clear hs h0
    go_enter Try.func55, Try.ntmps55
    go_wp2_with fail
    refine (HW.out _).mono ?_
    rintro e w1 ⟨rfl, hb1⟩
    have HB1 := Lib.hid (HB.out.trans (hb1.mono (by simp)))
    clear hb1
    go_wp2
    go_ret2
    exact ⟨_, rfl, ownsRow_base (nums_lit w1) HB1.out.size, (HB1.out.alloc HB1.out.size _)⟩
  have HW := Lib.hid (fun W : World => westEnd_any x y a g s W h h0)
  have hp := Lib.hid (show ¬ PcOk x y a s from fun k => hs ⟨h0, k⟩)
  have hX : -5 ≤ weX x a s ∧ weX x a s ≤ 10 := by unfold weX; obtain ⟨⟨h1, h2⟩, _, ⟨h5, h6⟩, _⟩ := h; split <;> (try split) <;> omega
  obtain ⟨X, eX⟩ : ∃ X, weX x a s = X := ⟨_, rfl⟩
  obtain ⟨Y, eY⟩ : ∃ Y, weY y s = Y := ⟨_, rfl⟩
  unfold PcOk at hp
  rw [eX] at hp hX
  rw [eX, eY] at HW
  rw [eY] at hp
  have ha := h.2.2.1
  clear hs eX eY h
  by_cases k1 : (0 ≤ X ∧ X < 10) ∧ 0 ≤ Y ∧ Y < 10
  case neg =>
    have K1 := Lib.hid k1
    clear k1
    go_enter Try.func55, Try.ntmps55
    go_wp2_with fail
    refine (HW.out _).mono ?_
    rintro e w1 ⟨rfl, hb1⟩
    have HB1 := Lib.hid (HB.out.trans (hb1.mono (by simp)))
    clear hb1
    go_wp2_with fail
    refine (onMap_no _ _ _ K1.out).mono ?_
    rintro e w2 ⟨rfl, rfl⟩
    go_wp2
    go_ret2
    exact ⟨_, rfl, ownsRow_base (nums_lit w1) HB1.out.size, (HB1.out.alloc HB1.out.size _)⟩
  have K1 := Lib.hid k1
  have K2 := Lib.hid (show ¬ ((0 ≤ X + a - 1 ∧ X + a - 1 < 10) ∧ 0 ≤ Y ∧ Y < 10) from fun k => hp.out ⟨⟨by omega, by omega⟩, by omega, by omega⟩)
  clear k1
  go_enter Try.func55, Try.ntmps55
  go_wp2_with fail
  refine (HW.out _).mono ?_
  rintro e w1 ⟨rfl, hb1⟩
  have HB1 := Lib.hid (HB.out.trans (hb1.mono (by simp)))
  obtain ⟨c0, c1, c2, c3⟩ := cellsLb ((hb1.block _ (by simp)).trans HN.out)
  clear hb1
  go_wp2_with fail
  refine (onMap_yes _ _ _ K1.out.1.1 K1.out.1.2 K1.out.2.1 K1.out.2.2).mono ?_
  rintro e w2 ⟨rfl, rfl⟩
  go_wp2_with fail
  refine (onMap_no _ _ _ K2.out).mono ?_
  rintro e w2 ⟨rfl, rfl⟩
  go_wp2
  go_ret2
  exact ⟨_, rfl, ownsRow_base (nums_lit w1) HB1.out.size, (HB1.out.alloc HB1.out.size _)⟩

theorem plK_ok {p : Int} {k : Nat} (h1 : -1000 ≤ p) (h2 : p ≤ 1000) (hk : k ≤ 1000) : NsOk (plK p k) := by
  induction k with
  | zero => intro x hx; cases hx
  | succ k ih =>
    intro x hx
    rcases List.mem_append.1 hx with h | h
    · exact ih (by omega) x h
    · simp only [List.mem_singleton] at h; omega

set_option maxRecDepth 20000 in
set_option maxHeartbeats 8000000 in
theorem labelPlaces_yes (x y a g s : Int) (w : World) (h : LbOk x y a g) (h0 : 0 ≤ s ∧ s ≤ 3) (hpc : PcOk x y a s) :
    Calls Try.prog 55 #[.agg #[.int .i64 x, .int .i64 y, .int .i64 a, .int .i64 g], .int .i64 s] w (NbPost true (plK (pcA x y a s) a.toNat) w) := by
  have hN := heap_alloc_new w (.cells #[.int .i64 x, .int .i64 y, .int .i64 a, .int .i64 g] 28)
  have HN := Lib.hid hN
  have HB := Lib.hid (show Below w.heap.size w (w.alloc (.cells #[.int .i64 x, .int .i64 y, .int .i64 a, .int .i64 g] 28)) from (Below.refl _ _).alloc (Nat.le_refl _) _)
  obtain ⟨i0, hi0, hz0, hz1, hz2⟩ := info_parts Try.infoI
  clear hN
  have HW := Lib.hid (fun W : World => westEnd_any x y a g s W h h0)
  obtain ⟨X, eX⟩ : ∃ X, weX x a s = X := ⟨_, rfl⟩
  obtain ⟨Y, eY⟩ : ∃ Y, weY y s = Y := ⟨_, rfl⟩
  unfold PcOk at hpc
  unfold pcA
  rw [eX, eY] at hpc HW
  rw [eX, eY]
  obtain ⟨⟨p1, p2⟩, p3, p4⟩ := hpc
  obtain ⟨n, hn⟩ : ∃ n : Nat, a = n := ⟨a.toNat, by have := h.2.2.1; omega⟩
  subst hn
  have hn1 := h.2.2.1.1
  have hn2 := h.2.2.1.2
  rw [Int.toNat_natCast]
  clear eX eY h h0
  have K1 : (0 ≤ X ∧ X < 10) ∧ 0 ≤ Y ∧ Y < 10 := ⟨⟨by omega, by omega⟩, by omega, by omega⟩
  have K2 : (0 ≤ X + n - 1 ∧ X + n - 1 < 10) ∧ 0 ≤ Y ∧ Y < 10 := ⟨⟨by omega, by omega⟩, by omega, by omega⟩
  have K1 := Lib.hid K1
  have K2 := Lib.hid K2
  go_enter Try.func55, Try.ntmps55
  go_wp2_with fail
  refine (HW.out _).mono ?_
  rintro e w1 ⟨rfl, hb1⟩
  have HB1 := Lib.hid (HB.out.trans (hb1.mono (by simp)))
  obtain ⟨c0, c1, c2, c3⟩ := cellsLb ((hb1.block _ (by simp)).trans HN.out)
  clear hb1
  go_wp2_with fail
  refine (onMap_yes _ _ _ K1.out.1.1 K1.out.1.2 K1.out.2.1 K1.out.2.2).mono ?_
  rintro e w2 ⟨rfl, rfl⟩
  go_wp2_with fail
  refine (onMap_yes _ _ _ K2.out.1.1 K2.out.1.2 K2.out.2.1 K2.out.2.2).mono ?_
  rintro e w2 ⟨rfl, rfl⟩
  go_wp2
  go_loopw [9, 39] (fun o c wr => ∃ (k : Nat) (u : Value), k ≤ n ∧ c = .int .i64 k ∧ u = o ∧ Nums w.heap.size wr u (plK (10 * Y + X) k) ∧ Below w.heap.size w wr) (fun _ c => fun _ => n - (intOf c).toNat)
  case atStart => exact ⟨0, _, Nat.zero_le _, rfl, rfl, nums_none _ _, HB1.out⟩
  case round =>
    obtain ⟨k, u, hk, rfl, rfl, hli, hb⟩ := hrel
    have HB2 := Lib.hid hb
    have HLI := Lib.hid hli
    have hln := plK_len (10 * Y + X) k
    clear hb hli
    by_cases hlt : k < n
    · have hlt' : (k : Int) < n := by omega
      obtain ⟨L, eL⟩ : ∃ L, plK (10 * Y + X) k = L := ⟨_, rfl⟩
      have HLe := Lib.hid (show plK (10 * Y + X) (k + 1) = L ++ [10 * Y + (X + k)] by show plK _ _ ++ _ = _; rw [eL]; congr 2; omega)
      rw [eL] at HLI hln
      clear eL
      go_wp2_with fail
      refine (placeIndex_any _ _ _ (by omega) (by omega) (by omega) (by omega)).mono ?_
      rintro e w2 ⟨rfl, rfl⟩
      obtain ⟨z, ez⟩ : ∃ z, 10 * Y + (X + (k : Int)) = z := ⟨_, rfl⟩
      rw [ez] at HLe
      rw [ez]
      clear ez
      have HLN := HLI
      go_wp2_with (first | (at_builtin; refine wpList_append_own _ rfl _ _ 26 rfl w.heap.size 3 i0 (.int .i64 0) 1 8 Try.underlying26 hi0 hz0 hz1 hz2 rfl (by decide) _ L.length (nsV L) rfl (HLN.out.alloc _) ⟨wr.heap.size, 0, none⟩ 1 1 [.int .i64 z] rfl rfl (World.news_of_block (cs := #[.int .i64 z]) (t := 3) (fr := (0, 0)) (heap_alloc_new wr _)) (by simp [Value.oneCell']) (by unfold maxLen; omega) (by omega) (by have := HB2.out.size; simp; omega) ?_; intro v' w4 hown4 hg4 _))
      have HB4 := Lib.hid ((HB2.out.alloc HB2.out.size (.cells #[.int .i64 z] 3)).grown hg4 (by simp; have := HB2.out.size; omega) (fun k hk => (HLN.out.lt k hk).1))
      have HL4 := Lib.hid (nums_push (L := L) (x := z) hown4)
      clear hown4 hg4 HLN
      go_wp2
      go_roundw
      case rel => exact ⟨k + 1, _, by omega, by go_num, rfl, by rw [HLe.out]; exact HL4.out, HB4.out⟩
      case measure => simp [intOf]; omega
    · obtain rfl : k = n := by omega
      go_wp2
      go_ret2
      exact ⟨_, rfl, HLI.out, HB2.out⟩

theorem labelPlaces_any (x y a g s : Int) (w : World) (h : LbOk x y a g) :
    Calls Try.prog 55 #[.agg #[.int .i64 x, .int .i64 y, .int .i64 a, .int .i64 g], .int .i64 s] w (NbPost (pcB x y a s) (pcM x y a s) w) := by
  by_cases hs : (0 ≤ s ∧ s ≤ 3) ∧ PcOk x y a s
  · rw [show pcB x y a s = true from decide_eq_true hs, show pcM x y a s = _ from if_pos hs]
    exact labelPlaces_yes x y a g s w h hs.1 hs.2
  · rw [show pcB x y a s = false from decide_eq_false hs, show pcM x y a s = _ from if_neg hs]
    exact labelPlaces_no x y a g s w h hs

/-- whether the function answers with places -/
noncomputable def lpB (x y a g s : Int) : Bool := lbB x y a g && pcB x y a s
noncomputable def lpL (x y a g s : Int) : List Int := if lbB x y a g = true then pcM x y a s else []

set_option maxHeartbeats 4000000 in
theorem implLabelPlaces_any (x y a g s : Int) (w : World) :
    Calls Try.prog 20 #[.agg #[.int .i64 x, .int .i64 y, .int .i64 a, .int .i64 g], .int .i64 s] w (NbPost (lpB x y a g s) (lpL x y a g s) w) := by
  have hN := heap_alloc_new w (.cells #[.int .i64 x, .int .i64 y, .int .i64 a, .int .i64 g] 28)
  have HN := Lib.hid hN
  have HB := Lib.hid (show Below w.heap.size w (w.alloc (.cells #[.int .i64 x, .int .i64 y, .int .i64 a, .int .i64 g] 28)) from (Below.refl _ _).alloc (Nat.le_refl _) _)
  have HI := Lib.hid isLabel_any
  clear hN
  unfold lpB lpL
  by_cases h : LbOk x y a g
  · have HP := Lib.hid (fun W : World => labelPlaces_any x y a g s W h)
    have HL := Lib.hid (lbB_yes h)
    rw [HL.out]
    clear h
    go_enter Try.func20, Try.ntmps20
    go_wp2_with fail
    refine (HI.out _ _ _ _ _).mono ?_
    rintro e w1 ⟨rfl, hb1⟩
    rw [HL.out]
    have HB1 := Lib.hid (HB.out.trans (hb1.mono (by simp)))
    obtain ⟨c0, c1, c2, c3⟩ := cellsLb ((hb1.block _ (by simp)).trans HN.out)
    clear hb1
    go_wp2_with fail
    refine (HP.out _).mono ?_
    rintro e w2 ⟨v, rfl, hn2, hb2⟩
    have HN2 := Lib.hid hn2
    have HB2 := Lib.hid (HB1.out.trans (hb2.mono HB1.out.size))
    have hs1 := HB1.out.size
    clear hn2 hb2
    go_wp2
    go_ret2
    exact ⟨v, by simp, ownsRow_base HN2.out hs1, HB2.out⟩
  · have HL := Lib.hid (lbB_no h)
    rw [HL.out]
    clear h
    go_enter Try.func20, Try.ntmps20
    go_wp2_with fail
    refine (HI.out _ _ _ _ _).mono ?_
    rintro e w1 ⟨rfl, hb1⟩
    rw [HL.out]
    have HB1 := Lib.hid (HB.out.trans (hb1.mono (by simp)))
    clear hb1
    go_wp2
    go_ret2
    exact ⟨_, by simp, ownsRow_base (nums_lit w1) HB1.out.size, HB1.out.alloc HB1.out.size _⟩

/- the model -/
theorem weX_0 (x a : Int) : weX x a 0 = x + 1 := by simp [weX]
theorem weY_0 (y : Int) : weY y 0 = y := by simp [weY]
theorem weX_1 (x a : Int) : weX x a 1 = x - a := by simp [weX]
theorem weY_1 (y : Int) : weY y 1 = y := by simp [weY]
theorem weX_2 (x a : Int) : weX x a 2 = x := by simp [weX]
theorem weY_2 (y : Int) : weY y 2 = y - 1 := by simp [weY]
theorem weX_3 (x a : Int) : weX x a 3 = x := by simp [weX]
theorem weY_3 (y : Int) : weY y 3 = y + 1 := by simp [weY]

set_option maxRecDepth 20000 in
set_option maxHeartbeats 16000000 in
theorem l8Places_0 (x y g : Int) (n : Nat) (w : World) (hx1 : 0 ≤ x) (hx2 : x ≤ 9) (hy1 : 0 ≤ y) (hy2 : y ≤ 9) (hn1 : 1 ≤ n) (hn2 : n ≤ 5) :
    Calls Try.prog 82 #[.agg #[.int .i64 x, .int .i64 y, .int .i64 n, .int .i64 g], .int .i64 0] w (NsPost (pcL x y n 0) w) := by
  have hN := heap_alloc_new w (.cells #[.int .i64 x, .int .i64 y, .int .i64 n, .int .i64 g] 28)
  have HN := Lib.hid hN
  have HB := Lib.hid (show Below w.heap.size w (w.alloc (.cells #[.int .i64 x, .int .i64 y, .int .i64 n, .int .i64 g] 28)) from (Below.refl _ _).alloc (Nat.le_refl _) _)
  have HB2 := Lib.hid (HB.out.alloc HB.out.size (.cells #[] 3))
  have HL1 := Lib.hid (show Nums (w.heap.size + 1) ((w.alloc (.cells #[.int .i64 x, .int .i64 y, .int .i64 n, .int .i64 g] 28)).alloc (.cells #[] 3)) (.slice (some ⟨w.heap.size + 1, 0, none⟩) 0 0) [] from by
    have h := nums_lit (w.alloc (.cells #[.int .i64 x, .int .i64 y, .int .i64 n, .int .i64 g] 28))
    rw [World.size_alloc] at h
    exact h)
  have HL0 := Lib.hid (ownsRow_base (base' := w.heap.size) HL1.out (by omega))
  obtain ⟨d0, d1, d2, d3⟩ := cellsLb ((Below.heap_alloc (w.alloc (.cells #[.int .i64 x, .int .i64 y, .int .i64 n, .int .i64 g] 28)) (.cells #[] 3) _ (lt_of_block HN.out)).trans HN.out)
  obtain ⟨i0, hi0, hz0, hz1, hz2⟩ := info_parts Try.infoI
  clear hN
  by_cases hp : PcOk x y n 0
  case neg =>
    rw [pcL_no hp]
    unfold PcOk at hp
    rw [weX_0, weY_0] at hp
    by_cases k1 : 0 ≤ y ∧ y ≤ 9
    case neg =>
      have K1 := Lib.hid (show y < 0 ∨ 9 < y by omega)
      clear k1 hp
      go_enter Try.func82, Try.ntmps82
      go_wp2_with fail
      refine (l6In_no _ _ _ _ K1.out).mono ?_
      rintro e w1 ⟨rfl, rfl⟩
      go_wp2
      go_ret
      exact ⟨_, rfl, HL0.out, HB2.out⟩
    have K1 := Lib.hid k1
    have K2 := Lib.hid (show x + 1 < 0 ∨ 10 - (n : Int) < x + 1 by omega)
    clear k1 hp
    go_enter Try.func82, Try.ntmps82
    go_wp2_with fail
    refine (l6In_yes _ _ _ _ K1.out.1 K1.out.2).mono ?_
    rintro e w1 ⟨rfl, rfl⟩
    go_wp2_with fail
    refine (l6In_no _ _ _ _ K2.out).mono ?_
    rintro e w1 ⟨rfl, rfl⟩
    go_wp2
    go_ret
    exact ⟨_, rfl, HL0.out, HB2.out⟩
  have HPL := Lib.hid (show pcL x y n 0 = plK (10 * (y) + (x + 1)) n by rw [pcL_yes hp, pcA, weX_0, weY_0, Int.toNat_natCast])
  rw [HPL.out]
  unfold PcOk at hp
  rw [weX_0, weY_0] at hp
  have K1 := Lib.hid hp.2
  have K2 := Lib.hid (show 0 ≤ x + 1 ∧ x + 1 ≤ 10 - (n : Int) from ⟨hp.1.1, by have := hp.1.2; omega⟩)
  obtain ⟨⟨p1, p2⟩, p3, p4⟩ := hp
  clear HPL
  go_enter Try.func82, Try.ntmps82
  go_wp2_with fail
  refine (l6In_yes _ _ _ _ K1.out.1 K1.out.2).mono ?_
  rintro e w1 ⟨rfl, rfl⟩
  go_wp2_with fail
  refine (l6In_yes _ _ _ _ K2.out.1 K2.out.2).mono ?_
  rintro e w1 ⟨rfl, rfl⟩
  obtain ⟨W1, hW1⟩ : ∃ W1, (w.alloc (.cells #[.int .i64 x, .int .i64 y, .int .i64 n, .int .i64 g] 28)).alloc (.cells #[] 3) = W1 := ⟨_, rfl⟩
  have HM := Lib.hid ((Below.heap_alloc (w.alloc (.cells #[.int .i64 x, .int .i64 y, .int .i64 n, .int .i64 g] 28)) (.cells #[] 3) _ (lt_of_block HN.out)).trans HN.out)
  rw [hW1] at HB2 HL1 HM d0 d1 d2 d3
  have hsz := HB.out.size
  clear HN HB
  go_wp2_with fail
  try rw [hW1]
  clear hW1 d0 d1 d3
  go_loopw [7, 8] (fun o c wr => ∃ (k : Nat) (u : Value), k ≤ n ∧ c = .int .i64 k ∧ u = o ∧ Nums (w.heap.size + 1) wr u (plK (10 * (y) + (x + 1)) k) ∧ Below w.heap.size w wr ∧ wr.heap[w.heap.size]? = some (.cells #[.int .i64 x, .int .i64 y, .int .i64 n, .int .i64 g] 28 (0, 0))) (fun _ c => fun _ => n - (intOf c).toNat)
  case atStart => exact ⟨0, _, Nat.zero_le _, rfl, rfl, HL1.out, HB2.out, HM.out⟩
  case round =>
    obtain ⟨k, u, hk, rfl, rfl, hli, hb, hm⟩ := hrel
    obtain ⟨_, _, d2, _⟩ := cellsLb hm
    have HB3 := Lib.hid hb
    have HLI := Lib.hid hli
    have HM2 := Lib.hid hm
    have hln := plK_len (10 * (y) + (x + 1)) k
    clear hb hli hm
    by_cases hlt : k < n
    · have hlt' : (k : Int) < n := by omega
      obtain ⟨L, eL⟩ : ∃ L, plK (10 * (y) + (x + 1)) k = L := ⟨_, rfl⟩
      have HLe := Lib.hid (show plK (10 * (y) + (x + 1)) (k + 1) = L ++ [10 * (y) + (x + 1) + k] by show plK _ _ ++ _ = _; rw [eL])
      rw [eL] at HLI hln
      clear eL
      obtain ⟨z, ez⟩ : ∃ z, 10 * (y) + (x + 1) + (k : Int) = z := ⟨_, rfl⟩
      rw [ez] at HLe
      have HLN := HLI
      have HWL := Lib.hid (lt_of_block HM2.out)
      go_wp2_with (first | (at_builtin; refine wpList_append_own _ rfl _ _ 26 rfl (w.heap.size + 1) 3 i0 (.int .i64 0) 1 8 Try.underlying26 hi0 hz0 hz1 hz2 rfl (by decide) _ L.length (nsV L) rfl (HLN.out.alloc _) ⟨wr.heap.size, 0, none⟩ 1 1 [.int .i64 z] rfl rfl (World.news_of_block (cs := #[.int .i64 z]) (t := 3) (fr := (0, 0)) (heap_alloc_new wr _)) (by simp [Value.oneCell']) (by unfold maxLen; omega) (by omega) (by have := HB3.out.size; have := HWL.out; simp; omega) ?_; intro v' w4 hown4 hg4 _))
      have HB4 := Lib.hid ((HB3.out.alloc HB3.out.size (.cells #[.int .i64 z] 3)).grown hg4 (by simp; have := HB3.out.size; omega) (fun k hk => by have := (HLN.out.lt k hk).1; omega))
      have HM4 := Lib.hid ((hg4.block w.heap.size (by simp; have := HWL.out; omega) (fun q => by have := (HLN.out.lt _ q.symm).1; omega)).trans ((Below.heap_alloc wr (.cells #[.int .i64 z] 3) _ HWL.out).trans HM2.out))
      have HL4 := Lib.hid (nums_push (L := L) (x := z) hown4)
      clear hown4 hg4 HLN ez
      go_wp2
      go_roundw
      case rel => exact ⟨k + 1, _, by omega, by go_num, rfl, by rw [HLe.out]; exact HL4.out, HB4.out, HM4.out⟩
      case measure => simp [intOf]; omega
    · obtain rfl : k = n := by omega
      go_wp2
      go_ret
      exact ⟨_, rfl, ownsRow_base HLI.out (by omega), HB3.out⟩

set_option maxRecDepth 20000 in
set_option maxHeartbeats 16000000 in
theorem l8Places_1 (x y g : Int) (n : Nat) (w : World) (hx1 : 0 ≤ x) (hx2 : x ≤ 9) (hy1 : 0 ≤ y) (hy2 : y ≤ 9) (hn1 : 1 ≤ n) (hn2 : n ≤ 5) :
    Calls Try.prog 82 #[.agg #[.int .i64 x, .int .i64 y, .int .i64 n, .int .i64 g], .int .i64 1] w (NsPost (pcL x y n 1) w) := by
  have hN := heap_alloc_new w (.cells #[.int .i64 x, .int .i64 y, .int .i64 n, .int .i64 g] 28)
  have HN := Lib.hid hN
  have HB := Lib.hid (show Below w.heap.size w (w.alloc (.cells #[.int .i64 x, .int .i64 y, .int .i64 n, .int .i64 g] 28)) from (Below.refl _ _).alloc (Nat.le_refl _) _)
  have HB2 := Lib.hid (HB.out.alloc HB.out.size (.cells #[] 3))
  have HL1 := Lib.hid (show Nums (w.heap.size + 1) ((w.alloc (.cells #[.int .i64 x, .int .i64 y, .int .i64 n, .int .i64 g] 28)).alloc (.cells #[] 3)) (.slice (some ⟨w.heap.size + 1, 0, none⟩) 0 0) [] from by
    have h := nums_lit (w.alloc (.cells #[.int .i64 x, .int .i64 y, .int .i64 n, .int .i64 g] 28))
    rw [World.size_alloc] at h
    exact h)
  have HL0 := Lib.hid (ownsRow_base (base' := w.heap.size) HL1.out (by omega))
  obtain ⟨d0, d1, d2, d3⟩ := cellsLb ((Below.heap_alloc (w.alloc (.cells #[.int .i64 x, .int .i64 y, .int .i64 n, .int .i64 g] 28)) (.cells #[] 3) _ (lt_of_block HN.out)).trans HN.out)
  obtain ⟨i0, hi0, hz0, hz1, hz2⟩ := info_parts Try.infoI
  clear hN
  by_cases hp : PcOk x y n 1
  case neg =>
    rw [pcL_no hp]
    unfold PcOk at hp
    rw [weX_1, weY_1] at hp
    by_cases k1 : 0 ≤ y ∧ y ≤ 9
    case neg =>
      have K1 := Lib.hid (show y < 0 ∨ 9 < y by omega)
      clear k1 hp
      go_enter Try.func82, Try.ntmps82
      go_wp2_with fail
      refine (l6In_no _ _ _ _ K1.out).mono ?_
      rintro e w1 ⟨rfl, rfl⟩
      go_wp2
      go_ret
      exact ⟨_, rfl, HL0.out, HB2.out⟩
    have K1 := Lib.hid k1
    have K2 := Lib.hid (show x - n < 0 ∨ 10 - (n : Int) < x - n by omega)
    clear k1 hp
    go_enter Try.func82, Try.ntmps82
    go_wp2_with fail
    refine (l6In_yes _ _ _ _ K1.out.1 K1.out.2).mono ?_
    rintro e w1 ⟨rfl, rfl⟩
    go_wp2_with fail
    refine (l6In_no _ _ _ _ K2.out).mono ?_
    rintro e w1 ⟨rfl, rfl⟩
    go_wp2
    go_ret
    exact ⟨_, rfl, HL0.out, HB2.out⟩
  have HPL := Lib.hid (show pcL x y n 1 = plK (10 * (y) + (x - n)) n by rw [pcL_yes hp, pcA, weX_1, weY_1, Int.toNat_natCast])
  rw [HPL.out]
  unfold PcOk at hp
  rw [weX_1, weY_1] at hp
  have K1 := Lib.hid hp.2
  have K2 := Lib.hid (show 0 ≤ x - n ∧ x - n ≤ 10 - (n : Int) from ⟨hp.1.1, by have := hp.1.2; omega⟩)
  obtain ⟨⟨p1, p2⟩, p3, p4⟩ := hp
  clear HPL
  go_enter Try.func82, Try.ntmps82
  go_wp2_with fail
  refine (l6In_yes _ _ _ _ K1.out.1 K1.out.2).mono ?_
  rintro e w1 ⟨rfl, rfl⟩
  go_wp2_with fail
  refine (l6In_yes _ _ _ _ K2.out.1 K2.out.2).mono ?_
  rintro e w1 ⟨rfl, rfl⟩
  obtain ⟨W1, hW1⟩ : ∃ W1, (w.alloc (.cells #[.int .i64 x, .int .i64 y, .int .i64 n, .int .i64 g] 28)).alloc (.cells #[] 3) = W1 := ⟨_, rfl⟩
  have HM := Lib.hid ((Below.heap_alloc (w.alloc (.cells #[.int .i64 x, .int .i64 y, .int .i64 n, .int .i64 g] 28)) (.cells #[] 3) _ (lt_of_block HN.out)).trans HN.out)
  rw [hW1] at HB2 HL1 HM d0 d1 d2 d3
  have hsz := HB.out.size
  clear HN HB
  go_wp2_with fail
  try rw [hW1]
  clear hW1 d0 d1 d3
  go_loopw [7, 8] (fun o c wr => ∃ (k : Nat) (u : Value), k ≤ n ∧ c = .int .i64 k ∧ u = o ∧ Nums (w.heap.size + 1) wr u (plK (10 * (y) + (x - n)) k) ∧ Below w.heap.size w wr ∧ wr.heap[w.heap.size]? = some (.cells #[.int .i64 x, .int .i64 y, .int .i64 n, .int .i64 g] 28 (0, 0))) (fun _ c => fun _ => n - (intOf c).toNat)
  case atStart => exact ⟨0, _, Nat.zero_le _, rfl, rfl, HL1.out, HB2.out, HM.out⟩
  case round =>
    obtain ⟨k, u, hk, rfl, rfl, hli, hb, hm⟩ := hrel
    obtain ⟨_, _, d2, _⟩ := cellsLb hm
    have HB3 := Lib.hid hb
    have HLI := Lib.hid hli
    have HM2 := Lib.hid hm
    have hln := plK_len (10 * (y) + (x - n)) k
    clear hb hli hm
    by_cases hlt : k < n
    · have hlt' : (k : Int) < n := by omega
      obtain ⟨L, eL⟩ : ∃ L, plK (10 * (y) + (x - n)) k = L := ⟨_, rfl⟩
      have HLe := Lib.hid (show plK (10 * (y) + (x - n)) (k + 1) = L ++ [10 * (y) + (x - n) + k] by show plK _ _ ++ _ = _; rw [eL])
      rw [eL] at HLI hln
      clear eL
      obtain ⟨z, ez⟩ : ∃ z, 10 * (y) + (x - n) + (k : Int) = z := ⟨_, rfl⟩
      rw [ez] at HLe
      have HLN := HLI
      have HWL := Lib.hid (lt_of_block HM2.out)
      go_wp2_with (first | (at_builtin; refine wpList_append_own _ rfl _ _ 26 rfl (w.heap.size + 1) 3 i0 (.int .i64 0) 1 8 Try.underlying26 hi0 hz0 hz1 hz2 rfl (by decide) _ L.length (nsV L) rfl (HLN.out.alloc _) ⟨wr.heap.size, 0, none⟩ 1 1 [.int .i64 z] rfl rfl (World.news_of_block (cs := #[.int .i64 z]) (t := 3) (fr := (0, 0)) (heap_alloc_new wr _)) (by simp [Value.oneCell']) (by unfold maxLen; omega) (by omega) (by have := HB3.out.size; have := HWL.out; simp; omega) ?_; intro v' w4 hown4 hg4 _))
      have HB4 := Lib.hid ((HB3.out.alloc HB3.out.size (.cells #[.int .i64 z] 3)).grown hg4 (by simp; have := HB3.out.size; omega) (fun k hk => by have := (HLN.out.lt k hk).1; omega))
      have HM4 := Lib.hid ((hg4.block w.heap.size (by simp; have := HWL.out; omega) (fun q => by have := (HLN.out.lt _ q.symm).1; omega)).trans ((Below.heap_alloc wr (.cells #[.int .i64 z] 3) _ HWL.out).trans HM2.out))
      have HL4 := Lib.hid (nums_push (L := L) (x := z) hown4)
      clear hown4 hg4 HLN ez
      go_wp2
      go_roundw
      case rel => exact ⟨k + 1, _, by omega, by go_num, rfl, by rw [HLe.out]; exact HL4.out, HB4.out, HM4.out⟩
      case measure => simp [intOf]; omega
    · obtain rfl : k = n := by omega
      go_wp2
      go_ret
      exact ⟨_, rfl, ownsRow_base HLI.out (by omega), HB3.out⟩

set_option maxRecDepth 20000 in
set_option maxHeartbeats 16000000 in
theorem l8Places_2 (x y g : Int) (n : Nat) (w : World) (hx1 : 0 ≤ x) (hx2 : x ≤ 9) (hy1 : 0 ≤ y) (hy2 : y ≤ 9) (hn1 : 1 ≤ n) (hn2 : n ≤ 5) :
    Calls Try.prog 82 #[.agg #[.int .i64 x, .int .i64 y, .int .i64 n, .int .i64 g], .int .i64 2] w (NsPost (pcL x y n 2) w) := by
  have hN := heap_alloc_new w (.cells #[.int .i64 x, .int .i64 y, .int .i64 n, .int .i64 g] 28)
  have HN := Lib.hid hN
  have HB := Lib.hid (show Below w.heap.size w (w.alloc (.cells #[.int .i64 x, .int .i64 y, .int .i64 n, .int .i64 g] 28)) from (Below.refl _ _).alloc (Nat.le_refl _) _)
  have HB2 := Lib.hid (HB.out.alloc HB.out.size (.cells #[] 3))
  have HL1 := Lib.hid (show Nums (w.heap.size + 1) ((w.alloc (.cells #[.int .i64 x, .int .i64 y, .int .i64 n, .int .i64 g] 28)).alloc (.cells #[] 3)) (.slice (some ⟨w.heap.size + 1, 0, none⟩) 0 0) [] from by
    have h := nums_lit (w.alloc (.cells #[.int .i64 x, .int .i64 y, .int .i64 n, .int .i64 g] 28))
    rw [World.size_alloc] at h
    exact h)
  have HL0 := Lib.hid (ownsRow_base (base' := w.heap.size) HL1.out (by omega))
  obtain ⟨d0, d1, d2, d3⟩ := cellsLb ((Below.heap_alloc (w.alloc (.cells #[.int .i64 x, .int .i64 y, .int .i64 n, .int .i64 g] 28)) (.cells #[] 3) _ (lt_of_block HN.out)).trans HN.out)
  obtain ⟨i0, hi0, hz0, hz1, hz2⟩ := info_parts Try.infoI
  clear hN
  by_cases hp : PcOk x y n 2
  case neg =>
    rw [pcL_no hp]
    unfold PcOk at hp
    rw [weX_2, weY_2] at hp
    by_cases k1 : 0 ≤ y - 1 ∧ y - 1 ≤ 9
    case neg =>
      have K1 := Lib.hid (show y - 1 < 0 ∨ 9 < y - 1 by omega)
      clear k1 hp
      go_enter Try.func82, Try.ntmps82
      go_wp2_with fail
      refine (l6In_no _ _ _ _ K1.out).mono ?_
      rintro e w1 ⟨rfl, rfl⟩
      go_wp2
      go_ret
      exact ⟨_, rfl, HL0.out, HB2.out⟩
    have K1 := Lib.hid k1
    have K2 := Lib.hid (show x < 0 ∨ 10 - (n : Int) < x by omega)
    clear k1 hp
    go_enter Try.func82, Try.ntmps82
    go_wp2_with fail
    refine (l6In_yes _ _ _ _ K1.out.1 K1.out.2).mono ?_
    rintro e w1 ⟨rfl, rfl⟩
    go_wp2_with fail
    refine (l6In_no _ _ _ _ K2.out).mono ?_
    rintro e w1 ⟨rfl, rfl⟩
    go_wp2
    go_ret
    exact ⟨_, rfl, HL0.out, HB2.out⟩
  have HPL := Lib.hid (show pcL x y n 2 = plK (10 * (y - 1) + (x)) n by rw [pcL_yes hp, pcA, weX_2, weY_2, Int.toNat_natCast])
  rw [HPL.out]
  unfold PcOk at hp
  rw [weX_2, weY_2] at hp
  have K1 := Lib.hid hp.2
  have K2 := Lib.hid (show 0 ≤ x ∧ x ≤ 10 - (n : Int) from ⟨hp.1.1, by have := hp.1.2; omega⟩)
  obtain ⟨⟨p1, p2⟩, p3, p4⟩ := hp
  clear HPL
  go_enter Try.func82, Try.ntmps82
  go_wp2_with fail
  refine (l6In_yes _ _ _ _ K1.out.1 K1.out.2).mono ?_
  rintro e w1 ⟨rfl, rfl⟩
  go_wp2_with fail
  refine (l6In_yes _ _ _ _ K2.out.1 K2.out.2).mono ?_
  rintro e w1 ⟨rfl, rfl⟩
  obtain ⟨W1, hW1⟩ : ∃ W1, (w.alloc (.cells #[.int .i64 x, .int .i64 y, .int .i64 n, .int .i64 g] 28)).alloc (.cells #[] 3) = W1 := ⟨_, rfl⟩
  have HM := Lib.hid ((Below.heap_alloc (w.alloc (.cells #[.int .i64 x, .int .i64 y, .int .i64 n, .int .i64 g] 28)) (.cells #[] 3) _ (lt_of_block HN.out)).trans HN.out)
  rw [hW1] at HB2 HL1 HM d0 d1 d2 d3
  have hsz := HB.out.size
  clear HN HB
  go_wp2_with fail
  try rw [hW1]
  clear hW1 d0 d1 d3
  go_loopw [7, 8] (fun o c wr => ∃ (k : Nat) (u : Value), k ≤ n ∧ c = .int .i64 k ∧ u = o ∧ Nums (w.heap.size + 1) wr u (plK (10 * (y - 1) + (x)) k) ∧ Below w.heap.size w wr ∧ wr.heap[w.heap.size]? = some (.cells #[.int .i64 x, .int .i64 y, .int .i64 n, .int .i64 g] 28 (0, 0))) (fun _ c => fun _ => n - (intOf c).toNat)
  case atStart => exact ⟨0, _, Nat.zero_le _, rfl, rfl, HL1.out, HB2.out, HM.out⟩
  case round =>
    obtain ⟨k, u, hk, rfl, rfl, hli, hb, hm⟩ := hrel
    obtain ⟨_, _, d2, _⟩ := cellsLb hm
    have HB3 := Lib.hid hb
    have HLI := Lib.hid hli
    have HM2 := Lib.hid hm
    have hln := plK_len (10 * (y - 1) + (x)) k
    clear hb hli hm
    by_cases hlt : k < n
    · have hlt' : (k : Int) < n := by omega
      obtain ⟨L, eL⟩ : ∃ L, plK (10 * (y - 1) + (x)) k = L := ⟨_, rfl⟩
      have HLe := Lib.hid (show plK (10 * (y - 1) + (x)) (k + 1) = L ++ [10 * (y - 1) + (x) + k] by show plK _ _ ++ _ = _; rw [eL])
      rw [eL] at HLI hln
      clear eL
      obtain ⟨z, ez⟩ : ∃ z, 10 * (y - 1) + (x) + (k : Int) = z := ⟨_, rfl⟩
      rw [ez] at HLe
      have HLN := HLI
      have HWL := Lib.hid (lt_of_block HM2.out)
      go_wp2_with (first | (at_builtin; refine wpList_append_own _ rfl _ _ 26 rfl (w.heap.size + 1) 3 i0 (.int .i64 0) 1 8 Try.underlying26 hi0 hz0 hz1 hz2 rfl (by decide) _ L.length (nsV L) rfl (HLN.out.alloc _) ⟨wr.heap.size, 0, none⟩ 1 1 [.int .i64 z] rfl rfl (World.news_of_block (cs := #[.int .i64 z]) (t := 3) (fr := (0, 0)) (heap_alloc_new wr _)) (by simp [Value.oneCell']) (by unfold maxLen; omega) (by omega) (by have := HB3.out.size; have := HWL.out; simp; omega) ?_; intro v' w4 hown4 hg4 _))
      have HB4 := Lib.hid ((HB3.out.alloc HB3.out.size (.cells #[.int .i64 z] 3)).grown hg4 (by simp; have := HB3.out.size; omega) (fun k hk => by have := (HLN.out.lt k hk).1; omega))
      have HM4 := Lib.hid ((hg4.block w.heap.size (by simp; have := HWL.out; omega) (fun q => by have := (HLN.out.lt _ q.symm).1; omega)).trans ((Below.heap_alloc wr (.cells #[.int .i64 z] 3) _ HWL.out).trans HM2.out))
      have HL4 := Lib.hid (nums_push (L := L) (x := z) hown4)
      clear hown4 hg4 HLN ez
      go_wp2
      go_roundw
      case rel => exact ⟨k + 1, _, by omega, by go_num, rfl, by rw [HLe.out]; exact HL4.out, HB4.out, HM4.out⟩
      case measure => simp [intOf]; omega
    · obtain rfl : k = n := by omega
      go_wp2
      go_ret
      exact ⟨_, rfl, ownsRow_base HLI.out (by omega), HB3.out⟩

set_option maxRecDepth 20000 in
set_option maxHeartbeats 16000000 in
theorem l8Places_3 (x y g : Int) (n : Nat) (w : World) (hx1 : 0 ≤ x) (hx2 : x ≤ 9) (hy1 : 0 ≤ y) (hy2 : y ≤ 9) (hn1 : 1 ≤ n) (hn2 : n ≤ 5) :
    Calls Try.prog 82 #[.agg #[.int .i64 x, .int .i64 y, .int .i64 n, .int .i64 g], .int .i64 3] w (NsPost (pcL x y n 3) w) := by
  have hN := heap_alloc_new w (.cells #[.int .i64 x, .int .i64 y, .int .i64 n, .int .i64 g] 28)
  have HN := Lib.hid hN
  have HB := Lib.hid (show Below w.heap.size w (w.alloc (.cells #[.int .i64 x, .int .i64 y, .int .i64 n, .int .i64 g] 28)) from (Below.refl _ _).alloc (Nat.le_refl _) _)
  have HB2 := Lib.hid (HB.out.alloc HB.out.size (.cells #[] 3))
  have HL1 := Lib.hid (show Nums (w.heap.size + 1) ((w.alloc (.cells #[.int .i64 x, .int .i64 y, .int .i64 n, .int .i64 g] 28)).alloc (.cells #[] 3)) (.slice (some ⟨w.heap.size + 1, 0, none⟩) 0 0) [] from by
    have h := nums_lit (w.alloc (.cells #[.int .i64 x, .int .i64 y, .int .i64 n, .int .i64 g] 28))
    rw [World.size_alloc] at h
    exact h)
  have HL0 := Lib.hid (ownsRow_base (base' := w.heap.size) HL1.out (by omega))
  obtain ⟨d0, d1, d2, d3⟩ := cellsLb ((Below.heap_alloc (w.alloc (.cells #[.int .i64 x, .int .i64 y, .int .i64 n, .int .i64 g] 28)) (.cells #[] 3) _ (lt_of_block HN.out)).trans HN.out)
  obtain ⟨i0, hi0, hz0, hz1, hz2⟩ := info_parts Try.infoI
  clear hN
  by_cases hp : PcOk x y n 3
  case neg =>
    rw [pcL_no hp]
    unfold PcOk at hp
    rw [weX_3, weY_3] at hp
    by_cases k1 : 0 ≤ y + 1 ∧ y + 1 ≤ 9
    case neg =>
      have K1 := Lib.hid (show y + 1 < 0 ∨ 9 < y + 1 by omega)
      clear k1 hp
      go_enter Try.func82, Try.ntmps82
      go_wp2_with fail
      refine (l6In_no _ _ _ _ K1.out).mono ?_
      rintro e w1 ⟨rfl, rfl⟩
      go_wp2
      go_ret
      exact ⟨_, rfl, HL0.out, HB2.out⟩
    have K1 := Lib.hid k1
    have K2 := Lib.hid (show x < 0 ∨ 10 - (n : Int) < x by omega)
    clear k1 hp
    go_enter Try.func82, Try.ntmps82
    go_wp2_with fail
    refine (l6In_yes _ _ _ _ K1.out.1 K1.out.2).mono ?_
    rintro e w1 ⟨rfl, rfl⟩
    go_wp2_with fail
    refine (l6In_no _ _ _ _ K2.out).mono ?_
    rintro e w1 ⟨rfl, rfl⟩
    go_wp2
    go_ret
    exact ⟨_, rfl, HL0.out, HB2.out⟩
  have HPL := Lib.hid (show pcL x y n 3 = plK (10 * (y + 1) + (x)) n by rw [pcL_yes hp, pcA, weX_3, weY_3, Int.toNat_natCast])
  rw [HPL.out]
  unfold PcOk at hp
  rw [weX_3, weY_3] at hp
  have K1 := Lib.hid hp.2
  have K2 := Lib.hid (show 0 ≤ x ∧ x ≤ 10 - (n : Int) from ⟨hp.1.1, by have := hp.1.2; omega⟩)
  obtain ⟨⟨p1, p2⟩, p3, p4⟩ := hp
  clear HPL
  go_enter Try.func82, Try.ntmps82
  go_wp2_with fail
  refine (l6In_yes _ _ _ _ K1.out.1 K1.out.2).mono ?_
  rintro e w1 ⟨rfl, rfl⟩
  go_wp2_with fail
  refine (l6In_yes _ _ _ _ K2.out.1 K2.out.2).mono ?_
  rintro e w1 ⟨rfl, rfl⟩
  obtain ⟨W1, hW1⟩ : ∃ W1, (w.alloc (.cells #[.int .i64 x, .int .i64 y, .int .i64 n, .int .i64 g] 28)).alloc (.cells #[] 3) = W1 := ⟨_, rfl⟩
  have HM := Lib.hid ((Below.heap_alloc (w.alloc (.cells #[.int .i64 x, .int .i64 y, .int .i64 n, .int .i64 g] 28)) (.cells #[] 3) _ (lt_of_block HN.out)).trans HN.out)
  rw [hW1] at HB2 HL1 HM d0 d1 d2 d3
  have hsz := HB.out.size
  clear HN HB
  go_wp2_with fail
  try rw [hW1]
  clear hW1 d0 d1 d3
  go_loopw [7, 8] (fun o c wr => ∃ (k : Nat) (u : Value), k ≤ n ∧ c = .int .i64 k ∧ u = o ∧ Nums (w.heap.size + 1) wr u (plK (10 * (y + 1) + (x)) k) ∧ Below w.heap.size w wr ∧ wr.heap[w.heap.size]? = some (.cells #[.int .i64 x, .int .i64 y, .int .i64 n, .int .i64 g] 28 (0, 0))) (fun _ c => fun _ => n - (intOf c).toNat)
  case atStart => exact ⟨0, _, Nat.zero_le _, rfl, rfl, HL1.out, HB2.out, HM.out⟩
  case round =>
    obtain ⟨k, u, hk, rfl, rfl, hli, hb, hm⟩ := hrel
    obtain ⟨_, _, d2, _⟩ := cellsLb hm
    have HB3 := Lib.hid hb
    have HLI := Lib.hid hli
    have HM2 := Lib.hid hm
    have hln := plK_len (10 * (y + 1) + (x)) k
    clear hb hli hm
    by_cases hlt : k < n
    · have hlt' : (k : Int) < n := by omega
      obtain ⟨L, eL⟩ : ∃ L, plK (10 * (y + 1) + (x)) k = L := ⟨_, rfl⟩
      have HLe := Lib.hid (show plK (10 * (y + 1) + (x)) (k + 1) = L ++ [10 * (y + 1) + (x) + k] by show plK _ _ ++ _ = _; rw [eL])
      rw [eL] at HLI hln
      clear eL
      obtain ⟨z, ez⟩ : ∃ z, 10 * (y + 1) + (x) + (k : Int) = z := ⟨_, rfl⟩
      rw [ez] at HLe
      have HLN := HLI
      have HWL := Lib.hid (lt_of_block HM2.out)
      go_wp2_with (first | (at_builtin; refine wpList_append_own _ rfl _ _ 26 rfl (w.heap.size + 1) 3 i0 (.int .i64 0) 1 8 Try.underlying26 hi0 hz0 hz1 hz2 rfl (by decide) _ L.length (nsV L) rfl (HLN.out.alloc _) ⟨wr.heap.size, 0, none⟩ 1 1 [.int .i64 z] rfl rfl (World.news_of_block (cs := #[.int .i64 z]) (t := 3) (fr := (0, 0)) (heap_alloc_new wr _)) (by simp [Value.oneCell']) (by unfold maxLen; omega) (by omega) (by have := HB3.out.size; have := HWL.out; simp; omega) ?_; intro v' w4 hown4 hg4 _))
      have HB4 := Lib.hid ((HB3.out.alloc HB3.out.size (.cells #[.int .i64 z] 3)).grown hg4 (by simp; have := HB3.out.size; omega) (fun k hk => by have := (HLN.out.lt k hk).1; omega))
      have HM4 := Lib.hid ((hg4.block w.heap.size (by simp; have := HWL.out; omega) (fun q => by have := (HLN.out.lt _ q.symm).1; omega)).trans ((Below.heap_alloc wr (.cells #[.int .i64 z] 3) _ HWL.out).trans HM2.out))
      have HL4 := Lib.hid (nums_push (L := L) (x := z) hown4)
      clear hown4 hg4 HLN ez
      go_wp2
      go_roundw
      case rel => exact ⟨k + 1, _, by omega, by go_num, rfl, by rw [HLe.out]; exact HL4.out, HB4.out, HM4.out⟩
      case measure => simp [intOf]; omega
    · obtain rfl : k = n := by omega
      go_wp2
      go_ret
      exact ⟨_, rfl, ownsRow_base HLI.out (by omega), HB3.out⟩

theorem l8Places_any (x y a g s : Int) (w : World) (h : LbOk x y a g) (hs : 0 ≤ s ∧ s ≤ 3) :
    Calls Try.prog 82 #[.agg #[.int .i64 x, .int .i64 y, .int .i64 a, .int .i64 g], .int .i64 s] w (NsPost (pcL x y a s) w) := by
  obtain ⟨⟨h1, h2⟩, ⟨h3, h4⟩, ⟨h5, h6⟩, _⟩ := h
  obtain ⟨n, rfl⟩ : ∃ n : Nat, a = n := ⟨a.toNat, by omega⟩
  rcases (by omega : s = 0 ∨ s = 1 ∨ s = 2 ∨ s = 3) with rfl | rfl | rfl | rfl
  · exact l8Places_0 x y g n w h1 h2 h3 h4 (by omega) (by omega)
  · exact l8Places_1 x y g n w h1 h2 h3 h4 (by omega) (by omega)
  · exact l8Places_2 x y g n w h1 h2 h3 h4 (by omega) (by omega)
  · exact l8Places_3 x y g n w h1 h2 h3 h4 (by omega) (by omega)

end Go.Proofs.Ythelaffjpmcdbaa
