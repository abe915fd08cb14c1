/- The program's own small functions on grids; how a relief is made of a function. -/
import Derived.Test.YtdjlobppnhokoaaSpecA
import Derived.Deep.AppendLies
import Derived.Deep.RegionLaw
namespace Go.Proofs.Ytdjlobppnhokoaa
open Go.RowKit
set_option linter.unusedVariables false

theorem sideFits_yes (x : Int) (w : World) (h1 : 1 ≤ x) (h2 : x ≤ 7) : Calls Try.prog 90 #[.int .i64 x] w fun e w' => e = .returned (.bool true) ∧ w = w' := by
  go_enter Try.func90, Try.ntmps90
  go_wp2
  go_ret
  exact ⟨rfl, rfl⟩

theorem sideFits_no (x : Int) (w : World) (h : x < 1 ∨ 7 < x) : Calls Try.prog 90 #[.int .i64 x] w fun e w' => e = .returned (.bool false) ∧ w = w' := by
  by_cases h1 : x < 1
  · go_enter Try.func90, Try.ntmps90
    go_wp2
    go_ret
    exact ⟨rfl, rfl⟩
  · have h2 : 7 < x := by omega
    have h3 : decide (x ≤ 7) = false := by simp; omega
    clear h
    go_enter Try.func90, Try.ntmps90
    go_wp2
    go_ret
    exact ⟨rfl, rfl⟩

theorem isHeight_yes (x : Int) (w : World) (h1 : 0 ≤ x) (h2 : x ≤ 99) : Calls Try.prog 69 #[.int .i64 x] w fun e w' => e = .returned (.bool true) ∧ w = w' := by
  go_enter Try.func69, Try.ntmps69
  go_wp2
  go_ret
  exact ⟨rfl, rfl⟩

theorem isHeight_no (x : Int) (w : World) (h : x < 0 ∨ 99 < x) : Calls Try.prog 69 #[.int .i64 x] w fun e w' => e = .returned (.bool false) ∧ w = w' := by
  by_cases h1 : x < 0
  · go_enter Try.func69, Try.ntmps69
    go_wp2
    go_ret
    exact ⟨rfl, rfl⟩
  · have h2 : 99 < x := by omega
    have h3 : decide (x ≤ 99) = false := by simp; omega
    clear h
    go_enter Try.func69, Try.ntmps69
    go_wp2
    go_ret
    exact ⟨rfl, rfl⟩

theorem Try.sizeRel : (Try.prog.info? 39).map (·.size) = some 3 := by kernel_rfl

theorem three_set (w : World) (b : Nat) (x y z x' y' z' : Value) {t : TypeId} (h : w.heap[b]? = some (.cells #[x, y, z] t (0, 0))) :
    (((w.setCell ⟨b, 0, none⟩ x').setCell ⟨b, 1, none⟩ y').setCell ⟨b, 2, none⟩ z').heap[b]? = some (.cells #[x', y', z'] t (0, 0)) := by
  have h1 := heap_setCell_same w b 0 #[x, y, z] t x' h
  have h2 := heap_setCell_same _ b 1 _ t y' h1
  have h3 := heap_setCell_same _ b 2 _ t z' h2
  rw [h3]
  simp

theorem ownsRow_base {w : World} {base base' : Nat} {e : TypeId} {size : Nat} {v : Value} {n : Nat} {xs : List Value} (h : w.ownsRow base e size v n xs) (hb : base' ≤ base) : w.ownsRow base' e size v n xs := by
  obtain ⟨h1, h2⟩ := h
  refine ⟨h1, ?_⟩
  rcases h2 with h2 | ⟨g, cap, cur, hv, hg, r⟩
  · exact Or.inl h2
  · exact Or.inr ⟨g, cap, cur, hv, Nat.le_trans hb hg, r⟩

/-- the state of newRelief's loops: m heights are laid -/
structure NR (w wr : World) (R C m : Nat) (Z : Nat → Int) (gg cap : Nat) (xs : List Value) : Prop where
  below : Below w.heap.size w wr
  size : w.heap.size + 3 ≤ wr.heap.size
  res : wr.heap[w.heap.size]? = some (.cells #[.int .i64 0, .int .i64 0, .slice none 0 0] 39 (0, 0))
  loc : wr.heap[w.heap.size + 2]? = some (.cells #[.int .i64 R, .int .i64 C, .slice (some ⟨gg, 0, none⟩) m cap] 39 (0, 0))
  own : wr.ownsRow (w.heap.size + 1) 3 1 (.slice (some ⟨gg, 0, none⟩) m cap) m xs
  far : gg ≠ w.heap.size + 2
  val : ∀ i, i < m → xs[i]? = some (.int .i64 (Z i))

def FlatPost (w : World) (R C : Nat) (Z : Nat → Int) (e : Ending) (w' : World) : Prop :=
  ∃ n gg cap xs, n = R * C ∧ e = .returned (.agg #[.int .i64 R, .int .i64 C, .slice (some ⟨gg, 0, none⟩) n cap]) ∧ w'.ownsRow w.heap.size 3 1 (.slice (some ⟨gg, 0, none⟩) n cap) n xs ∧
    (∀ i, i < n → xs[i]? = some (.int .i64 (Z i))) ∧ Below w.heap.size w w'

theorem _root_.Go.RowKit.Below.undrew {w w2 : World} (h : Below w.drew.heap.size w.drew w2) : Below w.heap.size w w2 := ⟨h.os, h.tape, h.output, h.size, h.block⟩

theorem _root_.Go.World.ownsRow.of_below {w w2 : World} {base : Nat} {e : TypeId} {size : Nat} {v : Value} {n : Nat} {xs : List Value} {B : Nat} (h : w.ownsRow base e size v n xs) (hb : Below B w w2) (hB : ∀ k, v.ownBlock = some k → k < B) : w2.ownsRow base e size v n xs := by
  obtain ⟨h1, h2⟩ := h
  refine ⟨h1, ?_⟩
  rcases h2 with h2 | ⟨g, cap, cur, hv, hg, hh, r⟩
  · exact Or.inl h2
  · exact Or.inr ⟨g, cap, cur, hv, hg, by rw [hb.block _ (hB g (by rw [hv]; rfl))]; exact hh, r⟩

theorem NR.cells {w wr : World} {R C m : Nat} {Z : Nat → Int} {gg cap : Nat} {xs : List Value} (h : NR w wr R C m Z gg cap xs) :
    wr.cell? ⟨w.heap.size + 1 + 1, 2, none⟩ = some (.slice (some ⟨gg, 0, none⟩) m cap) ∧ wr.cell? ⟨w.heap.size + 1 + 1, 0, none⟩ = some (.int .i64 R) ∧ wr.cell? ⟨w.heap.size + 1 + 1, 1, none⟩ = some (.int .i64 C) := by
  have := h.loc
  refine ⟨?_, ?_, ?_⟩ <;> simp [World.cell?, this]

theorem NR.step {w wr w2 w1 : World} {R C m : Nat} {Z : Nat → Int} {gg cap g' cap' : Nat} {xs : List Value} (h : NR w wr R C m Z gg cap xs) (hb : Below wr.heap.size wr w2)
    (hown : w1.ownsRow (w.heap.size + 1) 3 1 (.slice (some ⟨g', 0, none⟩) (m + 1) cap') (m + 1) (xs ++ [.int .i64 (Z m)])) (hg : (w2.alloc (.cells #[.int .i64 (Z m)] 3)).grownBy w1 (some gg)) (hat : some gg = some g' ∨ g' = w2.heap.size + 1) :
    NR w (w1.setCell ⟨w.heap.size + 1 + 1, 2, none⟩ (.slice (some ⟨g', 0, none⟩) (m + 1) cap')) R C (m + 1) Z g' cap' (xs ++ [.int .i64 (Z m)]) ∧
      w1.cell? ⟨w.heap.size + 1 + 1, 2, none⟩ = some (.slice (some ⟨gg, 0, none⟩) m cap) ∧ w1.frozen? ⟨w.heap.size + 1 + 1, 2, none⟩ = false := by
  obtain ⟨h1, h2, h3, h4, h5, h6, h7⟩ := h
  have hsz := hb.size
  have hsz1 := hg.size
  simp at hsz1
  have hgb := (h5.lt gg rfl).1
  have e0 : w1.heap[w.heap.size]? = wr.heap[w.heap.size]? := by
    rw [hg.block _ (by simp; omega) (by simp; omega), Below.heap_alloc _ _ _ (by omega), hb.block _ (by omega)]
  have e2 : w1.heap[w.heap.size + 2]? = wr.heap[w.heap.size + 2]? := by
    rw [hg.block _ (by simp; omega) (by simp; omega), Below.heap_alloc _ _ _ (by omega), hb.block _ (by omega)]
  have hfar : g' ≠ w.heap.size + 2 := by
    rcases hat with e | e
    · simp only [Option.some.injEq] at e; omega
    · omega
  have l2 := e2.trans h4
  have hbel : Below w.heap.size w w1 := (((h1.trans (hb.mono (by omega))).alloc (by omega) (.cells #[.int .i64 (Z m)] 3))).grown hg (by simp; omega) (fun k hk => by simp at hk; omega)
  refine ⟨⟨hbel.setCell (by show w.heap.size ≤ w.heap.size + 1 + 1; omega) _, by simp [World.setCell]; omega, ?_, ?_, ?_, hfar, fun i hi => ?_⟩, ?_, ?_⟩
  · rw [Below.heap_setCell _ _ _ _ (by show w.heap.size ≠ w.heap.size + 1 + 1; omega), e0, h3]
  · show (w1.setCell ⟨w.heap.size + 2, 2, none⟩ _).heap[w.heap.size + 2]? = _
    rw [heap_setCell_same _ _ _ _ _ _ l2]
    simp
  · exact ownsRow_setCell_other hown (by simp [Value.ownBlock]; omega) _
  · by_cases e : i < m
    · rw [List.getElem?_append_left (by rw [h5.1]; omega)]; exact h7 i e
    · have : i = m := by omega
      subst this
      rw [List.getElem?_append_right (by rw [h5.1]; omega), h5.1]; simp
  · simp [World.cell?, l2]
  · simp [World.frozen?, l2]

theorem callFunc_try : ∀ (args : Array Value) (W : World), Sem.run Try.prog (callFunc 82 args) W = .ok (.enter 82 args) W := fun _ _ => by kernel_rfl

set_option maxHeartbeats 4000000 in
set_option maxRecDepth 20000 in
theorem newRelief_any (R C f : Nat) (caps : Array Value) (Z : Nat → Int) (w : World) (hR : R ≤ 20) (hC : C ≤ 20) (hcf : ∀ (args : Array Value) (W : World), Sem.run Try.prog (callFunc f args) W = .ok (.enter f args) W)
    (hf : ∀ (r c : Nat) (W : World), r < R → c < C → Below w.heap.size w W → Calls Try.prog f (#[.int .i64 r, .int .i64 c] ++ caps) W fun e w' => e = .returned (.int .i64 (Z (r * C + c))) ∧ Below W.heap.size W w') :
    Calls Try.prog 81 #[.int .i64 R, .int .i64 C, .func (.func f) #[] caps] w (FlatPost w R C Z) := by
  have hm0 : (0 : Int) ≤ (R : Int) * C := Int.mul_nonneg (by omega) (by omega)
  have hm1 : (R : Int) * C ≤ 400 := by
    have := Nat.mul_le_mul hR hC
    have h2 : ((R * C : Nat) : Int) ≤ ((20 * 20 : Nat) : Int) := by exact_mod_cast this
    rw [Int.natCast_mul] at h2
    omega
  have hmk : ∀ W : World, (Instr.makeSlice 27 (.int .i64 0) (.int .i64 ((R : Int) * C))).run Try.prog W = .ok (.slice (some ⟨W.heap.size, 0, none⟩) 0 (R * C)) (W.alloc (.cells (madeCells #[.int .i64 0] (R * C)) 3)) := by
    intro W
    obtain ⟨i0, hi, hz0, hz1, hz2⟩ := info_parts Try.infoI
    have := run_make (P := Try.prog) W 27 3 i0 (.int .i64 0) Try.underlying27 hi hz0 .i64 .i64 0 ((R : Int) * C) (by omega) hm0 (by rw [hz2]; omega) (by omega)
    rw [this, hz1]
    have e : ((R : Int) * C).toNat = R * C := by rw [← Int.natCast_mul]; rfl
    rw [e]
    simp [Value.cells]
  have HF := Lib.hid hf
  clear hf
  go_enter Try.func81, Try.ntmps81
  go_wp2
  clear hmk
  have start : NR w (((w.alloc (Obj.cells #[Value.int IntKind.i64 0, Value.int IntKind.i64 0, Value.slice none 0 0] 39)).alloc (Obj.cells (madeCells #[Value.int IntKind.i64 0] (R * C)) 3)).alloc
      (Obj.cells #[Value.int IntKind.i64 ↑R, Value.int IntKind.i64 ↑C, Value.slice (some { block := w.heap.size + 1, off := 0 }) 0 (R * C)] 39)) R C 0 Z (w.heap.size + 1) (R * C) [] := by
    have hs1 : (w.alloc (Obj.cells #[Value.int IntKind.i64 0, Value.int IntKind.i64 0, Value.slice none 0 0] 39)).heap.size = w.heap.size + 1 := by simp
    have o := World.ownsRow_made (base := w.heap.size + 1) (e := 3) (size := 1) (w.alloc (Obj.cells #[Value.int IntKind.i64 0, Value.int IntKind.i64 0, Value.slice none 0 0] 39)) (madeCells #[Value.int IntKind.i64 0] (R * C)) (R * C) (by omega) (by have := Nat.mul_le_mul hR hC; unfold maxLen; omega) (by rw [size_madeCells]; omega)
    rw [hs1] at o
    refine ⟨(((Below.refl _ _).alloc (Nat.le_refl _) _).alloc (by simp) _).alloc (by simp; omega) _, by simp, ?_, ?_, o.alloc _, by omega, fun i hi => by omega⟩
    · rw [Below.heap_alloc _ _ _ (by simp; omega), Below.heap_alloc _ _ _ (by simp)]
      exact heap_alloc_new _ _
    · have := heap_alloc_new ((w.alloc (Obj.cells #[Value.int IntKind.i64 0, Value.int IntKind.i64 0, Value.slice none 0 0] 39)).alloc (Obj.cells (madeCells #[Value.int IntKind.i64 0] (R * C)) 3)) (Obj.cells #[Value.int IntKind.i64 ↑R, Value.int IntKind.i64 ↑C, Value.slice (some { block := w.heap.size + 1, off := 0 }) 0 (R * C)] 39)
      simpa using this
  obtain ⟨i0, hi0, hz0, hz1, hz2⟩ := info_parts Try.infoI
  go_loopw [18] (fun i wr => ∃ r gg cap xs, r ≤ R ∧ i = .int .i64 (r : Nat) ∧ NR w wr R C (r * C) Z gg cap xs) (fun i _ => R - (intOf i).toNat)
  case atStart => exact ⟨0, _, _, _, Nat.zero_le _, rfl, by simpa using start⟩
  case round =>
    obtain ⟨r, gg, cap, xs, hr, rfl, hnr⟩ := hrel
    clear start
    by_cases hlt : r < R
    · go_wp2
      obtain ⟨wo, rfl⟩ : ∃ wo : World, wo = wr := ⟨_, rfl⟩
      go_loopw [22] (fun i wr => ∃ c gg cap xs, c ≤ C ∧ i = .int .i64 (c : Nat) ∧ NR w wr R C (r * C + c) Z gg cap xs) (fun i _ => C - (intOf i).toNat)
      case atStart => exact ⟨0, _, _, _, Nat.zero_le _, rfl, by simpa using hnr⟩
      case round =>
        clear hnr gg cap xs
        obtain ⟨c, gg, cap, xs, hc, rfl, hnr⟩ := hrel
        by_cases hcl : c < C
        · have c2 := hnr.cells.1
          have hsz := hnr.size
          have hZ : r * C + c < R * C := by
            have h1 : (r + 1) * C ≤ R * C := Nat.mul_le_mul_right C hlt
            rw [Nat.add_mul] at h1
            omega
          have hRC : R * C ≤ 400 := Nat.mul_le_mul hR hC
          go_wp2_with fail
          go_region_law (first
              | (refine step_append_lies _ (by rfl) _ _ _ (by rfl) (w.heap.size + 1) 3 i0 _ 1 8 Try.underlying27 hi0 hz0 hz1 hz2 rfl (by omega) (.slice (some ⟨gg, 0, none⟩) (r * C + c) cap) (r * C + c) xs (by rfl) (((hnr.own.of_below hb2 (by intro k hk; exact (hnr.own.lt k hk).2)).alloc _)) ⟨w2.heap.size, 0, none⟩ 1 1 [.int .i64 (Z (r * C + c))] (by rfl) (by rfl) (World.news_of_block (cs := #[.int .i64 (Z (r * C + c))]) (t := 3) (fr := (0, 0)) (heap_alloc_new w2 _)) (by simp [Value.oneCell']) (by omega) (by unfold maxLen; omega) (by omega) (by simp; omega) (w2.heap.size + 1) (by simp) ?_; intro g' cap' w1 hown1 hgrow hat hlt1; obtain ⟨nr1, cc1, ff1⟩ := hnr.step hb2 hown1 hgrow hat; clear hown1 hgrow hat)
              | (go_simp; (refine (HF.out r c _ hlt hcl ?_).mono ?_); (exact (hnr.below.drew)); rintro e w2 ⟨rfl, hb3⟩; have hb2 := hb3.undrew; clear hb3; have hS2 := (hb2.cell (p := ⟨w.heap.size + 1 + 1, 2, none⟩) (by show w.heap.size + 1 + 1 < wr.heap.size; omega)).trans c2; have hsz2 := hb2.size; have hS3 := fun o => (World.cell?_of_block (a := ⟨w.heap.size + 1 + 1, 2, none⟩) (Below.heap_alloc w2 o (w.heap.size + 1 + 1) (by omega))).trans hS2))
          all_goals
            go_wp2
            go_roundw
            case rel => exact ⟨c + 1, _, _, _, by omega, by go_num, nr1⟩
            case measure => simp [intOf]; omega
        · have e : c = C := by omega
          subst e
          have hnr' : NR w wr R c ((r + 1) * c) Z gg cap xs := by rw [Nat.add_mul, Nat.one_mul]; exact hnr
          clear hnr
          go_wp2
          go_roundw
          case rel => exact ⟨r + 1, _, _, _, by omega, by go_num, hnr'⟩
          case measure => simp [intOf]; omega
    · have e : r = R := by omega
      subst e
      obtain ⟨d2, d0, d1⟩ := hnr.cells
      have hb0 := hnr.res
      have e0 : wr.cell? ⟨w.heap.size, 0, none⟩ = some (.int .i64 0) := by simp [World.cell?, hb0]
      have e1 : wr.cell? ⟨w.heap.size, 1, none⟩ = some (.int .i64 0) := by simp [World.cell?, hb0]
      have e2 : wr.cell? ⟨w.heap.size, 2, none⟩ = some (.slice none 0 0) := by simp [World.cell?, hb0]
      have f0 : ∀ i, wr.frozen? ⟨w.heap.size, i, none⟩ = false := fun i => by simp [World.frozen?, hb0]
      have g0 := f0 0
      have g1 := f0 1
      have g2 := f0 2
      clear hb0 f0
      have hE := three_set wr w.heap.size _ _ _ (.int .i64 r) (.int .i64 C) (.slice (some ⟨gg, 0, none⟩) (r * C) cap) hnr.res
      have hlo := (hnr.own.lt gg rfl).1
      have hne : Value.ownBlock (.slice (some ⟨gg, 0, none⟩) (r * C) cap) ≠ some w.heap.size := by simp [Value.ownBlock]; omega
      have O1 := ownsRow_setCell_other (ownsRow_setCell_other (ownsRow_setCell_other (ownsRow_base hnr.own (Nat.le_succ _)) (a := ⟨w.heap.size, 0, none⟩) hne (.int .i64 r)) (a := ⟨w.heap.size, 1, none⟩) hne (.int .i64 C)) (a := ⟨w.heap.size, 2, none⟩) hne (.slice (some ⟨gg, 0, none⟩) (r * C) cap)
      have B1 := ((hnr.below.setCell (p := ⟨w.heap.size, 0, none⟩) (Nat.le_refl _) (.int .i64 r)).setCell (p := ⟨w.heap.size, 1, none⟩) (Nat.le_refl _) (.int .i64 C)).setCell (p := ⟨w.heap.size, 2, none⟩) (Nat.le_refl _) (.slice (some ⟨gg, 0, none⟩) (r * C) cap)
      have V1 := Lib.hid hnr.val
      have HE := Lib.hid hE
      clear hE hnr
      go_wp2
      exact bodyPost_ret (results_cell_row rfl _ _ w.heap.size _ _ _ _ rfl HE.out Try.underlying39 rfl Try.sizeRel) rfl ⟨_, gg, cap, xs, rfl, rfl, O1, V1.out, B1⟩

end Go.Proofs.Ytdjlobppnhokoaa
