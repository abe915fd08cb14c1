/- Short corrections: the program's byCell, isShort, shortOf. -/
import Derived.Test.YtidlloelinmnnaaFk
namespace Go.Proofs.Ytidlloelinmnnaa
open Go.RowKit Go.Shelf
set_option linter.unusedVariables false
set_option linter.unusedSimpArgs false

def Lx (f g : Fx) : Prop := f.r < g.r ∨ f.r = g.r ∧ f.c < g.c
instance (f g : Fx) : Decidable (Lx f g) := by unfold Lx; exact inferInstance
def ShL : List Fx → Prop
  | f :: g :: l => Lx f g ∧ ShL (g :: l)
  | _ => True
noncomputable def shB (L : List Fx) : Bool := @decide (ShL L) (Classical.propDecidable _)
theorem shB_yes {L : List Fx} (h : ShL L) : shB L = true := by simp [shB, h]
theorem shB_no {L : List Fx} (h : ¬ ShL L) : shB L = false := by simp [shB, h]
theorem shL_iff (Z : Nat → Int) : ∀ k i, ShL (fxF Z i k) ↔ ∀ j, j + 1 < k → Lx (fxAt Z (i + j)) (fxAt Z (i + j + 1))
  | 0, i => ⟨fun _ j hj => by omega, fun _ => trivial⟩
  | 1, i => ⟨fun _ j hj => by omega, fun _ => trivial⟩
  | k + 2, i => by
    show (Lx (fxAt Z i) (fxAt Z (i + 1)) ∧ ShL (fxF Z (i + 1) (k + 1))) ↔ _
    rw [shL_iff Z (k + 1) (i + 1)]
    constructor
    · rintro ⟨h0, h1⟩ j hj
      cases j with
      | zero => exact h0
      | succ j => have := h1 j (by omega); rw [show i + (j + 1) = i + 1 + j by omega]; exact this
    · intro h
      exact ⟨h 0 (by omega), fun j hj => by have := h (j + 1) (by omega); rw [show i + (j + 1) = i + 1 + j by omega] at this; exact this⟩
/-- the order of two corrections -/
def bcV (f g : Fx) : Int := if f.r < g.r then -1 else if g.r < f.r then 1 else if f.c < g.c then -1 else if g.c < f.c then 1 else 0
theorem bcV_neg {f g : Fx} : bcV f g < 0 ↔ Lx f g := by
  unfold bcV Lx
  repeat' split
  all_goals omega
theorem bcV_pos {f g : Fx} : 0 < bcV f g ↔ Lx g f := by
  unfold bcV Lx
  repeat' split
  all_goals omega
theorem bcV_zero {f g : Fx} : bcV f g = 0 ↔ f.r = g.r ∧ f.c = g.c := by
  unfold bcV
  repeat' split
  all_goals omega
def cpV (x y : Int) : Int := if x < y then -1 else if y < x then 1 else 0

theorem bc_or (r c o n r2 c2 o2 n2 : Int) : (if cpV r r2 = 0 then cpV c c2 else cpV r r2) = bcV ⟨r, c, o, n⟩ ⟨r2, c2, o2, n2⟩ := by
  show _ = if r < r2 then (-1 : Int) else if r2 < r then 1 else if c < c2 then -1 else if c2 < c then 1 else 0
  by_cases h1 : r < r2
  · rw [show cpV r r2 = -1 from if_pos h1, if_neg (by decide), if_pos h1]
  · by_cases h2 : r2 < r
    · rw [show cpV r r2 = 1 from by unfold cpV; rw [if_neg h1, if_pos h2], if_neg (by decide), if_neg h1, if_pos h2]
    · rw [show cpV r r2 = 0 from by unfold cpV; rw [if_neg h1, if_neg h2], if_pos rfl, if_neg h1, if_neg h2]; rfl

theorem isNaN_any (x : Int) (w : World) : Calls Try.prog 136 #[.int .i64 x] w (SmPost false w) := by
  have hx : (x != x) = false := by simp
  go_enter Try.func136, Try.ntmps136
  go_wp2
  go_ret
  exact ⟨by simp, rfl⟩
set_option maxHeartbeats 2000000 in
theorem compare_any (x y : Int) (w : World) : Calls Try.prog 166 #[.int .i64 x, .int .i64 y] w (fun e w' => e = .returned (.int .i64 (cpV x y)) ∧ w = w') := by
  by_cases h1 : x < y
  · have HE := Lib.hid (show cpV x y = -1 from if_pos h1)
    go_enter Try.func166, Try.ntmps166
    go_wp2_with fail
    refine (isNaN_any _ _).mono ?_
    rintro e w' ⟨rfl, rfl⟩
    go_wp2_with fail
    refine (isNaN_any _ _).mono ?_
    rintro e w' ⟨rfl, rfl⟩
    go_wp2
    go_ret
    exact ⟨ret_int HE.out.symm, rfl⟩
  by_cases h2 : y < x
  · have HE := Lib.hid (show cpV x y = 1 by unfold cpV; rw [if_neg h1, if_pos h2])
    go_enter Try.func166, Try.ntmps166
    go_wp2_with fail
    refine (isNaN_any _ _).mono ?_
    rintro e w' ⟨rfl, rfl⟩
    go_wp2_with fail
    refine (isNaN_any _ _).mono ?_
    rintro e w' ⟨rfl, rfl⟩
    go_wp2
    go_ret
    exact ⟨ret_int HE.out.symm, rfl⟩
  have HE := Lib.hid (show cpV x y = 0 by unfold cpV; rw [if_neg h1, if_neg h2])
  go_enter Try.func166, Try.ntmps166
  go_wp2_with fail
  refine (isNaN_any _ _).mono ?_
  rintro e w' ⟨rfl, rfl⟩
  go_wp2_with fail
  refine (isNaN_any _ _).mono ?_
  rintro e w' ⟨rfl, rfl⟩
  go_wp2
  go_ret
  exact ⟨ret_int HE.out.symm, rfl⟩
set_option maxRecDepth 20000 in
set_option maxHeartbeats 2000000 in
theorem or_any (b : Nat) (x y : Int) (w : World) (h0 : w.cell? ⟨b, 0, none⟩ = some (.int .i64 x)) (h1 : w.cell? ⟨b, 1, none⟩ = some (.int .i64 y)) : Calls Try.prog 165 #[.slice (some ⟨b, 0, none⟩) 2 2] w (fun e w' => e = .returned (.int .i64 (if x = 0 then y else x)) ∧ w = w') := by
  by_cases hx : x = 0
  · have HE := Lib.hid (show (if x = 0 then y else x) = y from if_pos hx)
    subst hx
    by_cases hy : y = 0
    · subst hy
      go_enter Try.func165, Try.ntmps165
      go_wp2
      refine wp_loop_rounds 3 ?_
      rw [rounds_succ]
      go_wp2
      rw [rounds_succ]
      go_wp2
      rw [rounds_succ]
      go_wp2
      go_ret
      exact ⟨ret_int HE.out.symm, rfl⟩
    · have hy' : (y != 0) = true := by simpa using hy
      go_enter Try.func165, Try.ntmps165
      go_wp2
      refine wp_loop_rounds 2 ?_
      rw [rounds_succ]
      go_wp2
      rw [rounds_succ]
      go_wp2
      go_ret
      exact ⟨ret_int HE.out.symm, rfl⟩
  · have HE := Lib.hid (show (if x = 0 then y else x) = x from if_neg hx)
    have hx' : (x != 0) = true := by simpa using hx
    go_enter Try.func165, Try.ntmps165
    go_wp2
    refine wp_loop_rounds 1 ?_
    rw [rounds_succ]
    go_wp2
    go_ret
    first | exact ⟨rfl, rfl⟩ | exact ⟨ret_int HE.out.symm, rfl⟩

theorem cells2J {w : World} {b : Nat} {x y : Value} {t : TypeId} (h : w.heap[b]? = some (.cells #[x, y] t (0, 0))) : w.cell? ⟨b, 0, none⟩ = some x ∧ w.cell? ⟨b, 1, none⟩ = some y := by
  constructor <;> (unfold World.cell?; rw [h]; rfl)
theorem two_allocs2 (w : World) (a b : Obj) : ∃ W, W = (w.alloc a).alloc b ∧ W.heap.size = w.heap.size + 2 ∧ W.heap[w.heap.size]? = some a ∧ W.heap[w.heap.size + 1]? = some b ∧ Below w.heap.size w W :=
  ⟨_, rfl, by simp, (Below.heap_alloc _ _ _ (by simp)).trans (heap_alloc_new w _), heap_alloc2_new w _ _, ((Below.refl _ _).alloc (Nat.le_refl _) _).alloc (by simp) _⟩
theorem ta_yesF (v : Value) (w : World) : (Instr.typeAssert (.iface 96 v) 70 96 true).run Try.prog w = .ok (.tuple #[v, .bool true]) w := by kernel_rfl
theorem ta_noF (v : Value) (w : World) : (Instr.typeAssert (.iface 93 v) 70 96 true).run Try.prog w = .ok (.tuple #[.agg #[.int .i64 0, .int .i64 0, .int .i64 0, .int .i64 0, .nilIface], .bool false]) w := by kernel_rfl

end Go.Proofs.Ytidlloelinmnnaa
