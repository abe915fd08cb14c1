/- The program's layers: made, asked for land, counted. -/
import Derived.Test.YtlbdglhippapnabLvM
import Derived.Test.YtlbdglhippapnabImplG
import Derived.Test.YtlbdglhippapnabRange
namespace Go.Proofs.Ytlbdglhippapnab
open Go.RowKit
set_option linter.unusedVariables false

theorem four_set (w : World) (b : Nat) (x y z u x' y' z' u' : Value) {t : TypeId} (h : w.heap[b]? = some (.cells #[x, y, z, u] t (0, 0))) :
    ((((w.setCell ⟨b, 0, none⟩ x').setCell ⟨b, 1, none⟩ y').setCell ⟨b, 2, none⟩ z').setCell ⟨b, 3, none⟩ u').heap[b]? = some (.cells #[x', y', z', u'] t (0, 0)) := by
  have h1 := heap_setCell_same w b 0 #[x, y, z, u] t x' h
  have h2 := heap_setCell_same _ b 1 _ t y' h1
  have h3 := heap_setCell_same _ b 2 _ t z' h2
  have h4 := heap_setCell_same _ b 3 _ t u' h3
  rw [h4]
  simp
theorem cells4 {w : World} {b : Nat} {x y z u : Value} {t : TypeId} (h : w.heap[b]? = some (.cells #[x, y, z, u] t (0, 0))) :
    w.cell? ⟨b, 0, none⟩ = some x ∧ w.cell? ⟨b, 1, none⟩ = some y ∧ w.cell? ⟨b, 2, none⟩ = some z ∧ w.cell? ⟨b, 3, none⟩ = some u :=
  ⟨by simp [World.cell?, h], by simp [World.cell?, h], by simp [World.cell?, h], by simp [World.cell?, h]⟩
theorem froz4 {w : World} {b : Nat} {x y z u : Value} {t : TypeId} (h : w.heap[b]? = some (.cells #[x, y, z, u] t (0, 0))) :
    w.frozen? ⟨b, 0, none⟩ = false ∧ w.frozen? ⟨b, 1, none⟩ = false ∧ w.frozen? ⟨b, 2, none⟩ = false ∧ w.frozen? ⟨b, 3, none⟩ = false :=
  ⟨by simp [World.frozen?, h], by simp [World.frozen?, h], by simp [World.frozen?, h], by simp [World.frozen?, h]⟩
theorem cell4_far {w : World} {x y o : Nat} (a b c d : Value) (h : y ≠ x) : ((((w.setCell ⟨x, 0, none⟩ a).setCell ⟨x, 1, none⟩ b).setCell ⟨x, 2, none⟩ c).setCell ⟨x, 3, none⟩ d).cell? ⟨y, o, none⟩ = w.cell? ⟨y, o, none⟩ := by
  rw [World.cell?_of_block (a := ⟨y, o, none⟩) (Below.heap_setCell _ ⟨x, 3, none⟩ d y h), World.cell?_of_block (a := ⟨y, o, none⟩) (Below.heap_setCell _ ⟨x, 2, none⟩ c y h), World.cell?_of_block (a := ⟨y, o, none⟩) (Below.heap_setCell _ ⟨x, 1, none⟩ b y h), World.cell?_of_block (a := ⟨y, o, none⟩) (Below.heap_setCell _ ⟨x, 0, none⟩ a y h)]
theorem below4 {B : Nat} {a w : World} (h : Below B a w) {x : Nat} (hx : B ≤ x) (p q r s : Value) : Below B a ((((w.setCell ⟨x, 0, none⟩ p).setCell ⟨x, 1, none⟩ q).setCell ⟨x, 2, none⟩ r).setCell ⟨x, 3, none⟩ s) :=
  (((h.setCell (p := ⟨x, 0, none⟩) hx p).setCell (p := ⟨x, 1, none⟩) hx q).setCell (p := ⟨x, 2, none⟩) hx r).setCell (p := ⟨x, 3, none⟩) hx s

/-- what layerOf answers for a grid and a level -/
def LyYes (g : G) (lv : Int) (w : World) (e : Ending) (w' : World) : Prop :=
  ∃ n gg cap, e = .returned (.tuple #[.agg #[.int .i64 g.n, .int .i64 (g.len 0), .slice (some ⟨gg, 0, none⟩) n cap, .int .i64 lv], .bool true]) ∧ Rv w' g.n (g.len 0) n gg cap g.flat ∧ Below w.heap.size w w'
def LyNo (w : World) (e : Ending) (w' : World) : Prop :=
  e = .returned (.tuple #[.agg #[.int .i64 0, .int .i64 0, .slice none 0 0, .int .i64 0], .bool false]) ∧ Below w.heap.size w w'

end Go.Proofs.Ytlbdglhippapnab
