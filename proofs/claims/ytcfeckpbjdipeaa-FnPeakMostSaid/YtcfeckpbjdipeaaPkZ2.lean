/- The most prominent peaks: what is reckoned, and the contracts. -/
import Derived.Test.YtcfeckpbjdipeaaPkY
namespace Go.Proofs.Ytcfeckpbjdipeaa
open Go.RowKit
set_option linter.unusedVariables false

theorem hasPost_below {b : Bool} {w w' : World} {e : Ending} (h : HasPost b w e w') : e = .returned (.bool b) ∧ Below w.heap.size w w' := by
  obtain ⟨h1, n, rfl⟩ := h
  exact ⟨h1, below_drewN (Below.refl _ _) n⟩
theorem ms_any {g : G} (h : g.Valid) (least : Int) (i : Ix (g.n * g.len 0)) (hp : pkQ g.n (g.len 0) g.flat i = true) : (g.msV least).any (fun y => y.1 == i.1) = decide (least ≤ g.prV (i.1 : Int)) := by
  have hm : i ∈ g.rkV := by rw [G.rkV_yes h, rkL_mem (Nat.le_refl _)]; exact ⟨i.2, hp⟩
  by_cases hl : least ≤ g.prV (i.1 : Int)
  · rw [decide_eq_true hl, List.any_eq_true]
    exact ⟨i, List.mem_filter.2 ⟨hm, by simp [hl]⟩, by simp⟩
  · rw [decide_eq_false hl, List.any_eq_false]
    intro y hy hye
    obtain ⟨_, h2⟩ := List.mem_filter.1 hy
    have e : y = i := Subtype.ext (by simpa using hye)
    rw [e] at h2
    exact hl (by simpa using h2)
theorem prV_first {g : G} {n : Nat} {x : Nat → Nat} (hx : PkFn g n x) (h : g.Valid) {k : Nat} (hk : k < n) : g.prV (x k : Int) ≤ g.prV (x 0 : Int) := by
  obtain ⟨h1, h2, _⟩ := hx.at' k hk
  obtain ⟨h3, h4, _⟩ := hx.at' 0 hx.pos
  have hZ : ∀ y, y < g.n * g.len 0 → 0 ≤ g.flat y ∧ g.flat y ≤ 99 := fun y hy => flat_okW h hy
  rw [prV_n h h1 h2, prV_n h h3 h4]
  have e1 := keyN_at (R := g.n) (C := g.len 0) (Z := g.flat) ⟨x k, h1⟩
  have e2 := keyV_low hZ ⟨x k, h1⟩
  have e3 := mx_ge g.flat _ (x k) h1
  obtain ⟨e4, e5⟩ := key_first hx h
  simp only at e1
  omega
theorem ms_first {g : G} {n : Nat} {x : Nat → Nat} (hx : PkFn g n x) (h : g.Valid) {least : Int} {m : Nat} {y : Nat → Nat} (hy : LsFn (g.msV least) m y) (hm : 0 < m) : y 0 = x 0 := by
  have hl : g.rkV = rkL g.n (g.len 0) g.flat (g.n * g.len 0) := G.rkV_yes h
  obtain ⟨y1, y2⟩ := hy.mem hm
  obtain ⟨y3, y4⟩ := List.mem_filter.1 y2
  rw [hl] at y3
  obtain ⟨j, hj, ej⟩ := List.getElem_of_mem y3
  have hjn : j < n := by rw [hx.len]; exact hj
  obtain ⟨h1, _, h3⟩ := hx.at' j hjn
  rw [List.getElem?_eq_getElem hj] at h3
  simp only [Option.some.injEq] at h3
  have ex : x j = y 0 := by
    have : (⟨x j, h1⟩ : Ix (g.n * g.len 0)) = ⟨y 0, y1⟩ := by rw [← h3, ej]
    exact congrArg (fun z => z.1) this
  have hp := prV_first hx h hjn
  rw [ex] at hp
  have hle : least ≤ g.prV (y 0 : Int) := by simpa using y4
  obtain ⟨f1, _, f3⟩ := hx.at' 0 hx.pos
  obtain ⟨t, et⟩ : ∃ t, rkL g.n (g.len 0) g.flat (g.n * g.len 0) = ⟨x 0, f1⟩ :: t := by
    cases hr : rkL g.n (g.len 0) g.flat (g.n * g.len 0) with
    | nil => rw [hr] at f3; cases f3
    | cons a t =>
      rw [hr] at f3
      simp only [List.getElem?_cons_zero, Option.some.injEq] at f3
      exact ⟨t, by rw [f3]⟩
  have e0 : g.msV least = ⟨x 0, f1⟩ :: t.filter (fun i => decide (least ≤ g.prV (i.1 : Int))) := by
    show g.rkV.filter _ = _
    rw [hl, et, List.filter_cons, if_pos (by simp; omega)]
  obtain ⟨z1, z2⟩ := hy.at' 0 hm
  rw [e0] at z2
  simp only [List.getElem?_cons_zero, Option.some.injEq] at z2
  exact (congrArg (fun z => z.1) z2).symm
theorem msV_len (g : G) (least : Int) : (g.msV least).length ≤ 49 := Nat.le_trans (List.length_filter_le _ _) g.rkV_len
theorem implMs_none (v : Value) (lo hi : Nat) (g : G) (least : Int) (w : World) (hv : RdM lo hi w v g) (hh : hi ≤ w.heap.size) (h : ¬ g.Valid) : Calls Try.prog 34 #[v, .int .i64 least] w (LgPost1 0 (ixZ ([] : List (Ix 0))) w) :=
  (implPeakMost_any v lo hi g least w hv hh).mono fun _ _ k => (k.nil0 (G.msV_no h least)).lg (by omega)
theorem specMs_none (v : Value) (lo hi : Nat) (g : G) (least : Int) (w : World) (hv : RdM lo hi w v g) (hh : hi ≤ w.heap.size) (h : ¬ g.Valid) : Calls Try.prog 35 #[v, .int .i64 least] w (LsPost1 0 (ixZ ([] : List (Ix 0))) w) :=
  (specPeakMost_any v lo hi g least w hv hh).mono fun _ _ k => (k.nil0 (G.msV_no h least)).ls (by omega)
end Go.Proofs.Ytcfeckpbjdipeaa
