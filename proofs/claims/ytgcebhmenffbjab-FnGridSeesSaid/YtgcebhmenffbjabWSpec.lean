/- The model's heights and neighbors, by index. -/
import Derived.Test.YtgcebhmenffbjabM2
import Derived.Test.YtgcebhmenffbjabM3
namespace Go.Proofs.Ytgcebhmenffbjab
open Go.RowKit
set_option linter.unusedVariables false

def HgPost (z : Int) (w : World) (e : Ending) (w' : World) : Prop := e = .returned (.int .i64 z) ∧ ∃ n, w' = w.drewN n

theorem div_lt' {i n m : Nat} (hm : 0 < m) (h : i < n * m) : i / m < n ∧ i % m < m := ⟨(Nat.div_lt_iff_lt_mul hm).2 h, Nat.mod_lt _ hm⟩
theorem RdM.shapeW {lo hi : Nat} {w : World} {v : Value} {g : G} (h : RdM lo hi w v g) (h0 : 0 < g.n) : ∃ b off cap, v = .slice (some ⟨b, off, none⟩) g.n cap := by
  obtain ⟨ao, cap, b, off, Ao, Cp, rfl, _, _, h4, _⟩ := h
  exact ⟨b, off, cap, by rw [(h4 h0).1]⟩
theorem RdM.headW {lo hi : Nat} {w : World} {b off n cap : Nat} {g : G} (h : RdM lo hi w (.slice (some ⟨b, off, none⟩) n cap) g) (h0 : 0 < g.n) (k : Nat) (hk : g.len 0 = k) : ∃ ao c0, w.cell? ⟨b, off, none⟩ = some (.slice ao k c0) := by
  subst hk
  obtain ⟨ao, cap', b', off', Ao, Cp, e, _, _, h4, h5, _⟩ := h
  simp only [Value.slice.injEq] at e
  obtain ⟨e1, _, _⟩ := e
  rw [(h4 h0).1] at e1
  simp only [Option.some.injEq, Addr.mk.injEq] at e1
  obtain ⟨rfl, rfl, _⟩ := e1
  exact ⟨_, _, by simpa using h5 0 h0⟩

def BiPost (m : Nat) (w : World) (e : Ending) (w' : World) : Prop := e = .returned (.int .i64 m) ∧ Below w.heap.size w w'

/-- when the k-th neighbor is there, and which it is -/
def nbC (R C i c k : Nat) : Prop := if k = 0 then C ≤ i else if k = 1 then c + 1 < C else if k = 2 then i + C < R * C else 0 < c
def nbV (C i k : Nat) : Nat := if k = 0 then i - C else if k = 1 then i + 1 else if k = 2 then i + C else i - 1
theorem nb_cases (R C : Nat) (i : Ix (R * C)) (k : Nat) : (nbC R C i.1 (i.1 % C) k → ∃ z, nb R C i k = some z ∧ z.1 = nbV C i.1 k) ∧ (¬ nbC R C i.1 (i.1 % C) k → nb R C i k = none) := by
  unfold nbC nbV nb
  constructor
  · intro h
    split
    · rename_i e; simp only [e, if_true] at h; exact ⟨⟨i.1 - C, by have := i.2; omega⟩, by simp [h], rfl⟩
    · rename_i e
      simp only [e, if_false] at h
      split
      · rename_i e1; simp only [e1, if_true] at h; exact ⟨⟨i.1 + 1, east_lt i.2 h⟩, by simp [h], rfl⟩
      · rename_i e1
        simp only [e1, if_false] at h
        split
        · rename_i e2; simp only [e2, if_true] at h; exact ⟨⟨i.1 + C, h⟩, by simp [h], rfl⟩
        · rename_i e2; simp only [e2, if_false] at h; exact ⟨⟨i.1 - 1, by have := i.2; omega⟩, by simp [h], rfl⟩
  · intro h
    split
    · rename_i e; simp only [e, if_true] at h; simp [h]
    · rename_i e
      simp only [e, if_false] at h
      split
      · rename_i e1; simp only [e1, if_true] at h; simp [h]
      · rename_i e1
        simp only [e1, if_false] at h
        split
        · rename_i e2; simp only [e2, if_true] at h; simp [h]
        · rename_i e2; simp only [e2, if_false] at h; simp [h]

/-- a list of indexes as values -/
def ixV {M : Nat} (l : List (Ix M)) : List Value := l.map fun x => .int .i64 x.1
/-- the first k neighbors are listed -/
def NrAt (R C : Nat) (i : Ix (R * C)) (w wr : World) (v : Value) (k : Nat) : Prop :=
  ∃ ys, wr.ownsRow w.heap.size 3 1 v ys.length ys ∧ ys = ixV (near R C i k) ∧ Below w.heap.size w wr

theorem NrAt.start (R C : Nat) (i : Ix (R * C)) (w : World) : NrAt R C i w (w.alloc (.cells #[] 3)) (.slice (some ⟨w.heap.size, 0, none⟩) 0 0) 0 := by
  obtain ⟨ys, h1, h2⟩ := Rw.start w (fun _ => 0)
  have h3 := h1.1
  have : ys = [] := List.length_eq_zero_iff.1 (by simpa using h3)
  subst this
  exact ⟨[], h1, by simp [ixV, near], (Below.refl _ _).alloc (Nat.le_refl _) _⟩

theorem NrAt.push {R C : Nat} {i : Ix (R * C)} {w wr w2 : World} {v v' : Value} {k : Nat} {ys : List Value} {o : Obj} (h : NrAt R C i w wr v k) (hy : wr.ownsRow w.heap.size 3 1 v ys.length ys) (z : ∃ z, nb R C i k = some z ∧ z.1 = nbV C i.1 k) {m : Nat}
    (hown : w2.ownsRow w.heap.size 3 1 v' (ys.length + 1) (ys ++ [.int .i64 m])) (hm : m = nbV C i.1 k) (hys : ys = ixV (near R C i k)) (hg : (wr.alloc o).grownBy w2 v.ownBlock) : NrAt R C i w w2 v' (k + 1) := by
  obtain ⟨z, hz, e⟩ := z
  obtain ⟨_, _, _, hb⟩ := h
  refine ⟨ys ++ [.int .i64 m], by simpa using hown, ?_, (hb.alloc hb.size o).grown hg (by have := hb.size; simp; omega) (fun k hk => (hy.lt k hk).1)⟩
  rw [near_some hz, hys, hm, ← e]; simp [ixV]

theorem NrAt.skip {R C : Nat} {i : Ix (R * C)} {w wr : World} {v : Value} {k : Nat} (h : NrAt R C i w wr v k) (hn : nb R C i k = none) : NrAt R C i w wr v (k + 1) := by
  obtain ⟨ys, h1, h2, h3⟩ := h
  exact ⟨ys, h1, by rw [near_none hn]; exact h2, h3⟩

/-- the j-th of a list of indexes, as a number -/
def ixZ {M : Nat} (l : List (Ix M)) (j : Nat) : Int := ((l[j]?).map fun x => (x.1 : Int)).getD 0
theorem ixZ_at {M : Nat} (l : List (Ix M)) {j : Nat} (h : j < l.length) : ixZ l j = (l[j].1 : Int) := by simp [ixZ, h]

theorem NrAt.rdI {R C : Nat} {i : Ix (R * C)} {w wr : World} {v : Value} (h : NrAt R C i w wr v 4) (h49 : R * C ≤ 49) : RdI w.heap.size wr.heap.size wr v (near R C i 4).length (ixZ (near R C i 4)) := by
  obtain ⟨ys, h1, h2, h3⟩ := h
  have hl : ys.length = (near R C i 4).length := by rw [h2]; simp [ixV]
  rw [hl] at h1
  refine Rw.rdI ⟨ys, h1, fun j hj => ?_⟩ (fun j hj => ?_)
  · rw [h2, ixZ_at _ hj]; simp [ixV, hj]
  · rw [ixZ_at _ hj]; have := (near R C i 4)[j].2; omega

/-- what the list of neighbors leaves -/
def NrPost (R C : Nat) (i : Ix (R * C)) (w : World) (e : Ending) (w' : World) : Prop :=
  ∃ v, e = .returned v ∧ (∃ a c, v = .slice a (near R C i 4).length c) ∧ RdI w.heap.size w'.heap.size w' v (near R C i 4).length (ixZ (near R C i 4)) ∧ Below w.heap.size w w'

end Go.Proofs.Ytgcebhmenffbjab
